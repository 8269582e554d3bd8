/- The laws' own comparisons, of lists of objects and of heaps. -/
import Derived.Test.YtcpnkpogebjieaaEq
namespace Go.Proofs.Ytcpnkpogebjieaa
open Go.RowKit

set_option maxHeartbeats 800000 in
set_option maxRecDepth 100000 in
theorem eqMemObjS_eq (a b : Option Addr) (n ca cb : Nat) (xs ys : List Ob) (w : World) (hn : xs.length = n) (hp : xs.map Ob.p = ys.map Ob.p) (hx : SegO w a xs) (hy : SegO w b ys) (hn1 : n ≤ maxLen) (hr : ∀ i (hi : i < xs.length), xs[i].r.length ≤ maxLen) :
    Calls Try.prog 42 #[.slice a n ca, .slice b n cb] w fun e w' => e = .returned (.bool true) ∧ Below w.heap.size w w' := by
  unfold maxLen at hn1
  have hm : ys.length = n := by have := congrArg List.length hp; simp at this; omega
  have HP : Hid (xs.map Ob.p = ys.map Ob.p) := hp
  clear hp
  go_enter Try.func42, Try.ntmps42
  go_wp2
  go_loopw [5] (fun i wr => ∃ k : Nat, k ≤ n ∧ i = .int .i64 k ∧ Below w.heap.size w wr) (fun i _ => n - (intOf i).toNat)
  case atStart => exact ⟨0, Nat.zero_le _, rfl, Below.refl _ _⟩
  case round =>
    obtain ⟨k, hk, rfl, hb⟩ := hrel
    by_cases hlt : k < n
    · have hkx : k < xs.length := by omega
      have hky : k < ys.length := by omega
      have hrk := hr k hkx
      obtain ⟨b1, o1, rfl, hb1, c1, c2, c3⟩ := hx.get hkx
      obtain ⟨b2, o2, rfl, hb2, c4, c5, c6⟩ := hy.get hky
      have s1 := (hx.2 k hkx).below hb (Nat.le_refl _)
      have s2 := (hy.2 k hky).below hb (Nat.le_refl _)
      have he : xs[k].p = ys[k].p := by
        have h1 : (xs.map Ob.p)[k]'(by simpa using hkx) = (ys.map Ob.p)[k]'(by simpa using hky) := by simp only [HP.out]
        simpa using h1
      simp only [Ob.p, Prod.mk.injEq] at he
      obtain ⟨e1, e2, e3⟩ := he
      rw [← e1] at c4
      rw [← e2] at c5
      rw [← e3] at c6 s2
      have d1 := (hb.cell (p := ⟨b1, o1 + k * 3, none⟩) hb1).trans c1
      have d2 := (hb.cell (p := ⟨b1, o1 + k * 3 + 1, none⟩) hb1).trans c2
      have d3 := (hb.cell (p := ⟨b1, o1 + k * 3 + 2, none⟩) hb1).trans c3
      have d4 := (hb.cell (p := ⟨b2, o2 + k * 3, none⟩) hb2).trans c4
      have d5 := (hb.cell (p := ⟨b2, o2 + k * 3 + 1, none⟩) hb2).trans c5
      have d6 := (hb.cell (p := ⟨b2, o2 + k * 3 + 2, none⟩) hb2).trans c6
      have hi1 : (k : Int) < (n : Int) := by omega
      clear c1 c2 c3 c4 c5 c6 e1 e2 e3
      have s1d := s1.below (Below.refl wr.heap.size wr).drew (Nat.le_refl _)
      have s2d := s2.below (Below.refl wr.heap.size wr).drew (Nat.le_refl _)
      clear s1 s2
      go_wp2_with fail
      go_region_with (go_at_call 72; refine (eqMemObj_eq _ _ _ _ _ _ _ xs[k].r _ rfl s1d s2d hrk).mono ?_; rintro e w' ⟨rfl, hbx⟩)
      all_goals
        have hbb := hb.drew.trans (hbx.mono hb.drew.size)
        go_wp2
        go_roundw
        case rel => exact ⟨k + 1, by omega, by go_num, hbb⟩
        case measure => simp [intOf]; omega
    · go_wp2
      go_ret
      exact ⟨rfl, hb⟩

set_option maxHeartbeats 800000 in
set_option maxRecDepth 100000 in
theorem eqMemHeap_eq (g h : Hp) (w : World) (hp : g.p = h.p) (hg : HpIn w g) (hh : HpIn w h) (hs : Small g) :
    Calls Try.prog 17 #[g.v, h.v] w fun e w' => e = .returned (.bool true) ∧ Below w.heap.size w w' := by
  obtain ⟨oa, ocap, os, ra, rcap, rs, wa, wcap, ws, da, dcap, ds⟩ := g
  obtain ⟨oa2, ocap2, os2, ra2, rcap2, rs2, wa2, wcap2, ws2, da2, dcap2, ds2⟩ := h
  obtain ⟨ho, hr, hw, hd⟩ := hg
  obtain ⟨ho2, hr2, hw2, hd2⟩ := hh
  obtain ⟨so, soo, sr, sw, sd⟩ := hs
  simp only [Hp.v, Hp.p, Prod.mk.injEq] at *
  obtain ⟨e1, rfl, rfl, rfl⟩ := hp
  have e0 : os2.length = os.length := by have := congrArg List.length e1; simp at this; omega
  rw [e0]
  have HP : Hid (os.map Ob.p = os2.map Ob.p) := e1
  clear e0 e1
  go_enter Try.func17, Try.ntmps17
  go_wp2_with fail
  have hB0 : Below w.heap.size w ((w.alloc (Obj.cells #[Value.slice oa os.length ocap, Value.slice ra rs.length rcap, Value.slice wa ws.length wcap, Value.slice da ds.length dcap] 27)).alloc (Obj.cells #[Value.slice oa2 os.length ocap2, Value.slice ra2 rs.length rcap2, Value.slice wa2 ws.length wcap2, Value.slice da2 ds.length dcap2] 27)) := ((Below.refl _ _).alloc (Nat.le_refl _) _).alloc (by simp) _
  refine (eqMemObjS_eq oa oa2 os.length ocap ocap2 os os2 _ rfl HP.out (ho.below hB0 (Nat.le_refl _)) (ho2.below hB0 (Nat.le_refl _)) (by unfold maxLen; omega) (fun i hi => by have := soo i hi; unfold maxLen; omega)).mono ?_
  rintro e w1 ⟨rfl, hb1⟩
  have hB1 := hB0.trans (hb1.mono hB0.size)
  obtain ⟨hc1, _⟩ := bcell hb1
  have z1 := hb1.size
  simp at hc1 z1
  have q10 : w.heap.size < w1.heap.size := by omega
  have q11 : w.heap.size + 1 < w1.heap.size := by omega
  clear hb1 hB0
  go_wp2_with fail
  refine (eqIntS_any ra ra2 rs.length rs.length rcap rcap2 rs rs _ rfl rfl (hr.below hB1 (Nat.le_refl _)) (hr2.below hB1 (Nat.le_refl _)) (by unfold maxLen; omega) (by unfold maxLen; omega)).mono ?_
  rintro e w2 ⟨rfl, hb2⟩
  have hB2 := hB1.trans (hb2.mono hB1.size)
  obtain ⟨hc2, _⟩ := bcell hb2
  have z2 := hb2.size
  have q20 : w.heap.size < w2.heap.size := by omega
  have q21 : w.heap.size + 1 < w2.heap.size := by omega
  simp only [decide_true]
  clear hb2 hB1
  go_wp2_with fail
  refine (eqMemWatchS_eq wa wa2 ws.length wcap wcap2 ws _ rfl (hw.below hB2 (Nat.le_refl _)) (hw2.below hB2 (Nat.le_refl _)) (by unfold maxLen; omega)).mono ?_
  rintro e w3 ⟨rfl, hb3⟩
  have hB3 := hB2.trans (hb3.mono hB2.size)
  obtain ⟨hc3, _⟩ := bcell hb3
  clear hb3 hB2
  go_wp2_with fail
  refine (eqMemWatchS_eq da da2 ds.length dcap dcap2 ds _ rfl (hd.below hB3 (Nat.le_refl _)) (hd2.below hB3 (Nat.le_refl _)) (by unfold maxLen; omega)).mono ?_
  rintro e w4 ⟨rfl, hb4⟩
  have hB4 := hB3.trans (hb4.mono hB3.size)
  clear hb4 hB3
  go_wp2
  go_ret
  exact ⟨rfl, hB4⟩
end Go.Proofs.Ytcpnkpogebjieaa
