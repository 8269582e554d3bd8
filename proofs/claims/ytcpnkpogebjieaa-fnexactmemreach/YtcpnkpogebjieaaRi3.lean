/- The program's own coming to: from one object. -/
import Derived.Test.YtcpnkpogebjieaaRs4
import Derived.Test.YtcpnkpogebjieaaImplOk3
namespace Go.Proofs.Ytcpnkpogebjieaa
open Go.RowKit

set_option maxHeartbeats 800000 in
set_option maxRecDepth 100000 in
theorem toldTo_any (da : Option Addr) (dcap : Nat) (ds : List (Int × Int)) (x : Int) (w : World) (hd : SegW w da ds) (hl : ds.length ≤ 1048576) :
    Calls Try.prog 83 #[.slice da ds.length dcap, .int .i64 x] w fun e w' => ∃ v', e = .returned v' ∧ OwnL w' w.heap.size v' (flt ds x) ∧ Below w.heap.size w w' := by
  obtain ⟨i0, hi', hz0, hz1, hz2⟩ := info_parts info_int
  go_enter Try.func83, Try.ntmps83
  go_wp2
  go_loopw [5, 7, 10] (fun v _ i wr => ∃ k : Nat, k ≤ ds.length ∧ i = .int .i64 k ∧ OwnL wr w.heap.size v (flt (ds.take k) x) ∧ Below w.heap.size w wr) (fun _ _ i _ => ds.length - (intOf i).toNat)
  case atStart => exact ⟨0, Nat.zero_le _, rfl, World.ownsRow_nil _ _ _ _, Below.refl _ _⟩
  case round =>
    obtain ⟨k, hk, rfl, hown, hb⟩ := hrel
    by_cases hlt : k < ds.length
    · obtain ⟨b5, off5, rfl, hb5, e1, e2⟩ := hd.get hlt
      have d1 := (hb.cell (p := ⟨b5, off5 + k * 2, none⟩) hb5).trans e1
      have d2 := (hb.cell (p := ⟨b5, off5 + k * 2 + 1, none⟩) hb5).trans e2
      clear e1 e2
      have HF := flt_succ ds x k hlt
      have hfl := flt_le ds x k
      have hA : Below wr.heap.size wr (wr.alloc (Obj.cells #[Value.int .i64 ds[k].1, Value.int .i64 ds[k].2] 77)) := (Below.refl _ _).alloc (Nat.le_refl _) _
      have hownA := hown.below hA (Nat.le_refl _)
      have hbA := hb.trans (hA.mono hb.size)
      obtain ⟨va, vcap, rfl, -⟩ := hown.form
      by_cases hm : (ds[k].1 == x) = true
      · rw [if_pos hm] at HF
        have HF' : Hid (flt (ds.take (k + 1)) x = flt (ds.take k) x ++ [ds[k].2]) := HF
        clear HF
        have hvA : ((wr.alloc (Obj.cells #[Value.int .i64 ds[k].1, Value.int .i64 ds[k].2] 77)).alloc (Obj.cells #[Value.int .i64 ds[k].2] 3)).ownsRow w.heap.size 3 1 (.slice va (flt (ds.take k) x).length vcap) (flt (ds.take k) x).length ((flt (ds.take k) x).map (Value.int .i64)) := World.ownsRow.alloc hownA _
        have hrow := fun k' h' => (hown.lt k' h').1
        have hbs := hb.size
        go_wp2_with (at_builtin; refine wpList_append_own_at _ rfl _ _ 24 rfl w.heap.size 3 i0 (.int .i64 0) 1 8 Try.underlying24 hi' hz0 hz1 hz2 rfl (by decide) _ _ _ rfl hvA ⟨wr.heap.size + 1, 0, none⟩ 1 1 [.int .i64 ds[k].2] rfl rfl ?c1 ?c2 ?c3 ?c4 ?c5 ?_)
        case c1 =>
          intro j u hj
          match j, hj with
          | 0, hj => simp at hj; subst hj; simp [Addr.add]
        case c2 => intro u hu; simp at hu; subst hu; rfl
        case c3 => unfold maxLen; omega
        case c4 => omega
        case c5 => simp; omega
        intro v' w2 hown2 hgr _ _
        have hA2 : Below wr.heap.size wr ((wr.alloc (Obj.cells #[Value.int .i64 ds[k].1, Value.int .i64 ds[k].2] 77)).alloc (Obj.cells #[Value.int .i64 ds[k].2] 3)) := hA.alloc hA.size _
        have hb2 : Below w.heap.size w w2 := (hb.trans (hA2.mono hb.size)).trans (gb_below hgr (Nat.le_trans hb.size hA2.size) hrow)
        have hown3 : Hid (OwnL w2 w.heap.size v' (flt (ds.take (k + 1)) x)) := by
          show OwnL _ _ _ _
          rw [HF'.out]
          unfold OwnL
          simpa using hown2
        clear hown2 hgr hA hA2 hvA hrow hownA hbA
        go_wp2
        go_roundw
        case rel => exact ⟨k + 1, by omega, by go_num, hown3.out, hb2⟩
        case measure => simp [intOf]; omega
      · rw [if_neg hm] at HF
        have hm' : (ds[k].1 == x) = false := by simpa using hm
        have HF' : Hid (OwnL (wr.alloc (Obj.cells #[Value.int .i64 ds[k].1, Value.int .i64 ds[k].2] 77)) w.heap.size (Value.slice va (flt (ds.take k) x).length vcap) (flt (ds.take (k + 1)) x)) := by
          show OwnL _ _ _ _
          rw [HF]; exact hownA
        clear HF hm
        go_wp2
        go_roundw
        case rel => exact ⟨k + 1, by omega, by go_num, HF'.out, hbA⟩
        case measure => simp [intOf]; omega
    · have ek : ds.take k = ds := List.take_of_length_le (by omega)
      rw [ek] at hown
      clear ek
      go_wp2
      go_ret
      exact ⟨_, rfl, hown, hb⟩

theorem drop_two (l : List Int) (h : l.length = 2) (h1 : 1 < l.length) : l.drop 1 = [l[1]] := by
  match l, h with
  | [y, z], _ => simp

theorem kind_of {k : Int} {t : ByteArray} {n : Nat} (h : kindOk k t n = true) : (k = 1 ∧ n = 0) ∨ (k = 2 ∧ t.size = 0) ∨ (k = 3 ∧ t.size = 0 ∧ n = 2) ∨ (k = 4 ∧ t.size = 0 ∧ n = 0) := by
  unfold kindOk at h
  split at h
  · simp only [Bool.and_eq_true, decide_eq_true_eq] at h; exact Or.inl ⟨by assumption, h.2⟩
  · split at h
    · simp only [Bool.and_eq_true, decide_eq_true_eq] at h; exact Or.inr (Or.inl ⟨by assumption, h.1⟩)
    · split at h
      · simp only [Bool.and_eq_true, decide_eq_true_eq] at h; exact Or.inr (Or.inr (Or.inl ⟨by assumption, h.1, h.2⟩))
      · split at h
        · simp only [Bool.and_eq_true, decide_eq_true_eq] at h; exact Or.inr (Or.inr (Or.inr ⟨by assumption, h.1, h.2⟩))
        · simp at h

set_option maxHeartbeats 1600000 in
set_option maxRecDepth 100000 in
theorem leadsTo_any (h : Hp) (x : Int) (w : World) (hh : HpIn w h) (hs : Small h) (h0 : 0 ≤ x) (h1 : x < h.os.length) (hok : ∀ i (hi : i < h.os.length), kindOk h.os[i].k h.os[i].t h.os[i].r.length = true) :
    Calls Try.prog 62 #[h.v, .int .i64 x] w fun e w' => ∃ v, e = .returned v ∧ ∃ na ncap, NextIn w w' h v (nextP (h.os.map Ob.p) h.ds x) na ncap := by
  obtain ⟨oa, ocap, os, ra, rcap, rs, wa, wcap, ws, da, dcap, ds⟩ := h
  obtain ⟨ho, -, -, hd⟩ := hh
  obtain ⟨so, soo, -, -, sd⟩ := hs
  simp only [Hp.v] at *
  have hi : x.toNat < os.length := by omega
  have HN := nextP_at (os := os) (ds := ds) rfl hi
  have hk := kind_of (hok _ hi)
  obtain ⟨b, off, rfl, hbw, c1, c2, c3⟩ := ho.get hi
  have hsg := ho.2 _ hi
  have Hav : Hid (∀ r, HpAv (⟨some ⟨b, off, none⟩, ocap, os, ra, rcap, rs, wa, wcap, ws, da, dcap, ds⟩ : Hp) r → AvI os[x.toNat].ra os[x.toNat].r.length r) := fun r q => q.aoo _ hi
  clear hok soo
  generalize nextP (os.map Ob.p) ds x = NX at HN ⊢
  have hB0 : Below w.heap.size w (w.alloc (Obj.cells #[Value.slice (some ⟨b, off, none⟩) os.length ocap, Value.slice ra rs.length rcap, Value.slice wa ws.length wcap, Value.slice da ds.length dcap] 27)) := (Below.refl _ _).alloc (Nat.le_refl _) _
  have hK0 := Blk.new w [Value.slice (some ⟨b, off, none⟩) os.length ocap, Value.slice ra rs.length rcap, Value.slice wa ws.length wcap, Value.slice da ds.length dcap] 27
  have cT := thingOf_any os[x.toNat].k os[x.toNat].t os[x.toNat].ra os[x.toNat].r.length os[x.toNat].rcap os[x.toNat].r _ rfl (hsg.below hB0 (Nat.le_refl _))
  rcases hk with ⟨k1, kn⟩ | ⟨k2, kt⟩ | ⟨k3, kt, kn⟩ | ⟨k4, kt, kn⟩
  · have hr : os[x.toNat].r = [] := List.eq_nil_of_length_eq_zero kn
    rw [k1] at HN
    rw [hr] at HN
    simp at HN
    subst HN
    have eV : thingV os[x.toNat].k os[x.toNat].t os[x.toNat].ra os[x.toNat].r.length os[x.toNat].rcap os[x.toNat].r = .iface 91 (.agg #[.string os[x.toNat].t]) := by simp [thingV, k1, kn]
    rw [eV] at cT
    clear eV k1 kn hr
    have f1 := taDC
    have f2 := taDW
    have f3 := taDG
    go_enter Try.func62, Try.ntmps62
    go_wp2_with fail
    refine cT.mono ?_
    rintro e w1 ⟨rfl, hb1⟩
    have hB1 := hB0.trans (hb1.mono hB0.size)
    clear cT hb1
    go_wp2
    go_ret
    exact ⟨_, rfl, none, 0, ⟨rfl, fun hm => by simp at hm, hB1, fun r _ _ hm => by simp at hm⟩⟩
  · rw [k2] at HN
    simp at HN
    subst HN
    have eV : thingV os[x.toNat].k os[x.toNat].t os[x.toNat].ra os[x.toNat].r.length os[x.toNat].rcap os[x.toNat].r = .iface 94 (.agg #[.slice os[x.toNat].ra os[x.toNat].r.length os[x.toNat].rcap]) := by simp [thingV, k2, kt]
    rw [eV] at cT
    clear eV k2 kt
    have f1 := taCC
    go_enter Try.func62, Try.ntmps62
    go_wp2_with fail
    refine cT.mono ?_
    rintro e w1 ⟨rfl, hb1⟩
    have hB1 := hB0.trans (hb1.mono hB0.size)
    clear cT hb1
    go_wp2
    go_ret
    have hB2 := hB1.alloc hB1.size (Obj.cells #[Value.slice os[x.toNat].ra os[x.toNat].r.length os[x.toNat].rcap] 94)
    exact ⟨_, rfl, os[x.toNat].ra, os[x.toNat].rcap, ⟨rfl, hsg.below hB2 (Nat.le_refl _), hB2, fun r q _ => Hav.out r q⟩⟩
  · have q1 : 1 < os[x.toNat].r.length := by omega
    rw [if_pos k3] at HN
    have HN' : Hid (NX = [os[x.toNat].r[1]]) := by
      show _ = _
      rw [HN]; exact drop_two _ kn q1
    have eV : thingV os[x.toNat].k os[x.toNat].t os[x.toNat].ra os[x.toNat].r.length os[x.toNat].rcap os[x.toNat].r = .iface 97 (.agg #[.int .i64 (os[x.toNat].r.getD 0 0), .int .i64 os[x.toNat].r[1]]) := by simp [thingV, k3, kt, kn]
    rw [eV] at cT
    clear eV k3 kt kn HN
    have f1 := taWC
    have f2 := taWW
    go_enter Try.func62, Try.ntmps62
    go_wp2_with fail
    refine cT.mono ?_
    rintro e w1 ⟨rfl, hb1⟩
    have hB1 := hB0.trans (hb1.mono hB0.size)
    clear cT hb1
    go_wp2
    go_ret
    refine ⟨_, rfl, some ⟨w1.heap.size + 1, 0, none⟩, 1, ⟨?_, ?_, ?_, fun r _ hr hm y hy => ?_⟩⟩
    · rw [HN'.out]; rfl
    · rw [HN'.out]
      intro _
      refine ⟨w1.heap.size + 1, 0, rfl, by simp, fun i hi => ?_⟩
      simp at hi
      subst hi
      simp
    · exact (hB1.alloc hB1.size _).alloc (by simp; have := hB1.size; omega) _
    · simp at hy
      subst hy
      intro e
      have h2 : w1.heap.size + 1 < w.heap.size := hr _ e.symm
      have := hB1.size
      omega
  · rw [k4] at HN
    simp at HN
    have HN' : Hid (NX = flt ds x) := HN
    have eV : thingV os[x.toNat].k os[x.toNat].t os[x.toNat].ra os[x.toNat].r.length os[x.toNat].rcap os[x.toNat].r = .iface 99 (.agg #[]) := by simp [thingV, k4, kt, kn]
    rw [eV] at cT
    clear eV k4 kt kn HN
    have f1 := taGC
    have f2 := taGW
    have f3 := taGG
    go_enter Try.func62, Try.ntmps62
    go_wp2_with fail
    refine cT.mono ?_
    rintro e w1 ⟨rfl, hb1⟩
    have hB1 := hB0.trans (hb1.mono hB0.size)
    have hK1 := hK0.below hb1 hK0.lt
    have q3 := hK1.cell 3
    simp only [List.getElem?_cons_zero, List.getElem?_cons_succ] at q3
    have hlt1 := hK1.lt
    have hB2 := hB1.alloc hB1.size (Obj.cells #[] 99)
    have cD := toldTo_any da dcap ds x (w1.alloc (Obj.cells #[] 99)) (hd.below hB2 (Nat.le_refl _)) sd
    clear cT hb1
    go_wp2_with fail
    refine cD.mono ?_
    rintro e w2 ⟨v', rfl, hown, hb2⟩
    have hB3 := hB2.trans (hb2.mono hB2.size)
    obtain ⟨va, vcap, rfl, hseg, -⟩ := hown.form
    have hrow := fun k' h' => (hown.lt k' h').1
    clear cD
    go_wp2
    go_ret
    refine ⟨_, rfl, va, vcap, ⟨?_, ?_, hB3, fun r _ hr hm y hy => ?_⟩⟩
    · rw [HN'.out]; rfl
    · rw [HN'.out]; exact hseg
    · subst hy
      intro e
      have h2 := hrow y.block rfl
      have h3 := hr y.block e.symm
      have := hB2.size
      omega
end Go.Proofs.Ytcpnkpogebjieaa
