/- The program's own looking the same: two objects, two lists of objects. -/
import Derived.Test.YtcpnkpogebjieaaSi3
namespace Go.Proofs.Ytcpnkpogebjieaa
open Go.RowKit

set_option maxHeartbeats 1600000 in
set_option maxRecDepth 100000 in
theorem sameObj_any (a b : Ob) (w : World) (ha : SegI w a.ra a.r) (hb : SegI w b.ra b.r) (hal : a.r.length ≤ maxLen) (hbl : b.r.length ≤ maxLen) :
    Calls Try.prog 53 #[.agg #[.int .i64 a.k, .string a.t, .slice a.ra a.r.length a.rcap], .agg #[.int .i64 b.k, .string b.t, .slice b.ra b.r.length b.rcap]] w fun e w' => ∃ r : Bool, e = .returned (.bool r) ∧ (r = true ↔ a.p = b.p) ∧ Below w.heap.size w w' := by
  obtain ⟨k1, t1, ra1, c1, r1⟩ := a
  obtain ⟨k2, t2, ra2, c2, r2⟩ := b
  simp only [Ob.p] at *
  have hB0 : Below w.heap.size w ((w.alloc (Obj.cells #[Value.int .i64 k1, Value.string t1, Value.slice ra1 r1.length c1] 52)).alloc (Obj.cells #[Value.int .i64 k2, Value.string t2, Value.slice ra2 r2.length c2] 52)) := ((Below.refl _ w).alloc (Nat.le_refl _) _).alloc (by simp) _
  by_cases hk : k1 = k2
  · subst hk
    by_cases ht : t1 = t2
    · subst ht
      have c1 := equalInts_any ra1 ra2 r1.length r2.length c1 c2 r1 r2 _ rfl rfl (ha.below hB0 (Nat.le_refl _)) (hb.below hB0 (Nat.le_refl _)) hal hbl
      go_enter Try.func53, Try.ntmps53
      go_wp2_with fail
      refine c1.mono ?_
      rintro e w1 ⟨rfl, hb1⟩
      have hB1 := hB0.trans (hb1.mono hB0.size)
      clear c1 hb1 hB0
      go_wp2
      go_ret
      exact ⟨_, rfl, by simp, hB1⟩
    · have h1 : (t1.toList == t2.toList) = false := by
        rw [beq_eq_false_iff_ne]
        exact fun e => ht (bytes_inj e)
      go_enter Try.func53, Try.ntmps53
      go_wp2
      go_ret
      exact ⟨_, rfl, by simp [ht], hB0⟩
  · have hne : (k1 == k2) = false := by simp [hk]
    go_enter Try.func53, Try.ntmps53
    go_wp2
    go_ret
    exact ⟨_, rfl, by simp [hk], hB0⟩

set_option maxHeartbeats 1600000 in
set_option maxRecDepth 100000 in
theorem equalObjs_any (a b : Option Addr) (ca cb : Nat) (xs ys : List Ob) (w : World) (hx : SegO w a xs) (hy : SegO w b ys) (hn1 : xs.length ≤ 1048576) (hxl : ∀ i (hi : i < xs.length), xs[i].r.length ≤ maxLen) (hyl : ∀ i (hi : i < ys.length), ys[i].r.length ≤ maxLen) :
    Calls Try.prog 52 #[.slice a xs.length ca, .slice b ys.length cb, .func (.func 53) #[] #[]] w fun e w' => ∃ r : Bool, e = .returned (.bool r) ∧ (r = true ↔ xs.map Ob.p = ys.map Ob.p) ∧ Below w.heap.size w w' := by
  by_cases hl : xs.length = ys.length
  · have hne : ((xs.length : Int) != (ys.length : Int)) = false := by simp [hl]
    have HL : Hid (xs.length = ys.length) := hl
    clear hl
    go_enter Try.func52, Try.ntmps52
    go_wp2
    go_loopw [7, 8, 9, 17] (fun _ _ _ i wr => ∃ k : Nat, k ≤ xs.length ∧ i = .int .i64 k ∧ (xs.map Ob.p).take k = (ys.map Ob.p).take k ∧ Below w.heap.size w wr) (fun _ _ _ i _ => xs.length - (intOf i).toNat)
    case atStart => exact ⟨0, Nat.zero_le _, rfl, rfl, Below.refl _ _⟩
    case round =>
      obtain ⟨k, hk, rfl, htk, hb⟩ := hrel
      have HT : Hid ((xs.map Ob.p).take k = (ys.map Ob.p).take k) := htk
      clear htk
      by_cases hlt : k < xs.length
      · have hky : k < ys.length := by have := HL.out; omega
        have hkm1 : k < (xs.map Ob.p).length := by simpa using hlt
        have hkm2 : k < (ys.map Ob.p).length := by simpa using hky
        obtain ⟨b1, o1, rfl, hb1, e1, e2, e3⟩ := hx.get hlt
        obtain ⟨b2, o2, rfl, hb2, f1, f2, f3⟩ := hy.get hky
        have d1 := (hb.cell (p := ⟨b1, o1 + k * 3, none⟩) hb1).trans e1
        have d2 := (hb.cell (p := ⟨b1, o1 + k * 3 + 1, none⟩) hb1).trans e2
        have d3 := (hb.cell (p := ⟨b1, o1 + k * 3 + 2, none⟩) hb1).trans e3
        have hA : Below wr.heap.size wr (wr.alloc (Obj.cells #[Value.int .i64 xs[k].k, Value.string xs[k].t, Value.slice xs[k].ra xs[k].r.length xs[k].rcap] 52)) := (Below.refl _ _).alloc (Nat.le_refl _) _
        have hbA := hb.trans (hA.mono hb.size)
        have d4 := (hbA.cell (p := ⟨b2, o2 + k * 3, none⟩) hb2).trans f1
        have d5 := (hbA.cell (p := ⟨b2, o2 + k * 3 + 1, none⟩) hb2).trans f2
        have d6 := (hbA.cell (p := ⟨b2, o2 + k * 3 + 2, none⟩) hb2).trans f3
        have hA2 := hbA.alloc hbA.size (Obj.cells #[Value.int .i64 ys[k].k, Value.string ys[k].t, Value.slice ys[k].ra ys[k].r.length ys[k].rcap] 52)
        have hi1 : (k : Int) < (xs.length : Int) := by omega
        have hi2 : (k : Int) < (ys.length : Int) := by omega
        have c1 := sameObj_any xs[k] ys[k] _ ((hx.2 _ hlt).below hA2 (Nat.le_refl _)) ((hy.2 _ hky).below hA2 (Nat.le_refl _)) (hxl _ hlt) (hyl _ hky)
        clear e1 e2 e3 f1 f2 f3 hA hbA
        go_wp2_with fail
        refine c1.mono ?_
        rintro e w1 ⟨r, rfl, hr, hbr⟩
        have HR : Hid (r = true ↔ xs[k].p = ys[k].p) := hr
        have hB1 := hA2.trans (hbr.mono hA2.size)
        clear c1 hr hbr hA2 d1 d2 d3 d4 d5 d6
        cases r with
        | false =>
          have HF : Hid (¬ xs.map Ob.p = ys.map Ob.p) := fun h => by
            refine ne_at hkm1 hkm2 ?_ h
            rw [List.getElem_map, List.getElem_map]
            intro e
            have := HR.out.2 e
            simp at this
          go_wp2
          go_ret
          exact ⟨_, rfl, by simp [HF.out], hB1⟩
        | true =>
          have HE : Hid ((xs.map Ob.p)[k] = (ys.map Ob.p)[k]) := by
            show _ = _
            rw [List.getElem_map, List.getElem_map]
            exact HR.out.1 rfl
          go_wp2
          go_roundw
          case rel => exact ⟨k + 1, by omega, by go_num, take_eq_succ HT.out hkm1 hkm2 HE.out, hB1⟩
          case measure => simp [intOf]; omega
      · have HE : Hid (xs.map Ob.p = ys.map Ob.p) := take_all HT.out (by rw [List.length_map]; omega) (by rw [List.length_map]; have := HL.out; omega)
        go_wp2
        go_ret
        exact ⟨_, rfl, by simp [HE.out], hb⟩
  · have hne : ((xs.length : Int) != (ys.length : Int)) = true := by simp; omega
    have HF : Hid (¬ xs.map Ob.p = ys.map Ob.p) := fun h => hl (map_eq_len h)
    clear hl
    go_enter Try.func52, Try.ntmps52
    go_wp2
    go_ret
    exact ⟨_, rfl, by simp [HF.out], Below.refl _ _⟩
end Go.Proofs.Ytcpnkpogebjieaa
