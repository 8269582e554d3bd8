/- The specification's own looking the same: two objects. -/
import Derived.Test.YtcpnkpogebjieaaSs1
namespace Go.Proofs.Ytcpnkpogebjieaa
open Go.RowKit

theorem bytes_inj {s t : ByteArray} (h : s.toList = t.toList) : s = t := by
  rw [ByteArray.toList_eq, ByteArray.toList_eq] at h
  obtain ⟨⟨s⟩⟩ := s
  obtain ⟨⟨t⟩⟩ := t
  simp at h
  rw [h]

theorem map_eq_len {α β : Type} {f g : α → β} {l m : List α} (h : l.map f = m.map g) : l.length = m.length := by
  simpa using congrArg List.length h

set_option maxHeartbeats 1600000 in
set_option maxRecDepth 100000 in
theorem l2Alike_any (a b : Ob) (xa ya : Option Addr) (xcap ycap : Nat) (x y : List Int) (w : World) (ha : SegI w a.ra a.r) (hb : SegI w b.ra b.r) (hx : SegI w xa x) (hy : SegI w ya y) (hxl : x.length ≤ maxLen) (hyl : y.length ≤ maxLen) (hal : a.r.length ≤ maxLen) (hbl : b.r.length ≤ maxLen) :
    Calls Try.prog 47 #[.agg #[.int .i64 a.k, .string a.t, .slice a.ra a.r.length a.rcap], .agg #[.int .i64 b.k, .string b.t, .slice b.ra b.r.length b.rcap], .slice xa x.length xcap, .slice ya y.length ycap] w fun e w' => ∃ r : Bool, e = .returned (.bool r) ∧ (r = true ↔ (a.k, a.t, a.r.map (wh x)) = (b.k, b.t, b.r.map (wh y))) ∧ Below w.heap.size w w' := by
  obtain ⟨k1, t1, ra1, c1, r1⟩ := a
  obtain ⟨k2, t2, ra2, c2, r2⟩ := b
  simp only at *
  have hal' := hal
  have hbl' := hbl
  unfold maxLen at hal' hbl'
  have hB0 : Below w.heap.size w ((w.alloc (Obj.cells #[Value.int .i64 k1, Value.string t1, Value.slice ra1 r1.length c1] 52)).alloc (Obj.cells #[Value.int .i64 k2, Value.string t2, Value.slice ra2 r2.length c2] 52)) := ((Below.refl _ w).alloc (Nat.le_refl _) _).alloc (by simp) _
  by_cases hk : k1 = k2
  · by_cases ht : t1 = t2
    · by_cases hl : r1.length = r2.length
      · subst hk
        subst ht
        have hK1 : Blk ((w.alloc (Obj.cells #[Value.int .i64 k1, Value.string t1, Value.slice ra1 r1.length c1] 52)).alloc (Obj.cells #[Value.int .i64 k1, Value.string t1, Value.slice ra2 r1.length c2] 52)) w.heap.size [Value.int .i64 k1, Value.string t1, Value.slice ra1 r1.length c1] 52 := (Blk.new w _ _).alloc _
        have hK2 : Blk ((w.alloc (Obj.cells #[Value.int .i64 k1, Value.string t1, Value.slice ra1 r1.length c1] 52)).alloc (Obj.cells #[Value.int .i64 k1, Value.string t1, Value.slice ra2 r1.length c2] 52)) (w.heap.size + 1) [Value.int .i64 k1, Value.string t1, Value.slice ra2 r1.length c2] 52 := by
          have := Blk.new (w.alloc (Obj.cells #[Value.int .i64 k1, Value.string t1, Value.slice ra1 r1.length c1] 52)) [Value.int .i64 k1, Value.string t1, Value.slice ra2 r1.length c2] 52
          simpa using this
        rw [← hl] at hB0 ⊢
        have HL : Hid (r1.length = r2.length) := hl
        clear hl
        generalize hn : r1.length = n at *
        have HN : Hid (r1.length = n) := hn
        clear hn
        go_enter Try.func47, Try.ntmps47
        go_wp2
        go_loopw [9] (fun i wr => ∃ k : Nat, k ≤ n ∧ i = .int .i64 k ∧ (r1.map (wh x)).take k = (r2.map (wh y)).take k ∧ Below w.heap.size w wr ∧ Blk wr w.heap.size [Value.int .i64 k1, Value.string t1, Value.slice ra1 n c1] 52 ∧ Blk wr (w.heap.size + 1) [Value.int .i64 k1, Value.string t1, Value.slice ra2 n c2] 52) (fun i _ => n - (intOf i).toNat)
        case atStart => exact ⟨0, Nat.zero_le _, rfl, rfl, hB0, hK1, hK2⟩
        case round =>
          obtain ⟨k, hk, rfl, htk, hbw, q1, q2⟩ := hrel
          have HT : Hid ((r1.map (wh x)).take k = (r2.map (wh y)).take k) := htk
          clear htk hB0 hK1 hK2
          have p1 := q1.cell 2
          have p2 := q2.cell 2
          simp only [List.getElem?_cons_zero, List.getElem?_cons_succ] at p1 p2
          by_cases hlt : k < n
          · have hk1 : k < r1.length := by have := HN.out; omega
            have hk2 : k < r2.length := by have := HN.out; have := HL.out; omega
            obtain ⟨b1, o1, rfl, hb1, e1⟩ := ha.get hk1
            obtain ⟨b2, o2, rfl, hb2, e2⟩ := hb.get hk2
            have d1 := (hbw.cell (p := ⟨b1, o1 + k, none⟩) hb1).trans e1
            have d2 := (hbw.cell (p := ⟨b2, o2 + k, none⟩) hb2).trans e2
            have hi1 : (k : Int) < (n : Int) := by omega
            have sx : ∀ m, SegI (wr.drewN m) xa x := fun m => hx.below (bdrewN hbw m) (Nat.le_refl _)
            have sy : ∀ m, SegI (wr.drewN m) ya y := fun m => hy.below (bdrewN hbw m) (Nat.le_refl _)
            clear e1 e2
            go_wp2_with fail
            go_quiet (first
              | (go_at_call_of 46 (Value.slice xa x.length xcap); refine Calls.quiet_of_same (l2Where_any xa _ xcap x r1[k] _ rfl hxl ?_); exact sx _)
              | (go_at_call_of 46 (Value.slice ya y.length ycap); refine Calls.quiet_of_same (l2Where_any ya _ ycap y r2[k] _ rfl hyl ?_); exact sy _))
            have hkm1 : k < (r1.map (wh x)).length := by simpa using hk1
            have hkm2 : k < (r2.map (wh y)).length := by simpa using hk2
            by_cases he : wh x r1[k] = wh y r2[k]
            · have hne : (wh x r1[k] != wh y r2[k]) = false := by simp [he]
              have HE : Hid (wh x r1[k] = wh y r2[k]) := he
              clear he
              go_wp2
              go_roundw
              case rel => exact ⟨k + 1, by omega, by go_num, take_eq_succ HT.out hkm1 hkm2 (by simpa using HE.out), bdrewN hbw _, q1, q2⟩
              case measure => simp [intOf]; omega
            · have hne : (wh x r1[k] != wh y r2[k]) = true := by simp [he]
              have HE : Hid (r1.map (wh x) ≠ r2.map (wh y)) := ne_at hkm1 hkm2 (by simpa using he)
              clear he
              go_wp2
              go_ret
              exact ⟨_, rfl, by simp [HE.out], bdrewN hbw _⟩
          · have HE : Hid (r1.map (wh x) = r2.map (wh y)) := take_all HT.out (by rw [List.length_map]; have := HN.out; omega) (by rw [List.length_map]; have := HN.out; have := HL.out; omega)
            go_wp2
            go_ret
            exact ⟨_, rfl, by simp [HE.out], hbw⟩
      · subst hk
        subst ht
        have hne : ((r1.length : Int) != (r2.length : Int)) = true := by simp; omega
        go_enter Try.func47, Try.ntmps47
        go_wp2
        go_ret
        exact ⟨_, rfl, by simp only [Bool.false_eq_true, false_iff]; intro e; simp only [Prod.mk.injEq] at e; exact hl (map_eq_len e.2.2), hB0⟩
    · subst hk
      have h1 : (t1.toList == t2.toList) = false := by
        rw [beq_eq_false_iff_ne]
        exact fun e => ht (bytes_inj e)
      go_enter Try.func47, Try.ntmps47
      go_wp2
      go_ret
      exact ⟨_, rfl, by simp [ht], hB0⟩
  · have hne : (k1 != k2) = true := by simp [hk]
    go_enter Try.func47, Try.ntmps47
    go_wp2
    go_ret
    exact ⟨_, rfl, by simp [hk], hB0⟩
end Go.Proofs.Ytcpnkpogebjieaa
