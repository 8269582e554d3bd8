/- The program's own coming to: the set of bits. -/
import Derived.Test.YtcpnkpogebjieaaRp
namespace Go.Proofs.Ytcpnkpogebjieaa
open Go.RowKit

theorem info_u64 : (Try.prog.info? 123).map (fun i => (i.zero, i.size, i.bytes)) = some (some (.int .u64 0), 1, 8) := by kernel_rfl

set_option maxHeartbeats 400000 in
set_option maxRecDepth 100000 in
theorem newBitSet_any (n : Nat) (w : World) (hn : n ≤ 60) :
    Calls Try.prog 60 #[.int .i64 n] w fun e w' => ∃ g, e = .returned (.agg #[.slice (some ⟨g, 0, none⟩) ((n + 63) / 64) ((n + 63) / 64)]) ∧ Below w.heap.size w w' ∧ w.heap.size ≤ g ∧ Blk w' g (List.replicate ((n + 63) / 64) (.int .u64 0)) 123 := by
  obtain ⟨i0, hi, hz0, hz1, hz2⟩ := info_parts info_u64
  go_enter Try.func60, Try.ntmps60
  go_wp2_with (at_make; refine wpList_make_full _ rfl _ _ 83 rfl w.heap.size 123 i0 (.int .u64 0) 1 Try.underlying83 hi hz0 hz1 .i64 .i64 _ _ ((n + 63) / 64) rfl rfl ?c0 ?c0' ?c1 ?c2 ?c3 ?_)
  case c0 => omega
  case c0' => omega
  case c1 => rw [hz2]; omega
  case c2 => unfold maxLen; omega
  case c3 => simp
  intro w1 hown hgr
  have hb0 := below_made hgr
  have hk := blk_made hown
  rw [toList_madeCells_one] at hk
  have hB : Below w.heap.size w w1 := ((Below.refl _ w).alloc (Nat.le_refl _) _).trans (hb0.mono (by simp))
  obtain ⟨hc, hf⟩ := bcell hb0
  simp at hc hf
  clear hown hgr hb0
  go_wp2
  refine bodyPost_ret (v := .agg #[.slice (some ⟨w.heap.size + 1, 0, none⟩) ((n + 63) / 64) ((n + 63) / 64)]) ?_ rfl ⟨_, rfl, ?_, ?_, ?_⟩
  · simp [results, Try.results60, go_sem, hc]
  · (repeat refine Below.setCell ?_ (by dsimp only; omega) _)
    exact hB
  · omega
  · (repeat refine Blk.other ?_ _ _ (by dsimp only; omega))
    exact hk

theorem wrap_pow (n : Nat) (h : n < 64) : IntKind.u64.wrap (2 ^ n) = ((2 ^ n : Nat) : Int) := by
  have h1 : 2 ^ n < 2 ^ 64 := Nat.pow_lt_pow_right (by omega) h
  have h2 : ((2 : Int) ^ n) = ((2 ^ n : Nat) : Int) := by simp
  rw [IntKind.wrap_u64, h2]
  have h3 : (2 : Nat) ^ 64 = 18446744073709551616 := by decide
  rw [h3] at h1
  generalize (2 : Nat) ^ n = P at h1
  omega

theorem and_bit (X n : Nat) : (X &&& 2 ^ n = 0) ↔ X.testBit n = false := by
  constructor
  · intro h
    have h1 : (X &&& 2 ^ n).testBit n = false := by rw [h]; simp
    rw [Nat.testBit_and, Nat.testBit_two_pow_self] at h1
    simpa using h1
  · intro h
    apply Nat.eq_of_testBit_eq
    intro i
    rw [Nat.testBit_and, Nat.testBit_two_pow, Nat.zero_testBit]
    by_cases e : n = i
    · subst e; simp [h]
    · simp [e]

theorem or_bit (X n : Nat) (h : X.testBit n = true) : X ||| 2 ^ n = X := by
  apply Nat.eq_of_testBit_eq
  intro i
  rw [Nat.testBit_or, Nat.testBit_two_pow]
  by_cases e : n = i
  · subst e; simp [h]
  · simp [e]

theorem and_ne (X n : Nat) (hX : X < 18446744073709551616) (hn : n < 60) : (bits BinOp.and IntKind.u64 (X : Int) (IntKind.u64.wrap (2 ^ n)) != 0) = X.testBit n := by
  have h1 : 2 ^ n < 2 ^ 64 := Nat.pow_lt_pow_right (by omega) (by omega)
  have h3 : (2 : Nat) ^ 64 = 18446744073709551616 := by decide
  rw [wrap_pow n (by omega), u64_and_nat X (2 ^ n) hX (by omega)]
  have := and_bit X n
  cases hb : X.testBit n with
  | false => rw [this.2 hb]; rfl
  | true =>
    have hne : X &&& 2 ^ n ≠ 0 := fun e => by rw [this.1 e] at hb; cases hb
    rw [bne_iff_ne]
    omega

theorem or_eq (X n : Nat) (hX : X < 18446744073709551616) (hn : n < 60) : bits BinOp.or IntKind.u64 (X : Int) (IntKind.u64.wrap (2 ^ n)) = ((X ||| 2 ^ n : Nat) : Int) := by
  have h1 : 2 ^ n < 2 ^ 64 := Nat.pow_lt_pow_right (by omega) (by omega)
  have h3 : (2 : Nat) ^ 64 = 18446744073709551616 := by decide
  rw [wrap_pow n (by omega), u64_or_nat X (2 ^ n) hX (by omega)]

theorem or_lt (X n : Nat) (hX : X < 18446744073709551616) (hn : n < 60) : X ||| 2 ^ n < 18446744073709551616 := by
  have h1 : 2 ^ n < 2 ^ 64 := Nat.pow_lt_pow_right (by omega) (by omega)
  have h3 : (2 : Nat) ^ 64 = 18446744073709551616 := by decide
  rw [← h3] at hX ⊢
  exact Nat.or_lt_two_pow hX h1

set_option maxHeartbeats 400000 in
set_option maxRecDepth 100000 in
theorem add_any (g X n : Nat) (w : World) (hn : n < 60) (hX : X < 18446744073709551616) (hb : Blk w g [.int .u64 X] 123) :
    Calls Try.prog 82 #[.agg #[.slice (some ⟨g, 0, none⟩) 1 1], .int .i64 n] w fun e w' => e = .returned (.bool !X.testBit n) ∧ Blk w' g [.int .u64 ((X ||| 2 ^ n : Nat) : Int)] 123 ∧ w.grownBy w' (some g) := by
  have c0 := hb.cell 0
  simp only [List.getElem?_cons_zero] at c0
  have f0 := hb.free 0
  have hlt := hb.lt
  have hd1 : n / 64 = 0 := by omega
  have hd2 : (n : Int) / 64 = 0 := by omega
  have hd3 : n % 64 = n := by omega
  have hd4 : (n : Int) % 64 = n := by omega
  have ha := and_ne X n hX hn
  have HO : Hid (bits BinOp.or IntKind.u64 (X : Int) (IntKind.u64.wrap (2 ^ n)) = ((X ||| 2 ^ n : Nat) : Int)) := or_eq X n hX hn
  have HB : Hid (X.testBit n = true → X ||| 2 ^ n = X) := or_bit X n
  have hA : Below w.heap.size w (w.alloc (Obj.cells #[Value.slice (some ⟨g, 0, none⟩) 1 1] 85)) := (Below.refl _ _).alloc (Nat.le_refl _) _
  have hbA := hb.alloc (Obj.cells #[Value.slice (some ⟨g, 0, none⟩) 1 1] 85)
  cases hbit : X.testBit n with
  | true =>
    rw [hbit] at ha
    have HE := HB.out hbit
    have HE' : Hid (X ||| 2 ^ n = X) := HE
    clear hbit HE
    go_enter Try.func82, Try.ntmps82
    go_wp2
    go_ret
    exact ⟨rfl, by rw [HE'.out]; exact hbA, gb_of_below hA (Nat.le_refl _) _⟩
  | false =>
    rw [hbit] at ha
    clear hbit
    have hst := (hb.store 0 (.int .u64 (bits BinOp.or IntKind.u64 (X : Int) (IntKind.u64.wrap (2 ^ n))))).alloc (Obj.cells #[Value.slice (some ⟨g, 0, none⟩) 1 1] 85)
    rw [HO.out] at hst
    have hg : w.grownBy ((w.setCell ⟨g, 0, none⟩ (.int .u64 ((X ||| 2 ^ n : Nat) : Int))).alloc (Obj.cells #[Value.slice (some ⟨g, 0, none⟩) 1 1] 85)) (some g) :=
      gb_trans (b := w.setCell ⟨g, 0, none⟩ (.int .u64 ((X ||| 2 ^ n : Nat) : Int))) ⟨rfl, rfl, rfl, by simp [World.setCell], fun k _ hk => Below.heap_setCell _ _ _ _ (fun e => hk (by rw [e]))⟩ (gb_of_below ((Below.refl _ _).alloc (Nat.le_refl _) _) (Nat.le_refl _) _)
    go_enter Try.func82, Try.ntmps82
    go_wp2
    go_ret
    rw [HO.out]
    exact ⟨rfl, hst, hg⟩
end Go.Proofs.Ytcpnkpogebjieaa
