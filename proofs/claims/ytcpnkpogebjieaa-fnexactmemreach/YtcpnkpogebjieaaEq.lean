/- The laws' own comparisons of lists and heaps: they answer whether what is plain of both is the same. -/
import Derived.Test.YtcpnkpogebjieaaToH
import Derived.Deep.QuietTactic
import Derived.BigQuiet
import Derived.Deep.RegionWith
namespace Go.Proofs.Ytcpnkpogebjieaa
open Go.RowKit

theorem take_eq_succ {α : Type} {xs ys : List α} {k : Nat} (h : xs.take k = ys.take k) (hx : k < xs.length) (hy : k < ys.length) (he : xs[k] = ys[k]) : xs.take (k + 1) = ys.take (k + 1) := by
  rw [List.take_succ_eq_append_getElem hx, List.take_succ_eq_append_getElem hy, h, he]

theorem take_all {α : Type} {xs ys : List α} {k : Nat} (h : xs.take k = ys.take k) (hx : xs.length ≤ k) (hy : ys.length ≤ k) : xs = ys := by
  rwa [List.take_of_length_le hx, List.take_of_length_le hy] at h

theorem ne_at {α : Type} {xs ys : List α} {k : Nat} (hx : k < xs.length) (hy : k < ys.length) (h : xs[k] ≠ ys[k]) : xs ≠ ys := fun e => by subst e; exact h rfl

set_option maxHeartbeats 400000 in
set_option maxRecDepth 100000 in
theorem eqIntS_any (a b : Option Addr) (n m ca cb : Nat) (xs ys : List Int) (w : World) (hn : xs.length = n) (hm : ys.length = m) (hx : SegI w a xs) (hy : SegI w b ys) (hn1 : n ≤ maxLen) (hm1 : m ≤ maxLen) :
    Calls Try.prog 18 #[.slice a n ca, .slice b m cb] w fun e w' => e = .returned (.bool (decide (xs = ys))) ∧ Below w.heap.size w w' := by
  unfold maxLen at hn1 hm1
  by_cases hl : n = m
  · subst hl
    go_enter Try.func18, Try.ntmps18
    go_wp2
    go_loopw [5] (fun i wr => ∃ k : Nat, k ≤ n ∧ i = .int .i64 k ∧ xs.take k = ys.take k ∧ Below w.heap.size w wr) (fun i _ => n - (intOf i).toNat)
    case atStart => exact ⟨0, Nat.zero_le _, rfl, rfl, Below.refl _ _⟩
    case round =>
      obtain ⟨k, hk, rfl, htk, hb⟩ := hrel
      have HT : Hid (xs.take k = ys.take k) := htk
      clear htk
      by_cases hlt : k < n
      · have hkx : k < xs.length := by omega
        have hky : k < ys.length := by omega
        obtain ⟨b1, o1, rfl, hb1, c1⟩ := hx.get hkx
        obtain ⟨b2, o2, rfl, hb2, c2⟩ := hy.get hky
        have d1 := (hb.cell (p := ⟨b1, o1 + k, none⟩) hb1).trans c1
        have d2 := (hb.cell (p := ⟨b2, o2 + k, none⟩) hb2).trans c2
        have hi1 : (k : Int) < (n : Int) := by omega
        clear c1 c2
        go_wp2_with fail
        go_quiet (fail)
        by_cases he : xs[k] = ys[k]
        · have hne : (xs[k] != ys[k]) = false := by simp [he]
          have HE : Hid (xs[k] = ys[k]) := he
          clear he
          go_wp2
          go_roundw
          case rel => exact ⟨k + 1, by omega, by go_num, take_eq_succ HT.out hkx hky HE.out, bdrewN hb _⟩
          case measure => simp [intOf]; omega
        · have hne : (xs[k] != ys[k]) = true := by simp [he]
          go_wp2
          go_ret
          exact ⟨by simp [ne_at hkx hky he], bdrewN hb _⟩
      · go_wp2
        go_ret
        exact ⟨by simp [take_all HT.out (by omega) (by omega)], hb⟩
  · have hne : ((n : Int) != (m : Int)) = true := by simp; omega
    go_enter Try.func18, Try.ntmps18
    go_wp2
    go_ret
    have : xs ≠ ys := fun e => hl (by rw [← hn, ← hm, e])
    exact ⟨by simp [this], Below.refl _ _⟩

set_option maxHeartbeats 400000 in
set_option maxRecDepth 100000 in
theorem eqMemObj_eq (k : Int) (t : ByteArray) (a b : Option Addr) (n ca cb : Nat) (xs : List Int) (w : World) (hn : xs.length = n) (hx : SegI w a xs) (hy : SegI w b xs) (hn1 : n ≤ maxLen) :
    Calls Try.prog 72 #[.agg #[.int .i64 k, .string t, .slice a n ca], .agg #[.int .i64 k, .string t, .slice b n cb]] w fun e w' => e = .returned (.bool true) ∧ Below w.heap.size w w' := by
  go_enter Try.func72, Try.ntmps72
  go_wp2_with fail
  have hB0 : Below w.heap.size w ((w.alloc (Obj.cells #[Value.int IntKind.i64 k, Value.string t, Value.slice a n ca] 52)).alloc (Obj.cells #[Value.int IntKind.i64 k, Value.string t, Value.slice b n cb] 52)) := ((Below.refl _ _).alloc (Nat.le_refl _) _).alloc (by simp) _
  refine (eqIntS_any a b n n ca cb xs xs _ hn hn (hx.below hB0 (Nat.le_refl _)) (hy.below hB0 (Nat.le_refl _)) hn1 hn1).mono ?_
  rintro e w1 ⟨rfl, hb⟩
  have hbb := hB0.trans (hb.mono hB0.size)
  simp only [decide_true]
  clear hb hB0
  go_wp2
  go_ret
  exact ⟨rfl, hbb⟩

set_option maxHeartbeats 400000 in
set_option maxRecDepth 100000 in
theorem eqMemWatch_eq (x y : Int) (w : World) :
    Calls Try.prog 73 #[.agg #[.int .i64 x, .int .i64 y], .agg #[.int .i64 x, .int .i64 y]] w fun e w' => e = .returned (.bool true) ∧ Below w.heap.size w w' := by
  go_enter Try.func73, Try.ntmps73
  go_wp2
  go_ret
  exact ⟨rfl, ((Below.refl _ _).alloc (Nat.le_refl _) _).alloc (by simp) _⟩

set_option maxHeartbeats 400000 in
set_option maxRecDepth 100000 in
theorem eqMemWatchS_eq (a b : Option Addr) (n ca cb : Nat) (ws : List (Int × Int)) (w : World) (hn : ws.length = n) (hx : SegW w a ws) (hy : SegW w b ws) (hn1 : n ≤ maxLen) :
    Calls Try.prog 43 #[.slice a n ca, .slice b n cb] w fun e w' => e = .returned (.bool true) ∧ Below w.heap.size w w' := by
  unfold maxLen at hn1
  go_enter Try.func43, Try.ntmps43
  go_wp2
  go_loopw [5] (fun i wr => ∃ k : Nat, k ≤ n ∧ i = .int .i64 k ∧ Below w.heap.size w wr) (fun i _ => n - (intOf i).toNat)
  case atStart => exact ⟨0, Nat.zero_le _, rfl, Below.refl _ _⟩
  case round =>
    obtain ⟨k, hk, rfl, hb⟩ := hrel
    by_cases hlt : k < n
    · have hkx : k < ws.length := by omega
      obtain ⟨b1, o1, rfl, hb1, c1, c2⟩ := hx.get hkx
      obtain ⟨b2, o2, rfl, hb2, c3, c4⟩ := hy.get hkx
      have d1 := (hb.cell (p := ⟨b1, o1 + k * 2, none⟩) hb1).trans c1
      have d2 := (hb.cell (p := ⟨b1, o1 + k * 2 + 1, none⟩) hb1).trans c2
      have d3 := (hb.cell (p := ⟨b2, o2 + k * 2, none⟩) hb2).trans c3
      have d4 := (hb.cell (p := ⟨b2, o2 + k * 2 + 1, none⟩) hb2).trans c4
      have hi1 : (k : Int) < (n : Int) := by omega
      clear c1 c2 c3 c4
      go_wp2_with fail
      go_region_with (go_at_call 73; refine (eqMemWatch_eq _ _ _).mono ?_; rintro e w' ⟨rfl, hbx⟩)
      all_goals
        have hbb := hb.drew.trans (hbx.mono hb.drew.size)
        go_wp2
        go_roundw
        case rel => exact ⟨k + 1, by omega, by go_num, hbb⟩
        case measure => simp [intOf]; omega
    · go_wp2
      go_ret
      exact ⟨rfl, hb⟩
end Go.Proofs.Ytcpnkpogebjieaa
