/- The specification's own looking the same: where one is, two lists of what is watched, two objects. The library's comparison of two lists. -/
import Derived.Test.YtcpnkpogebjieaaSp
import Derived.Deep.QuietTactic
import Derived.BigQuiet
import Derived.Deep.RegionWith
import Derived.Test.YtcpnkpogebjieaaEq
namespace Go.Proofs.Ytcpnkpogebjieaa
open Go.RowKit

set_option maxHeartbeats 400000 in
set_option maxRecDepth 100000 in
theorem l2At_pos (a : Option Addr) (n cap : Nat) (zs : List Int) (x : Int) (w : World) (hl : zs.length = n) (hn : n ≤ maxLen) (h : SegI w a zs) :
    Calls Try.prog 75 #[.slice a n cap, .int .i64 x] w fun e w' => e = .returned (.int .i64 (pos zs x)) ∧ w' = w := by
  refine (l2At_any a n cap zs x w hl hn h).mono ?_
  rintro e w' ⟨r, rfl, rfl, hr⟩
  exact ⟨by rw [hr.pos], rfl⟩

set_option maxHeartbeats 400000 in
set_option maxRecDepth 100000 in
theorem l2Where_any (a : Option Addr) (n cap : Nat) (zs : List Int) (x : Int) (w : World) (hl : zs.length = n) (hn : n ≤ maxLen) (h : SegI w a zs) :
    Calls Try.prog 46 #[.slice a n cap, .int .i64 x] w fun e w' => e = .returned (.int .i64 (wh zs x)) ∧ w' = w := by
  by_cases hx : x < 0
  · have E : Hid (wh zs x = -1) := by simp [Hid, wh, hx]
    go_enter Try.func46, Try.ntmps46
    go_wp2
    go_ret
    exact ⟨ret_int E.out.symm, rfl⟩
  · have E : Hid (wh zs x = pos zs x) := by simp [Hid, wh, hx]
    have hd : decide (x < 0) = false := by simpa using hx
    go_enter Try.func46, Try.ntmps46
    go_wp2_with fail
    refine (l2At_pos a n cap zs x _ hl hn h).mono ?_
    rintro e w1 ⟨rfl, rfl⟩
    go_wp2
    go_ret
    exact ⟨ret_int E.out.symm, rfl⟩

set_option maxHeartbeats 400000 in
set_option maxRecDepth 100000 in
theorem equalInts_any (a b : Option Addr) (n m ca cb : Nat) (xs ys : List Int) (w : World) (hn : xs.length = n) (hm : ys.length = m) (hx : SegI w a xs) (hy : SegI w b ys) (hn1 : n ≤ maxLen) (hm1 : m ≤ maxLen) :
    Calls Try.prog 51 #[.slice a n ca, .slice b m cb] w fun e w' => e = .returned (.bool (decide (xs = ys))) ∧ Below w.heap.size w w' := by
  unfold maxLen at hn1 hm1
  by_cases hl : n = m
  · subst hl
    go_enter Try.func51, Try.ntmps51
    go_wp2
    go_loopw [5, 13] (fun _ i wr => ∃ k : Nat, k ≤ n ∧ i = .int .i64 k ∧ xs.take k = ys.take k ∧ Below w.heap.size w wr) (fun _ i _ => n - (intOf i).toNat)
    case atStart => exact ⟨0, Nat.zero_le _, rfl, rfl, Below.refl _ _⟩
    case round =>
      obtain ⟨k, hk, rfl, htk, hb⟩ := hrel
      have HT : Hid (xs.take k = ys.take k) := htk
      clear htk
      by_cases hlt : k < n
      · have hkx : k < xs.length := by omega
        have hky : k < ys.length := by omega
        obtain ⟨b1, o1, rfl, hb1, c1⟩ := hx.get hkx
        obtain ⟨b2, o2, rfl, hb2, c2⟩ := hy.get hky
        have d1 := (hb.cell (p := ⟨b1, o1 + k, none⟩) hb1).trans c1
        have d2 := (hb.cell (p := ⟨b2, o2 + k, none⟩) hb2).trans c2
        have hi1 : (k : Int) < (n : Int) := by omega
        clear c1 c2
        go_wp2_with fail
        go_quiet (fail)
        by_cases he : xs[k] = ys[k]
        · have hne : (xs[k] != ys[k]) = false := by simp [he]
          have HE : Hid (xs[k] = ys[k]) := he
          clear he
          go_wp2
          go_roundw
          case rel => exact ⟨k + 1, by omega, by go_num, take_eq_succ HT.out hkx hky HE.out, bdrewN hb _⟩
          case measure => simp [intOf]; omega
        · have hne : (xs[k] != ys[k]) = true := by simp [he]
          go_wp2
          go_ret
          exact ⟨by simp [ne_at hkx hky he], bdrewN hb _⟩
      · go_wp2
        go_ret
        exact ⟨by simp [take_all HT.out (by omega) (by omega)], hb⟩
  · have hne : ((n : Int) != (m : Int)) = true := by simp; omega
    go_enter Try.func51, Try.ntmps51
    go_wp2
    go_ret
    have : xs ≠ ys := fun e => hl (by rw [← hn, ← hm, e])
    exact ⟨by simp [this], Below.refl _ _⟩

set_option maxHeartbeats 400000 in
set_option maxRecDepth 100000 in
theorem l2SameWatches_any (a b : Option Addr) (n m ca cb : Nat) (xs ys : List (Int × Int)) (w : World) (hn : xs.length = n) (hm : ys.length = m) (hx : SegW w a xs) (hy : SegW w b ys) (hn1 : n ≤ maxLen) (hm1 : m ≤ maxLen) :
    Calls Try.prog 48 #[.slice a n ca, .slice b m cb] w fun e w' => e = .returned (.bool (decide (xs = ys))) ∧ Below w.heap.size w w' := by
  unfold maxLen at hn1 hm1
  by_cases hl : n = m
  · subst hl
    go_enter Try.func48, Try.ntmps48
    go_wp2
    go_loopw [5] (fun i wr => ∃ k : Nat, k ≤ n ∧ i = .int .i64 k ∧ xs.take k = ys.take k ∧ Below w.heap.size w wr) (fun i _ => n - (intOf i).toNat)
    case atStart => exact ⟨0, Nat.zero_le _, rfl, rfl, Below.refl _ _⟩
    case round =>
      obtain ⟨k, hk, rfl, htk, hb⟩ := hrel
      have HT : Hid (xs.take k = ys.take k) := htk
      clear htk
      by_cases hlt : k < n
      · have hkx : k < xs.length := by omega
        have hky : k < ys.length := by omega
        obtain ⟨b1, o1, rfl, hb1, c1, c2⟩ := hx.get hkx
        obtain ⟨b2, o2, rfl, hb2, c3, c4⟩ := hy.get hky
        have d1 := (hb.cell (p := ⟨b1, o1 + k * 2, none⟩) hb1).trans c1
        have d2 := (hb.cell (p := ⟨b1, o1 + k * 2 + 1, none⟩) hb1).trans c2
        have d3 := (hb.cell (p := ⟨b2, o2 + k * 2, none⟩) hb2).trans c3
        have d4 := (hb.cell (p := ⟨b2, o2 + k * 2 + 1, none⟩) hb2).trans c4
        have hi1 : (k : Int) < (n : Int) := by omega
        clear c1 c2 c3 c4
        go_wp2_with fail
        by_cases he : xs[k] = ys[k]
        · rw [← he] at d3 d4
          have HE : Hid (xs[k] = ys[k]) := he
          clear he
          go_region
          all_goals
            go_wp2
            go_roundw
            case rel => exact ⟨k + 1, by omega, by go_num, take_eq_succ HT.out hkx hky HE.out, hb.drew⟩
            case measure => simp [intOf]; omega
        · have HE : Hid (xs ≠ ys) := ne_at hkx hky he
          have hpp : ¬ (xs[k].1 = ys[k].1 ∧ xs[k].2 = ys[k].2) := fun e => he (Prod.ext e.1 e.2)
          clear he
          by_cases h1 : xs[k].1 = ys[k].1
          · have h2 : ¬ xs[k].2 = ys[k].2 := fun e => hpp ⟨h1, e⟩
            clear hpp
            go_region
            all_goals
              go_wp2
              go_ret
              exact ⟨by simp [HE.out], hb.drew⟩
          · clear hpp
            go_region
            all_goals
              go_wp2
              go_ret
              exact ⟨by simp [HE.out], hb.drew⟩
      · go_wp2
        go_ret
        exact ⟨by simp [take_all HT.out (by omega) (by omega)], hb⟩
  · have hne : ((n : Int) != (m : Int)) = true := by simp; omega
    go_enter Try.func48, Try.ntmps48
    go_wp2
    go_ret
    have : xs ≠ ys := fun e => hl (by rw [← hn, ← hm, e])
    exact ⟨by simp [this], Below.refl _ _⟩

set_option maxHeartbeats 400000 in
set_option maxRecDepth 100000 in
theorem equalWatches_any (a b : Option Addr) (n m ca cb : Nat) (xs ys : List (Int × Int)) (w : World) (hn : xs.length = n) (hm : ys.length = m) (hx : SegW w a xs) (hy : SegW w b ys) (hn1 : n ≤ maxLen) (hm1 : m ≤ maxLen) :
    Calls Try.prog 54 #[.slice a n ca, .slice b m cb] w fun e w' => e = .returned (.bool (decide (xs = ys))) ∧ Below w.heap.size w w' := by
  unfold maxLen at hn1 hm1
  by_cases hl : n = m
  · subst hl
    go_enter Try.func54, Try.ntmps54
    go_wp2
    go_loopw [5, 13] (fun _ i wr => ∃ k : Nat, k ≤ n ∧ i = .int .i64 k ∧ xs.take k = ys.take k ∧ Below w.heap.size w wr) (fun _ i _ => n - (intOf i).toNat)
    case atStart => exact ⟨0, Nat.zero_le _, rfl, rfl, Below.refl _ _⟩
    case round =>
      obtain ⟨k, hk, rfl, htk, hb⟩ := hrel
      have HT : Hid (xs.take k = ys.take k) := htk
      clear htk
      by_cases hlt : k < n
      · have hkx : k < xs.length := by omega
        have hky : k < ys.length := by omega
        obtain ⟨b1, o1, rfl, hb1, c1, c2⟩ := hx.get hkx
        obtain ⟨b2, o2, rfl, hb2, c3, c4⟩ := hy.get hky
        have d1 := (hb.cell (p := ⟨b1, o1 + k * 2, none⟩) hb1).trans c1
        have d2 := (hb.cell (p := ⟨b1, o1 + k * 2 + 1, none⟩) hb1).trans c2
        have d3 := (hb.cell (p := ⟨b2, o2 + k * 2, none⟩) hb2).trans c3
        have d4 := (hb.cell (p := ⟨b2, o2 + k * 2 + 1, none⟩) hb2).trans c4
        have hi1 : (k : Int) < (n : Int) := by omega
        clear c1 c2 c3 c4
        go_wp2_with fail
        by_cases he : xs[k] = ys[k]
        · rw [← he] at d3 d4
          have HE : Hid (xs[k] = ys[k]) := he
          clear he
          go_region
          all_goals
            go_wp2
            go_roundw
            case rel => exact ⟨k + 1, by omega, by go_num, take_eq_succ HT.out hkx hky HE.out, hb.drew⟩
            case measure => simp [intOf]; omega
        · have HE : Hid (xs ≠ ys) := ne_at hkx hky he
          have hpp : ¬ (xs[k].1 = ys[k].1 ∧ xs[k].2 = ys[k].2) := fun e => he (Prod.ext e.1 e.2)
          clear he
          by_cases h1 : xs[k].1 = ys[k].1
          · have h2 : ¬ xs[k].2 = ys[k].2 := fun e => hpp ⟨h1, e⟩
            clear hpp
            go_region
            all_goals
              go_wp2
              go_ret
              exact ⟨by simp [HE.out], hb.drew⟩
          · clear hpp
            go_region
            all_goals
              go_wp2
              go_ret
              exact ⟨by simp [HE.out], hb.drew⟩
      · go_wp2
        go_ret
        exact ⟨by simp [take_all HT.out (by omega) (by omega)], hb⟩
  · have hne : ((n : Int) != (m : Int)) = true := by simp; omega
    go_enter Try.func54, Try.ntmps54
    go_wp2
    go_ret
    have : xs ≠ ys := fun e => hl (by rw [← hn, ← hm, e])
    exact ⟨by simp [this], Below.refl _ _⟩

end Go.Proofs.Ytcpnkpogebjieaa
