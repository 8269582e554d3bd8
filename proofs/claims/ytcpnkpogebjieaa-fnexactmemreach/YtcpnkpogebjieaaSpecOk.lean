/- The specification's own MemOk: it answers whether the heap is ok, and changes nothing that was there. -/
import Derived.Test.YtcpnkpogebjieaaOk
import Derived.Deep.QuietTactic
import Derived.BigQuiet
import Derived.Deep.RegionWith
namespace Go.Proofs.Ytcpnkpogebjieaa
open Go.RowKit

set_option maxHeartbeats 400000 in
set_option maxRecDepth 100000 in
theorem l1In_any (n lo hi : Int) (w : World) : Calls Try.prog 33 #[.int .i64 n, .int .i64 lo, .int .i64 hi] w fun e w' => e = .returned (.bool (inB n lo hi)) ∧ w' = w := by
  by_cases h1 : lo ≤ n
  · by_cases h2 : n ≤ hi
    · have e : inB n lo hi = true := by simp [inB, h1, h2]
      have E : Hid (inB n lo hi = true) := e
      clear e
      go_enter Try.func33, Try.ntmps33
      go_wp2
      go_ret
      exact ⟨by rw [E.out]; simp [*], rfl⟩
    · have e : inB n lo hi = false := by simp [inB, h2]
      have E : Hid (inB n lo hi = false) := e
      clear e
      go_enter Try.func33, Try.ntmps33
      go_wp2
      go_ret
      exact ⟨by rw [E.out]; simp [*], rfl⟩
  · have e : inB n lo hi = false := by simp [inB, h1]
    have E : Hid (inB n lo hi = false) := e
    clear e
    go_enter Try.func33, Try.ntmps33
    go_wp2
    go_ret
    exact ⟨by rw [E.out]; rfl, rfl⟩

set_option maxHeartbeats 400000 in
set_option maxRecDepth 100000 in
theorem l1TextOk_any (t : ByteArray) (w : World) (ht : t.size ≤ maxLen) : Calls Try.prog 68 #[.string t] w fun e w' => e = .returned (.bool (textOkB t)) ∧ w' = w := by
  unfold maxLen at ht
  go_enter Try.func68, Try.ntmps68
  go_wp2_with fail
  refine (l1In_any _ _ _ _).mono ?_
  rintro e w1 ⟨rfl, rfl⟩
  cases hin : inB (t.size : Int) 1 12 with
  | false =>
    go_wp2
    go_ret
    have e : textOkB t = false := by simp [inB] at hin; simp [textOkB]; omega
    exact ⟨by rw [e]; rfl, rfl⟩
  | true =>
    have hin1 : 1 ≤ t.size ∧ t.size ≤ 12 := by simp [inB] at hin; omega
    have HI : Hid (inB (t.size : Int) 1 12 = true) := hin
    clear hin
    go_wp2
    go_loop [3] (fun i => ∃ k : Nat, k ≤ t.size ∧ i = .int .i64 k ∧ ∀ j (hj : j < t.data.toList.length), j < k → byteOk t.data.toList[j] = true) (fun i => t.size - (intOf i).toNat)
    case atStart => exact ⟨0, Nat.zero_le _, rfl, fun j _ h => by omega⟩
    case round =>
      obtain ⟨k, hk, rfl, hall⟩ := hrel
      by_cases hlt : k < t.size
      · have hkl : k < t.data.toList.length := by simpa using hlt
        have hbe : t.data.toList[k] = t[k] := rfl
        have HB : Hid (byteOk t[k] = true → ∀ j (hj : j < t.data.toList.length), j < k + 1 → byteOk t.data.toList[j] = true) := fun h => all_succ hall hkl (by rw [hbe]; exact h)
        have HN : Hid (byteOk t[k] = false → textOkB t = false) := fun h => by
          have := not_all (f := byteOk) hkl (by rw [hbe]; exact h)
          simp only [textOkB, this, Bool.and_false]
        clear hall hbe
        rcases (show (97 ≤ (t[k].toNat : Int) ∧ (t[k].toNat : Int) ≤ 122) ∨ (48 ≤ (t[k].toNat : Int) ∧ (t[k].toNat : Int) ≤ 57) ∨ ((t[k].toNat : Int) < 48) ∨ (57 < (t[k].toNat : Int) ∧ (t[k].toNat : Int) < 97) ∨ 122 < (t[k].toNat : Int) from by omega) with ⟨h, h'⟩ | ⟨h, h'⟩ | h | ⟨h, h'⟩ | h
        · have hy : byteOk t[k] = true := by simp [byteOk]; omega
          have HR := HB.out hy
          clear hy HB HN
          go_wp2
          go_round
          case rel => exact ⟨k + 1, by omega, by go_num, HR⟩
          case measure => simp [intOf]; omega
        · have hy : byteOk t[k] = true := by simp [byteOk]; omega
          have HR := HB.out hy
          clear hy HB HN
          go_wp2
          go_round
          case rel => exact ⟨k + 1, by omega, by go_num, HR⟩
          case measure => simp [intOf]; omega
        · have hy : byteOk t[k] = false := by simp [byteOk]; omega
          have HR : Hid (textOkB t = false) := HN.out hy
          clear hy HB HN
          go_wp2
          go_ret
          exact ⟨by rw [HR.out]; rfl, rfl⟩
        · have hy : byteOk t[k] = false := by simp [byteOk]; omega
          have HR : Hid (textOkB t = false) := HN.out hy
          have hd1 : decide ((t[k].toNat : Int) ≤ 57) = false := by simp; omega
          clear hy HB HN
          go_wp2
          go_ret
          exact ⟨by rw [HR.out]; rfl, rfl⟩
        · have hy : byteOk t[k] = false := by simp [byteOk]; omega
          have HR : Hid (textOkB t = false) := HN.out hy
          have hd1 : decide ((t[k].toNat : Int) ≤ 57) = false := by simp; omega
          have hd2 : decide ((t[k].toNat : Int) ≤ 122) = false := by simp; omega
          clear hy HB HN
          go_wp2
          go_ret
          exact ⟨by rw [HR.out]; rfl, rfl⟩
      · go_wp2
        go_ret
        have e : textOkB t = true := by
          have := all_of (f := byteOk) (fun i hi => hall i hi (by simp at hi; omega))
          simp only [textOkB, this]; simp; omega
        exact ⟨by rw [e]; rfl, rfl⟩
end Go.Proofs.Ytcpnkpogebjieaa
