/- The program's own MemOk: letters, texts, places. -/
import Derived.Test.YtcpnkpogebjieaaOk
import Derived.Deep.QuietTactic
import Derived.BigQuiet
import Derived.Deep.RegionWith
namespace Go.Proofs.Ytcpnkpogebjieaa
open Go.RowKit

def letB (r : Int) : Bool := (decide (97 ≤ r) && decide (r ≤ 122)) || (decide (48 ≤ r) && decide (r ≤ 57))

set_option maxHeartbeats 400000 in
set_option maxRecDepth 100000 in
theorem letterOk_any (r : Int) (w : World) : Calls Try.prog 85 #[.int .i32 r] w fun e w' => e = .returned (.bool (letB r)) ∧ w' = w := by
  rcases (show (97 ≤ r ∧ r ≤ 122) ∨ (48 ≤ r ∧ r ≤ 57) ∨ r < 48 ∨ (57 < r ∧ r < 97) ∨ 122 < r from by omega) with ⟨h, h'⟩ | ⟨h, h'⟩ | h | ⟨h, h'⟩ | h
  · have E : Hid (letB r = true) := by simp [Hid, letB]; omega
    go_enter Try.func85, Try.ntmps85
    go_wp2
    go_ret
    exact ⟨ret_bool (by rw [E.out]), rfl⟩
  · have E : Hid (letB r = true) := by simp [Hid, letB]; omega
    go_enter Try.func85, Try.ntmps85
    go_wp2
    go_ret
    exact ⟨ret_bool (by rw [E.out]), rfl⟩
  · have E : Hid (letB r = false) := by simp [Hid, letB]; omega
    go_enter Try.func85, Try.ntmps85
    go_wp2
    go_ret
    exact ⟨ret_bool (by rw [E.out]), rfl⟩
  · have E : Hid (letB r = false) := by simp [Hid, letB]; omega
    have hd1 : decide (r ≤ 57) = false := by simp; omega
    go_enter Try.func85, Try.ntmps85
    go_wp2
    go_ret
    exact ⟨ret_bool (by rw [E.out]), rfl⟩
  · have E : Hid (letB r = false) := by simp [Hid, letB]; omega
    have hd1 : decide (r ≤ 57) = false := by simp; omega
    have hd2 : decide (r ≤ 122) = false := by simp; omega
    go_enter Try.func85, Try.ntmps85
    go_wp2
    go_ret
    exact ⟨ret_bool (by rw [E.out]), rfl⟩

set_option maxHeartbeats 400000 in
set_option maxRecDepth 100000 in
theorem textOk_any (t : ByteArray) (w : World) (ht : t.size ≤ maxLen) : Calls Try.prog 65 #[.string t] w fun e w' => e = .returned (.bool (textOkB t)) ∧ Below w.heap.size w w' := by
  unfold maxLen at ht
  by_cases h0 : t.size = 0
  · have E : Hid (textOkB t = false) := by simp [Hid, textOkB]; omega
    have hd : (((t.size : Nat) : Int) == 0) = true := by rw [beq_zero]; simpa using h0
    go_enter Try.func65, Try.ntmps65
    go_wp2
    go_ret
    exact ⟨ret_bool (by rw [E.out]), Below.refl _ _⟩
  have hd : (((t.size : Nat) : Int) == 0) = false := by rw [beq_zero]; simpa using h0
  by_cases h1 : 12 < t.size
  · have E : Hid (textOkB t = false) := by simp [Hid, textOkB]; omega
    go_enter Try.func65, Try.ntmps65
    go_wp2
    go_ret
    exact ⟨ret_bool (by rw [E.out]), Below.refl _ _⟩
  have hd1 : decide ((12 : Int) < (t.size : Int)) = false := by simp; omega
  go_enter Try.func65, Try.ntmps65
  go_wp2
  go_loopw [2] (fun v wr => ∃ k : Nat, k ≤ t.size ∧ v = .bool false ∧ wr = w.iter t k ∧ ∀ j (hj : j < t.data.toList.length), j < k → byteOk t.data.toList[j] = true) (fun _ wr => t.size - wr.iterPos w.heap.size)
  case atStart => exact ⟨0, Nat.zero_le _, rfl, rfl, fun j _ h => by omega⟩
  case round =>
    obtain ⟨k, hk, rfl, rfl, hall⟩ := hrel
    by_cases hlt : k < t.size
    · have hkl : k < t.data.toList.length := by simpa using hlt
      have hbe : t.data.toList[k] = t[k] := rfl
      have HB : Hid (byteOk t[k] = true → ∀ j (hj : j < t.data.toList.length), j < k + 1 → byteOk t.data.toList[j] = true) := fun h => all_succ hall hkl (by rw [hbe]; exact h)
      have HN : Hid (byteOk t[k] = false → textOkB t = false) := fun h => by
        have := not_all (f := byteOk) hkl (by rw [hbe]; exact h)
        simp only [textOkB, this, Bool.and_false]
      clear hall hbe
      by_cases ha : t[k].toNat < 128
      · have hnx : ∀ ty, (Instr.next (.pointer (some ⟨w.heap.size, 0, none⟩)) true ty).run Try.prog (w.iter t k) = _ := fun ty => run_next_ascii w t k ty hlt ha
        have HL : Hid (letB (t[k].toNat : Int) = byteOk t[k]) := by
          show _ = _
          rw [Bool.eq_iff_iff]; simp [letB, byteOk]; omega
        go_wp2_with fail
        refine (letterOk_any _ _).mono ?_
        rintro e w1 ⟨rfl, rfl⟩
        rw [HL.out]
        cases hby : byteOk t[k] with
        | true =>
          have HR := HB.out hby
          clear hby HB HN
          go_wp2
          go_roundw
          case rel => exact ⟨k + 1, by omega, rfl, rfl, HR⟩
          case measure => simp; omega
        | false =>
          have HR : Hid (textOkB t = false) := HN.out hby
          clear hby HB HN
          go_wp2
          go_ret
          exact ⟨ret_bool (by rw [HR.out]), (Below.refl _ _).alloc (Nat.le_refl _) _⟩
      · have hnx : ∀ ty, (Instr.next (.pointer (some ⟨w.heap.size, 0, none⟩)) true ty).run Try.prog (w.iter t k) = _ := fun ty => run_next_any w t k ty hlt
        obtain ⟨hr, _⟩ := decode_high t k hlt (by omega)
        have HR : Hid (textOkB t = false) := HN.out (by simp [byteOk]; omega)
        have HL : Hid (letB ((Utf8.decode t k).1 : Int) = false) := by simp [Hid, letB]; omega
        clear HB HN
        go_wp2_with fail
        refine (letterOk_any _ _).mono ?_
        rintro e w1 ⟨rfl, rfl⟩
        rw [HL.out]
        go_wp2
        go_ret
        exact ⟨ret_bool (by rw [HR.out]), (Below.refl _ _).alloc (Nat.le_refl _) _⟩
    · have E : Hid (textOkB t = true) := by
        have := all_of (f := byteOk) (fun i hi => hall i hi (by simp at hi; omega))
        simp only [Hid, textOkB, this]; simp; omega
      have hnx : ∀ ty, (Instr.next (.pointer (some ⟨w.heap.size, 0, none⟩)) true ty).run Try.prog (w.iter t k) = _ := fun ty => run_next_end w t k ty hlt
      clear hall
      go_wp2
      go_ret
      exact ⟨ret_bool (by rw [E.out]), (Below.refl _ _).alloc (Nat.le_refl _) _⟩

def plB (p n : Int) : Bool := decide (0 ≤ p) && decide (p < n)

set_option maxHeartbeats 400000 in
set_option maxRecDepth 100000 in
theorem placeOk_any (p n : Int) (w : World) : Calls Try.prog 67 #[.int .i64 p, .int .i64 n] w fun e w' => e = .returned (.bool (plB p n)) ∧ w' = w := by
  by_cases h1 : 0 ≤ p
  · have E : Hid (plB p n = decide (p < n)) := by simp [Hid, plB, h1]
    go_enter Try.func67, Try.ntmps67
    go_wp2
    go_ret
    exact ⟨ret_bool (by rw [E.out]), rfl⟩
  · have E : Hid (plB p n = false) := by simp [Hid, plB, h1]
    have hd : decide (0 ≤ p) = false := by simpa using h1
    go_enter Try.func67, Try.ntmps67
    go_wp2
    go_ret
    exact ⟨ret_bool (by rw [E.out]), rfl⟩

theorem in_m1 (n : Int) : inB (-1) (-1) (n - 1) = decide (0 ≤ n) := by
  rw [Bool.eq_iff_iff]; simp [inB]; omega
theorem in_pl {p : Int} (n : Int) (h : p ≠ -1) : inB p (-1) (n - 1) = plB p n := by
  rw [Bool.eq_iff_iff]; simp [inB, plB]; omega

set_option maxHeartbeats 400000 in
set_option maxRecDepth 100000 in
theorem placesOk_any (a : Option Addr) (n cap : Nat) (r : List Int) (most : Int) (w : World) (hl : r.length = n) (hn : n ≤ maxLen) (h : SegI w a r) (m0 : 0 ≤ most) :
    Calls Try.prog 30 #[.slice a n cap, .int .i64 most] w fun e w' => e = .returned (.bool (refsOk most r)) ∧ w' = w := by
  unfold maxLen at hn
  go_enter Try.func30, Try.ntmps30
  go_wp2
  go_loop [6, 9] (fun _ i => ∃ j : Nat, j ≤ n ∧ i = .int .i64 j ∧ ∀ x (hx : x < r.length), x < j → inB r[x] (-1) (most - 1) = true) (fun _ i => n - (intOf i).toNat)
  case atStart => exact ⟨0, Nat.zero_le _, rfl, fun j _ h => by omega⟩
  case round =>
    obtain ⟨j, hj, rfl, hall⟩ := hrel
    by_cases hlt : j < n
    · have hjl : j < r.length := by omega
      obtain ⟨b, off, rfl, hbw, c1⟩ := h.get hjl
      have HA : Hid (∀ x (hx : x < r.length), x < j → inB r[x] (-1) (most - 1) = true) := hall
      clear hall
      by_cases hm : r[j] = -1
      · have HR : Hid (∀ x (hx : x < r.length), x < j + 1 → inB r[x] (-1) (most - 1) = true) := all_succ (f := fun z => inB z (-1) (most - 1)) HA.out hjl (by rw [hm, in_m1]; simpa using m0)
        have hd : (r[j] != -1) = false := by simpa using hm
        clear hm
        go_wp2
        go_round
        case rel => exact ⟨j + 1, by omega, by go_num, HR.out⟩
        case measure => simp [intOf]; omega
      · have HP : Hid (inB r[j] (-1) (most - 1) = plB r[j] most) := in_pl most hm
        have hd : (r[j] != -1) = true := by simpa using hm
        clear hm
        go_wp2_with fail
        refine (placeOk_any _ _ _).mono ?_
        rintro e w1 ⟨rfl, rfl⟩
        cases hin : plB r[j] most with
        | false =>
          have HF : Hid (refsOk most r = false) := not_all (f := fun z => inB z (-1) (most - 1)) hjl (by rw [HP.out, hin])
          clear hin
          go_wp2
          go_ret
          exact ⟨ret_bool (by rw [HF.out]), rfl⟩
        | true =>
          have HR : Hid (∀ x (hx : x < r.length), x < j + 1 → inB r[x] (-1) (most - 1) = true) := all_succ (f := fun z => inB z (-1) (most - 1)) HA.out hjl (by rw [HP.out, hin])
          clear hin
          go_wp2
          go_round
          case rel => exact ⟨j + 1, by omega, by go_num, HR.out⟩
          case measure => simp [intOf]; omega
    · have HF : Hid (refsOk most r = true) := all_of (f := fun z => inB z (-1) (most - 1)) (fun i hi => hall i hi (by omega))
      clear hall
      go_wp2
      go_ret
      exact ⟨ret_bool (by rw [HF.out]), rfl⟩
end Go.Proofs.Ytcpnkpogebjieaa
