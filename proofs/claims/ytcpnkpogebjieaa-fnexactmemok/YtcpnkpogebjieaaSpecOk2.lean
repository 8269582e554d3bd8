/- The specification's own MemOk, object by object. -/
import Derived.Test.YtcpnkpogebjieaaSpecOk
namespace Go.Proofs.Ytcpnkpogebjieaa
open Go.RowKit

set_option maxHeartbeats 800000 in
set_option maxRecDepth 100000 in
theorem l1ObjOk_any (k : Int) (t : ByteArray) (a : Option Addr) (n cap : Nat) (r : List Int) (most : Int) (w : World) (hl : r.length = n) (hn : n ≤ maxLen) (ht : t.size ≤ maxLen) (h : SegI w a r) (m0 : 0 ≤ most) (m1 : most ≤ 1048576) :
    Calls Try.prog 32 #[.agg #[.int .i64 k, .string t, .slice a n cap], .int .i64 most] w fun e w' => e = .returned (.bool (objOk most (k, t, r))) ∧ Below w.heap.size w w' := by
  have hn1 := hn
  unfold maxLen at hn1
  go_enter Try.func32, Try.ntmps32
  go_wp2
  go_loop [5] (fun i => ∃ j : Nat, j ≤ n ∧ i = .int .i64 j ∧ ∀ x (hx : x < r.length), x < j → inB r[x] (-1) (most - 1) = true) (fun i => n - (intOf i).toNat)
  case atStart => exact ⟨0, Nat.zero_le _, rfl, fun j _ h => by omega⟩
  case round =>
    obtain ⟨j, hj, rfl, hall⟩ := hrel
    by_cases hlt : j < n
    · have hjl : j < r.length := by omega
      obtain ⟨b, off, rfl, hbw, c1⟩ := h.get hjl
      have HA : Hid (∀ x (hx : x < r.length), x < j → inB r[x] (-1) (most - 1) = true) := hall
      clear hall
      go_wp2_with fail
      refine (l1In_any _ _ _ _).mono ?_
      rintro e w1 ⟨rfl, rfl⟩
      cases hin : inB r[j] (-1) (most - 1) with
      | false =>
        have HF : Hid (objOk most (k, t, r) = false) := by
          show objOk most (k, t, r) = false
          simp only [objOk, refsOk]
          rw [not_all (f := fun z => inB z (-1) (most - 1)) hjl hin]; rfl
        clear hin
        go_wp2
        go_ret
        exact ⟨by rw [HF.out]; rfl, (Below.refl _ _).alloc (Nat.le_refl _) _⟩
      | true =>
        have HR : Hid (∀ x (hx : x < r.length), x < j + 1 → inB r[x] (-1) (most - 1) = true) := all_succ (f := fun z => inB z (-1) (most - 1)) HA.out hjl hin
        clear hin
        go_wp2
        go_round
        case rel => exact ⟨j + 1, by omega, by go_num, HR.out⟩
        case measure => simp [intOf]; omega
    · have hr : refsOk most r = true := all_of (fun i hi => hall i hi (by omega))
      have HO : Hid (objOk most (k, t, r) = kindOk k t n) := by
        show _ = _
        simp only [objOk, hr, hl, Bool.true_and]
      have hnl : decide ((j : Int) < (n : Int)) = false := by simp; omega
      clear hall hr
      by_cases h1 : k = 1
      · subst h1
        go_wp2_with fail
        refine (l1TextOk_any _ _ ht).mono ?_
        rintro e w1 ⟨rfl, rfl⟩
        cases htx : textOkB t with
        | false =>
          have HK : Hid (kindOk 1 t n = false) := by simp [Hid, kindOk, htx]
          clear htx
          go_wp2
          go_ret
          exact ⟨by rw [HO.out, HK.out]; rfl, (Below.refl _ _).alloc (Nat.le_refl _) _⟩
        | true =>
          have HK : Hid (kindOk 1 t n = decide (n = 0)) := by simp [Hid, kindOk, htx]
          clear htx
          go_wp2
          go_ret
          exact ⟨ret_bool (by rw [HO.out, HK.out, beq_zero]), (Below.refl _ _).alloc (Nat.le_refl _) _⟩
      · by_cases h2 : k = 2
        · subst h2
          go_wp2
          · have hz := nil_size (t := t) (by assumption)
            have HK : kindOk 2 t n = decide (n ≤ 6) := by simp [kindOk, hz]
            go_ret
            exact ⟨ret_bool (by rw [HO.out, HK, le_six]), (Below.refl _ _).alloc (Nat.le_refl _) _⟩
          · have hz : t.size ≠ 0 := fun e => absurd (size_nil e) (by assumption)
            have HK : kindOk 2 t n = false := by simp [kindOk, hz]
            go_ret
            exact ⟨ret_bool (by rw [HO.out, HK]), (Below.refl _ _).alloc (Nat.le_refl _) _⟩
        · by_cases h3 : k = 3
          · subst h3
            go_wp2
            · have hz := nil_size (t := t) (by assumption)
              have HK : kindOk 3 t n = decide (n = 2) := by simp [kindOk, hz]
              go_ret
              exact ⟨ret_bool (by rw [HO.out, HK, beq_two]), (Below.refl _ _).alloc (Nat.le_refl _) _⟩
            · have hz : t.size ≠ 0 := fun e => absurd (size_nil e) (by assumption)
              have HK : kindOk 3 t n = false := by simp [kindOk, hz]
              go_ret
              exact ⟨ret_bool (by rw [HO.out, HK]), (Below.refl _ _).alloc (Nat.le_refl _) _⟩
          · by_cases h4 : k = 4
            · subst h4
              go_wp2
              · have hz := nil_size (t := t) (by assumption)
                have HK : kindOk 4 t n = decide (n = 0) := by simp [kindOk, hz]
                go_ret
                exact ⟨ret_bool (by rw [HO.out, HK, beq_zero]), (Below.refl _ _).alloc (Nat.le_refl _) _⟩
              · have hz : t.size ≠ 0 := fun e => absurd (size_nil e) (by assumption)
                have HK : kindOk 4 t n = false := by simp [kindOk, hz]
                go_ret
                exact ⟨ret_bool (by rw [HO.out, HK]), (Below.refl _ _).alloc (Nat.le_refl _) _⟩
            · have g1 : (k == 1) = false := by simpa using h1
              have g2 : (k == 2) = false := by simpa using h2
              have g3 : (k == 3) = false := by simpa using h3
              have g4 : (k == 4) = false := by simpa using h4
              have HK : Hid (kindOk k t n = false) := by simp [Hid, kindOk, h1, h2, h3, h4]
              clear h1 h2 h3 h4
              go_wp2
              go_ret
              exact ⟨ret_bool (by rw [HO.out, HK.out]), (Below.refl _ _).alloc (Nat.le_refl _) _⟩
end Go.Proofs.Ytcpnkpogebjieaa
