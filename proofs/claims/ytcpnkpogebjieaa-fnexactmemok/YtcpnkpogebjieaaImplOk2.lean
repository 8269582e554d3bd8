/- The program's own MemOk: an object as its kind has it. -/
import Derived.Test.YtcpnkpogebjieaaImplOk1
namespace Go.Proofs.Ytcpnkpogebjieaa
open Go.RowKit

/-- The value of thingOf. -/
def thingV (k : Int) (t : ByteArray) (a : Option Addr) (n cap : Nat) (r : List Int) : Value :=
  if k = 1 ∧ n = 0 then .iface 91 (.agg #[.string t])
  else if t.size ≠ 0 then .nilIface
  else if k = 2 then .iface 94 (.agg #[.slice a n cap])
  else if k = 3 ∧ n = 2 then .iface 97 (.agg #[.int .i64 (r.getD 0 0), .int .i64 (r.getD 1 0)])
  else if k = 4 ∧ n = 0 then .iface 99 (.agg #[])
  else .nilIface

theorem ret_eq {a b : Value} (h : a = b) : Ending.returned a = .returned b := by rw [h]

set_option maxHeartbeats 800000 in
set_option maxRecDepth 100000 in
theorem thingOf_any (k : Int) (t : ByteArray) (a : Option Addr) (n cap : Nat) (r : List Int) (w : World) (hl : r.length = n) (h : SegI w a r) :
    Calls Try.prog 29 #[.agg #[.int .i64 k, .string t, .slice a n cap]] w fun e w' => e = .returned (thingV k t a n cap r) ∧ Below w.heap.size w w' := by
  by_cases h1 : k = 1
  · subst h1
    by_cases h0 : n = 0
    · subst h0
      have E : Hid (thingV 1 t a 0 cap r = .iface 91 (.agg #[.string t])) := by simp [Hid, thingV]
      go_enter Try.func29, Try.ntmps29
      go_wp2
      go_ret
      exact ⟨ret_eq (by rw [E.out]; rfl), (Below.refl _ _).alloc (Nat.le_refl _) _⟩
    · have hd : ((n : Int) == 0) = false := by rw [beq_zero]; simpa using h0
      have E : Hid (thingV 1 t a n cap r = .nilIface) := by simp [Hid, thingV, h0]
      go_enter Try.func29, Try.ntmps29
      go_wp2
      all_goals go_ret
      all_goals exact ⟨ret_eq (by rw [E.out]; rfl), (Below.refl _ _).alloc (Nat.le_refl _) _⟩
  have g1 : (k == 1) = false := by simpa using h1
  by_cases ht : t.size = 0
  · have ht' := size_nil ht
    by_cases h2 : k = 2
    · subst h2
      have E : Hid (thingV 2 t a n cap r = .iface 94 (.agg #[.slice a n cap])) := by simp [Hid, thingV, ht]
      clear ht
      go_enter Try.func29, Try.ntmps29
      go_wp2
      go_ret
      exact ⟨ret_eq (by rw [E.out]; rfl), (Below.refl _ _).alloc (Nat.le_refl _) _⟩
    have g2 : (k == 2) = false := by simpa using h2
    by_cases h3 : k = 3
    · subst h3
      by_cases h0 : n = 2
      · subst h0
        have q0 : 0 < r.length := by omega
        have q1 : 1 < r.length := by omega
        obtain ⟨b, off, rfl, hbw, hc⟩ := h q0
        have c0 : w.cell? ⟨b, off, none⟩ = some (.int .i64 r[0]) := (hc 0 q0).trans (by simp [List.getD, q0])
        have c1 : w.cell? ⟨b, off + 1, none⟩ = some (.int .i64 r[1]) := (hc 1 q1).trans (by simp [List.getD, q1])
        have E : Hid (thingV 3 t (some ⟨b, off, none⟩) 2 cap r = .iface 97 (.agg #[.int .i64 r[0], .int .i64 r[1]])) := by simp [Hid, thingV, ht, q0, q1]
        clear ht hc h
        go_enter Try.func29, Try.ntmps29
        go_wp2_with fail
        go_quiet (fail)
        go_wp2
        go_ret
        exact ⟨ret_eq (by rw [E.out]; rfl), bdrewN ((Below.refl _ _).alloc (Nat.le_refl _) _) _⟩
      · have hd : ((n : Int) == 2) = false := by rw [beq_two]; simpa using h0
        have E : Hid (thingV 3 t a n cap r = .nilIface) := by simp [Hid, thingV, h0, ht]
        clear ht
        go_enter Try.func29, Try.ntmps29
        go_wp2
        go_ret
        exact ⟨ret_eq (by rw [E.out]; rfl), (Below.refl _ _).alloc (Nat.le_refl _) _⟩
    have g3 : (k == 3) = false := by simpa using h3
    by_cases h4 : k = 4
    · subst h4
      by_cases h0 : n = 0
      · subst h0
        have E : Hid (thingV 4 t a 0 cap r = .iface 99 (.agg #[])) := by simp [Hid, thingV, ht]
        clear ht
        go_enter Try.func29, Try.ntmps29
        go_wp2
        go_ret
        exact ⟨ret_eq (by rw [E.out]; rfl), (Below.refl _ _).alloc (Nat.le_refl _) _⟩
      · have hd : ((n : Int) == 0) = false := by rw [beq_zero]; simpa using h0
        have E : Hid (thingV 4 t a n cap r = .nilIface) := by simp [Hid, thingV, h0, ht]
        clear ht
        go_enter Try.func29, Try.ntmps29
        go_wp2
        go_ret
        exact ⟨ret_eq (by rw [E.out]; rfl), (Below.refl _ _).alloc (Nat.le_refl _) _⟩
    have g4 : (k == 4) = false := by simpa using h4
    have E : Hid (thingV k t a n cap r = .nilIface) := by simp [Hid, thingV, h1, h2, h3, h4]
    clear ht h1 h2 h3 h4
    go_enter Try.func29, Try.ntmps29
    go_wp2
    go_ret
    exact ⟨ret_eq (by rw [E.out]; rfl), (Below.refl _ _).alloc (Nat.le_refl _) _⟩
  · have ht' : ¬ t.toList = [] := fun e => ht (nil_size e)
    have ht2 : t.toList.isEmpty = false := by simpa using ht'
    have E : Hid (thingV k t a n cap r = .nilIface) := by simp [Hid, thingV, h1, ht]
    clear ht h1
    go_enter Try.func29, Try.ntmps29
    go_wp2
    go_ret
    exact ⟨ret_eq (by rw [E.out]; rfl), (Below.refl _ _).alloc (Nat.le_refl _) _⟩

end Go.Proofs.Ytcpnkpogebjieaa
