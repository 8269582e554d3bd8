/- The program's own MemOk: whether a thing may stand in a heap. -/
import Derived.Test.YtcpnkpogebjieaaImplOk2
namespace Go.Proofs.Ytcpnkpogebjieaa
open Go.RowKit

theorem taDD (x : Value) (w : World) : (Instr.typeAssert (.iface 91 x) 55 91 true).run Try.prog w = .ok (.tuple #[x, .bool true]) w := by kernel_rfl
theorem taDC (x : Value) (w : World) : (Instr.typeAssert (.iface 91 x) 55 94 true).run Try.prog w = .ok (.tuple #[.agg #[.slice none 0 0], .bool false]) w := by kernel_rfl
theorem taDW (x : Value) (w : World) : (Instr.typeAssert (.iface 91 x) 55 97 true).run Try.prog w = .ok (.tuple #[.agg #[.int .i64 0, .int .i64 0], .bool false]) w := by kernel_rfl
theorem taDG (x : Value) (w : World) : (Instr.typeAssert (.iface 91 x) 55 99 true).run Try.prog w = .ok (.tuple #[.agg #[], .bool false]) w := by kernel_rfl
theorem taCD (x : Value) (w : World) : (Instr.typeAssert (.iface 94 x) 55 91 true).run Try.prog w = .ok (.tuple #[.agg #[.string ⟨#[]⟩], .bool false]) w := by kernel_rfl
theorem taCC (x : Value) (w : World) : (Instr.typeAssert (.iface 94 x) 55 94 true).run Try.prog w = .ok (.tuple #[x, .bool true]) w := by kernel_rfl
theorem taCW (x : Value) (w : World) : (Instr.typeAssert (.iface 94 x) 55 97 true).run Try.prog w = .ok (.tuple #[.agg #[.int .i64 0, .int .i64 0], .bool false]) w := by kernel_rfl
theorem taCG (x : Value) (w : World) : (Instr.typeAssert (.iface 94 x) 55 99 true).run Try.prog w = .ok (.tuple #[.agg #[], .bool false]) w := by kernel_rfl
theorem taWD (x : Value) (w : World) : (Instr.typeAssert (.iface 97 x) 55 91 true).run Try.prog w = .ok (.tuple #[.agg #[.string ⟨#[]⟩], .bool false]) w := by kernel_rfl
theorem taWC (x : Value) (w : World) : (Instr.typeAssert (.iface 97 x) 55 94 true).run Try.prog w = .ok (.tuple #[.agg #[.slice none 0 0], .bool false]) w := by kernel_rfl
theorem taWW (x : Value) (w : World) : (Instr.typeAssert (.iface 97 x) 55 97 true).run Try.prog w = .ok (.tuple #[x, .bool true]) w := by kernel_rfl
theorem taWG (x : Value) (w : World) : (Instr.typeAssert (.iface 97 x) 55 99 true).run Try.prog w = .ok (.tuple #[.agg #[], .bool false]) w := by kernel_rfl
theorem taGD (x : Value) (w : World) : (Instr.typeAssert (.iface 99 x) 55 91 true).run Try.prog w = .ok (.tuple #[.agg #[.string ⟨#[]⟩], .bool false]) w := by kernel_rfl
theorem taGC (x : Value) (w : World) : (Instr.typeAssert (.iface 99 x) 55 94 true).run Try.prog w = .ok (.tuple #[.agg #[.slice none 0 0], .bool false]) w := by kernel_rfl
theorem taGW (x : Value) (w : World) : (Instr.typeAssert (.iface 99 x) 55 97 true).run Try.prog w = .ok (.tuple #[.agg #[.int .i64 0, .int .i64 0], .bool false]) w := by kernel_rfl
theorem taGG (x : Value) (w : World) : (Instr.typeAssert (.iface 99 x) 55 99 true).run Try.prog w = .ok (.tuple #[x, .bool true]) w := by kernel_rfl
theorem taND (w : World) : (Instr.typeAssert .nilIface 55 91 true).run Try.prog w = .ok (.tuple #[.agg #[.string ⟨#[]⟩], .bool false]) w := by kernel_rfl
theorem taNC (w : World) : (Instr.typeAssert .nilIface 55 94 true).run Try.prog w = .ok (.tuple #[.agg #[.slice none 0 0], .bool false]) w := by kernel_rfl
theorem taNW (w : World) : (Instr.typeAssert .nilIface 55 97 true).run Try.prog w = .ok (.tuple #[.agg #[.int .i64 0, .int .i64 0], .bool false]) w := by kernel_rfl
theorem taNG (w : World) : (Instr.typeAssert .nilIface 55 99 true).run Try.prog w = .ok (.tuple #[.agg #[], .bool false]) w := by kernel_rfl

set_option maxHeartbeats 800000 in
set_option maxRecDepth 100000 in
theorem thingOk_data (t : ByteArray) (most : Int) (w : World) (ht : t.size ≤ maxLen) :
    Calls Try.prog 28 #[.iface 91 (.agg #[.string t]), .int .i64 most] w fun e w' => e = .returned (.bool (textOkB t)) ∧ Below w.heap.size w w' := by
  have f1 := taDD
  go_enter Try.func28, Try.ntmps28
  go_wp2_with fail
  refine (textOk_any _ _ ht).mono ?_
  rintro e w1 ⟨rfl, hb⟩
  go_wp2
  go_ret
  exact ⟨rfl, ((Below.refl _ _).alloc (Nat.le_refl _) _).trans (hb.mono (by simp))⟩

set_option maxHeartbeats 800000 in
set_option maxRecDepth 100000 in
theorem thingOk_nil (most : Int) (w : World) :
    Calls Try.prog 28 #[.nilIface, .int .i64 most] w fun e w' => e = .returned (.bool false) ∧ Below w.heap.size w w' := by
  have f1 := taND
  have f2 := taNC
  have f3 := taNW
  have f4 := taNG
  go_enter Try.func28, Try.ntmps28
  go_wp2
  go_ret
  exact ⟨rfl, Below.refl _ _⟩

set_option maxHeartbeats 800000 in
set_option maxRecDepth 100000 in
theorem cellParts_any (a : Option Addr) (n cap : Nat) (w : World) :
    Calls Try.prog 66 #[.agg #[.slice a n cap]] w fun e w' => e = .returned (.slice a n cap) ∧ Below w.heap.size w w' := by
  go_enter Try.func66, Try.ntmps66
  go_wp2
  go_ret
  exact ⟨rfl, (Below.refl _ _).alloc (Nat.le_refl _) _⟩

set_option maxHeartbeats 800000 in
set_option maxRecDepth 100000 in
theorem thingOk_cell (a : Option Addr) (n cap : Nat) (r : List Int) (most : Int) (w : World) (hl : r.length = n) (hn : n ≤ maxLen) (h : SegI w a r) (m0 : 0 ≤ most) :
    Calls Try.prog 28 #[.iface 94 (.agg #[.slice a n cap]), .int .i64 most] w fun e w' => e = .returned (.bool (decide (n ≤ 6) && refsOk most r)) ∧ Below w.heap.size w w' := by
  have f1 := taCD
  have f2 := taCC
  have hB0 : Below w.heap.size w (w.alloc (Obj.cells #[Value.slice a n cap] 94)) := (Below.refl _ _).alloc (Nat.le_refl _) _
  by_cases h6 : n ≤ 6
  · have E : Hid ((decide (n ≤ 6) && refsOk most r) = refsOk most r) := by simp [Hid, h6]
    go_enter Try.func28, Try.ntmps28
    go_wp2_with fail
    refine (cellParts_any _ _ _ _).mono ?_
    rintro e w1 ⟨rfl, hb⟩
    have hbb := hB0.trans (hb.mono hB0.size)
    clear hb hB0
    go_wp2_with fail
    refine (placesOk_any a n cap r most _ hl hn (h.below hbb (Nat.le_refl _)) m0).mono ?_
    rintro e w2 ⟨rfl, rfl⟩
    go_wp2
    go_ret
    exact ⟨ret_bool E.out.symm, hbb⟩
  · have hd : decide ((n : Int) ≤ 6) = false := by simp; omega
    have E : Hid ((decide (n ≤ 6) && refsOk most r) = false) := by simp [Hid, h6]
    go_enter Try.func28, Try.ntmps28
    go_wp2
    go_ret
    exact ⟨ret_bool E.out.symm, hB0⟩

theorem methG (x : Value) (w : World) : (method 254 99 x "loop.example/sismem/impl.parts").run Try.prog w = .ok (124, x) w := by kernel_rfl
theorem methW (x : Value) (w : World) : (method 254 97 x "loop.example/sismem/impl.parts").run Try.prog w = .ok (123, x) w := by kernel_rfl

set_option maxHeartbeats 800000 in
set_option maxRecDepth 100000 in
theorem guardParts_any (w : World) :
    Calls Try.prog 124 #[.agg #[]] w fun e w' => e = .returned (.slice none 0 0) ∧ Below w.heap.size w w' := by
  go_enter Try.func124, Try.ntmps124
  go_wp2
  go_ret
  exact ⟨rfl, (Below.refl _ _).alloc (Nat.le_refl _) _⟩

set_option maxHeartbeats 800000 in
set_option maxRecDepth 100000 in
theorem weakParts_any (x y : Int) (w : World) :
    Calls Try.prog 123 #[.agg #[.int .i64 x, .int .i64 y]] w fun e w' => e = .returned (.slice (some ⟨w.heap.size + 1, 0, none⟩) 2 2) ∧ Below w.heap.size w w' ∧ SegI w' (some ⟨w.heap.size + 1, 0, none⟩) [x, y] := by
  go_enter Try.func123, Try.ntmps123
  go_wp2
  go_ret
  refine ⟨rfl, ((Below.refl _ _).alloc (Nat.le_refl _) _).alloc (by simp) _, ?_⟩
  have hk := Blk.new (w.alloc (.cells #[.int .i64 x, .int .i64 y] 97)) ([x, y].map (Value.int .i64)) 3
  have := hk.segI
  simpa using this

set_option maxHeartbeats 800000 in
set_option maxRecDepth 100000 in
theorem thingOk_guard (most : Int) (w : World) (m0 : 0 ≤ most) :
    Calls Try.prog 28 #[.iface 99 (.agg #[]), .int .i64 most] w fun e w' => e = .returned (.bool true) ∧ Below w.heap.size w w' := by
  have f1 := taGD
  have f2 := taGC
  have f3 := taGW
  have f4 := taGG
  have f5 := methG
  go_enter Try.func28, Try.ntmps28
  go_wp2_with fail
  refine (guardParts_any _).mono ?_
  rintro e w1 ⟨rfl, hb⟩
  go_wp2_with fail
  refine (placesOk_any none 0 0 [] most _ rfl (Nat.zero_le _) (fun h => by simp at h) m0).mono ?_
  rintro e w2 ⟨rfl, rfl⟩
  go_wp2
  go_ret
  exact ⟨rfl, hb⟩

set_option maxHeartbeats 800000 in
set_option maxRecDepth 100000 in
theorem thingOk_weak (x y : Int) (most : Int) (w : World) (m0 : 0 ≤ most) :
    Calls Try.prog 28 #[.iface 97 (.agg #[.int .i64 x, .int .i64 y]), .int .i64 most] w fun e w' => e = .returned (.bool (refsOk most [x, y])) ∧ Below w.heap.size w w' := by
  have f1 := taWD
  have f2 := taWC
  have f3 := taWW
  have f4 := taWG
  have f5 := methW
  go_enter Try.func28, Try.ntmps28
  go_wp2_with fail
  refine (weakParts_any _ _ _).mono ?_
  rintro e w1 ⟨rfl, hb, hs⟩
  go_wp2_with fail
  refine (placesOk_any _ 2 2 [x, y] most _ rfl (by unfold maxLen; omega) hs m0).mono ?_
  rintro e w2 ⟨rfl, rfl⟩
  go_wp2
  go_ret
  exact ⟨rfl, hb⟩

/-- What thingOk says of what thingOf gives. -/
theorem thingOk_of (k : Int) (t : ByteArray) (a : Option Addr) (n cap : Nat) (r : List Int) (most : Int) (w : World) (hl : r.length = n) (hn : n ≤ maxLen) (ht : t.size ≤ maxLen) (h : SegI w a r) (m0 : 0 ≤ most) :
    Calls Try.prog 28 #[thingV k t a n cap r, .int .i64 most] w fun e w' => e = .returned (.bool (objOk most (k, t, r))) ∧ Below w.heap.size w w' := by
  subst hl
  by_cases h1 : k = 1 ∧ r.length = 0
  · obtain ⟨rfl, hr⟩ := h1
    have hr' : r = [] := List.eq_nil_of_length_eq_zero hr
    subst hr'
    have e : objOk most (1, t, []) = textOkB t := by simp [objOk, refsOk, kindOk]
    rw [e]
    have e2 : thingV 1 t a ([] : List Int).length cap [] = .iface 91 (.agg #[.string t]) := by simp [thingV]
    rw [e2]
    exact thingOk_data t most w ht
  · have e1 : thingV k t a r.length cap r = if t.size ≠ 0 then .nilIface else if k = 2 then .iface 94 (.agg #[.slice a r.length cap]) else if k = 3 ∧ r.length = 2 then .iface 97 (.agg #[.int .i64 (r.getD 0 0), .int .i64 (r.getD 1 0)]) else if k = 4 ∧ r.length = 0 then .iface 99 (.agg #[]) else .nilIface := by
      unfold thingV
      rw [if_neg h1]
    rw [e1]
    by_cases hz : t.size = 0
    · rw [if_neg (by simpa using hz)]
      by_cases h2 : k = 2
      · subst h2
        rw [if_pos rfl]
        have e : objOk most (2, t, r) = (decide (r.length ≤ 6) && refsOk most r) := by simp [objOk, kindOk, hz, Bool.and_comm]
        rw [e]
        exact thingOk_cell a r.length cap r most w rfl hn h m0
      · rw [if_neg h2]
        by_cases h3 : k = 3 ∧ r.length = 2
        · obtain ⟨rfl, hr⟩ := h3
          rw [if_pos ⟨rfl, hr⟩]
          obtain ⟨x, y, rfl⟩ : ∃ x y, r = [x, y] := by
            match r, hr with
            | [x, y], _ => exact ⟨x, y, rfl⟩
          have e : objOk most (3, t, [x, y]) = refsOk most [x, y] := by simp [objOk, kindOk, hz]
          rw [e]
          exact thingOk_weak x y most w m0
        · rw [if_neg h3]
          by_cases h4 : k = 4 ∧ r.length = 0
          · obtain ⟨rfl, hr⟩ := h4
            rw [if_pos ⟨rfl, hr⟩]
            have hr' : r = [] := List.eq_nil_of_length_eq_zero hr
            subst hr'
            have e : objOk most (4, t, []) = true := by simp [objOk, refsOk, kindOk, hz]
            rw [e]
            exact thingOk_guard most w m0
          · rw [if_neg h4]
            have e : objOk most (k, t, r) = false := by
              have : kindOk k t r.length = false := by
                unfold kindOk
                by_cases q1 : k = 1
                · rw [if_pos q1]
                  have : ¬ r.length = 0 := fun hh => h1 ⟨q1, hh⟩
                  simp [this]
                · rw [if_neg q1, if_neg h2]
                  by_cases q3 : k = 3
                  · rw [if_pos q3]
                    have : ¬ r.length = 2 := fun hh => h3 ⟨q3, hh⟩
                    simp [this]
                  · rw [if_neg q3]
                    by_cases q4 : k = 4
                    · rw [if_pos q4]
                      have : ¬ r.length = 0 := fun hh => h4 ⟨q4, hh⟩
                      simp [this]
                    · rw [if_neg q4]
              simp only [objOk, this, Bool.and_false]
            rw [e]
            exact thingOk_nil most w
    · rw [if_pos hz]
      have e : objOk most (k, t, r) = false := by
        have : kindOk k t r.length = false := by
          unfold kindOk
          by_cases q1 : k = 1
          · rw [if_pos q1]
            have : ¬ r.length = 0 := fun hh => h1 ⟨q1, hh⟩
            simp [this]
          · simp [hz, q1]
        simp only [objOk, this, Bool.and_false]
      rw [e]
      exact thingOk_nil most w
end Go.Proofs.Ytcpnkpogebjieaa
