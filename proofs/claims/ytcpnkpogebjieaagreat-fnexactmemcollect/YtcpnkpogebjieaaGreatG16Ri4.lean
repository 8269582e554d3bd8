/- The program's own MemOk: letters, texts, places. -/
import Derived.Deep.QuietTactic
import Derived.BigQuiet
import Derived.Deep.RegionWith
import Derived.Test.YtcpnkpogebjieaaGreatG11Ok
import Derived.Test.YtcpnkpogebjieaaGreatG15Rs4
import Derived.Stop.RegionWithIn
import Derived.Test.YtcpnkpogebjieaaGreatG12Rf
import Derived.Test.YtcpnkpogebjieaaGreatG13Rs2
namespace Go.Proofs.YtcpnkpogebjieaaGreat
open Go.RowKit
def letB (r : Int) : Bool := (decide (97 ≤ r) && decide (r ≤ 122)) || (decide (48 ≤ r) && decide (r ≤ 57))
set_option maxHeartbeats 400000 in
set_option maxRecDepth 100000 in
theorem letterOk_any (r : Int) (w : World) : Calls Cut.prog 118 #[.int .i32 r] w fun e w' => e = .returned (.bool (letB r)) ∧ w' = w := by
 rcases (show (97 ≤ r ∧ r ≤ 122) ∨ (48 ≤ r ∧ r ≤ 57) ∨ r < 48 ∨ (57 < r ∧ r < 97) ∨ 122 < r from by omega) with ⟨h, h'⟩ | ⟨h, h'⟩ | h | ⟨h, h'⟩ | h
 · have E : Hid (letB r = true) := by simp [Hid, letB]; omega
   go_enter (Cut.func_of Tryz.func118 rfl), Tryz.ntmps118
   go_wp2
   go_ret
   exact ⟨ret_bool (by rw [E.out]), rfl⟩
 · have E : Hid (letB r = true) := by simp [Hid, letB]; omega
   go_enter (Cut.func_of Tryz.func118 rfl), Tryz.ntmps118
   go_wp2
   go_ret
   exact ⟨ret_bool (by rw [E.out]), rfl⟩
 · have E : Hid (letB r = false) := by simp [Hid, letB]; omega
   go_enter (Cut.func_of Tryz.func118 rfl), Tryz.ntmps118
   go_wp2
   go_ret
   exact ⟨ret_bool (by rw [E.out]), rfl⟩
 · have E : Hid (letB r = false) := by simp [Hid, letB]; omega
   have hd1 : decide (r ≤ 57) = false := by simp; omega
   go_enter (Cut.func_of Tryz.func118 rfl), Tryz.ntmps118
   go_wp2
   go_ret
   exact ⟨ret_bool (by rw [E.out]), rfl⟩
 · have E : Hid (letB r = false) := by simp [Hid, letB]; omega
   have hd1 : decide (r ≤ 57) = false := by simp; omega
   have hd2 : decide (r ≤ 122) = false := by simp; omega
   go_enter (Cut.func_of Tryz.func118 rfl), Tryz.ntmps118
   go_wp2
   go_ret
   exact ⟨ret_bool (by rw [E.out]), rfl⟩
set_option maxHeartbeats 400000 in
set_option maxRecDepth 100000 in
theorem textOk_any (t : ByteArray) (w : World) (ht : t.size ≤ maxLen) : Calls Cut.prog 88 #[.string t] w fun e w' => e = .returned (.bool (textOkB t)) ∧ Below w.heap.size w w' := by
 unfold maxLen at ht
 by_cases h0 : t.size = 0
 · have E : Hid (textOkB t = false) := by simp [Hid, textOkB]; omega
   have hd : (((t.size : Nat) : Int) == 0) = true := by rw [beq_zero]; simpa using h0
   go_enter (Cut.func_of Tryz.func88 rfl), Tryz.ntmps88
   go_wp2
   go_ret
   exact ⟨ret_bool (by rw [E.out]), Below.refl _ _⟩
 have hd : (((t.size : Nat) : Int) == 0) = false := by rw [beq_zero]; simpa using h0
 by_cases h1 : 12 < t.size
 · have E : Hid (textOkB t = false) := by simp [Hid, textOkB]; omega
   go_enter (Cut.func_of Tryz.func88 rfl), Tryz.ntmps88
   go_wp2
   go_ret
   exact ⟨ret_bool (by rw [E.out]), Below.refl _ _⟩
 have hd1 : decide ((12 : Int) < (t.size : Int)) = false := by simp; omega
 go_enter (Cut.func_of Tryz.func88 rfl), Tryz.ntmps88
 go_wp2
 go_loopw [2] (fun v wr => ∃ k : Nat, k ≤ t.size ∧ v = .bool false ∧ wr = w.iter t k ∧ ∀ j (hj : j < t.data.toList.length), j < k → byteOk t.data.toList[j] = true) (fun _ wr => t.size - wr.iterPos w.heap.size)
 case atStart => exact ⟨0, Nat.zero_le _, rfl, rfl, fun j _ h => by omega⟩
 case round =>
   obtain ⟨k, hk, rfl, rfl, hall⟩ := hrel
   by_cases hlt : k < t.size
   · have hkl : k < t.data.toList.length := by simpa using hlt
     have hbe : t.data.toList[k] = t[k] := rfl
     have HB : Hid (byteOk t[k] = true → ∀ j (hj : j < t.data.toList.length), j < k + 1 → byteOk t.data.toList[j] = true) := fun h => all_succ hall hkl (by rw [hbe]; exact h)
     have HN : Hid (byteOk t[k] = false → textOkB t = false) := fun h => by
       have := not_all (f := byteOk) hkl (by rw [hbe]; exact h)
       simp only [textOkB, this, Bool.and_false]
     clear hall hbe
     by_cases ha : t[k].toNat < 128
     · have hnx : ∀ ty, (Instr.next (.pointer (some ⟨w.heap.size, 0, none⟩)) true ty).run Cut.prog (w.iter t k) = _ := fun ty => run_next_ascii w t k ty hlt ha
       have HL : Hid (letB (t[k].toNat : Int) = byteOk t[k]) := by
         show _ = _
         rw [Bool.eq_iff_iff]; simp [letB, byteOk]; omega
       go_wp2_with fail
       refine (letterOk_any _ _).mono ?_
       rintro e w1 ⟨rfl, rfl⟩
       rw [HL.out]
       cases hby : byteOk t[k] with
       | true =>
         have HR := HB.out hby
         clear hby HB HN
         go_wp2
         go_roundw
         case rel => exact ⟨k + 1, by omega, rfl, rfl, HR⟩
         case measure => simp; omega
       | false =>
         have HR : Hid (textOkB t = false) := HN.out hby
         clear hby HB HN
         go_wp2
         go_ret
         exact ⟨ret_bool (by rw [HR.out]), (Below.refl _ _).alloc (Nat.le_refl _) _⟩
     · have hnx : ∀ ty, (Instr.next (.pointer (some ⟨w.heap.size, 0, none⟩)) true ty).run Cut.prog (w.iter t k) = _ := fun ty => run_next_any w t k ty hlt
       obtain ⟨hr, _⟩ := decode_high t k hlt (by omega)
       have HR : Hid (textOkB t = false) := HN.out (by simp [byteOk]; omega)
       have HL : Hid (letB ((Utf8.decode t k).1 : Int) = false) := by simp [Hid, letB]; omega
       clear HB HN
       go_wp2_with fail
       refine (letterOk_any _ _).mono ?_
       rintro e w1 ⟨rfl, rfl⟩
       rw [HL.out]
       go_wp2
       go_ret
       exact ⟨ret_bool (by rw [HR.out]), (Below.refl _ _).alloc (Nat.le_refl _) _⟩
   · have E : Hid (textOkB t = true) := by
       have := all_of (f := byteOk) (fun i hi => hall i hi (by simp at hi; omega))
       simp only [Hid, textOkB, this]; simp; omega
     have hnx : ∀ ty, (Instr.next (.pointer (some ⟨w.heap.size, 0, none⟩)) true ty).run Cut.prog (w.iter t k) = _ := fun ty => run_next_end w t k ty hlt
     clear hall
     go_wp2
     go_ret
     exact ⟨ret_bool (by rw [E.out]), (Below.refl _ _).alloc (Nat.le_refl _) _⟩
def plB (p n : Int) : Bool := decide (0 ≤ p) && decide (p < n)
set_option maxHeartbeats 400000 in
set_option maxRecDepth 100000 in
theorem placeOk_any (p n : Int) (w : World) : Calls Cut.prog 90 #[.int .i64 p, .int .i64 n] w fun e w' => e = .returned (.bool (plB p n)) ∧ w' = w := by
 by_cases h1 : 0 ≤ p
 · have E : Hid (plB p n = decide (p < n)) := by simp [Hid, plB, h1]
   go_enter (Cut.func_of Tryz.func90 rfl), Tryz.ntmps90
   go_wp2
   go_ret
   exact ⟨ret_bool (by rw [E.out]), rfl⟩
 · have E : Hid (plB p n = false) := by simp [Hid, plB, h1]
   have hd : decide (0 ≤ p) = false := by simpa using h1
   go_enter (Cut.func_of Tryz.func90 rfl), Tryz.ntmps90
   go_wp2
   go_ret
   exact ⟨ret_bool (by rw [E.out]), rfl⟩
theorem in_m1 (n : Int) : inB (-1) (-1) (n - 1) = decide (0 ≤ n) := by
 rw [Bool.eq_iff_iff]; simp [inB]; omega
theorem in_pl {p : Int} (n : Int) (h : p ≠ -1) : inB p (-1) (n - 1) = plB p n := by
 rw [Bool.eq_iff_iff]; simp [inB, plB]; omega
set_option maxHeartbeats 400000 in
set_option maxRecDepth 100000 in
theorem placesOk_any (a : Option Addr) (n cap : Nat) (r : List Int) (most : Int) (w : World) (hl : r.length = n) (hn : n ≤ maxLen) (h : SegI w a r) (m0 : 0 ≤ most) :
   Calls Cut.prog 46 #[.slice a n cap, .int .i64 most] w fun e w' => e = .returned (.bool (refsOk most r)) ∧ w' = w := by
 unfold maxLen at hn
 go_enter (Cut.func_of Tryz.func46 rfl), Tryz.ntmps46
 go_wp2
 go_loop [6, 9] (fun _ i => ∃ j : Nat, j ≤ n ∧ i = .int .i64 j ∧ ∀ x (hx : x < r.length), x < j → inB r[x] (-1) (most - 1) = true) (fun _ i => n - (intOf i).toNat)
 case atStart => exact ⟨0, Nat.zero_le _, rfl, fun j _ h => by omega⟩
 case round =>
   obtain ⟨j, hj, rfl, hall⟩ := hrel
   by_cases hlt : j < n
   · have hjl : j < r.length := by omega
     obtain ⟨b, off, rfl, hbw, c1⟩ := h.get hjl
     have HA : Hid (∀ x (hx : x < r.length), x < j → inB r[x] (-1) (most - 1) = true) := hall
     clear hall
     by_cases hm : r[j] = -1
     · have HR : Hid (∀ x (hx : x < r.length), x < j + 1 → inB r[x] (-1) (most - 1) = true) := all_succ (f := fun z => inB z (-1) (most - 1)) HA.out hjl (by rw [hm, in_m1]; simpa using m0)
       have hd : (r[j] != -1) = false := by simpa using hm
       clear hm
       go_wp2
       go_round
       case rel => exact ⟨j + 1, by omega, by go_num, HR.out⟩
       case measure => simp [intOf]; omega
     · have HP : Hid (inB r[j] (-1) (most - 1) = plB r[j] most) := in_pl most hm
       have hd : (r[j] != -1) = true := by simpa using hm
       clear hm
       go_wp2_with fail
       refine (placeOk_any _ _ _).mono ?_
       rintro e w1 ⟨rfl, rfl⟩
       cases hin : plB r[j] most with
       | false =>
         have HF : Hid (refsOk most r = false) := not_all (f := fun z => inB z (-1) (most - 1)) hjl (by rw [HP.out, hin])
         clear hin
         go_wp2
         go_ret
         exact ⟨ret_bool (by rw [HF.out]), rfl⟩
       | true =>
         have HR : Hid (∀ x (hx : x < r.length), x < j + 1 → inB r[x] (-1) (most - 1) = true) := all_succ (f := fun z => inB z (-1) (most - 1)) HA.out hjl (by rw [HP.out, hin])
         clear hin
         go_wp2
         go_round
         case rel => exact ⟨j + 1, by omega, by go_num, HR.out⟩
         case measure => simp [intOf]; omega
   · have HF : Hid (refsOk most r = true) := all_of (f := fun z => inB z (-1) (most - 1)) (fun i hi => hall i hi (by omega))
     clear hall
     go_wp2
     go_ret
     exact ⟨ret_bool (by rw [HF.out]), rfl⟩
def thingV (k : Int) (t : ByteArray) (a : Option Addr) (n cap : Nat) (r : List Int) : Value :=
 if k = 1 ∧ n = 0 then .iface 106 (.agg #[.string t])
 else if t.size ≠ 0 then .nilIface
 else if k = 2 then .iface 108 (.agg #[.slice a n cap])
 else if k = 3 ∧ n = 2 then .iface 110 (.agg #[.int .i64 (r.getD 0 0), .int .i64 (r.getD 1 0)])
 else if k = 4 ∧ n = 0 then .iface 112 (.agg #[])
 else .nilIface
theorem ret_eq {a b : Value} (h : a = b) : Ending.returned a = .returned b := by rw [h]
set_option maxHeartbeats 800000 in
set_option maxRecDepth 100000 in
theorem thingOf_any (k : Int) (t : ByteArray) (a : Option Addr) (n cap : Nat) (r : List Int) (w : World) (hl : r.length = n) (h : SegI w a r) :
   Calls Cut.prog 45 #[.agg #[.int .i64 k, .string t, .slice a n cap]] w fun e w' => e = .returned (thingV k t a n cap r) ∧ Below w.heap.size w w' := by
 by_cases h1 : k = 1
 · subst h1
   by_cases h0 : n = 0
   · subst h0
     have E : Hid (thingV 1 t a 0 cap r = .iface 106 (.agg #[.string t])) := by simp [Hid, thingV]
     go_enter (Cut.func_of Tryz.func45 rfl), Tryz.ntmps45
     go_wp2
     go_ret
     exact ⟨ret_eq (by rw [E.out]; rfl), (Below.refl _ _).alloc (Nat.le_refl _) _⟩
   · have hd : ((n : Int) == 0) = false := by rw [beq_zero]; simpa using h0
     have E : Hid (thingV 1 t a n cap r = .nilIface) := by simp [Hid, thingV, h0]
     go_enter (Cut.func_of Tryz.func45 rfl), Tryz.ntmps45
     go_wp2
     all_goals go_ret
     all_goals exact ⟨ret_eq (by rw [E.out]; rfl), (Below.refl _ _).alloc (Nat.le_refl _) _⟩
 have g1 : (k == 1) = false := by simpa using h1
 by_cases ht : t.size = 0
 · have ht' := size_nil ht
   by_cases h2 : k = 2
   · subst h2
     have E : Hid (thingV 2 t a n cap r = .iface 108 (.agg #[.slice a n cap])) := by simp [Hid, thingV, ht]
     clear ht
     go_enter (Cut.func_of Tryz.func45 rfl), Tryz.ntmps45
     go_wp2
     go_ret
     exact ⟨ret_eq (by rw [E.out]; rfl), (Below.refl _ _).alloc (Nat.le_refl _) _⟩
   have g2 : (k == 2) = false := by simpa using h2
   by_cases h3 : k = 3
   · subst h3
     by_cases h0 : n = 2
     · subst h0
       have q0 : 0 < r.length := by omega
       have q1 : 1 < r.length := by omega
       obtain ⟨b, off, rfl, hbw, hc⟩ := h q0
       have c0 : w.cell? ⟨b, off, none⟩ = some (.int .i64 r[0]) := (hc 0 q0).trans (by simp [List.getD, q0])
       have c1 : w.cell? ⟨b, off + 1, none⟩ = some (.int .i64 r[1]) := (hc 1 q1).trans (by simp [List.getD, q1])
       have E : Hid (thingV 3 t (some ⟨b, off, none⟩) 2 cap r = .iface 110 (.agg #[.int .i64 r[0], .int .i64 r[1]])) := by simp [Hid, thingV, ht, q0, q1]
       clear ht hc h
       go_enter (Cut.func_of Tryz.func45 rfl), Tryz.ntmps45
       go_wp2_with fail
       go_quiet (fail)
       go_wp2
       go_ret
       exact ⟨ret_eq (by rw [E.out]; rfl), bdrewN ((Below.refl _ _).alloc (Nat.le_refl _) _) _⟩
     · have hd : ((n : Int) == 2) = false := by rw [beq_two]; simpa using h0
       have E : Hid (thingV 3 t a n cap r = .nilIface) := by simp [Hid, thingV, h0, ht]
       clear ht
       go_enter (Cut.func_of Tryz.func45 rfl), Tryz.ntmps45
       go_wp2
       go_ret
       exact ⟨ret_eq (by rw [E.out]; rfl), (Below.refl _ _).alloc (Nat.le_refl _) _⟩
   have g3 : (k == 3) = false := by simpa using h3
   by_cases h4 : k = 4
   · subst h4
     by_cases h0 : n = 0
     · subst h0
       have E : Hid (thingV 4 t a 0 cap r = .iface 112 (.agg #[])) := by simp [Hid, thingV, ht]
       clear ht
       go_enter (Cut.func_of Tryz.func45 rfl), Tryz.ntmps45
       go_wp2
       go_ret
       exact ⟨ret_eq (by rw [E.out]; rfl), (Below.refl _ _).alloc (Nat.le_refl _) _⟩
     · have hd : ((n : Int) == 0) = false := by rw [beq_zero]; simpa using h0
       have E : Hid (thingV 4 t a n cap r = .nilIface) := by simp [Hid, thingV, h0, ht]
       clear ht
       go_enter (Cut.func_of Tryz.func45 rfl), Tryz.ntmps45
       go_wp2
       go_ret
       exact ⟨ret_eq (by rw [E.out]; rfl), (Below.refl _ _).alloc (Nat.le_refl _) _⟩
   have g4 : (k == 4) = false := by simpa using h4
   have E : Hid (thingV k t a n cap r = .nilIface) := by simp [Hid, thingV, h1, h2, h3, h4]
   clear ht h1 h2 h3 h4
   go_enter (Cut.func_of Tryz.func45 rfl), Tryz.ntmps45
   go_wp2
   go_ret
   exact ⟨ret_eq (by rw [E.out]; rfl), (Below.refl _ _).alloc (Nat.le_refl _) _⟩
 · have ht' : ¬ t.toList = [] := fun e => ht (nil_size e)
   have ht2 : t.toList.isEmpty = false := by simpa using ht'
   have E : Hid (thingV k t a n cap r = .nilIface) := by simp [Hid, thingV, h1, ht]
   clear ht h1
   go_enter (Cut.func_of Tryz.func45 rfl), Tryz.ntmps45
   go_wp2
   go_ret
   exact ⟨ret_eq (by rw [E.out]; rfl), (Below.refl _ _).alloc (Nat.le_refl _) _⟩
theorem taDD (x : Value) (w : World) : (Instr.typeAssert (.iface 106 x) 66 106 true).run Cut.prog w = .ok (.tuple #[x, .bool true]) w := by kernel_rfl
theorem taDC (x : Value) (w : World) : (Instr.typeAssert (.iface 106 x) 66 108 true).run Cut.prog w = .ok (.tuple #[.agg #[.slice none 0 0], .bool false]) w := by kernel_rfl
theorem taDW (x : Value) (w : World) : (Instr.typeAssert (.iface 106 x) 66 110 true).run Cut.prog w = .ok (.tuple #[.agg #[.int .i64 0, .int .i64 0], .bool false]) w := by kernel_rfl
theorem taDG (x : Value) (w : World) : (Instr.typeAssert (.iface 106 x) 66 112 true).run Cut.prog w = .ok (.tuple #[.agg #[], .bool false]) w := by kernel_rfl
theorem taCD (x : Value) (w : World) : (Instr.typeAssert (.iface 108 x) 66 106 true).run Cut.prog w = .ok (.tuple #[.agg #[.string ⟨#[]⟩], .bool false]) w := by kernel_rfl
theorem taCC (x : Value) (w : World) : (Instr.typeAssert (.iface 108 x) 66 108 true).run Cut.prog w = .ok (.tuple #[x, .bool true]) w := by kernel_rfl
theorem taWD (x : Value) (w : World) : (Instr.typeAssert (.iface 110 x) 66 106 true).run Cut.prog w = .ok (.tuple #[.agg #[.string ⟨#[]⟩], .bool false]) w := by kernel_rfl
theorem taWC (x : Value) (w : World) : (Instr.typeAssert (.iface 110 x) 66 108 true).run Cut.prog w = .ok (.tuple #[.agg #[.slice none 0 0], .bool false]) w := by kernel_rfl
theorem taWW (x : Value) (w : World) : (Instr.typeAssert (.iface 110 x) 66 110 true).run Cut.prog w = .ok (.tuple #[x, .bool true]) w := by kernel_rfl
theorem taWG (x : Value) (w : World) : (Instr.typeAssert (.iface 110 x) 66 112 true).run Cut.prog w = .ok (.tuple #[.agg #[], .bool false]) w := by kernel_rfl
theorem taGD (x : Value) (w : World) : (Instr.typeAssert (.iface 112 x) 66 106 true).run Cut.prog w = .ok (.tuple #[.agg #[.string ⟨#[]⟩], .bool false]) w := by kernel_rfl
theorem taGC (x : Value) (w : World) : (Instr.typeAssert (.iface 112 x) 66 108 true).run Cut.prog w = .ok (.tuple #[.agg #[.slice none 0 0], .bool false]) w := by kernel_rfl
theorem taGW (x : Value) (w : World) : (Instr.typeAssert (.iface 112 x) 66 110 true).run Cut.prog w = .ok (.tuple #[.agg #[.int .i64 0, .int .i64 0], .bool false]) w := by kernel_rfl
theorem taGG (x : Value) (w : World) : (Instr.typeAssert (.iface 112 x) 66 112 true).run Cut.prog w = .ok (.tuple #[x, .bool true]) w := by kernel_rfl
theorem taND (w : World) : (Instr.typeAssert .nilIface 66 106 true).run Cut.prog w = .ok (.tuple #[.agg #[.string ⟨#[]⟩], .bool false]) w := by kernel_rfl
theorem taNC (w : World) : (Instr.typeAssert .nilIface 66 108 true).run Cut.prog w = .ok (.tuple #[.agg #[.slice none 0 0], .bool false]) w := by kernel_rfl
theorem taNW (w : World) : (Instr.typeAssert .nilIface 66 110 true).run Cut.prog w = .ok (.tuple #[.agg #[.int .i64 0, .int .i64 0], .bool false]) w := by kernel_rfl
theorem taNG (w : World) : (Instr.typeAssert .nilIface 66 112 true).run Cut.prog w = .ok (.tuple #[.agg #[], .bool false]) w := by kernel_rfl
set_option maxHeartbeats 800000 in
set_option maxRecDepth 100000 in
theorem thingOk_data (t : ByteArray) (most : Int) (w : World) (ht : t.size ≤ maxLen) :
   Calls Cut.prog 44 #[.iface 106 (.agg #[.string t]), .int .i64 most] w fun e w' => e = .returned (.bool (textOkB t)) ∧ Below w.heap.size w w' := by
 have f1 := taDD
 go_enter (Cut.func_of Tryz.func44 rfl), Tryz.ntmps44
 go_wp2_with fail
 refine (textOk_any _ _ ht).mono ?_
 rintro e w1 ⟨rfl, hb⟩
 go_wp2
 go_ret
 exact ⟨rfl, ((Below.refl _ _).alloc (Nat.le_refl _) _).trans (hb.mono (by simp))⟩
set_option maxHeartbeats 800000 in
set_option maxRecDepth 100000 in
theorem thingOk_nil (most : Int) (w : World) :
   Calls Cut.prog 44 #[.nilIface, .int .i64 most] w fun e w' => e = .returned (.bool false) ∧ Below w.heap.size w w' := by
 have f1 := taND
 have f2 := taNC
 have f3 := taNW
 have f4 := taNG
 go_enter (Cut.func_of Tryz.func44 rfl), Tryz.ntmps44
 go_wp2
 go_ret
 exact ⟨rfl, Below.refl _ _⟩
set_option maxHeartbeats 800000 in
set_option maxRecDepth 100000 in
theorem cellParts_any (a : Option Addr) (n cap : Nat) (w : World) :
   Calls Cut.prog 89 #[.agg #[.slice a n cap]] w fun e w' => e = .returned (.slice a n cap) ∧ Below w.heap.size w w' := by
 go_enter (Cut.func_of Tryz.func89 rfl), Tryz.ntmps89
 go_wp2
 go_ret
 exact ⟨rfl, (Below.refl _ _).alloc (Nat.le_refl _) _⟩
set_option maxHeartbeats 800000 in
set_option maxRecDepth 100000 in
theorem thingOk_cell (a : Option Addr) (n cap : Nat) (r : List Int) (most : Int) (w : World) (hl : r.length = n) (hn : n ≤ maxLen) (h : SegI w a r) (m0 : 0 ≤ most) :
   Calls Cut.prog 44 #[.iface 108 (.agg #[.slice a n cap]), .int .i64 most] w fun e w' => e = .returned (.bool (decide (n ≤ 6) && refsOk most r)) ∧ Below w.heap.size w w' := by
 have f1 := taCD
 have f2 := taCC
 have hB0 : Below w.heap.size w (w.alloc (Obj.cells #[Value.slice a n cap] 108)) := (Below.refl _ _).alloc (Nat.le_refl _) _
 by_cases h6 : n ≤ 6
 · have E : Hid ((decide (n ≤ 6) && refsOk most r) = refsOk most r) := by simp [Hid, h6]
   go_enter (Cut.func_of Tryz.func44 rfl), Tryz.ntmps44
   go_wp2_with fail
   refine (cellParts_any _ _ _ _).mono ?_
   rintro e w1 ⟨rfl, hb⟩
   have hbb := hB0.trans (hb.mono hB0.size)
   clear hb hB0
   go_wp2_with fail
   refine (placesOk_any a n cap r most _ hl hn (h.below hbb (Nat.le_refl _)) m0).mono ?_
   rintro e w2 ⟨rfl, rfl⟩
   go_wp2
   go_ret
   exact ⟨ret_bool E.out.symm, hbb⟩
 · have hd : decide ((n : Int) ≤ 6) = false := by simp; omega
   have E : Hid ((decide (n ≤ 6) && refsOk most r) = false) := by simp [Hid, h6]
   go_enter (Cut.func_of Tryz.func44 rfl), Tryz.ntmps44
   go_wp2
   go_ret
   exact ⟨ret_bool E.out.symm, hB0⟩
theorem methG (x : Value) (w : World) : (method 324 112 x "loop.example/sismem/impl.parts").run Cut.prog w = .ok (193, x) w := by kernel_rfl
theorem methW (x : Value) (w : World) : (method 324 110 x "loop.example/sismem/impl.parts").run Cut.prog w = .ok (192, x) w := by kernel_rfl
set_option maxHeartbeats 800000 in
set_option maxRecDepth 100000 in
theorem guardParts_any (w : World) :
   Calls Cut.prog 193 #[.agg #[]] w fun e w' => e = .returned (.slice none 0 0) ∧ Below w.heap.size w w' := by
 go_enter (Cut.func_of Tryz.func193 rfl), Tryz.ntmps193
 go_wp2
 go_ret
 exact ⟨rfl, (Below.refl _ _).alloc (Nat.le_refl _) _⟩
set_option maxHeartbeats 800000 in
set_option maxRecDepth 100000 in
theorem weakParts_any (x y : Int) (w : World) :
   Calls Cut.prog 192 #[.agg #[.int .i64 x, .int .i64 y]] w fun e w' => e = .returned (.slice (some ⟨w.heap.size + 1, 0, none⟩) 2 2) ∧ Below w.heap.size w w' ∧ SegI w' (some ⟨w.heap.size + 1, 0, none⟩) [x, y] := by
 go_enter (Cut.func_of Tryz.func192 rfl), Tryz.ntmps192
 go_wp2
 go_ret
 refine ⟨rfl, ((Below.refl _ _).alloc (Nat.le_refl _) _).alloc (by simp) _, ?_⟩
 have hk := Blk.new (w.alloc (.cells #[.int .i64 x, .int .i64 y] 110)) ([x, y].map (Value.int .i64)) 3
 have := hk.segI
 simpa using this
set_option maxHeartbeats 800000 in
set_option maxRecDepth 100000 in
theorem thingOk_guard (most : Int) (w : World) (m0 : 0 ≤ most) :
   Calls Cut.prog 44 #[.iface 112 (.agg #[]), .int .i64 most] w fun e w' => e = .returned (.bool true) ∧ Below w.heap.size w w' := by
 have f1 := taGD
 have f2 := taGC
 have f3 := taGW
 have f4 := taGG
 have f5 := methG
 go_enter (Cut.func_of Tryz.func44 rfl), Tryz.ntmps44
 go_wp2_with fail
 refine (guardParts_any _).mono ?_
 rintro e w1 ⟨rfl, hb⟩
 go_wp2_with fail
 refine (placesOk_any none 0 0 [] most _ rfl (Nat.zero_le _) (fun h => by simp at h) m0).mono ?_
 rintro e w2 ⟨rfl, rfl⟩
 go_wp2
 go_ret
 exact ⟨rfl, hb⟩
set_option maxHeartbeats 800000 in
set_option maxRecDepth 100000 in
theorem thingOk_weak (x y : Int) (most : Int) (w : World) (m0 : 0 ≤ most) :
   Calls Cut.prog 44 #[.iface 110 (.agg #[.int .i64 x, .int .i64 y]), .int .i64 most] w fun e w' => e = .returned (.bool (refsOk most [x, y])) ∧ Below w.heap.size w w' := by
 have f1 := taWD
 have f2 := taWC
 have f3 := taWW
 have f4 := taWG
 have f5 := methW
 go_enter (Cut.func_of Tryz.func44 rfl), Tryz.ntmps44
 go_wp2_with fail
 refine (weakParts_any _ _ _).mono ?_
 rintro e w1 ⟨rfl, hb, hs⟩
 go_wp2_with fail
 refine (placesOk_any _ 2 2 [x, y] most _ rfl (by unfold maxLen; omega) hs m0).mono ?_
 rintro e w2 ⟨rfl, rfl⟩
 go_wp2
 go_ret
 exact ⟨rfl, hb⟩
theorem thingOk_of (k : Int) (t : ByteArray) (a : Option Addr) (n cap : Nat) (r : List Int) (most : Int) (w : World) (hl : r.length = n) (hn : n ≤ maxLen) (ht : t.size ≤ maxLen) (h : SegI w a r) (m0 : 0 ≤ most) :
   Calls Cut.prog 44 #[thingV k t a n cap r, .int .i64 most] w fun e w' => e = .returned (.bool (objOk most (k, t, r))) ∧ Below w.heap.size w w' := by
 subst hl
 by_cases h1 : k = 1 ∧ r.length = 0
 · obtain ⟨rfl, hr⟩ := h1
   have hr' : r = [] := List.eq_nil_of_length_eq_zero hr
   subst hr'
   have e : objOk most (1, t, []) = textOkB t := by simp [objOk, refsOk, kindOk]
   rw [e]
   have e2 : thingV 1 t a ([] : List Int).length cap [] = .iface 106 (.agg #[.string t]) := by simp [thingV]
   rw [e2]
   exact thingOk_data t most w ht
 · have e1 : thingV k t a r.length cap r = if t.size ≠ 0 then .nilIface else if k = 2 then .iface 108 (.agg #[.slice a r.length cap]) else if k = 3 ∧ r.length = 2 then .iface 110 (.agg #[.int .i64 (r.getD 0 0), .int .i64 (r.getD 1 0)]) else if k = 4 ∧ r.length = 0 then .iface 112 (.agg #[]) else .nilIface := by
     unfold thingV
     rw [if_neg h1]
   rw [e1]
   by_cases hz : t.size = 0
   · rw [if_neg (by simpa using hz)]
     by_cases h2 : k = 2
     · subst h2
       rw [if_pos rfl]
       have e : objOk most (2, t, r) = (decide (r.length ≤ 6) && refsOk most r) := by simp [objOk, kindOk, hz, Bool.and_comm]
       rw [e]
       exact thingOk_cell a r.length cap r most w rfl hn h m0
     · rw [if_neg h2]
       by_cases h3 : k = 3 ∧ r.length = 2
       · obtain ⟨rfl, hr⟩ := h3
         rw [if_pos ⟨rfl, hr⟩]
         obtain ⟨x, y, rfl⟩ : ∃ x y, r = [x, y] := by
           match r, hr with
           | [x, y], _ => exact ⟨x, y, rfl⟩
         have e : objOk most (3, t, [x, y]) = refsOk most [x, y] := by simp [objOk, kindOk, hz]
         rw [e]
         exact thingOk_weak x y most w m0
       · rw [if_neg h3]
         by_cases h4 : k = 4 ∧ r.length = 0
         · obtain ⟨rfl, hr⟩ := h4
           rw [if_pos ⟨rfl, hr⟩]
           have hr' : r = [] := List.eq_nil_of_length_eq_zero hr
           subst hr'
           have e : objOk most (4, t, []) = true := by simp [objOk, refsOk, kindOk, hz]
           rw [e]
           exact thingOk_guard most w m0
         · rw [if_neg h4]
           have e : objOk most (k, t, r) = false := by
             have : kindOk k t r.length = false := by
               unfold kindOk
               by_cases q1 : k = 1
               · rw [if_pos q1]
                 have : ¬ r.length = 0 := fun hh => h1 ⟨q1, hh⟩
                 simp [this]
               · rw [if_neg q1, if_neg h2]
                 by_cases q3 : k = 3
                 · rw [if_pos q3]
                   have : ¬ r.length = 2 := fun hh => h3 ⟨q3, hh⟩
                   simp [this]
                 · rw [if_neg q3]
                   by_cases q4 : k = 4
                   · rw [if_pos q4]
                     have : ¬ r.length = 0 := fun hh => h4 ⟨q4, hh⟩
                     simp [this]
                   · rw [if_neg q4]
             simp only [objOk, this, Bool.and_false]
           rw [e]
           exact thingOk_nil most w
   · rw [if_pos hz]
     have e : objOk most (k, t, r) = false := by
       have : kindOk k t r.length = false := by
         unfold kindOk
         by_cases q1 : k = 1
         · rw [if_pos q1]
           have : ¬ r.length = 0 := fun hh => h1 ⟨q1, hh⟩
           simp [this]
         · simp [hz, q1]
       simp only [objOk, this, Bool.and_false]
     rw [e]
     exact thingOk_nil most w
set_option maxHeartbeats 800000 in
set_option maxRecDepth 100000 in
theorem toldTo_any (da : Option Addr) (dcap : Nat) (ds : List (Int × Int)) (x : Int) (w : World) (hd : SegW w da ds) (hl : ds.length ≤ 1048576) :
   Calls Cut.prog 120 #[.slice da ds.length dcap, .int .i64 x] w fun e w' => ∃ v', e = .returned v' ∧ OwnL w' w.heap.size v' (flt ds x) ∧ Below w.heap.size w w' := by
 obtain ⟨i0, hi', hz0, hz1, hz2⟩ := info_parts info_int
 go_enter (Cut.func_of Tryz.func120 rfl), Tryz.ntmps120
 go_wp2
 go_loopw [5, 7, 10] (fun v _ i wr => ∃ k : Nat, k ≤ ds.length ∧ i = .int .i64 k ∧ OwnL wr w.heap.size v (flt (ds.take k) x) ∧ Below w.heap.size w wr) (fun _ _ i _ => ds.length - (intOf i).toNat)
 case atStart => exact ⟨0, Nat.zero_le _, rfl, World.ownsRow_nil _ _ _ _, Below.refl _ _⟩
 case round =>
   obtain ⟨k, hk, rfl, hown, hb⟩ := hrel
   by_cases hlt : k < ds.length
   · obtain ⟨b5, off5, rfl, hb5, e1, e2⟩ := hd.get hlt
     have d1 := (hb.cell (p := ⟨b5, off5 + k * 2, none⟩) hb5).trans e1
     have d2 := (hb.cell (p := ⟨b5, off5 + k * 2 + 1, none⟩) hb5).trans e2
     clear e1 e2
     have HF := flt_succ ds x k hlt
     have hfl := flt_le ds x k
     have hA : Below wr.heap.size wr (wr.alloc (Obj.cells #[Value.int .i64 ds[k].1, Value.int .i64 ds[k].2] 40)) := (Below.refl _ _).alloc (Nat.le_refl _) _
     have hownA := hown.below hA (Nat.le_refl _)
     have hbA := hb.trans (hA.mono hb.size)
     obtain ⟨va, vcap, rfl, -⟩ := hown.form
     by_cases hm : (ds[k].1 == x) = true
     · rw [if_pos hm] at HF
       have HF' : Hid (flt (ds.take (k + 1)) x = flt (ds.take k) x ++ [ds[k].2]) := HF
       clear HF
       have hvA : ((wr.alloc (Obj.cells #[Value.int .i64 ds[k].1, Value.int .i64 ds[k].2] 40)).alloc (Obj.cells #[Value.int .i64 ds[k].2] 3)).ownsRow w.heap.size 3 1 (.slice va (flt (ds.take k) x).length vcap) (flt (ds.take k) x).length ((flt (ds.take k) x).map (Value.int .i64)) := World.ownsRow.alloc hownA _
       have hrow := fun k' h' => (hown.lt k' h').1
       have hbs := hb.size
       go_wp2_with (at_builtin; refine wpList_append_own_at _ rfl _ _ 24 rfl w.heap.size 3 i0 (.int .i64 0) 1 8 ((Cut.under_eq 24).trans Tryz.underlying24) hi' hz0 hz1 hz2 rfl (by decide) _ _ _ rfl hvA ⟨wr.heap.size + 1, 0, none⟩ 1 1 [.int .i64 ds[k].2] rfl rfl ?c1 ?c2 ?c3 ?c4 ?c5 ?_)
       case c1 =>
         intro j u hj
         match j, hj with
         | 0, hj => simp at hj; subst hj; simp [Addr.add]
       case c2 => intro u hu; simp at hu; subst hu; rfl
       case c3 => unfold maxLen; omega
       case c4 => omega
       case c5 => simp; omega
       intro v' w2 hown2 hgr _ _
       have hA2 : Below wr.heap.size wr ((wr.alloc (Obj.cells #[Value.int .i64 ds[k].1, Value.int .i64 ds[k].2] 40)).alloc (Obj.cells #[Value.int .i64 ds[k].2] 3)) := hA.alloc hA.size _
       have hb2 : Below w.heap.size w w2 := (hb.trans (hA2.mono hb.size)).trans (gb_below hgr (Nat.le_trans hb.size hA2.size) hrow)
       have hown3 : Hid (OwnL w2 w.heap.size v' (flt (ds.take (k + 1)) x)) := by
         show OwnL _ _ _ _
         rw [HF'.out]
         unfold OwnL
         simpa using hown2
       clear hown2 hgr hA hA2 hvA hrow hownA hbA
       go_wp2
       go_roundw
       case rel => exact ⟨k + 1, by omega, by go_num, hown3.out, hb2⟩
       case measure => simp [intOf]; omega
     · rw [if_neg hm] at HF
       have hm' : (ds[k].1 == x) = false := by simpa using hm
       have HF' : Hid (OwnL (wr.alloc (Obj.cells #[Value.int .i64 ds[k].1, Value.int .i64 ds[k].2] 40)) w.heap.size (Value.slice va (flt (ds.take k) x).length vcap) (flt (ds.take (k + 1)) x)) := by
         show OwnL _ _ _ _
         rw [HF]; exact hownA
       clear HF hm
       go_wp2
       go_roundw
       case rel => exact ⟨k + 1, by omega, by go_num, HF'.out, hbA⟩
       case measure => simp [intOf]; omega
   · have ek : ds.take k = ds := List.take_of_length_le (by omega)
     rw [ek] at hown
     clear ek
     go_wp2
     go_ret
     exact ⟨_, rfl, hown, hb⟩
theorem drop_two (l : List Int) (h : l.length = 2) (h1 : 1 < l.length) : l.drop 1 = [l[1]] := by
 match l, h with
 | [y, z], _ => simp
theorem kind_of {k : Int} {t : ByteArray} {n : Nat} (h : kindOk k t n = true) : (k = 1 ∧ n = 0) ∨ (k = 2 ∧ t.size = 0) ∨ (k = 3 ∧ t.size = 0 ∧ n = 2) ∨ (k = 4 ∧ t.size = 0 ∧ n = 0) := by
 unfold kindOk at h
 split at h
 · simp only [Bool.and_eq_true, decide_eq_true_eq] at h; exact Or.inl ⟨by assumption, h.2⟩
 · split at h
   · simp only [Bool.and_eq_true, decide_eq_true_eq] at h; exact Or.inr (Or.inl ⟨by assumption, h.1⟩)
   · split at h
     · simp only [Bool.and_eq_true, decide_eq_true_eq] at h; exact Or.inr (Or.inr (Or.inl ⟨by assumption, h.1, h.2⟩))
     · split at h
       · simp only [Bool.and_eq_true, decide_eq_true_eq] at h; exact Or.inr (Or.inr (Or.inr ⟨by assumption, h.1, h.2⟩))
       · simp at h
set_option maxHeartbeats 1600000 in
set_option maxRecDepth 100000 in
theorem leadsTo_any (h : Hp) (x : Int) (w : World) (hh : HpIn w h) (hs : Small h) (h0 : 0 ≤ x) (h1 : x < h.os.length) (hok : ∀ i (hi : i < h.os.length), kindOk h.os[i].k h.os[i].t h.os[i].r.length = true) :
   Calls Cut.prog 94 #[h.v, .int .i64 x] w fun e w' => ∃ v, e = .returned v ∧ ∃ na ncap, NextIn w w' h v (nextP (h.os.map Ob.p) h.ds x) na ncap := by
 obtain ⟨oa, ocap, os, ra, rcap, rs, wa, wcap, ws, da, dcap, ds⟩ := h
 obtain ⟨ho, -, -, hd⟩ := hh
 obtain ⟨so, soo, -, -, sd⟩ := hs
 simp only [Hp.v] at *
 have hi : x.toNat < os.length := by omega
 have HN := nextP_at (os := os) (ds := ds) rfl hi
 have hk := kind_of (hok _ hi)
 obtain ⟨b, off, rfl, hbw, c1, c2, c3⟩ := ho.get hi
 have hsg := ho.2 _ hi
 have Hav : Hid (∀ r, HpAv (⟨some ⟨b, off, none⟩, ocap, os, ra, rcap, rs, wa, wcap, ws, da, dcap, ds⟩ : Hp) r → AvI os[x.toNat].ra os[x.toNat].r.length r) := fun r q => q.aoo _ hi
 clear hok soo
 generalize nextP (os.map Ob.p) ds x = NX at HN ⊢
 have hB0 : Below w.heap.size w (w.alloc (Obj.cells #[Value.slice (some ⟨b, off, none⟩) os.length ocap, Value.slice ra rs.length rcap, Value.slice wa ws.length wcap, Value.slice da ds.length dcap] 27)) := (Below.refl _ _).alloc (Nat.le_refl _) _
 have hK0 := Blk.new w [Value.slice (some ⟨b, off, none⟩) os.length ocap, Value.slice ra rs.length rcap, Value.slice wa ws.length wcap, Value.slice da ds.length dcap] 27
 have cT := thingOf_any os[x.toNat].k os[x.toNat].t os[x.toNat].ra os[x.toNat].r.length os[x.toNat].rcap os[x.toNat].r _ rfl (hsg.below hB0 (Nat.le_refl _))
 rcases hk with ⟨k1, kn⟩ | ⟨k2, kt⟩ | ⟨k3, kt, kn⟩ | ⟨k4, kt, kn⟩
 · have hr : os[x.toNat].r = [] := List.eq_nil_of_length_eq_zero kn
   rw [k1] at HN
   rw [hr] at HN
   simp at HN
   subst HN
   have eV : thingV os[x.toNat].k os[x.toNat].t os[x.toNat].ra os[x.toNat].r.length os[x.toNat].rcap os[x.toNat].r = .iface 106 (.agg #[.string os[x.toNat].t]) := by simp [thingV, k1, kn]
   rw [eV] at cT
   clear eV k1 kn hr
   have f1 := taDC
   have f2 := taDW
   have f3 := taDG
   go_enter (Cut.func_of Tryz.func94 rfl), Tryz.ntmps94
   go_wp2_with fail
   refine cT.mono ?_
   rintro e w1 ⟨rfl, hb1⟩
   have hB1 := hB0.trans (hb1.mono hB0.size)
   clear cT hb1
   go_wp2
   go_ret
   exact ⟨_, rfl, none, 0, ⟨rfl, fun hm => by simp at hm, hB1, fun r _ _ hm => by simp at hm⟩⟩
 · rw [k2] at HN
   simp at HN
   subst HN
   have eV : thingV os[x.toNat].k os[x.toNat].t os[x.toNat].ra os[x.toNat].r.length os[x.toNat].rcap os[x.toNat].r = .iface 108 (.agg #[.slice os[x.toNat].ra os[x.toNat].r.length os[x.toNat].rcap]) := by simp [thingV, k2, kt]
   rw [eV] at cT
   clear eV k2 kt
   have f1 := taCC
   go_enter (Cut.func_of Tryz.func94 rfl), Tryz.ntmps94
   go_wp2_with fail
   refine cT.mono ?_
   rintro e w1 ⟨rfl, hb1⟩
   have hB1 := hB0.trans (hb1.mono hB0.size)
   clear cT hb1
   go_wp2
   go_ret
   have hB2 := hB1.alloc hB1.size (Obj.cells #[Value.slice os[x.toNat].ra os[x.toNat].r.length os[x.toNat].rcap] 108)
   exact ⟨_, rfl, os[x.toNat].ra, os[x.toNat].rcap, ⟨rfl, hsg.below hB2 (Nat.le_refl _), hB2, fun r q _ => Hav.out r q⟩⟩
 · have q1 : 1 < os[x.toNat].r.length := by omega
   rw [if_pos k3] at HN
   have HN' : Hid (NX = [os[x.toNat].r[1]]) := by
     show _ = _
     rw [HN]; exact drop_two _ kn q1
   have eV : thingV os[x.toNat].k os[x.toNat].t os[x.toNat].ra os[x.toNat].r.length os[x.toNat].rcap os[x.toNat].r = .iface 110 (.agg #[.int .i64 (os[x.toNat].r.getD 0 0), .int .i64 os[x.toNat].r[1]]) := by simp [thingV, k3, kt, kn]
   rw [eV] at cT
   clear eV k3 kt kn HN
   have f1 := taWC
   have f2 := taWW
   go_enter (Cut.func_of Tryz.func94 rfl), Tryz.ntmps94
   go_wp2_with fail
   refine cT.mono ?_
   rintro e w1 ⟨rfl, hb1⟩
   have hB1 := hB0.trans (hb1.mono hB0.size)
   clear cT hb1
   go_wp2
   go_ret
   refine ⟨_, rfl, some ⟨w1.heap.size + 1, 0, none⟩, 1, ⟨?_, ?_, ?_, fun r _ hr hm y hy => ?_⟩⟩
   · rw [HN'.out]; rfl
   · rw [HN'.out]
     intro _
     refine ⟨w1.heap.size + 1, 0, rfl, by simp, fun i hi => ?_⟩
     simp at hi
     subst hi
     simp
   · exact (hB1.alloc hB1.size _).alloc (by simp; have := hB1.size; omega) _
   · simp at hy
     subst hy
     intro e
     have h2 : w1.heap.size + 1 < w.heap.size := hr _ e.symm
     have := hB1.size
     omega
 · rw [k4] at HN
   simp at HN
   have HN' : Hid (NX = flt ds x) := HN
   have eV : thingV os[x.toNat].k os[x.toNat].t os[x.toNat].ra os[x.toNat].r.length os[x.toNat].rcap os[x.toNat].r = .iface 112 (.agg #[]) := by simp [thingV, k4, kt, kn]
   rw [eV] at cT
   clear eV k4 kt kn HN
   have f1 := taGC
   have f2 := taGW
   have f3 := taGG
   go_enter (Cut.func_of Tryz.func94 rfl), Tryz.ntmps94
   go_wp2_with fail
   refine cT.mono ?_
   rintro e w1 ⟨rfl, hb1⟩
   have hB1 := hB0.trans (hb1.mono hB0.size)
   have hK1 := hK0.below hb1 hK0.lt
   have q3 := hK1.cell 3
   simp only [List.getElem?_cons_zero, List.getElem?_cons_succ] at q3
   have hlt1 := hK1.lt
   have hB2 := hB1.alloc hB1.size (Obj.cells #[] 112)
   have cD := toldTo_any da dcap ds x (w1.alloc (Obj.cells #[] 112)) (hd.below hB2 (Nat.le_refl _)) sd
   clear cT hb1
   go_wp2_with fail
   refine cD.mono ?_
   rintro e w2 ⟨v', rfl, hown, hb2⟩
   have hB3 := hB2.trans (hb2.mono hB2.size)
   obtain ⟨va, vcap, rfl, hseg, -⟩ := hown.form
   have hrow := fun k' h' => (hown.lt k' h').1
   clear cD
   go_wp2
   go_ret
   refine ⟨_, rfl, va, vcap, ⟨?_, ?_, hB3, fun r _ hr hm y hy => ?_⟩⟩
   · rw [HN'.out]; rfl
   · rw [HN'.out]; exact hseg
   · subst hy
     intro e
     have h2 := hrow y.block rfl
     have h3 := hr y.block e.symm
     have := hB2.size
     omega
end Go.Proofs.YtcpnkpogebjieaaGreat
namespace Go.Proofs.YtcpnkpogebjieaaGreat
open Go.RowKit Go.Shelf
attribute [local go_sem] Oper.semAt_some
theorem OwnL.same {w w' : World} {base : Nat} {v : Value} {zs : List Int} (h : OwnL w base v zs) (hs : ∀ k, v.ownBlock = some k → w'.heap[k]? = w.heap[k]?) : OwnL w' base v zs := by
 refine ⟨h.1, ?_⟩
 rcases h.2 with h1 | ⟨g, cap, cur, h1, hg, hh, r⟩
 · exact Or.inl h1
 · refine Or.inr ⟨g, cap, cur, h1, hg, ?_, r⟩
   rw [hs g (by rw [h1]; rfl)]; exact hh
theorem Blk.same {w w' : World} {B t : Nat} {cs : List Value} (h : Blk w B cs t) (hs : w'.heap[B]? = w.heap[B]?) : Blk w' B cs t := by
 unfold Blk at *
 rw [hs]; exact h
theorem chg_below {M : Nat → Prop} {w w' : World} {B : Nat} (h : Below B w w') (hB : w.heap.size ≤ B) : Chg M w w' := ⟨h.os, h.tape, h.output, h.size, fun k hk _ => h.block k (by omega)⟩
theorem chg_gr2 {M : Nat → Prop} {w w' : World} {r : Option Nat} {g : Nat} (h : Gr2 w w' r g) (hr : ∀ k, r = some k → M k) (hg : M g) : Chg M w w' :=
 ⟨h.os, h.tape, h.output, h.size, fun k hk hm => h.block k hk (fun e => hm (hr k e.symm)) (fun e => hm (e ▸ hg))⟩
end Go.Proofs.YtcpnkpogebjieaaGreat
