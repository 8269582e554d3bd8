/- What an ok heap is, as a plain function. No Go function is walked here. -/
import Derived.Test.YtcpnkpogebjieaaToH
namespace Go.Proofs.Ytcpnkpogebjieaa
open Go.RowKit

def inB (n lo hi : Int) : Bool := decide (lo ≤ n) && decide (n ≤ hi)
def byteOk (c : UInt8) : Bool := (decide (97 ≤ c.toNat) && decide (c.toNat ≤ 122)) || (decide (48 ≤ c.toNat) && decide (c.toNat ≤ 57))
def textOkB (t : ByteArray) : Bool := decide (1 ≤ t.size) && decide (t.size ≤ 12) && t.data.toList.all byteOk
def refsOk (most : Int) (r : List Int) : Bool := r.all fun z => inB z (-1) (most - 1)
def kindOk (k : Int) (t : ByteArray) (n : Nat) : Bool :=
  if k = 1 then textOkB t && decide (n = 0)
  else if k = 2 then decide (t.size = 0) && decide (n ≤ 6)
  else if k = 3 then decide (t.size = 0) && decide (n = 2)
  else if k = 4 then decide (t.size = 0) && decide (n = 0)
  else false
def objOk (most : Int) (o : Int × ByteArray × List Int) : Bool := refsOk most o.2.2 && kindOk o.1 o.2.1 o.2.2.length
def watchOk (os : List (Int × ByteArray × List Int)) (p : Int × Int) : Bool :=
  inB p.1 0 (os.length - 1) && inB p.2 0 (os.length - 1) && decide ((os[p.1.toNat]?.map fun o => o.1) = some 4)
def okP (x : List (Int × ByteArray × List Int) × List Int × List (Int × Int) × List (Int × Int)) : Bool :=
  (decide (x.1.length ≤ 60) && decide (x.2.1.length ≤ 8) && decide (x.2.2.1.length + x.2.2.2.length ≤ 20)) &&
  (x.1.all (objOk x.1.length) && (refsOk x.1.length x.2.1 && (x.2.2.1.all (watchOk x.1) && x.2.2.2.all (watchOk x.1))))

theorem all_of {α : Type} {l : List α} {f : α → Bool} (h : ∀ i (hi : i < l.length), f l[i] = true) : l.all f = true := by
  rw [List.all_eq_true]
  intro x hx
  obtain ⟨i, hi, rfl⟩ := List.getElem_of_mem hx
  exact h i hi
theorem not_all {α : Type} {l : List α} {f : α → Bool} {k : Nat} (hk : k < l.length) (h : f l[k] = false) : l.all f = false := by
  cases hx : l.all f with
  | false => rfl
  | true => rw [List.all_eq_true] at hx; rw [hx _ (List.getElem_mem hk)] at h; simp at h
theorem all_succ {α : Type} {l : List α} {f : α → Bool} {k : Nat} (h : ∀ i (hi : i < l.length), i < k → f l[i] = true) (hk : k < l.length) (hf : f l[k] = true) : ∀ i (hi : i < l.length), i < k + 1 → f l[i] = true := fun i hi hik => by
  by_cases e : i = k
  · subst e; exact hf
  · exact h i hi (by omega)

theorem nil_size {t : ByteArray} (h : t.toList = []) : t.size = 0 := by
  rw [ByteArray.toList_eq] at h
  have := congrArg List.length h
  simpa using this
theorem size_nil {t : ByteArray} (h : t.size = 0) : t.toList = [] := by
  rw [ByteArray.toList_eq]
  exact List.eq_nil_of_length_eq_zero (by simpa using h)

theorem ret_bool {a b : Bool} (h : a = b) : Ending.returned (.bool a) = .returned (.bool b) := by rw [h]
theorem beq_nat (n m : Nat) : ((n : Int) == (m : Int)) = decide (n = m) := by
  rw [Bool.eq_iff_iff]; simp; omega
theorem beq_zero (n : Nat) : ((n : Int) == 0) = decide (n = 0) := beq_nat n 0
theorem beq_two (n : Nat) : ((n : Int) == 2) = decide (n = 2) := beq_nat n 2
theorem le_six (n : Nat) : decide ((n : Int) ≤ 6) = decide (n ≤ 6) := by
  rw [Bool.eq_iff_iff]; simp; omega

end Go.Proofs.Ytcpnkpogebjieaa
