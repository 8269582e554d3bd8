/- Places told by where they are in a list, and how a heap looks, as plain functions. No Go function is walked here. -/
import Derived.Test.YtcpnkpogebjieaaRi5
namespace Go.Proofs.Ytcpnkpogebjieaa
open Go.RowKit

def pos : List Int → Int → Int
  | [], _ => -1
  | z :: l, x => if z = x then 0 else if pos l x < 0 then -1 else pos l x + 1
def wh (l : List Int) (x : Int) : Int := if x < 0 then -1 else pos l x

theorem AtP.pos {zs : List Int} : ∀ {x r : Int}, AtP zs x r → r = pos zs x := by
  induction zs with
  | nil =>
    intro x r h
    rcases h with ⟨rfl, _⟩ | ⟨k, _, hk, _⟩
    · rfl
    · simp at hk
  | cons z l ih =>
    intro x r h
    rcases h with ⟨rfl, hn⟩ | ⟨k, rfl, hk, hf⟩
    · simp only [List.mem_cons, not_or] at hn
      have h1 := ih (x := x) (r := -1) (Or.inl ⟨rfl, hn.2⟩)
      unfold Go.Proofs.Ytcpnkpogebjieaa.pos
      rw [if_neg (fun e => hn.1 e.symm), ← h1]; simp
    · cases k with
      | zero =>
        simp at hk
        unfold Go.Proofs.Ytcpnkpogebjieaa.pos
        rw [if_pos hk]; simp
      | succ k =>
        have hz : ¬ z = x := fun e => hf 0 (by omega) (by simp [e])
        have h1 := ih (x := x) (r := k) (Or.inr ⟨k, rfl, by simpa using hk, fun j hj e => hf (j + 1) (by omega) (by simpa using e)⟩)
        unfold Go.Proofs.Ytcpnkpogebjieaa.pos
        rw [if_neg hz, ← h1, if_neg (by omega)]; simp

theorem pos_bd (l : List Int) (x : Int) : -1 ≤ pos l x ∧ pos l x < l.length := by
  induction l with
  | nil => simp [pos]
  | cons z l ih =>
    unfold pos
    simp only [List.length_cons]
    split
    · omega
    · split <;> omega
theorem pos_mem (l : List Int) (x : Int) : 0 ≤ pos l x ↔ x ∈ l := by
  induction l with
  | nil => simp [pos]
  | cons z l ih =>
    unfold pos
    by_cases h : z = x
    · subst h; simp
    · have h' : ¬ x = z := fun e => h e.symm
      have := pos_bd l x
      rw [if_neg h]
      simp only [List.mem_cons, h', false_or, ← ih]
      split <;> omega
theorem pos_snoc (l : List Int) (z x : Int) : pos (l ++ [z]) x = if x ∈ l then pos l x else if z = x then (l.length : Int) else -1 := by
  induction l with
  | nil =>
    by_cases h : z = x <;> simp [pos, h]
  | cons y l ih =>
    have hb := pos_bd l x
    have hm := pos_mem l x
    rw [List.cons_append]
    unfold pos
    rw [ih]
    by_cases h : y = x
    · subst h; simp
    · have h' : ¬ x = y := fun e => h e.symm
      by_cases hx : x ∈ l
      · simp [h, hx]
      · simp only [h, h', hx, List.mem_cons, if_false, or_self, List.length_cons]
        by_cases hz : z = x
        · simp only [hz, if_true]
          rw [if_neg (by omega)]; simp
        · simp [hz]

/-- Of each of n objects, where it is. -/
def whs (l : List Int) (n : Nat) : List Int := (List.range n).map fun (i : Nat) => pos l (i : Int)
theorem whs_len (l : List Int) (n : Nat) : (whs l n).length = n := by simp [whs]
theorem whs_get (l : List Int) (n i : Nat) (h : i < (whs l n).length) : (whs l n)[i] = pos l (i : Int) := by simp [whs]
theorem whs_at (l : List Int) (n : Nat) (x : Int) (h0 : 0 ≤ x) (h : x.toNat < (whs l n).length) : (whs l n)[x.toNat] = pos l x := by
  rw [whs_get]; congr 1; omega
theorem whs_nil (n : Nat) : whs [] n = List.replicate n (-1) := by
  apply List.ext_getElem
  · simp [whs]
  · intro i h1 h2
    simp [whs, pos]
theorem whs_snoc (l : List Int) (n : Nat) (z : Int) (hz : z ∉ l) (h0 : 0 ≤ z) : whs (l ++ [z]) n = (whs l n).set z.toNat (l.length : Int) := by
  apply List.ext_getElem
  · simp [whs]
  · intro i h2 h3
    have hi : i < n := by simpa [whs] using h2
    rw [List.getElem_set, whs_get, pos_snoc]
    by_cases e : z.toNat = i
    · have ez : z = (i : Int) := by omega
      rw [if_pos e, if_neg (by rw [← ez]; exact hz), if_pos ez]
    · have ez : ¬ z = (i : Int) := by omega
      rw [if_neg e, whs_get, if_neg ez]
      have hb := pos_bd l (i : Int)
      have hm := pos_mem l (i : Int)
      split
      · rfl
      · rename_i hn
        have : ¬ 0 ≤ pos l (i : Int) := fun e => hn (hm.1 e)
        omega
theorem nodup_take {l : List Int} (h : l.Nodup) {k : Nat} (hk : k < l.length) : l[k] ∉ l.take k := by
  intro hm
  obtain ⟨i, hi, e⟩ := List.getElem_of_mem hm
  rw [List.getElem_take] at e
  have hik : i < k := by have := List.length_take_le k l; omega
  exact List.pairwise_iff_getElem.1 h i k (by omega) hk hik e

/-- What guardians in the list watch. -/
def watL (ws : List (Int × Int)) (x : List Int) : List (Int × Int) := (ws.filter fun p => decide (0 ≤ pos x p.1)).map fun p => (pos x p.1, pos x p.2)
theorem watL_succ (ws : List (Int × Int)) (x : List Int) (k : Nat) (hk : k < ws.length) : watL (ws.take (k + 1)) x = if decide (0 ≤ pos x ws[k].1) = true then watL (ws.take k) x ++ [(pos x ws[k].1, pos x ws[k].2)] else watL (ws.take k) x := by
  unfold watL
  rw [List.take_succ_eq_append_getElem hk, List.filter_append]
  by_cases h : decide (0 ≤ pos x ws[k].1) = true
  · simp only [List.filter_cons, h, if_true, List.filter_nil, List.map_append, List.map_cons, List.map_nil]
  · simp only [List.filter_cons, h, List.filter_nil]
    simp
theorem watL_le (ws : List (Int × Int)) (x : List Int) (k : Nat) : (watL (ws.take k) x).length ≤ k := by
  unfold watL
  rw [List.length_map]
  exact Nat.le_trans (List.length_filter_le _ _) (List.length_take_le _ _)
theorem watL_len (ws : List (Int × Int)) (x : List Int) : (watL ws x).length ≤ ws.length := by
  unfold watL
  rw [List.length_map]
  exact List.length_filter_le _ _

/-- One object, its parts told by where they are. -/
def objL (os : List (Int × ByteArray × List Int)) (x : List Int) (p : Int) : Int × ByteArray × List Int :=
  match os[p.toNat]? with
  | none => (0, ⟨#[]⟩, [])
  | some o => (o.1, o.2.1, o.2.2.map (wh x))
theorem objL_at {os : List Ob} {x : List Int} {p : Int} {i : Nat} (hx : p.toNat = i) (hi : i < os.length) : objL (os.map Ob.p) x p = (os[i].k, os[i].t, os[i].r.map (wh x)) := by
  subst hx
  simp [objL, List.getElem?_map, List.getElem?_eq_getElem hi, Ob.p]
structure Look where
  o : List (Int × ByteArray × List Int)
  r : List Int
  w : List (Int × Int)
  d : List (Int × Int)
def lookP (a : List (Int × ByteArray × List Int) × List Int × List (Int × Int) × List (Int × Int)) : Look :=
  ⟨(reachP a).map (objL a.1 (reachP a)), a.2.1.map (wh (reachP a)), watL a.2.2.1 (reachP a), watL a.2.2.2 (reachP a)⟩
/-- Two ok heaps look the same. -/
def SameP (a b : List (Int × ByteArray × List Int) × List Int × List (Int × Int) × List (Int × Int)) : Prop :=
  okP a = true ∧ okP b = true ∧ lookP a = lookP b

theorem reach_places {h : Hp} (hok : okP h.p = true) (hs : Small h) (hcap : ∀ (i : Nat) (hi : i < h.os.length), h.os[i].r.length ≤ h.os[i].rcap) : Places h.os.length (reachP h.p) := by
  have E : reachP h.p = traceF (h.os.map Ob.p) h.ds 61 0 (putAll [] h.rs) := by
    simp only [reachP, hok, if_true]; rfl
  rw [E]
  exact trace_places (okP_tr hok hs hcap) 61 0 ((Places.nil _).putAll (fun z hz => (refs_lt (okP_parts hok).2.2.2.2.1 z hz).2))

end Go.Proofs.Ytcpnkpogebjieaa
