/- Lists of objects that a call owns, and the parts of these. No Go function is walked here. -/
import Derived.Test.YtcpnkpogebjieaaSi4
namespace Go.Proofs.Ytcpnkpogebjieaa
open Go.RowKit

theorem row_ty {w : World} {base e size n k : Nat} {v : Value} {xs : List Value} (h : w.ownsRow base e size v n xs) (hk : v.ownBlock = some k) : ∃ cur, w.heap[k]? = some (.cells cur e (0, 0)) := by
  rcases h.2 with ⟨h1, _⟩ | ⟨g, cap, cur, h1, _, hh, _⟩
  · rw [h1] at hk; simp [Value.ownBlock] at hk
  · rw [h1] at hk
    simp [Value.ownBlock] at hk
    subst hk
    exact ⟨cur, hh⟩
/-- Rows of two element types are two rows. -/
theorem row_ne {w : World} {base e size n base' e' size' n' : Nat} {v v' : Value} {xs xs' : List Value} (h : w.ownsRow base e size v n xs) (h' : w.ownsRow base' e' size' v' n' xs') (he : e ≠ e') : v.ownBlock = none ∨ v.ownBlock ≠ v'.ownBlock := by
  cases hk : v.ownBlock with
  | none => exact Or.inl rfl
  | some k =>
    refine Or.inr fun e1 => ?_
    obtain ⟨c1, q1⟩ := row_ty h hk
    obtain ⟨c2, q2⟩ := row_ty h' e1.symm
    rw [q1] at q2
    simp at q2
    exact he q2.2
theorem row_ne_blk {w : World} {base e size n B t : Nat} {v : Value} {xs cs : List Value} (h : w.ownsRow base e size v n xs) (hb : Blk w B cs t) (ht : t ≠ e) : v.ownBlock ≠ some B := by
  intro hk
  obtain ⟨c1, q1⟩ := row_ty h hk
  unfold Blk at hb
  rw [hb] at q1
  simp at q1
  exact ht q1.2

/-- A list of objects that the call owns (their parts aside). -/
def OwnB (w : World) (base : Nat) (v : Value) (l : List Ob) : Prop := w.ownsRow base 52 3 v l.length (l.flatMap Ob.cs)
theorem OwnB.lt {w : World} {base : Nat} {v : Value} {l : List Ob} (h : OwnB w base v l) : ∀ k, v.ownBlock = some k → base ≤ k ∧ k < w.heap.size := World.ownsRow.lt h
theorem OwnB.below {w w' : World} {base B : Nat} {v : Value} {l : List Ob} (h : OwnB w base v l) (hb : Below B w w') (hB : w.heap.size ≤ B) : OwnB w' base v l := by
  refine World.ownsRow.kept h (gb_of_below hb hB none) ?_
  cases e : v.ownBlock with
  | none => exact Or.inl rfl
  | some k => exact Or.inr (by simp)
theorem OwnB.form {w : World} {base : Nat} {v : Value} {l : List Ob} (h : OwnB w base v l) : ∃ a cap, v = .slice a l.length cap ∧ (l.length ≤ cap ∧ cap ≤ maxLen) ∧ ((∀ i (hi : i < l.length), SegI w l[i].ra l[i].r) → SegO w a l) := by
  rcases h.2 with ⟨h1, h2⟩ | ⟨g, cap, cur, h1, hg, hh, hn, hc, hs, htake⟩
  · refine ⟨none, 0, by rw [h1, h2], ⟨by omega, Nat.zero_le _⟩, fun hr => ⟨fun hm => by omega, hr⟩⟩
  · refine ⟨some ⟨g, 0, none⟩, cap, h1, ⟨hn, hc⟩, fun hr => ⟨fun hm => ⟨g, 0, rfl, lt_of_block hh, fun i hi => ?_⟩, hr⟩⟩
    have h' : w.ownsRow base 52 3 (.slice (some ⟨g, 0, none⟩) l.length cap) l.length (l.flatMap Ob.cs) := by rw [← h1]; exact h
    have g0 := flat_get Ob.cs 3 (fun _ => rfl) l i 0 hi (by omega)
    have g1 := flat_get Ob.cs 3 (fun _ => rfl) l i 1 hi (by omega)
    have g2 := flat_get Ob.cs 3 (fun _ => rfl) l i 2 hi (by omega)
    have el : l.getD i Ob.zero = l[i] := by simp [List.getD, List.getElem?_eq_getElem hi]
    refine ⟨?_, ?_, ?_⟩
    · rw [Nat.zero_add, own_get h' _ (by omega)]; simpa [Ob.cs, el, List.getElem?_eq_getElem hi] using g0
    · rw [Nat.zero_add, own_get h' _ (by omega)]; simpa [Ob.cs, el, List.getElem?_eq_getElem hi] using g1
    · rw [Nat.zero_add, own_get h' _ (by omega)]; simpa [Ob.cs, el, List.getElem?_eq_getElem hi] using g2

def Ob.rv (o : Ob) : Value := .slice o.ra o.r.length o.rcap
/-- Parts of objects, each in a row of its own. -/
structure OwnRs (w : World) (base : Nat) (l : List Ob) : Prop where
  own : ∀ i (hi : i < l.length), OwnL w base l[i].rv l[i].r
  inc : ∀ i j (hi : i < l.length) (hj : j < l.length), i < j → ∀ a b, l[i].rv.ownBlock = some a → l[j].rv.ownBlock = some b → a < b
theorem OwnRs.nil (w : World) (base : Nat) : OwnRs w base [] := ⟨fun i hi => by simp at hi, fun i j hi => by simp at hi⟩
theorem OwnRs.below {w w' : World} {base B : Nat} {l : List Ob} (h : OwnRs w base l) (hb : Below B w w') (hB : w.heap.size ≤ B) : OwnRs w' base l := ⟨fun i hi => (h.own i hi).below hb hB, h.inc⟩
theorem OwnRs.grown {w w' : World} {base base' e size n : Nat} {l : List Ob} {v : Value} {xs : List Value} (h : OwnRs w base l) (hv : w.ownsRow base' e size v n xs) (he : e ≠ 3) (hg : w.grownBy w' v.ownBlock) : OwnRs w' base l :=
  ⟨fun i hi => (h.own i hi).kept hg (row_ne (h.own i hi) hv (fun q => he q.symm)), h.inc⟩
theorem OwnRs.set {w : World} {base B t : Nat} {l : List Ob} {cs : List Value} (h : OwnRs w base l) (hb : Blk w B cs t) (ht : t ≠ 3) (j : Nat) (u : Value) : OwnRs (w.setCell ⟨B, j, none⟩ u) base l :=
  ⟨fun i hi => ownsRow_setCell_other (h.own i hi) (row_ne_blk (h.own i hi) hb ht) u, h.inc⟩
theorem OwnRs.snoc {w : World} {base : Nat} {l : List Ob} (h : OwnRs w base l) (o : Ob) (ho : OwnL w base o.rv o.r) (hm : ∀ i (hi : i < l.length) a b, l[i].rv.ownBlock = some a → o.rv.ownBlock = some b → a < b) : OwnRs w base (l ++ [o]) := by
  refine ⟨fun i hi => ?_, fun i j hi hj hij a b ha hb => ?_⟩
  · by_cases hl : i < l.length
    · simpa [List.getElem_append_left hl] using h.own i hl
    · have e : i = l.length := by simp at hi; omega
      subst e
      simpa using ho
  · by_cases hl : j < l.length
    · have hli : i < l.length := by omega
      rw [List.getElem_append_left hli] at ha
      rw [List.getElem_append_left hl] at hb
      exact h.inc i j hli hl hij a b ha hb
    · have e : j = l.length := by simp at hj; omega
      subst e
      rw [List.getElem_append_left hij] at ha
      simp at hb
      exact hm i hij a b ha hb
theorem OwnRs.lt {w : World} {base : Nat} {l : List Ob} (h : OwnRs w base l) (i : Nat) (hi : i < l.length) (a : Nat) (ha : l[i].rv.ownBlock = some a) : base ≤ a ∧ a < w.heap.size := (h.own i hi).lt a ha
theorem OwnRs.seg {w : World} {base : Nat} {l : List Ob} (h : OwnRs w base l) (i : Nat) (hi : i < l.length) : SegI w l[i].ra l[i].r := by
  obtain ⟨a, cap, e, hs, _⟩ := (h.own i hi).form
  simp only [Ob.rv, Value.slice.injEq] at e
  rw [e.1]; exact hs
theorem obj_new {w : World} (o : Ob) (t : TypeId) : ∀ j u, o.cs[j]? = some u → (w.alloc (Obj.cells #[.int .i64 o.k, .string o.t, .slice o.ra o.r.length o.rcap] t)).cell? ((⟨w.heap.size, 0, none⟩ : Addr).add j) = some u :=
  World.news_of_block (cs := #[.int .i64 o.k, .string o.t, .slice o.ra o.r.length o.rcap]) (heap_alloc_new w _)
theorem Ob.one (o : Ob) : ∀ u ∈ o.cs, u.oneCell' = true := fun u hu => by
  simp [Ob.cs] at hu
  rcases hu with rfl | rfl | rfl <;> rfl

/-- A heap in rows of its own, from block B on. -/
structure OwnP (w : World) (B : Nat) (h : Hp) : Prop where
  ob : OwnB w B (.slice h.oa h.os.length h.ocap) h.os
  rs : OwnRs w B h.os
  ro : OwnL w B (.slice h.ra h.rs.length h.rcap) h.rs
  rlt : ∀ i (hi : i < h.os.length) a b, h.os[i].rv.ownBlock = some a → (Value.slice h.ra h.rs.length h.rcap).ownBlock = some b → a < b
  wa : OwnW w B (.slice h.wa h.ws.length h.wcap) h.ws
  da : OwnW w B (.slice h.da h.ds.length h.dcap) h.ds
  wlt : ∀ a b, (Value.slice h.wa h.ws.length h.wcap).ownBlock = some a → (Value.slice h.da h.ds.length h.dcap).ownBlock = some b → a < b
theorem OwnP.isIn {w : World} {B : Nat} {h : Hp} (hh : OwnP w B h) : HpIn w h := by
  refine ⟨?_, ?_, ?_, ?_⟩
  · obtain ⟨a, cap, e, _, hs⟩ := hh.ob.form
    simp only [Value.slice.injEq] at e
    rw [e.1]; exact hs (fun i hi => hh.rs.seg i hi)
  · obtain ⟨a, cap, e, hs, _⟩ := hh.ro.form
    simp only [Value.slice.injEq] at e
    rw [e.1]; exact hs
  · obtain ⟨a, cap, e, hs, _⟩ := hh.wa.form
    simp only [Value.slice.injEq] at e
    rw [e.1]; exact hs
  · obtain ⟨a, cap, e, hs, _⟩ := hh.da.form
    simp only [Value.slice.injEq] at e
    rw [e.1]; exact hs
theorem OwnP.below {w w' : World} {B C : Nat} {h : Hp} (hh : OwnP w B h) (hb : Below C w w') (hC : w.heap.size ≤ C) : OwnP w' B h :=
  ⟨hh.ob.below hb hC, hh.rs.below hb hC, hh.ro.below hb hC, hh.rlt, hh.wa.below hb hC, hh.da.below hb hC, hh.wlt⟩

/-- All blocks of other element types than t are as they were. -/
def KeepT (t : Nat) (A C : World) : Prop := ∀ (k : Nat) (cs : Array Value) (e : Nat), A.heap[k]? = some (.cells cs e (0, 0)) → e ≠ t → C.heap[k]? = some (.cells cs e (0, 0))
theorem KeepT.refl (t : Nat) (A : World) : KeepT t A A := fun _ _ _ h _ => h
theorem KeepT.trans {t : Nat} {A C D : World} (h : KeepT t A C) (h' : KeepT t C D) : KeepT t A D := fun k cs e hk he => h' k cs e (h k cs e hk he) he
theorem KeepT.below {A C : World} {B : Nat} (t : Nat) (hb : Below B A C) (hB : A.heap.size ≤ B) : KeepT t A C := fun k cs e hk _ => by
  rw [hb.block k (Nat.lt_of_lt_of_le (lt_of_block hk) hB)]; exact hk
theorem KeepT.set {A : World} {B t : Nat} {cs : List Value} (hb : Blk A B cs t) (j : Nat) (u : Value) : KeepT t A (A.setCell ⟨B, j, none⟩ u) := fun k c e hk he => by
  have hne : k ≠ B := fun q => by
    subst q
    unfold Blk at hb
    rw [hb] at hk
    simp at hk
    exact he hk.2.symm
  rw [Below.heap_setCell _ _ _ _ (by simpa using hne)]; exact hk
theorem row_keep {A C : World} {base e size n t : Nat} {v : Value} {xs : List Value} (h : A.ownsRow base e size v n xs) (hk : KeepT t A C) (he : e ≠ t) : C.ownsRow base e size v n xs := by
  refine ⟨h.1, ?_⟩
  rcases h.2 with h1 | ⟨g, cap, cur, h1, hg, hh, r⟩
  · exact Or.inl h1
  · exact Or.inr ⟨g, cap, cur, h1, hg, hk g cur e hh he, r⟩
theorem OwnRs.keep {A C : World} {base : Nat} {l : List Ob} (h : OwnRs A base l) (hk : KeepT 27 A C) : OwnRs C base l := ⟨fun i hi => row_keep (h.own i hi) hk (by decide), h.inc⟩
theorem OwnP.keep {A C : World} {B : Nat} {h : Hp} (hh : OwnP A B h) (hk : KeepT 27 A C) : OwnP C B h :=
  ⟨row_keep hh.ob hk (by decide), hh.rs.keep hk, row_keep hh.ro hk (by decide), hh.rlt, row_keep hh.wa hk (by decide), row_keep hh.da hk (by decide), hh.wlt⟩
theorem OwnB.base {w : World} {B C : Nat} {v : Value} {l : List Ob} (h : OwnB w B v l) (hC : C ≤ B) : OwnB w C v l := by
  refine ⟨h.1, ?_⟩
  rcases h.2 with h1 | ⟨g, cap, cur, h1, hg, r⟩
  · exact Or.inl h1
  · exact Or.inr ⟨g, cap, cur, h1, Nat.le_trans hC hg, r⟩
theorem OwnP.base {w : World} {B C : Nat} {h : Hp} (hh : OwnP w B h) (hC : C ≤ B) : OwnP w C h :=
  ⟨hh.ob.base hC, ⟨fun i hi => (hh.rs.own i hi).base hC, hh.rs.inc⟩, hh.ro.base hC, hh.rlt, hh.wa.base hC, hh.da.base hC, hh.wlt⟩
/-- A heap stored, cell by cell, into a block of its own. -/
theorem put4 {w : World} {B : Nat} {c0 c1 c2 c3 : Value} (hb : Blk w B [c0, c1, c2, c3] 27) (v0 v1 v2 v3 : Value) :
    KeepT 27 w ((((w.setCell ⟨B, 0, none⟩ v0).setCell ⟨B, 1, none⟩ v1).setCell ⟨B, 2, none⟩ v2).setCell ⟨B, 3, none⟩ v3) ∧ Blk ((((w.setCell ⟨B, 0, none⟩ v0).setCell ⟨B, 1, none⟩ v1).setCell ⟨B, 2, none⟩ v2).setCell ⟨B, 3, none⟩ v3) B [v0, v1, v2, v3] 27 := by
  have h1 := hb.store 0 v0
  have h2 := h1.store 1 v1
  have h3 := h2.store 2 v2
  have h4 := h3.store 3 v3
  exact ⟨(((KeepT.set hb 0 v0).trans (KeepT.set h1 1 v1)).trans (KeepT.set h2 2 v2)).trans (KeepT.set h3 3 v3), h4⟩
theorem below4 {w W : World} {B C : Nat} (h : Below B w W) (hC : B ≤ C) (v0 v1 v2 v3 : Value) : Below B w ((((W.setCell ⟨C, 0, none⟩ v0).setCell ⟨C, 1, none⟩ v1).setCell ⟨C, 2, none⟩ v2).setCell ⟨C, 3, none⟩ v3) :=
  (((h.setCell (p := ⟨C, 0, none⟩) hC v0).setCell (p := ⟨C, 1, none⟩) hC v1).setCell (p := ⟨C, 2, none⟩) hC v2).setCell (p := ⟨C, 3, none⟩) hC v3

/-- One object, its parts told by where they are. -/
def objQ (X : List Int) (o : Ob) : Int × ByteArray × List Int := (o.k, o.t, o.r.map (wh X))
end Go.Proofs.Ytcpnkpogebjieaa
