/- The program's own looking the same: two objects, two lists of objects. · Lists of objects that a call owns, and the parts of these. No Go function is walked here. · append of a whole slice, nil or empty too, onto a list that the call owns. No Go function is walked here. -/
import Derived.Test.YtcpnkpogebjieaaSi1ToSi3
namespace Go.Proofs.Ytcpnkpogebjieaa
open Go.RowKit

set_option maxHeartbeats 1600000 in
set_option maxRecDepth 100000 in
theorem sameObj_any (a b : Ob) (w : World) (ha : SegI w a.ra a.r) (hb : SegI w b.ra b.r) (hal : a.r.length ≤ maxLen) (hbl : b.r.length ≤ maxLen) :
    Calls Try.prog 53 #[.agg #[.int .i64 a.k, .string a.t, .slice a.ra a.r.length a.rcap], .agg #[.int .i64 b.k, .string b.t, .slice b.ra b.r.length b.rcap]] w fun e w' => ∃ r : Bool, e = .returned (.bool r) ∧ (r = true ↔ a.p = b.p) ∧ Below w.heap.size w w' := by
  obtain ⟨k1, t1, ra1, c1, r1⟩ := a
  obtain ⟨k2, t2, ra2, c2, r2⟩ := b
  simp only [Ob.p] at *
  have hB0 : Below w.heap.size w ((w.alloc (Obj.cells #[Value.int .i64 k1, Value.string t1, Value.slice ra1 r1.length c1] 52)).alloc (Obj.cells #[Value.int .i64 k2, Value.string t2, Value.slice ra2 r2.length c2] 52)) := ((Below.refl _ w).alloc (Nat.le_refl _) _).alloc (by simp) _
  by_cases hk : k1 = k2
  · subst hk
    by_cases ht : t1 = t2
    · subst ht
      have c1 := equalInts_any ra1 ra2 r1.length r2.length c1 c2 r1 r2 _ rfl rfl (ha.below hB0 (Nat.le_refl _)) (hb.below hB0 (Nat.le_refl _)) hal hbl
      go_enter Try.func53, Try.ntmps53
      go_wp2_with fail
      refine c1.mono ?_
      rintro e w1 ⟨rfl, hb1⟩
      have hB1 := hB0.trans (hb1.mono hB0.size)
      clear c1 hb1 hB0
      go_wp2
      go_ret
      exact ⟨_, rfl, by simp, hB1⟩
    · have h1 : (t1.toList == t2.toList) = false := by
        rw [beq_eq_false_iff_ne]
        exact fun e => ht (bytes_inj e)
      go_enter Try.func53, Try.ntmps53
      go_wp2
      go_ret
      exact ⟨_, rfl, by simp [ht], hB0⟩
  · have hne : (k1 == k2) = false := by simp [hk]
    go_enter Try.func53, Try.ntmps53
    go_wp2
    go_ret
    exact ⟨_, rfl, by simp [hk], hB0⟩

set_option maxHeartbeats 1600000 in
set_option maxRecDepth 100000 in
theorem equalObjs_any (a b : Option Addr) (ca cb : Nat) (xs ys : List Ob) (w : World) (hx : SegO w a xs) (hy : SegO w b ys) (hn1 : xs.length ≤ 1048576) (hxl : ∀ i (hi : i < xs.length), xs[i].r.length ≤ maxLen) (hyl : ∀ i (hi : i < ys.length), ys[i].r.length ≤ maxLen) :
    Calls Try.prog 52 #[.slice a xs.length ca, .slice b ys.length cb, .func (.func 53) #[] #[]] w fun e w' => ∃ r : Bool, e = .returned (.bool r) ∧ (r = true ↔ xs.map Ob.p = ys.map Ob.p) ∧ Below w.heap.size w w' := by
  by_cases hl : xs.length = ys.length
  · have hne : ((xs.length : Int) != (ys.length : Int)) = false := by simp [hl]
    have HL : Hid (xs.length = ys.length) := hl
    clear hl
    go_enter Try.func52, Try.ntmps52
    go_wp2
    go_loopw [7, 8, 9, 17] (fun _ _ _ i wr => ∃ k : Nat, k ≤ xs.length ∧ i = .int .i64 k ∧ (xs.map Ob.p).take k = (ys.map Ob.p).take k ∧ Below w.heap.size w wr) (fun _ _ _ i _ => xs.length - (intOf i).toNat)
    case atStart => exact ⟨0, Nat.zero_le _, rfl, rfl, Below.refl _ _⟩
    case round =>
      obtain ⟨k, hk, rfl, htk, hb⟩ := hrel
      have HT : Hid ((xs.map Ob.p).take k = (ys.map Ob.p).take k) := htk
      clear htk
      by_cases hlt : k < xs.length
      · have hky : k < ys.length := by have := HL.out; omega
        have hkm1 : k < (xs.map Ob.p).length := by simpa using hlt
        have hkm2 : k < (ys.map Ob.p).length := by simpa using hky
        obtain ⟨b1, o1, rfl, hb1, e1, e2, e3⟩ := hx.get hlt
        obtain ⟨b2, o2, rfl, hb2, f1, f2, f3⟩ := hy.get hky
        have d1 := (hb.cell (p := ⟨b1, o1 + k * 3, none⟩) hb1).trans e1
        have d2 := (hb.cell (p := ⟨b1, o1 + k * 3 + 1, none⟩) hb1).trans e2
        have d3 := (hb.cell (p := ⟨b1, o1 + k * 3 + 2, none⟩) hb1).trans e3
        have hA : Below wr.heap.size wr (wr.alloc (Obj.cells #[Value.int .i64 xs[k].k, Value.string xs[k].t, Value.slice xs[k].ra xs[k].r.length xs[k].rcap] 52)) := (Below.refl _ _).alloc (Nat.le_refl _) _
        have hbA := hb.trans (hA.mono hb.size)
        have d4 := (hbA.cell (p := ⟨b2, o2 + k * 3, none⟩) hb2).trans f1
        have d5 := (hbA.cell (p := ⟨b2, o2 + k * 3 + 1, none⟩) hb2).trans f2
        have d6 := (hbA.cell (p := ⟨b2, o2 + k * 3 + 2, none⟩) hb2).trans f3
        have hA2 := hbA.alloc hbA.size (Obj.cells #[Value.int .i64 ys[k].k, Value.string ys[k].t, Value.slice ys[k].ra ys[k].r.length ys[k].rcap] 52)
        have hi1 : (k : Int) < (xs.length : Int) := by omega
        have hi2 : (k : Int) < (ys.length : Int) := by omega
        have c1 := sameObj_any xs[k] ys[k] _ ((hx.2 _ hlt).below hA2 (Nat.le_refl _)) ((hy.2 _ hky).below hA2 (Nat.le_refl _)) (hxl _ hlt) (hyl _ hky)
        clear e1 e2 e3 f1 f2 f3 hA hbA
        go_wp2_with fail
        refine c1.mono ?_
        rintro e w1 ⟨r, rfl, hr, hbr⟩
        have HR : Hid (r = true ↔ xs[k].p = ys[k].p) := hr
        have hB1 := hA2.trans (hbr.mono hA2.size)
        clear c1 hr hbr hA2 d1 d2 d3 d4 d5 d6
        cases r with
        | false =>
          have HF : Hid (¬ xs.map Ob.p = ys.map Ob.p) := fun h => by
            refine ne_at hkm1 hkm2 ?_ h
            rw [List.getElem_map, List.getElem_map]
            intro e
            have := HR.out.2 e
            simp at this
          go_wp2
          go_ret
          exact ⟨_, rfl, by simp [HF.out], hB1⟩
        | true =>
          have HE : Hid ((xs.map Ob.p)[k] = (ys.map Ob.p)[k]) := by
            show _ = _
            rw [List.getElem_map, List.getElem_map]
            exact HR.out.1 rfl
          go_wp2
          go_roundw
          case rel => exact ⟨k + 1, by omega, by go_num, take_eq_succ HT.out hkm1 hkm2 HE.out, hB1⟩
          case measure => simp [intOf]; omega
      · have HE : Hid (xs.map Ob.p = ys.map Ob.p) := take_all HT.out (by rw [List.length_map]; omega) (by rw [List.length_map]; have := HL.out; omega)
        go_wp2
        go_ret
        exact ⟨_, rfl, by simp [HE.out], hb⟩
  · have hne : ((xs.length : Int) != (ys.length : Int)) = true := by simp; omega
    have HF : Hid (¬ xs.map Ob.p = ys.map Ob.p) := fun h => hl (map_eq_len h)
    clear hl
    go_enter Try.func52, Try.ntmps52
    go_wp2
    go_ret
    exact ⟨_, rfl, by simp [HF.out], Below.refl _ _⟩
end Go.Proofs.Ytcpnkpogebjieaa

namespace Go.Proofs.Ytcpnkpogebjieaa
open Go.RowKit

theorem row_ty {w : World} {base e size n k : Nat} {v : Value} {xs : List Value} (h : w.ownsRow base e size v n xs) (hk : v.ownBlock = some k) : ∃ cur, w.heap[k]? = some (.cells cur e (0, 0)) := by
  rcases h.2 with ⟨h1, _⟩ | ⟨g, cap, cur, h1, _, hh, _⟩
  · rw [h1] at hk; simp [Value.ownBlock] at hk
  · rw [h1] at hk
    simp [Value.ownBlock] at hk
    subst hk
    exact ⟨cur, hh⟩
/-- Rows of two element types are two rows. -/
theorem row_ne {w : World} {base e size n base' e' size' n' : Nat} {v v' : Value} {xs xs' : List Value} (h : w.ownsRow base e size v n xs) (h' : w.ownsRow base' e' size' v' n' xs') (he : e ≠ e') : v.ownBlock = none ∨ v.ownBlock ≠ v'.ownBlock := by
  cases hk : v.ownBlock with
  | none => exact Or.inl rfl
  | some k =>
    refine Or.inr fun e1 => ?_
    obtain ⟨c1, q1⟩ := row_ty h hk
    obtain ⟨c2, q2⟩ := row_ty h' e1.symm
    rw [q1] at q2
    simp at q2
    exact he q2.2
theorem row_ne_blk {w : World} {base e size n B t : Nat} {v : Value} {xs cs : List Value} (h : w.ownsRow base e size v n xs) (hb : Blk w B cs t) (ht : t ≠ e) : v.ownBlock ≠ some B := by
  intro hk
  obtain ⟨c1, q1⟩ := row_ty h hk
  unfold Blk at hb
  rw [hb] at q1
  simp at q1
  exact ht q1.2

/-- A list of objects that the call owns (their parts aside). -/
def OwnB (w : World) (base : Nat) (v : Value) (l : List Ob) : Prop := w.ownsRow base 52 3 v l.length (l.flatMap Ob.cs)
theorem OwnB.lt {w : World} {base : Nat} {v : Value} {l : List Ob} (h : OwnB w base v l) : ∀ k, v.ownBlock = some k → base ≤ k ∧ k < w.heap.size := World.ownsRow.lt h
theorem OwnB.below {w w' : World} {base B : Nat} {v : Value} {l : List Ob} (h : OwnB w base v l) (hb : Below B w w') (hB : w.heap.size ≤ B) : OwnB w' base v l := by
  refine World.ownsRow.kept h (gb_of_below hb hB none) ?_
  cases e : v.ownBlock with
  | none => exact Or.inl rfl
  | some k => exact Or.inr (by simp)
theorem OwnB.form {w : World} {base : Nat} {v : Value} {l : List Ob} (h : OwnB w base v l) : ∃ a cap, v = .slice a l.length cap ∧ (l.length ≤ cap ∧ cap ≤ maxLen) ∧ ((∀ i (hi : i < l.length), SegI w l[i].ra l[i].r) → SegO w a l) := by
  rcases h.2 with ⟨h1, h2⟩ | ⟨g, cap, cur, h1, hg, hh, hn, hc, hs, htake⟩
  · refine ⟨none, 0, by rw [h1, h2], ⟨by omega, Nat.zero_le _⟩, fun hr => ⟨fun hm => by omega, hr⟩⟩
  · refine ⟨some ⟨g, 0, none⟩, cap, h1, ⟨hn, hc⟩, fun hr => ⟨fun hm => ⟨g, 0, rfl, lt_of_block hh, fun i hi => ?_⟩, hr⟩⟩
    have h' : w.ownsRow base 52 3 (.slice (some ⟨g, 0, none⟩) l.length cap) l.length (l.flatMap Ob.cs) := by rw [← h1]; exact h
    have g0 := flat_get Ob.cs 3 (fun _ => rfl) l i 0 hi (by omega)
    have g1 := flat_get Ob.cs 3 (fun _ => rfl) l i 1 hi (by omega)
    have g2 := flat_get Ob.cs 3 (fun _ => rfl) l i 2 hi (by omega)
    have el : l.getD i Ob.zero = l[i] := by simp [List.getD, List.getElem?_eq_getElem hi]
    refine ⟨?_, ?_, ?_⟩
    · rw [Nat.zero_add, own_get h' _ (by omega)]; simpa [Ob.cs, el, List.getElem?_eq_getElem hi] using g0
    · rw [Nat.zero_add, own_get h' _ (by omega)]; simpa [Ob.cs, el, List.getElem?_eq_getElem hi] using g1
    · rw [Nat.zero_add, own_get h' _ (by omega)]; simpa [Ob.cs, el, List.getElem?_eq_getElem hi] using g2

def Ob.rv (o : Ob) : Value := .slice o.ra o.r.length o.rcap
/-- Parts of objects, each in a row of its own. -/
structure OwnRs (w : World) (base : Nat) (l : List Ob) : Prop where
  own : ∀ i (hi : i < l.length), OwnL w base l[i].rv l[i].r
  inc : ∀ i j (hi : i < l.length) (hj : j < l.length), i < j → ∀ a b, l[i].rv.ownBlock = some a → l[j].rv.ownBlock = some b → a < b
theorem OwnRs.nil (w : World) (base : Nat) : OwnRs w base [] := ⟨fun i hi => by simp at hi, fun i j hi => by simp at hi⟩
theorem OwnRs.below {w w' : World} {base B : Nat} {l : List Ob} (h : OwnRs w base l) (hb : Below B w w') (hB : w.heap.size ≤ B) : OwnRs w' base l := ⟨fun i hi => (h.own i hi).below hb hB, h.inc⟩
theorem OwnRs.grown {w w' : World} {base base' e size n : Nat} {l : List Ob} {v : Value} {xs : List Value} (h : OwnRs w base l) (hv : w.ownsRow base' e size v n xs) (he : e ≠ 3) (hg : w.grownBy w' v.ownBlock) : OwnRs w' base l :=
  ⟨fun i hi => (h.own i hi).kept hg (row_ne (h.own i hi) hv (fun q => he q.symm)), h.inc⟩
theorem OwnRs.set {w : World} {base B t : Nat} {l : List Ob} {cs : List Value} (h : OwnRs w base l) (hb : Blk w B cs t) (ht : t ≠ 3) (j : Nat) (u : Value) : OwnRs (w.setCell ⟨B, j, none⟩ u) base l :=
  ⟨fun i hi => ownsRow_setCell_other (h.own i hi) (row_ne_blk (h.own i hi) hb ht) u, h.inc⟩
theorem OwnRs.snoc {w : World} {base : Nat} {l : List Ob} (h : OwnRs w base l) (o : Ob) (ho : OwnL w base o.rv o.r) (hm : ∀ i (hi : i < l.length) a b, l[i].rv.ownBlock = some a → o.rv.ownBlock = some b → a < b) : OwnRs w base (l ++ [o]) := by
  refine ⟨fun i hi => ?_, fun i j hi hj hij a b ha hb => ?_⟩
  · by_cases hl : i < l.length
    · simpa [List.getElem_append_left hl] using h.own i hl
    · have e : i = l.length := by simp at hi; omega
      subst e
      simpa using ho
  · by_cases hl : j < l.length
    · have hli : i < l.length := by omega
      rw [List.getElem_append_left hli] at ha
      rw [List.getElem_append_left hl] at hb
      exact h.inc i j hli hl hij a b ha hb
    · have e : j = l.length := by simp at hj; omega
      subst e
      rw [List.getElem_append_left hij] at ha
      simp at hb
      exact hm i hij a b ha hb
theorem OwnRs.lt {w : World} {base : Nat} {l : List Ob} (h : OwnRs w base l) (i : Nat) (hi : i < l.length) (a : Nat) (ha : l[i].rv.ownBlock = some a) : base ≤ a ∧ a < w.heap.size := (h.own i hi).lt a ha
theorem OwnRs.seg {w : World} {base : Nat} {l : List Ob} (h : OwnRs w base l) (i : Nat) (hi : i < l.length) : SegI w l[i].ra l[i].r := by
  obtain ⟨a, cap, e, hs, _⟩ := (h.own i hi).form
  simp only [Ob.rv, Value.slice.injEq] at e
  rw [e.1]; exact hs
theorem obj_new {w : World} (o : Ob) (t : TypeId) : ∀ j u, o.cs[j]? = some u → (w.alloc (Obj.cells #[.int .i64 o.k, .string o.t, .slice o.ra o.r.length o.rcap] t)).cell? ((⟨w.heap.size, 0, none⟩ : Addr).add j) = some u :=
  World.news_of_block (cs := #[.int .i64 o.k, .string o.t, .slice o.ra o.r.length o.rcap]) (heap_alloc_new w _)
theorem Ob.one (o : Ob) : ∀ u ∈ o.cs, u.oneCell' = true := fun u hu => by
  simp [Ob.cs] at hu
  rcases hu with rfl | rfl | rfl <;> rfl

/-- A heap in rows of its own, from block B on. -/
structure OwnP (w : World) (B : Nat) (h : Hp) : Prop where
  ob : OwnB w B (.slice h.oa h.os.length h.ocap) h.os
  rs : OwnRs w B h.os
  ro : OwnL w B (.slice h.ra h.rs.length h.rcap) h.rs
  rlt : ∀ i (hi : i < h.os.length) a b, h.os[i].rv.ownBlock = some a → (Value.slice h.ra h.rs.length h.rcap).ownBlock = some b → a < b
  wa : OwnW w B (.slice h.wa h.ws.length h.wcap) h.ws
  da : OwnW w B (.slice h.da h.ds.length h.dcap) h.ds
  wlt : ∀ a b, (Value.slice h.wa h.ws.length h.wcap).ownBlock = some a → (Value.slice h.da h.ds.length h.dcap).ownBlock = some b → a < b
theorem OwnP.isIn {w : World} {B : Nat} {h : Hp} (hh : OwnP w B h) : HpIn w h := by
  refine ⟨?_, ?_, ?_, ?_⟩
  · obtain ⟨a, cap, e, _, hs⟩ := hh.ob.form
    simp only [Value.slice.injEq] at e
    rw [e.1]; exact hs (fun i hi => hh.rs.seg i hi)
  · obtain ⟨a, cap, e, hs, _⟩ := hh.ro.form
    simp only [Value.slice.injEq] at e
    rw [e.1]; exact hs
  · obtain ⟨a, cap, e, hs, _⟩ := hh.wa.form
    simp only [Value.slice.injEq] at e
    rw [e.1]; exact hs
  · obtain ⟨a, cap, e, hs, _⟩ := hh.da.form
    simp only [Value.slice.injEq] at e
    rw [e.1]; exact hs
theorem OwnP.below {w w' : World} {B C : Nat} {h : Hp} (hh : OwnP w B h) (hb : Below C w w') (hC : w.heap.size ≤ C) : OwnP w' B h :=
  ⟨hh.ob.below hb hC, hh.rs.below hb hC, hh.ro.below hb hC, hh.rlt, hh.wa.below hb hC, hh.da.below hb hC, hh.wlt⟩

/-- All blocks of other element types than t are as they were. -/
def KeepT (t : Nat) (A C : World) : Prop := ∀ (k : Nat) (cs : Array Value) (e : Nat), A.heap[k]? = some (.cells cs e (0, 0)) → e ≠ t → C.heap[k]? = some (.cells cs e (0, 0))
theorem KeepT.refl (t : Nat) (A : World) : KeepT t A A := fun _ _ _ h _ => h
theorem KeepT.trans {t : Nat} {A C D : World} (h : KeepT t A C) (h' : KeepT t C D) : KeepT t A D := fun k cs e hk he => h' k cs e (h k cs e hk he) he
theorem KeepT.below {A C : World} {B : Nat} (t : Nat) (hb : Below B A C) (hB : A.heap.size ≤ B) : KeepT t A C := fun k cs e hk _ => by
  rw [hb.block k (Nat.lt_of_lt_of_le (lt_of_block hk) hB)]; exact hk
theorem KeepT.set {A : World} {B t : Nat} {cs : List Value} (hb : Blk A B cs t) (j : Nat) (u : Value) : KeepT t A (A.setCell ⟨B, j, none⟩ u) := fun k c e hk he => by
  have hne : k ≠ B := fun q => by
    subst q
    unfold Blk at hb
    rw [hb] at hk
    simp at hk
    exact he hk.2.symm
  rw [Below.heap_setCell _ _ _ _ (by simpa using hne)]; exact hk
theorem row_keep {A C : World} {base e size n t : Nat} {v : Value} {xs : List Value} (h : A.ownsRow base e size v n xs) (hk : KeepT t A C) (he : e ≠ t) : C.ownsRow base e size v n xs := by
  refine ⟨h.1, ?_⟩
  rcases h.2 with h1 | ⟨g, cap, cur, h1, hg, hh, r⟩
  · exact Or.inl h1
  · exact Or.inr ⟨g, cap, cur, h1, hg, hk g cur e hh he, r⟩
theorem OwnRs.keep {A C : World} {base : Nat} {l : List Ob} (h : OwnRs A base l) (hk : KeepT 27 A C) : OwnRs C base l := ⟨fun i hi => row_keep (h.own i hi) hk (by decide), h.inc⟩
theorem OwnP.keep {A C : World} {B : Nat} {h : Hp} (hh : OwnP A B h) (hk : KeepT 27 A C) : OwnP C B h :=
  ⟨row_keep hh.ob hk (by decide), hh.rs.keep hk, row_keep hh.ro hk (by decide), hh.rlt, row_keep hh.wa hk (by decide), row_keep hh.da hk (by decide), hh.wlt⟩
theorem OwnB.base {w : World} {B C : Nat} {v : Value} {l : List Ob} (h : OwnB w B v l) (hC : C ≤ B) : OwnB w C v l := by
  refine ⟨h.1, ?_⟩
  rcases h.2 with h1 | ⟨g, cap, cur, h1, hg, r⟩
  · exact Or.inl h1
  · exact Or.inr ⟨g, cap, cur, h1, Nat.le_trans hC hg, r⟩
theorem OwnP.base {w : World} {B C : Nat} {h : Hp} (hh : OwnP w B h) (hC : C ≤ B) : OwnP w C h :=
  ⟨hh.ob.base hC, ⟨fun i hi => (hh.rs.own i hi).base hC, hh.rs.inc⟩, hh.ro.base hC, hh.rlt, hh.wa.base hC, hh.da.base hC, hh.wlt⟩
/-- A heap stored, cell by cell, into a block of its own. -/
theorem put4 {w : World} {B : Nat} {c0 c1 c2 c3 : Value} (hb : Blk w B [c0, c1, c2, c3] 27) (v0 v1 v2 v3 : Value) :
    KeepT 27 w ((((w.setCell ⟨B, 0, none⟩ v0).setCell ⟨B, 1, none⟩ v1).setCell ⟨B, 2, none⟩ v2).setCell ⟨B, 3, none⟩ v3) ∧ Blk ((((w.setCell ⟨B, 0, none⟩ v0).setCell ⟨B, 1, none⟩ v1).setCell ⟨B, 2, none⟩ v2).setCell ⟨B, 3, none⟩ v3) B [v0, v1, v2, v3] 27 := by
  have h1 := hb.store 0 v0
  have h2 := h1.store 1 v1
  have h3 := h2.store 2 v2
  have h4 := h3.store 3 v3
  exact ⟨(((KeepT.set hb 0 v0).trans (KeepT.set h1 1 v1)).trans (KeepT.set h2 2 v2)).trans (KeepT.set h3 3 v3), h4⟩
theorem below4 {w W : World} {B C : Nat} (h : Below B w W) (hC : B ≤ C) (v0 v1 v2 v3 : Value) : Below B w ((((W.setCell ⟨C, 0, none⟩ v0).setCell ⟨C, 1, none⟩ v1).setCell ⟨C, 2, none⟩ v2).setCell ⟨C, 3, none⟩ v3) :=
  (((h.setCell (p := ⟨C, 0, none⟩) hC v0).setCell (p := ⟨C, 1, none⟩) hC v1).setCell (p := ⟨C, 2, none⟩) hC v2).setCell (p := ⟨C, 3, none⟩) hC v3

/-- One object, its parts told by where they are. -/
def objQ (X : List Int) (o : Ob) : Int × ByteArray × List Int := (o.k, o.t, o.r.map (wh X))
end Go.Proofs.Ytcpnkpogebjieaa

namespace Go.Proofs.Ytcpnkpogebjieaa
open Go.RowKit

theorem run_append_src {P : Program} (w : World) (base : Nat) (t ty e : TypeId) (i : TypeInfo) (z : Value) (size bytes : Nat) (ht : P.underlying t = some (.slice e)) (hi : P.info? e = some i) (hz : i.zero = some z)
    (hsize : i.size = size) (hby : i.bytes = bytes) (hzs : z.cells.size = size) (hsz : 0 < size)
    (v : Value) (n : Nat) (xs : List Value) (hown : w.ownsRow base e size v n xs)
    (src : Option Addr) (m c : Nat) (news : List Value) (hl : news.length = m * size) (hsrc : 0 < m → ∃ ad, src = some ad ∧ ∀ j u, news[j]? = some u → w.cell? (ad.add j) = some u) (h1 : ∀ u ∈ news, u.oneCell' = true)
    (h63 : n + m ≤ maxLen) (hbytes : (n + m) * bytes ≤ 140737488355328) (hbase : base ≤ w.heap.size) :
    ∃ v' w', (Builtin.append_ #[t, t] ty #[v, .slice src m c]).run P w = .ok v' w' ∧ w'.ownsRow base e size v' (n + m) (xs ++ news) ∧ w.grownBy w' v.ownBlock ∧
      (v'.ownBlock = v.ownBlock ∨ v'.ownBlock = some w.heap.size) := by
  cases src with
  | some ad =>
    have hnews : ∀ j u, news[j]? = some u → w.cell? (ad.add j) = some u := fun j u hj => by
      rcases Nat.eq_zero_or_pos m with h0 | h0
      · have : news = [] := List.eq_nil_of_length_eq_zero (by rw [hl, h0]; simp)
        rw [this] at hj; simp at hj
      · obtain ⟨ad', e1, e2⟩ := hsrc h0
        cases e1
        exact e2 j u hj
    obtain ⟨v', w', hr, h2, h3, _, h5⟩ := run_append_own_at (P := P) w base t ty e i z size bytes ht hi hz hsize hby hzs hsz v n xs hown ad m c news hl hnews h1 h63 hbytes hbase
    exact ⟨v', w', hr, h2, h3, h5⟩
  | none =>
    have h0 : m = 0 := by
      rcases Nat.eq_zero_or_pos m with h0 | h0
      · exact h0
      · obtain ⟨ad', e1, _⟩ := hsrc h0
        cases e1
    subst h0
    have hn : news = [] := List.eq_nil_of_length_eq_zero (by simpa using hl)
    subst hn
    refine ⟨v, w, ?_, by simpa using hown, gb_refl _ _, Or.inl rfl⟩
    rcases hown.2 with ⟨rfl, rfl⟩ | ⟨g, cap, cur, rfl, hbg, hg, hnc, hcm, hcs, htake⟩
    · simp [Builtin.append_, run_underlying ht, sizeOf, typeInfo, hi, Builtin.lenOf, Builtin.firstCells]
    · simp [Builtin.append_, run_underlying ht, sizeOf, typeInfo, hi, Builtin.lenOf, Builtin.firstCells, hnc, storeCells]

theorem wp_append_src {P : Program} (w : World) {o : Oper} {a : Act} {K : Act → World → Prop} {Q : Exit → Act → World → Prop} (s x : Operand) (t : TypeId)
    (ho : o.op = .call { callee := .builtin .append, args := #[s, x], argTypes := #[t, t] })
    (base : Nat) (e : TypeId) (i : TypeInfo) (z : Value) (size bytes : Nat) (ht : P.underlying t = some (.slice e)) (hi : P.info? e = some i) (hz : i.zero = some z)
    (hsize : i.size = size) (hby : i.bytes = bytes) (hzs : z.cells.size = size) (hsz : 0 < size)
    (v : Value) (n : Nat) (xs : List Value) (hs : a.eval s = v) (hown : w.ownsRow base e size v n xs)
    (src : Option Addr) (m c : Nat) (news : List Value) (hx : a.eval x = .slice src m c) (hl : news.length = m * size) (hsrc : 0 < m → ∃ ad, src = some ad ∧ ∀ j u, news[j]? = some u → w.cell? (ad.add j) = some u) (h1 : ∀ u ∈ news, u.oneCell' = true)
    (h63 : n + m ≤ maxLen) (hbytes : (n + m) * bytes ≤ 140737488355328) (hbase : base ≤ w.heap.size)
    (h : ∀ v' w', w'.ownsRow base e size v' (n + m) (xs ++ news) → w.grownBy w' v.ownBlock → (v'.ownBlock = v.ownBlock ∨ v'.ownBlock = some w.heap.size) → K (a.put o.dst v') w') : o.wp P a w K Q := by
  obtain ⟨v', w', hr, h2, h3, h5⟩ := run_append_src (P := P) w base t o.type e i z size bytes ht hi hz hsize hby hzs hsz v n xs hown src m c news hl hsrc h1 h63 hbytes hbase
  unfold Oper.wp execOp
  simp only [ho, resolve, invoke, builtin, Sem.run_bind, Sem.run_pure, Result.andThen_ok, List.map_toArray, List.map_cons, List.map_nil, hs, hx, hr]
  exact h v' w' h2 h3 h5

theorem wpList_append_src {P : Program} (w : World) {ops : Array Oper} {rest : List Oper} {o : Oper} {a : Act} {Q : Exit → Act → World → Prop} (hgd : o.guard = none) (s x : Operand) (t : TypeId)
    (ho : o.op = .call { callee := .builtin .append, args := #[s, x], argTypes := #[t, t] })
    (base : Nat) (e : TypeId) (i : TypeInfo) (z : Value) (size bytes : Nat) (ht : P.underlying t = some (.slice e)) (hi : P.info? e = some i) (hz : i.zero = some z)
    (hsize : i.size = size) (hby : i.bytes = bytes) (hzs : z.cells.size = size) (hsz : 0 < size)
    (v : Value) (n : Nat) (xs : List Value) (hs : a.eval s = v) (hown : w.ownsRow base e size v n xs)
    (src : Option Addr) (m c : Nat) (news : List Value) (hx : a.eval x = .slice src m c) (hl : news.length = m * size) (hsrc : 0 < m → ∃ ad, src = some ad ∧ ∀ j u, news[j]? = some u → w.cell? (ad.add j) = some u) (h1 : ∀ u ∈ news, u.oneCell' = true)
    (h63 : n + m ≤ maxLen) (hbytes : (n + m) * bytes ≤ 140737488355328) (hbase : base ≤ w.heap.size)
    (h : ∀ v' w', w'.ownsRow base e size v' (n + m) (xs ++ news) → w.grownBy w' v.ownBlock → (v'.ownBlock = v.ownBlock ∨ v'.ownBlock = some w.heap.size) → wpList P ops Q rest (a.put o.dst v') w') : wpList P ops Q (o :: rest) a w :=
  wpList_plain hgd fun _ hK => wp_append_src w s x t ho base e i z size bytes ht hi hz hsize hby hzs hsz v n xs hs hown src m c news hx hl hsrc h1 h63 hbytes hbase fun v' w' h2 h3 h4 => hK _ _ (h v' w' h2 h3 h4)

theorem step_append_src {P : Program} (w : World) {ops : Array Oper} {o : Oper} {a : Act} {K : Act → World → Prop} {Q : Exit → Act → World → Prop} {E : Prop} (hgd : o.guard = none) (s x : Operand) (t : TypeId)
    (ho : o.op = .call { callee := .builtin .append, args := #[s, x], argTypes := #[t, t] })
    (base : Nat) (e : TypeId) (i : TypeInfo) (z : Value) (size bytes : Nat) (ht : P.underlying t = some (.slice e)) (hi : P.info? e = some i) (hz : i.zero = some z)
    (hsize : i.size = size) (hby : i.bytes = bytes) (hzs : z.cells.size = size) (hsz : 0 < size)
    (v : Value) (n : Nat) (xs : List Value) (hs : a.eval s = v) (hown : w.ownsRow base e size v n xs)
    (src : Option Addr) (m c : Nat) (news : List Value) (hx : a.eval x = .slice src m c) (hl : news.length = m * size) (hsrc : 0 < m → ∃ ad, src = some ad ∧ ∀ j u, news[j]? = some u → w.cell? (ad.add j) = some u) (h1 : ∀ u ∈ news, u.oneCell' = true)
    (h63 : n + m ≤ maxLen) (hbytes : (n + m) * bytes ≤ 140737488355328) (hbase : base ≤ w.heap.size)
    (h : ∀ v' w', w'.ownsRow base e size v' (n + m) (xs ++ news) → w.grownBy w' v.ownBlock → (v'.ownBlock = v.ownBlock ∨ v'.ownBlock = some w.heap.size) → K (a.put o.dst v') w') :
    if Region.wanted o (yielded ops a.tmps) = true then Oper.wp P o a w K Q else E := by
  have hw : Region.wanted o (yielded ops a.tmps) = true := by simp [Region.wanted, hgd]
  rw [if_pos hw]
  exact wp_append_src w s x t ho base e i z size bytes ht hi hz hsize hby hzs hsz v n xs hs hown src m c news hx hl hsrc h1 h63 hbytes hbase h

/-- The cells of a slice of numbers, and of what is watched, as append takes them. -/
theorem SegI.src {w : World} {a : Option Addr} {zs : List Int} (h : SegI w a zs) : 0 < zs.length → ∃ ad, a = some ad ∧ ∀ j u, (zs.map (Value.int .i64))[j]? = some u → w.cell? (ad.add j) = some u := fun hm => by
  obtain ⟨b, off, h1, h2, h3⟩ := h hm
  refine ⟨_, h1, fun j u hj => ?_⟩
  rw [List.getElem?_map] at hj
  cases hz : zs[j]? with
  | none => rw [hz] at hj; simp at hj
  | some z =>
    rw [hz] at hj
    simp at hj
    subst hj
    have hjl : j < zs.length := by
      rcases Nat.lt_or_ge j zs.length with q | q
      · exact q
      · rw [List.getElem?_eq_none q] at hz; simp at hz
    have := h3 j hjl
    have ea : (⟨b, off, none⟩ : Addr).add j = ⟨b, off + j, none⟩ := by
      unfold Addr.add
      by_cases h : j = 0
      · subst h; simp
      · simp [h]
    rw [ea, this]
    simp [List.getD, hz]
theorem SegW.src {w : World} {a : Option Addr} {ws : List (Int × Int)} (h : SegW w a ws) : 0 < ws.length → ∃ ad, a = some ad ∧ ∀ j u, (ws.flatMap wc)[j]? = some u → w.cell? (ad.add j) = some u := fun hm => by
  obtain ⟨b, off, h1, h2, h3⟩ := h hm
  refine ⟨_, h1, fun j u hj => ?_⟩
  have hjl : j < ws.length * 2 := by
    rcases Nat.lt_or_ge j (ws.length * 2) with q | q
    · exact q
    · rw [List.getElem?_eq_none (by rw [flat_len wc 2 (fun _ => rfl)]; exact q)] at hj; simp at hj
  have hi : j / 2 < ws.length := by omega
  have hg := flat_get wc 2 (fun _ => rfl) ws (j / 2) (j % 2) hi (Nat.mod_lt _ (by omega))
  have ej : j / 2 * 2 + j % 2 = j := by omega
  rw [ej, hj] at hg
  have ea : (⟨b, off, none⟩ : Addr).add j = ⟨b, off + j, none⟩ := by
    unfold Addr.add
    by_cases h : j = 0
    · subst h; simp
    · simp [h]
  obtain ⟨c1, c2⟩ := h3 (j / 2) hi
  rw [ea]
  rcases Nat.mod_two_eq_zero_or_one j with h0 | h0
  · rw [h0] at hg
    simp [wc] at hg
    have : off + j = off + j / 2 * 2 := by omega
    rw [this, c1, hg]
  · rw [h0] at hg
    simp [wc] at hg
    have : off + j = off + j / 2 * 2 + 1 := by omega
    rw [this, c2, hg]
theorem ints_one (zs : List Int) : ∀ u ∈ zs.map (Value.int .i64), u.oneCell' = true := fun u hu => by
  obtain ⟨z, _, rfl⟩ := List.mem_map.1 hu
  rfl
theorem watch_one (ws : List (Int × Int)) : ∀ u ∈ ws.flatMap wc, u.oneCell' = true := fun u hu => by
  obtain ⟨p, _, hp⟩ := List.mem_flatMap.1 hu
  simp [wc] at hp
  rcases hp with rfl | rfl <;> rfl
end Go.Proofs.Ytcpnkpogebjieaa
