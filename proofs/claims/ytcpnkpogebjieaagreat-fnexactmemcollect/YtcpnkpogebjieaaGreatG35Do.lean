/- The specification's own events: a guardian that watches. -/
import Derived.Test.YtcpnkpogebjieaaGreatG34Di
import Derived.Deep.CutBlock
namespace Go.Proofs.YtcpnkpogebjieaaGreat
open Go.RowKit
structure Bx3 (w W : World) (h : Hp) (e : Ev) : Prop where
 bh : Blk W w.heap.size [Value.slice h.oa h.os.length h.ocap, Value.slice h.ra h.rs.length h.rcap, Value.slice h.wa h.ws.length h.wcap, Value.slice h.da h.ds.length h.dcap] 27
 bv : Blk W (w.heap.size + 1) [Value.int .i64 e.k, Value.int .i64 e.to, Value.int .i64 e.fr, Value.int .i64 e.pt, Value.int .i64 e.o.k, Value.string e.o.t, Value.slice e.o.ra e.o.r.length e.o.rcap] 75
 br : Blk W (w.heap.size + 1 + 1) [Value.slice none 0 0, Value.slice none 0 0, Value.slice none 0 0, Value.slice none 0 0] 27
theorem Bx3.step {w W W' : World} {h : Hp} {e : Ev} (b : Bx3 w W h e) (hb : Below W.heap.size W W') : Bx3 w W' h e := ⟨b.bh.step hb, b.bv.step hb, b.br.step hb⟩
theorem Bx3.start (w : World) (h : Hp) (e : Ev) : Bx3 w (((w.alloc (Obj.cells #[Value.slice h.oa h.os.length h.ocap, Value.slice h.ra h.rs.length h.rcap, Value.slice h.wa h.ws.length h.wcap, Value.slice h.da h.ds.length h.dcap] 27)).alloc (Obj.cells #[Value.int .i64 e.k, Value.int .i64 e.to, Value.int .i64 e.fr, Value.int .i64 e.pt, Value.int .i64 e.o.k, Value.string e.o.t, Value.slice e.o.ra e.o.r.length e.o.rcap] 75)).alloc (Obj.cells #[Value.slice none 0 0, Value.slice none 0 0, Value.slice none 0 0, Value.slice none 0 0] 27)) h e ∧ Below w.heap.size w (((w.alloc (Obj.cells #[Value.slice h.oa h.os.length h.ocap, Value.slice h.ra h.rs.length h.rcap, Value.slice h.wa h.ws.length h.wcap, Value.slice h.da h.ds.length h.dcap] 27)).alloc (Obj.cells #[Value.int .i64 e.k, Value.int .i64 e.to, Value.int .i64 e.fr, Value.int .i64 e.pt, Value.int .i64 e.o.k, Value.string e.o.t, Value.slice e.o.ra e.o.r.length e.o.rcap] 75)).alloc (Obj.cells #[Value.slice none 0 0, Value.slice none 0 0, Value.slice none 0 0, Value.slice none 0 0] 27)) := by
 refine ⟨⟨((Blk.new w _ _).alloc _).alloc _, ?_, ?_⟩, (((Below.refl _ _).alloc (Nat.le_refl _) _).alloc (by simp) _).alloc (by simp; omega) _⟩
 · have := (Blk.new (w.alloc (Obj.cells #[Value.slice h.oa h.os.length h.ocap, Value.slice h.ra h.rs.length h.rcap, Value.slice h.wa h.ws.length h.wcap, Value.slice h.da h.ds.length h.dcap] 27)) [Value.int .i64 e.k, Value.int .i64 e.to, Value.int .i64 e.fr, Value.int .i64 e.pt, Value.int .i64 e.o.k, Value.string e.o.t, Value.slice e.o.ra e.o.r.length e.o.rcap] 75).alloc (Obj.cells #[Value.slice none 0 0, Value.slice none 0 0, Value.slice none 0 0, Value.slice none 0 0] 27)
   rw [World.size_alloc] at this
   exact this
 · have := Blk.new ((w.alloc (Obj.cells #[Value.slice h.oa h.os.length h.ocap, Value.slice h.ra h.rs.length h.rcap, Value.slice h.wa h.ws.length h.wcap, Value.slice h.da h.ds.length h.dcap] 27)).alloc (Obj.cells #[Value.int .i64 e.k, Value.int .i64 e.to, Value.int .i64 e.fr, Value.int .i64 e.pt, Value.int .i64 e.o.k, Value.string e.o.t, Value.slice e.o.ra e.o.r.length e.o.rcap] 75)) [Value.slice none 0 0, Value.slice none 0 0, Value.slice none 0 0, Value.slice none 0 0] 27
   rw [World.size_alloc, World.size_alloc] at this
   exact this
theorem Bx3.cells {w W : World} {h : Hp} {e : Ev} (b : Bx3 w W h e) :
   (W.cell? ⟨w.heap.size, 0, none⟩ = some (.slice h.oa h.os.length h.ocap) ∧ W.cell? ⟨w.heap.size, 1, none⟩ = some (.slice h.ra h.rs.length h.rcap) ∧ W.cell? ⟨w.heap.size, 2, none⟩ = some (.slice h.wa h.ws.length h.wcap) ∧ W.cell? ⟨w.heap.size, 3, none⟩ = some (.slice h.da h.ds.length h.dcap)) ∧
   (W.cell? ⟨w.heap.size + 1, 0, none⟩ = some (.int .i64 e.k) ∧ W.cell? ⟨w.heap.size + 1, 1, none⟩ = some (.int .i64 e.to) ∧ W.cell? ⟨w.heap.size + 1, 2, none⟩ = some (.int .i64 e.fr) ∧ W.cell? ⟨w.heap.size + 1, 3, none⟩ = some (.int .i64 e.pt) ∧ W.cell? ⟨w.heap.size + 1, 4, none⟩ = some (.int .i64 e.o.k) ∧ W.cell? ⟨w.heap.size + 1, 5, none⟩ = some (.string e.o.t) ∧ W.cell? ⟨w.heap.size + 1, 6, none⟩ = some (.slice e.o.ra e.o.r.length e.o.rcap)) ∧
   (W.cell? ⟨w.heap.size + 1 + 1, 0, none⟩ = some (.slice none 0 0) ∧ W.cell? ⟨w.heap.size + 1 + 1, 1, none⟩ = some (.slice none 0 0) ∧ W.cell? ⟨w.heap.size + 1 + 1, 2, none⟩ = some (.slice none 0 0) ∧ W.cell? ⟨w.heap.size + 1 + 1, 3, none⟩ = some (.slice none 0 0)) ∧
   (W.frozen? ⟨w.heap.size + 1 + 1, 0, none⟩ = false ∧ W.frozen? ⟨w.heap.size + 1 + 1, 1, none⟩ = false ∧ W.frozen? ⟨w.heap.size + 1 + 1, 2, none⟩ = false ∧ W.frozen? ⟨w.heap.size + 1 + 1, 3, none⟩ = false) :=
 ⟨cells4' b.bh, ⟨b.bv.cell 0, b.bv.cell 1, b.bv.cell 2, b.bv.cell 3, b.bv.cell 4, b.bv.cell 5, b.bv.cell 6⟩, cells4'' b.br, free4 b.br⟩
structure Md (B T : Nat) (w W : World) : Prop where
 be : Below B w W
 fr : ∀ k, T ≤ k → k < w.heap.size → W.heap[k]? = w.heap[k]?
theorem Md.of {B T : Nat} {w W : World} (h : Below w.heap.size w W) (hB : B ≤ w.heap.size) : Md B T w W := ⟨h.mono hB, fun k _ hk => h.block k hk⟩
theorem Md.step {B T : Nat} {w W W' : World} (h : Md B T w W) (hb : Below W.heap.size W W') (hB : B ≤ w.heap.size) : Md B T w W' :=
 ⟨h.be.trans (hb.mono (Nat.le_trans hB h.be.size)), fun k h1 h2 => (hb.block k (Nat.lt_of_lt_of_le h2 h.be.size)).trans (h.fr k h1 h2)⟩
theorem Md.grown {B T : Nat} {w W W' : World} {r : Option Nat} (h : Md B T w W) (hg : W.grownBy W' r) (hr : ∀ k, r = some k → B ≤ k ∧ (k < T ∨ w.heap.size ≤ k)) (hB : B ≤ W.heap.size) : Md B T w W' := by
 refine ⟨h.be.trans (gb_below hg hB (fun k e => (hr k e).1)), fun k h1 h2 => (hg.block k (Nat.lt_of_lt_of_le h2 h.be.size) (fun e => ?_)).trans (h.fr k h1 h2)⟩
 rcases (hr k e.symm).2 with q | q <;> omega
theorem Md.set {B T : Nat} {w W : World} (h : Md B T w W) {p : Addr} (hp : B ≤ p.block) (hq : p.block < T ∨ w.heap.size ≤ p.block) (v : Value) : Md B T w (W.setCell p v) := by
 refine ⟨h.be.setCell hp v, fun k h1 h2 => ?_⟩
 rw [Below.heap_setCell _ _ _ _ (show k ≠ p.block by rcases hq with q | q <;> omega)]
 exact h.fr k h1 h2
theorem OwnL.set {w : World} {base g n c : Nat} {zs : List Int} (h : OwnL w base (.slice (some ⟨g, 0, none⟩) n c) zs) (hn : n = zs.length) {k : Nat} (z : Int) : OwnL (w.setCell ⟨g, k, none⟩ (.int .i64 z)) base (.slice (some ⟨g, 0, none⟩) n c) (zs.set k z) := by
 subst hn
 unfold OwnL at *
 rcases h.2 with ⟨h1, _⟩ | ⟨g', cap, cur, h1, hg, hh, hl, hm, hs, ht⟩
 · simp at h1
 · simp only [Value.slice.injEq, Option.some.injEq, Addr.mk.injEq, and_true, true_and] at h1
   obtain ⟨rfl, rfl⟩ := h1
   refine ⟨by simp, Or.inr ⟨g, c, (cur.toList.set k (.int .i64 z)).toArray, by simp, hg, ?_, by simpa using hl, hm, by simpa using hs, ?_⟩⟩
   · have hb : Blk w g cur.toList 3 := by unfold Blk; simpa using hh
     have := hb.store k (.int .i64 z)
     unfold Blk at this
     exact this
   · rw [List.toList_toArray, List.take_set, List.map_set]
     simp only [List.length_set] at ht ⊢
     rw [ht]
theorem OwnL.free {w : World} {base g n c : Nat} {zs : List Int} (h : OwnL w base (.slice (some ⟨g, 0, none⟩) n c) zs) (k : Nat) : w.frozen? ⟨g, k, none⟩ = false := by
 obtain ⟨cur, hh⟩ := row_ty h rfl
 simp [World.frozen?, hh]
theorem OwnL.at {w : World} {base g n c : Nat} {zs : List Int} (h : OwnL w base (.slice (some ⟨g, 0, none⟩) n c) zs) {k : Nat} (hk : k < zs.length) : w.cell? ⟨g, k, none⟩ = some (.int .i64 zs[k]) := by
 obtain ⟨a, cap, e, hs, _⟩ := h.form
 simp only [Value.slice.injEq] at e
 obtain ⟨rfl, _⟩ := e
 obtain ⟨b, off, e1, _, e2⟩ := hs.get hk
 simp only [Option.some.injEq, Addr.mk.injEq, and_true] at e1
 obtain ⟨rfl, rfl⟩ := e1
 simpa using e2
theorem OwnL.ptr {w : World} {base n c : Nat} {a : Option Addr} {zs : List Int} (h : OwnL w base (.slice a n c) zs) (hn : 0 < zs.length) : ∃ g, a = some ⟨g, 0, none⟩ := by
 rcases h.2 with ⟨h1, h2⟩ | ⟨g, cap, cur, h1, _⟩
 · omega
 · simp only [Value.slice.injEq] at h1
   exact ⟨g, h1.1⟩
def mixR (f : Int → Int) (r : List Int) (k : Nat) : List Int := (r.take k).map f ++ r.drop k
theorem mixR_len (f : Int → Int) (r : List Int) (k : Nat) (hk : k ≤ r.length) : (mixR f r k).length = r.length := by simp [mixR]; omega
theorem mixR_zero (f : Int → Int) (r : List Int) : mixR f r 0 = r := by simp [mixR]
theorem mixR_all (f : Int → Int) (r : List Int) : mixR f r r.length = r.map f := by simp [mixR]
theorem mixR_at (f : Int → Int) (r : List Int) (k : Nat) (hk : k < r.length) (h : k < (mixR f r k).length) : (mixR f r k)[k] = r[k] := by
 simp only [mixR]
 rw [List.getElem_append_right (by simp; omega)]
 simp [Nat.min_eq_left (Nat.le_of_lt hk)]
theorem mixR_set (f : Int → Int) (r : List Int) (k : Nat) (hk : k < r.length) : (mixR f r k).set k (f r[k]) = mixR f r (k + 1) := by
 simp only [mixR]
 have h1 : ((r.take k).map f).length = k := by simp; omega
 rw [List.set_append, if_neg (by omega), h1, Nat.sub_self, List.drop_eq_getElem_cons hk, List.set_cons_zero, List.take_succ_eq_append_getElem hk, List.map_append, List.append_assoc]
 rfl
structure MkIn (w : World) (h : Hp) (e : Ev) (m : Nat) (a : Option Addr) (cc : Nat) (wr : World) (k : Nat) : Prop where
 b : Bx3 w wr h e
 bo : Blk wr m [Value.int .i64 e.o.k, Value.string e.o.t, Value.slice a e.o.r.length cc] 37
 ro : OwnL wr w.heap.size (.slice a e.o.r.length cc) (mixR (rootP h.rs) e.o.r k)
 be : Below w.heap.size w wr
 mge : w.heap.size ≤ m
theorem MkIn.step {w : World} {h : Hp} {e : Ev} {m : Nat} {a : Option Addr} {cc : Nat} {wr W : World} {k : Nat} (c : MkIn w h e m a cc wr k) (hb : Below wr.heap.size wr W) : MkIn w h e m a cc W k :=
 ⟨c.b.step hb, c.bo.step hb, c.ro.below hb (Nat.le_refl _), c.be.trans (hb.mono c.be.size), c.mge⟩
theorem MkIn.set {w : World} {h : Hp} {e : Ev} {m g cc : Nat} {wr : World} {k : Nat} (c : MkIn w h e m (some ⟨g, 0, none⟩) cc wr k) (hk : k < e.o.r.length) : MkIn w h e m (some ⟨g, 0, none⟩) cc (wr.setCell ⟨g, k, none⟩ (.int .i64 (rootP h.rs e.o.r[k]))) (k + 1) := by
 have hg : w.heap.size ≤ g := (c.ro.lt g rfl).1
 have n1 : w.heap.size ≠ g := fun q => row_ne_blk c.ro c.b.bh (by decide) (by rw [q]; rfl)
 have n2 : w.heap.size + 1 ≠ g := fun q => row_ne_blk c.ro c.b.bv (by decide) (by rw [q]; rfl)
 have n3 : w.heap.size + 1 + 1 ≠ g := fun q => row_ne_blk c.ro c.b.br (by decide) (by rw [q]; rfl)
 have n4 : m ≠ g := fun q => row_ne_blk c.ro c.bo (by decide) (by rw [q]; rfl)
 refine ⟨⟨c.b.bh.other _ _ n1, c.b.bv.other _ _ n2, c.b.br.other _ _ n3⟩, c.bo.other _ _ n4, ?_, c.be.setCell hg _, c.mge⟩
 have := c.ro.set (mixR_len _ _ _ (Nat.le_of_lt hk)).symm (k := k) (rootP h.rs e.o.r[k])
 rw [mixR_set _ _ _ hk] at this
 exact this
section
variable {P : Program} {ops : Array Oper} {Q : Exit → Act → World → Prop} {md : Region.Mode} {C : World → Prop} {m : Nat}
def wpAnyK (P : Program) (md : Region.Mode) (ops : Array Oper) (Q : Exit → Act → World → Prop) (m : Nat) (C : World → Prop) : Nat → Array Bool → Act → World → Prop
 | 0, listed, a, w => Region.ready md ops listed = [] ∧ Q .normal a w
 | fuel + 1, listed, a, w =>
   (Region.ready md ops listed = [] → Q .normal a w) ∧
   ∀ i ∈ Region.ready md ops listed, wpOp P ops Q i (fun a' w' => ((listed.setIfInBounds i true).getD m true = false → C w') ∧ wpAnyK P md ops Q m C fuel (listed.setIfInBounds i true) a' w') a w
theorem wpAny_of_k : ∀ (fuel : Nat) (listed : Array Bool) (a : Act) (w : World), wpAnyK P md ops Q m C fuel listed a w → wpAny P md ops Q fuel listed a w
 | 0, _, _, _, h => h
 | fuel + 1, _, _, _, h => ⟨h.1, fun i hi => wpOp_mono (fun a' w' h' => wpAny_of_k fuel _ a' w' h'.2) (h.2 i hi)⟩
theorem wpAnyK_first {i : Nat} {oi om : Oper} {v : Value} (hi : ops[i]? = some oi) (hom : ops[m]? = some om) (hdep : ∃ e ∈ om.after, Region.binds md e = true ∧ e.on = i) (hsel : ∀ (j : Nat) (o : Oper) cs b, ops[j]? = some o → o.op ≠ .select cs b)
   (hQ : ∀ c a w, Q (.panic c) (a.put oi.dst v) w → Q (.panic c) a w) (hmi : m ≠ i) :
   ∀ (fuel : Nat) (listed : Array Bool) (a : Act) (w : World),
     (∀ j oj, ops[j]? = some oj → j ≠ i → listed.getD j true = false → (∀ e ∈ oj.after, Region.binds md e = true → e.on ≠ i) → oi.apart ops oj = true) →
     i ∈ Region.ready md ops listed → listed.getD m true = false → YieldsIf P ops C oi v a → C w →
     wpAnyK P md ops Q m C fuel (listed.setIfInBounds i true) (a.put oi.dst v) w → wpAnyK P md ops Q m C (fuel + 1) listed a w := by
 intro fuel
 induction fuel with
 | zero =>
   intro listed a w _ hr _ hy hS H
   refine ⟨fun h => (by rw [h] at hr; cases hr), fun j hj => ?_⟩
   by_cases hji : j = i
   · subst hji; exact hy.wpOp hi hS ⟨fun _ => hS, H⟩
   · have := ready_mono hj hji
     rw [H.1] at this
     cases this
 | succ fuel ih =>
   intro listed a w hfree hr hml hy hS H
   refine ⟨fun h => (by rw [h] at hr; cases hr), fun j hj => ?_⟩
   by_cases hji : j = i
   · subst hji; exact hy.wpOp hi hS ⟨fun _ => hS, H⟩
   · have h1 := H.2 j (ready_mono hj hji)
     obtain ⟨hjun, oj, hoj, hall⟩ := mem_ready.1 hj
     have hnot : ∀ e ∈ oj.after, Region.binds md e = true → e.on ≠ i := fun e he hb heq => by
       have h1 := hall e he hb
       have h0 := (mem_ready.1 hr).1
       rw [heq] at h1
       rcases Nat.lt_or_ge i listed.size with h' | h'
       · simp [h'] at h0 h1; rw [h0] at h1; cases h1
       · simp [Array.getElem?_eq_none h'] at h1
     have hjm : j ≠ m := fun q => by
       subst q
       rw [hom] at hoj
       cases hoj
       obtain ⟨e, he, hb, he'⟩ := hdep
       exact hnot e he hb he'
     have h2 := wpOp_putIf hoj (hfree j oj hoj hji hjun hnot) (fun cs b => hsel i oi cs b hi) (fun cs b => hsel j oj cs b hoj) hQ hy h1
     have hfree' : ∀ k ok, ops[k]? = some ok → k ≠ i → (listed.setIfInBounds j true).getD k true = false →
         (∀ e ∈ ok.after, Region.binds md e = true → e.on ≠ i) → oi.apart ops ok = true := fun k ok hk hki hun hno => by
       refine hfree k ok hk hki ?_ hno
       by_cases hjk : j = k
       · subst hjk; exact hjun
       · rw [getD_set_ne true hjk] at hun; exact hun
     have hml' : (listed.setIfInBounds j true).getD m true = false := by rw [getD_set_ne true hjm]; exact hml
     have hml'' : ((listed.setIfInBounds i true).setIfInBounds j true).getD m true = false := by rw [getD_set_ne true hjm, getD_set_ne true (Ne.symm hmi)]; exact hml
     refine wpOp_mono (fun a' w' h3 => ⟨fun _ => h3.2.1 hml'', ih (listed.setIfInBounds j true) a' w' hfree' (ready_mono hr (Ne.symm hji)) hml' h3.1 (h3.2.1 hml'') ?_⟩) h2
     rw [Array.setIfInBounds_comm _ _ hji]
     exact h3.2.2
theorem takeK {i : Nat} {oi om : Oper} {v : Value} {fuel : Nat} {listed : Array Bool} {a : Act} {w : World} (d : Nat) (hi : ops[i]? = some oi) (hd : oi.dst = some d) (hom : ops[m]? = some om) (hdep : (om.after.any fun e => Region.binds md e && e.on == i) = true)
   (hs : Region.noSelect ops = true) (hf : Region.free md ops listed i = true) (hr : (Region.ready md ops listed).contains i = true) (hml : listed.getD m true = false) (hmi : (m == i) = false)
   (hQ : ∀ c a w, Q (.panic c) (a.put oi.dst v) w → Q (.panic c) a w) (hy : YieldsIf P ops C oi v a) (hS : C w)
   (h : wpAnyK P md ops Q m C fuel (listed.setIfInBounds i true) { a with tmps := a.tmps.setIfInBounds d v } w) : wpAnyK P md ops Q m C (fuel + 1) listed a w := by
 refine wpAnyK_first hi hom ?_ (Region.noSelect_spec hs) hQ (by simpa using hmi) fuel listed a w (Region.free_spec hi hf) (by simpa using hr) hml hy hS (by rw [hd]; exact h)
 rw [Array.any_eq_true'] at hdep
 obtain ⟨e, he, hb⟩ := hdep
 simp only [Bool.and_eq_true, beq_iff_eq] at hb
 exact ⟨e, he, hb.1, hb.2⟩
def AllReadyK (P : Program) (md : Region.Mode) (ops : Array Oper) (Q : Exit → Act → World → Prop) (m : Nat) (C : World → Prop) (fuel : Nat) (listed : Array Bool) (a : Act) (w : World) (rs : List Nat) : Prop :=
 ∀ i ∈ rs, wpOp P ops Q i (fun a' w' => ((listed.setIfInBounds i true).getD m true = false → C w') ∧ wpAnyK P md ops Q m C fuel (listed.setIfInBounds i true) a' w') a w
theorem AllReadyK.nil {fuel : Nat} {listed : Array Bool} {a : Act} {w : World} : AllReadyK P md ops Q m C fuel listed a w [] := fun _ h => by cases h
theorem AllReadyK.cons {fuel : Nat} {listed : Array Bool} {a : Act} {w : World} {i : Nat} {o : Oper} {rs : List Nat} (ho : ops[i]? = some o)
   (h : ∀ K' : Act → World → Prop, Shut (∀ a w, C w → wpAnyK P md ops Q m C fuel (listed.setIfInBounds i true) a w → K' a w) → if Region.wanted o (yielded ops a.tmps) = true then Oper.wp P o a w K' Q else K' (a.put o.dst undef) w)
   (hs : AllReadyK P md ops Q m C fuel listed a w rs) : AllReadyK P md ops Q m C fuel listed a w (i :: rs) := fun j hj => by
 rcases List.mem_cons.1 hj with rfl | hj
 · exact wpOp_step ho (fun K' hK => h K' (fun a w hS hW => hK a w ⟨fun _ => hS, hW⟩))
 · exact hs j hj
theorem AllReadyK.last {fuel : Nat} {listed : Array Bool} {a : Act} {w : World} {o : Oper} {rs : List Nat} (ho : ops[m]? = some o)
   (h : ∀ K' : Act → World → Prop, Shut (∀ a w, wpAnyK P md ops Q m C fuel (listed.setIfInBounds m true) a w → K' a w) → if Region.wanted o (yielded ops a.tmps) = true then Oper.wp P o a w K' Q else K' (a.put o.dst undef) w)
   (hs : AllReadyK P md ops Q m C fuel listed a w rs) : AllReadyK P md ops Q m C fuel listed a w (m :: rs) := fun j hj => by
 rcases List.mem_cons.1 hj with rfl | hj
 · refine wpOp_step ho (fun K' hK => h K' (fun a w hW => hK a w ⟨fun q => ?_, hW⟩))
   exfalso
   simp [Array.getD_eq_getD_getElem?, Array.getElem?_setIfInBounds] at q
   split at q <;> simp_all
 · exact hs j hj
theorem wpAnyK_ready {rs : List Nat} {fuel : Nat} {listed : Array Bool} {a : Act} {w : World} (hr : Region.ready md ops listed = rs) (hne : rs ≠ [])
   (h : AllReadyK P md ops Q m C fuel listed a w rs) : wpAnyK P md ops Q m C (fuel + 1) listed a w := ⟨fun h0 => absurd (hr ▸ h0) hne, hr ▸ h⟩
theorem wpAnyK_done {listed : Array Bool} {a : Act} {w : World} (hr : Region.ready md ops listed = []) (h : Q .normal a w) : ∀ fuel, wpAnyK P md ops Q m C fuel listed a w
 | 0 => ⟨hr, h⟩
 | _ + 1 => ⟨fun _ => h, by rw [hr]; simp⟩
theorem wp_region_k {id : Nat} {a : Act} {w : World} (hm : P.follows .mixedOrders = true) (m : Nat) (C : World → Prop)
   (h : wpAnyK P .any ops Q m C ops.size (Array.replicate ops.size false) a w.drew) : (Code.region id ops true).wp P Q a w :=
 wp_region_any hm (wpAny_of_k _ _ _ _ h)
end
theorem OkC.root {h : Hp} (c : OkC h) {z : Int} (hz : -1 ≤ z ∧ z < h.os.length) (t : Nat) : OkC { h with rs := h.rs.set t z } := by
 refine ⟨c.n60, by simpa using c.r8, c.w20, c.ob, fun y hy => ?_, c.wo, c.dd⟩
 rcases List.mem_or_eq_of_mem_set hy with hy | hy
 · exact c.ro y hy
 · subst hy; exact hz
theorem OkC.told {h : Hp} (c : OkC h) {ds : List (Int × Int)} (hd : ∀ p ∈ ds, p ∈ h.ds) (hl : ds.length ≤ h.ds.length) (da : Option Addr) (dcap : Nat) : OkC { h with da := da, dcap := dcap, ds := ds } :=
 ⟨c.n60, c.r8, by have := c.w20; simp only; omega, c.ob, c.ro, c.wo, fun p hp => c.dd p (hd p hp)⟩
theorem SegW.part {w : World} {b off : Nat} {ws : List (Int × Int)} (h : SegW w (some ⟨b, off, none⟩) ws) (i : Nat) : SegW w (some ⟨b, off + i * 2, none⟩) (ws.drop i) := fun hm => by
 have hl : i < ws.length := by simp at hm; omega
 obtain ⟨b', off', e, hb, hc⟩ := h (by omega)
 simp only [Option.some.injEq, Addr.mk.injEq, and_true] at e
 obtain ⟨rfl, rfl⟩ := e
 refine ⟨b, off + i * 2, rfl, hb, fun j hj => ?_⟩
 have hj' : i + j < ws.length := by simp at hj; omega
 have := hc (i + j) hj'
 simp only [List.getElem_drop]
 have e1 : off + (i + j) * 2 = off + i * 2 + j * 2 := by omega
 rw [e1] at this
 exact this
def toldL (ws : List (Int × Int)) (X : List Int) : List (Int × Int) := ws.filter fun p => decide (0 ≤ pos X p.1) && decide (pos X p.2 < 0)
theorem toldL_succ (ws : List (Int × Int)) (X : List Int) (k : Nat) (hk : k < ws.length) : toldL (ws.take (k + 1)) X = if decide (0 ≤ pos X ws[k].1) = true ∧ decide (pos X ws[k].2 < 0) = true then toldL (ws.take k) X ++ [ws[k]] else toldL (ws.take k) X := by
 unfold toldL
 rw [List.take_succ_eq_append_getElem hk, List.filter_append]
 by_cases h : decide (0 ≤ pos X ws[k].1) = true ∧ decide (pos X ws[k].2 < 0) = true
 · rw [if_pos h]
   simp only [List.filter_cons, h.1, h.2, Bool.and_self, if_true, List.filter_nil]
 · rw [if_neg h]
   have : (decide (0 ≤ pos X ws[k].1) && decide (pos X ws[k].2 < 0)) = false := by
     rw [Bool.eq_false_iff]
     intro e
     rw [Bool.and_eq_true] at e
     exact h e
   simp [this]
theorem toldL_le (ws : List (Int × Int)) (X : List Int) (k : Nat) : (toldL (ws.take k) X).length ≤ k := Nat.le_trans (List.length_filter_le _ _) (List.length_take_le _ _)
set_option maxHeartbeats 1600000 in
set_option maxRecDepth 100000 in
theorem l3Told_any (h : Hp) (xa : Option Addr) (xcap : Nat) (X : List Int) (w : World) (hw : SegW w h.wa h.ws) (hwl : h.ws.length ≤ 1048576) (hx : SegI w xa X) (hxl : X.length ≤ maxLen) :
   Calls Cut.prog 83 #[h.v, .slice xa X.length xcap] w fun e w' => ∃ v', e = .returned v' ∧ OwnW w' w.heap.size v' (toldL h.ws X) ∧ Below w.heap.size w w' := by
 obtain ⟨i0, hi, hz0, hz1, hz2⟩ := info_parts info_watch
 have hB0 : Below w.heap.size w (w.alloc (Obj.cells #[Value.slice h.oa h.os.length h.ocap, Value.slice h.ra h.rs.length h.rcap, Value.slice h.wa h.ws.length h.wcap, Value.slice h.da h.ds.length h.dcap] 27)) := (Below.refl _ _).alloc (Nat.le_refl _) _
 have hK0 := Blk.new w [Value.slice h.oa h.os.length h.ocap, Value.slice h.ra h.rs.length h.rcap, Value.slice h.wa h.ws.length h.wcap, Value.slice h.da h.ds.length h.dcap] 27
 have hA0 : Below (w.alloc (Obj.cells #[Value.slice h.oa h.os.length h.ocap, Value.slice h.ra h.rs.length h.rcap, Value.slice h.wa h.ws.length h.wcap, Value.slice h.da h.ds.length h.dcap] 27)).heap.size (w.alloc (Obj.cells #[Value.slice h.oa h.os.length h.ocap, Value.slice h.ra h.rs.length h.rcap, Value.slice h.wa h.ws.length h.wcap, Value.slice h.da h.ds.length h.dcap] 27)) ((w.alloc (Obj.cells #[Value.slice h.oa h.os.length h.ocap, Value.slice h.ra h.rs.length h.rcap, Value.slice h.wa h.ws.length h.wcap, Value.slice h.da h.ds.length h.dcap] 27)).alloc (Obj.cells #[] 40)) := al_below _ _
 have hO0 := World.ownsRow_lit (e := 40) (size := 2) (base := w.heap.size) (w.alloc (Obj.cells #[Value.slice h.oa h.os.length h.ocap, Value.slice h.ra h.rs.length h.rcap, Value.slice h.wa h.ws.length h.wcap, Value.slice h.da h.ds.length h.dcap] 27)) #[] 0 hB0.size (Nat.zero_le _) rfl
 have hB1 := hB0.trans (hA0.mono hB0.size)
 have hK1 := hK0.step hA0
 simp only [World.size_alloc] at hO0
 obtain ⟨WA, hWA⟩ : ∃ WA, h.wa = WA := ⟨_, rfl⟩
 have HWA : Hid (h.wa = WA) := hWA
 clear hB0 hK0 hA0
 go_enter (Cut.func_of Tryz.func83 rfl), Tryz.ntmps83
 simp only [Hp.v]
 rw [hWA] at hB1 hK1 hO0 hw ⊢
 clear hWA
 go_wp2
 go_loopw [5, 6, 7] (fun v i _ wr => ∃ k : Nat, k ≤ h.ws.length ∧ i = .int .i64 k ∧ OwnW wr w.heap.size v (toldL (h.ws.take k) X) ∧ Blk wr w.heap.size [Value.slice h.oa h.os.length h.ocap, Value.slice h.ra h.rs.length h.rcap, Value.slice WA h.ws.length h.wcap, Value.slice h.da h.ds.length h.dcap] 27 ∧ Below w.heap.size w wr) (fun _ i _ _ => h.ws.length - (intOf i).toNat)
 case atStart => exact ⟨0, Nat.zero_le _, rfl, hO0, hK1, hB1⟩
 case round =>
   obtain ⟨k, hk, rfl, hown, hK, hb⟩ := hrel
   clear hO0 hB1 hK1
   obtain ⟨x0, x1, x2, x3⟩ : wr.cell? ⟨w.heap.size, 0, none⟩ = _ ∧ wr.cell? ⟨w.heap.size, 1, none⟩ = _ ∧ wr.cell? ⟨w.heap.size, 2, none⟩ = some (.slice WA h.ws.length h.wcap) ∧ wr.cell? ⟨w.heap.size, 3, none⟩ = _ := cells4'' hK
   by_cases hlt : k < h.ws.length
   · obtain ⟨b, off, rfl, hbw, e1, e2⟩ := hw.get hlt
     have d1 := (hb.cell (p := ⟨b, off + k * 2, none⟩) hbw).trans e1
     have d2 := (hb.cell (p := ⟨b, off + k * 2 + 1, none⟩) hbw).trans e2
     have HF := toldL_succ h.ws X k hlt
     have hfl := toldL_le h.ws X k
     have hi1 : (k : Int) < (h.ws.length : Int) := by omega
     have hA : Below wr.heap.size wr (wr.alloc (Obj.cells #[Value.int .i64 h.ws[k].1, Value.int .i64 h.ws[k].2] 40)) := al_below _ _
     have hbA := hb.trans (hA.mono hb.size)
     have sx := hx.below hbA (Nat.le_refl _)
     have hKA := hK.step hA
     have hownA := OwnW.below hown hA (Nat.le_refl _)
     have y0 : (wr.alloc (Obj.cells #[Value.int .i64 h.ws[k].1, Value.int .i64 h.ws[k].2] 40)).cell? ⟨wr.heap.size, 0, none⟩ = some (.int .i64 h.ws[k].1) := (Blk.new wr [Value.int .i64 h.ws[k].1, Value.int .i64 h.ws[k].2] 40).cell 0
     have y1 : (wr.alloc (Obj.cells #[Value.int .i64 h.ws[k].1, Value.int .i64 h.ws[k].2] 40)).cell? ⟨wr.heap.size, 1, none⟩ = some (.int .i64 h.ws[k].2) := (Blk.new wr [Value.int .i64 h.ws[k].1, Value.int .i64 h.ws[k].2] 40).cell 1
     obtain ⟨va, vcap, rfl, -⟩ := hown.form
     generalize hP : h.ws[k] = p at *
     clear hP
     obtain ⟨g1, g2⟩ := p
     dsimp only at *
     have HW1 : ∃ W1, W1 = wr.alloc (Obj.cells #[Value.int .i64 g1, Value.int .i64 g2] 40) := ⟨_, rfl⟩
     obtain ⟨W1, hW1⟩ := HW1
     clear hown hK hA e1 e2
     go_wp2_with fail
     rw [← hW1] at hbA sx hKA hownA y0 y1 ⊢
     clear hW1
     refine (l2At_pos xa _ xcap X g1 _ rfl hxl sx).mono ?_
     rintro e w1 ⟨rfl, rfl⟩
     by_cases hm1 : decide (0 ≤ pos X g1) = true
     · go_wp2_with fail
       refine (l2At_pos xa _ xcap X g2 _ rfl hxl sx).mono ?_
       rintro e w2 ⟨rfl, rfl⟩
       by_cases hm2 : decide (pos X g2 < 0) = true
       · rw [if_pos ⟨hm1, hm2⟩] at HF
         have HF' : Hid (toldL (h.ws.take (k + 1)) X = toldL (h.ws.take k) X ++ [(g1, g2)]) := HF
         clear HF
         generalize hL : toldL (h.ws.take k) X = L at *
         have HL : Hid (toldL (h.ws.take k) X = L) := hL
         clear hL
         have hA2 : Below w2.heap.size w2 (w2.alloc (Obj.cells #[Value.int .i64 g1, Value.int .i64 g2] 40)) := al_below _ _
         have hvA : (w2.alloc (Obj.cells #[Value.int .i64 g1, Value.int .i64 g2] 40)).ownsRow w.heap.size 40 2 (.slice va L.length vcap) L.length (L.flatMap wc) := hownA.below hA2 (Nat.le_refl _)
         have hKA2 := hKA.step hA2
         have hbA2 := hbA.trans (hA2.mono hbA.size)
         have HEND : Hid (∀ v' w3, w3.ownsRow w.heap.size 40 2 v' (L.length + 1) (L.flatMap wc ++ [.int .i64 g1, .int .i64 g2]) → (w2.alloc (Obj.cells #[Value.int .i64 g1, Value.int .i64 g2] 40)).grownBy w3 (Value.slice va L.length vcap).ownBlock → OwnW w3 w.heap.size v' (toldL (h.ws.take (k + 1)) X) ∧ Blk w3 w.heap.size _ 27 ∧ Below w.heap.size w w3) := fun v' w3 ho hg => by
           refine ⟨?_, hKA2.grown hg (row_ne_blk hvA hKA2 (by decide)), hbA2.trans (gb_below hg hbA2.size (fun q e => (hvA.lt q e).1))⟩
           rw [HF'.out]
           unfold OwnW
           simpa [wc] using ho
         have hl1 : L.length + 1 ≤ maxLen := by unfold maxLen; omega
         have hl2 : (L.length + 1) * 16 ≤ 140737488355328 := by omega
         have hbs := hbA2.size
         clear hA2 hKA2 hbA2 hKA hownA sx
         go_wp2_with (at_builtin; refine wpList_append_own_at _ rfl _ _ 25 rfl w.heap.size 40 i0 _ 2 16 ((Cut.under_eq 25).trans Tryz.underlying25) hi hz0 hz1 hz2 rfl (by decide) _ _ _ rfl hvA ⟨w2.heap.size, 0, none⟩ 1 1 [.int .i64 g1, .int .i64 g2] rfl rfl (watch_new (g1, g2) _) (watch_one [(g1, g2)]) hl1 hl2 hbs ?_)
         intro v' w3 hown3 hgr _ _
         obtain ⟨ho3, hK3, hb3⟩ := HEND.out v' w3 hown3 hgr
         clear hown3 hgr HEND hvA
         go_wp2
         go_roundw
         case rel => exact ⟨k + 1, by omega, by go_num, ho3, hK3, hb3⟩
         case measure => simp [intOf]; omega
       · rw [if_neg (fun q => hm2 q.2)] at HF
         have hm2' : decide (pos X g2 < 0) = false := by simpa using hm2
         have HF' : Hid (OwnW w2 w.heap.size (Value.slice va (toldL (h.ws.take k) X).length vcap) (toldL (h.ws.take (k + 1)) X)) := by
           show OwnW _ _ _ _
           rw [HF]; exact hownA
         clear HF hm2 hownA
         go_wp2
         go_roundw
         case rel => exact ⟨k + 1, by omega, by go_num, HF'.out, hKA, hbA⟩
         case measure => simp [intOf]; omega
     · rw [if_neg (fun q => hm1 q.1)] at HF
       have hm1' : decide (0 ≤ pos X g1) = false := by simpa using hm1
       have HF' : Hid (OwnW w1 w.heap.size (Value.slice va (toldL (h.ws.take k) X).length vcap) (toldL (h.ws.take (k + 1)) X)) := by
         show OwnW _ _ _ _
         rw [HF]; exact hownA
       clear HF hm1 hownA
       go_wp2
       go_roundw
       case rel => exact ⟨k + 1, by omega, by go_num, HF'.out, hKA, hbA⟩
       case measure => simp [intOf]; omega
   · have ek : h.ws.take k = h.ws := List.take_of_length_le (by omega)
     rw [ek] at hown
     clear ek
     go_wp2
     go_ret
     exact ⟨_, rfl, hown, hb⟩
end Go.Proofs.YtcpnkpogebjieaaGreat
