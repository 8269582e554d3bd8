/- Marks that a heap in rows of its own bears, exactly. -/
import Derived.Test.YtcpnkpogebjieaaGreatG12Rf
import Derived.Test.YtcpnkpogebjieaaGreatG20So
import Derived.Test.YtcpnkpogebjieaaGreatG06Zt
namespace Go.Proofs.YtcpnkpogebjieaaGreat
open Go.RowKit
def wmarks (k : Int) (n : Nat) : List (Int × Int) := (List.range n).map fun (i : Nat) => (k + 2 * i, k + 2 * i + 1)
theorem wmarks_len (k : Int) (n : Nat) : (wmarks k n).length = n := by simp [wmarks]
theorem wmarks_get (k : Int) (n i : Nat) (h : i < (wmarks k n).length) : (wmarks k n)[i] = (k + 2 * i, k + 2 * i + 1) := by simp [wmarks]
theorem wmarks_set (k : Int) (ws : List (Int × Int)) (j : Nat) (hj : j < ws.length) :
   (((wmarks k j ++ ws.drop j).flatMap wc).set (j * 2) (.int .i64 (k + 2 * j))).set (j * 2 + 1) (.int .i64 (k + 2 * j + 1)) = (wmarks k (j + 1) ++ ws.drop (j + 1)).flatMap wc := by
 have h1 : ((wmarks k j).flatMap wc).length = j * 2 := by rw [flat_len wc 2 (fun _ => rfl), wmarks_len]
 have h2 : ws.drop j = ws[j] :: ws.drop (j + 1) := (List.getElem_cons_drop hj).symm
 have h3 : wmarks k (j + 1) = wmarks k j ++ [(k + 2 * j, k + 2 * j + 1)] := by simp [wmarks, List.range_succ]
 rw [h3, List.flatMap_append, List.flatMap_append, List.flatMap_append, List.set_append, if_neg (by omega), h1, Nat.sub_self, List.set_append, if_neg (by omega), h1, Nat.add_sub_cancel_left]
 rw [h2]
 generalize ws[j] = p
 generalize ws.drop (j + 1) = r
 simp [wc]
set_option maxHeartbeats 800000 in
set_option maxRecDepth 100000 in
theorem markMemWatchS_row (base g cap : Nat) (ws : List (Int × Int)) (k : Int) (w : World) (hn : ws.length ≤ 1048576) (h0 : 0 ≤ k) (h1 : k ≤ 100000000000000) (hv : OwnW w base (.slice (some ⟨g, 0, none⟩) ws.length cap) ws) :
   Calls Cut.prog 71 #[.slice (some ⟨g, 0, none⟩) ws.length cap, .int .i64 k] w fun e w' => e = .returned (.int .i64 (k + 2 * ws.length)) ∧ OwnW w' base (.slice (some ⟨g, 0, none⟩) ws.length cap) (wmarks k ws.length) ∧ w.grownBy w' (some g) := by
 go_enter (Cut.func_of Tryz.func71 rfl), Tryz.ntmps71
 go_wp2
 go_loopw [1, 5] (fun q i wr => ∃ (j : Nat), j ≤ ws.length ∧ i = .int .i64 j ∧ q = .int .i64 (k + 2 * j) ∧ wr.ownsRow base 40 2 (.slice (some ⟨g, 0, none⟩) ws.length cap) ws.length ((wmarks k j ++ ws.drop j).flatMap wc) ∧ w.grownBy wr (some g)) (fun _ i _ => ws.length - (intOf i).toNat)
 case atStart => exact ⟨0, Nat.zero_le _, rfl, by go_num, by have := hv; unfold OwnW at this; simpa [wmarks] using this, gb_refl _ _⟩
 case round =>
   obtain ⟨j, hj, rfl, rfl, hown, hgr⟩ := hrel
   by_cases hlt : j < ws.length
   · have hL : ((wmarks k j ++ ws.drop j).flatMap wc).length = ws.length * 2 := by
       rw [flat_len wc 2 (fun _ => rfl), List.length_append, wmarks_len, List.length_drop]
       congr 1
       omega
     have f1 := hown.frozenAt (j * 2)
     have f2 := hown.frozenAt (j * 2 + 1)
     obtain ⟨v1, q1⟩ : ∃ v, wr.cell? ⟨g, j * 2, none⟩ = some v := ⟨_, (own_get hown (j * 2) (by omega)).trans (List.getElem?_eq_getElem (by omega))⟩
     obtain ⟨v2, q2⟩ : ∃ v, wr.cell? ⟨g, j * 2 + 1, none⟩ = some v := ⟨_, (own_get hown (j * 2 + 1) (by omega)).trans (List.getElem?_eq_getElem (by omega))⟩
     have hst1 := (hown.stored (j * 2) (.int .i64 (k + 2 * j))).1
     have hst := (hst1.stored (j * 2 + 1) (.int .i64 (k + 2 * j + 1))).1
     rw [wmarks_set k ws j hlt] at hst
     have hg2 : w.grownBy ((wr.setCell ⟨g, j * 2, none⟩ (.int .i64 (k + 2 * j))).setCell ⟨g, j * 2 + 1, none⟩ (.int .i64 (k + 2 * j + 1))) (some g) := gb_trans (gb_trans hgr (gb_set _ _ _ _)) (gb_set _ _ _ _)
     clear hown hgr hst1 hL
     go_wp2
     go_roundw
     case rel => exact ⟨j + 1, by omega, by go_num, by go_num, hst, hg2⟩
     case measure => simp [intOf]; omega
   · have ej : j = ws.length := by omega
     subst ej
     rw [List.drop_length, List.append_nil] at hown
     go_wp2
     go_ret
     refine ⟨rfl, ?_, hgr⟩
     unfold OwnW
     rw [wmarks_len]
     exact hown
set_option maxHeartbeats 800000 in
set_option maxRecDepth 100000 in
theorem markMemWatchS_none (k : Int) (w : World) :
   Calls Cut.prog 71 #[.slice none 0 0, .int .i64 k] w fun e w' => e = .returned (.int .i64 k) ∧ w' = w := by
 go_enter (Cut.func_of Tryz.func71 rfl), Tryz.ntmps71
 go_wp2
 refine wp_loop_rounds 1 ?_
 rw [rounds_succ]
 go_wp2
 go_ret
 exact ⟨rfl, rfl⟩
theorem markMemWatchS_own (base : Nat) (v : Value) (ws : List (Int × Int)) (k : Int) (w : World) (hn : ws.length ≤ 1048576) (h0 : 0 ≤ k) (h1 : k ≤ 100000000000000) (hv : OwnW w base v ws) :
   Calls Cut.prog 71 #[v, .int .i64 k] w fun e w' => e = .returned (.int .i64 (k + 2 * ws.length)) ∧ OwnW w' base v (wmarks k ws.length) ∧ w.grownBy w' v.ownBlock := by
 have hcase := hv.2
 rcases hcase with ⟨rfl, h2⟩ | ⟨g, cap, cur, rfl, _⟩
 · refine (markMemWatchS_none k w).mono ?_
   rintro e w' ⟨rfl, rfl⟩
   refine ⟨by rw [h2]; simp, ?_, gb_refl _ _⟩
   have : ws = [] := List.eq_nil_of_length_eq_zero h2
   subst this
   exact hv
 · exact markMemWatchS_row base g cap ws k w hn h0 h1 hv
def Ob.wk (o : Ob) (k : Int) : Ob := ⟨k, o.t, o.ra, o.rcap, o.r⟩
def Ob.wkt (o : Ob) (k : Int) (t : ByteArray) : Ob := ⟨k, t, o.ra, o.rcap, o.r⟩
def Ob.mkd (o : Ob) (k : Int) : Ob := { o with k := k, t := mt (k + 1), r := marks (k + 1 + 1) o.r.length }
def mkO : Int → List Ob → List Ob
 | _, [] => []
 | k, o :: l => o.mkd k :: mkO (k + 1 + 1 + o.r.length) l
def mkE : Int → List Ob → Int
 | k, [] => k
 | k, o :: l => mkE (k + 1 + 1 + o.r.length) l
theorem mkO_len : ∀ (k : Int) (l : List Ob), (mkO k l).length = l.length
 | _, [] => rfl
 | k, o :: l => by rw [mkO, List.length_cons, List.length_cons, mkO_len]
theorem mkO_append : ∀ (k : Int) (l m : List Ob), mkO k (l ++ m) = mkO k l ++ mkO (mkE k l) m
 | _, [], _ => rfl
 | k, o :: l, m => by rw [List.cons_append, mkO, mkO, mkE, List.cons_append, mkO_append]
theorem mkE_append : ∀ (k : Int) (l m : List Ob), mkE k (l ++ m) = mkE (mkE k l) m
 | _, [], _ => rfl
 | k, o :: l, m => by rw [List.cons_append, mkE, mkE, mkE_append]
theorem mkE_take (k : Int) (l : List Ob) (j : Nat) (hj : j < l.length) : mkE k (l.take (j + 1)) = mkE k (l.take j) + 1 + 1 + l[j].r.length := by
 rw [List.take_add_one, List.getElem?_eq_getElem hj, Option.toList_some, mkE_append]
 rfl
theorem mkO_take (k : Int) (l : List Ob) (j : Nat) (hj : j < l.length) : mkO k (l.take (j + 1)) = mkO k (l.take j) ++ [l[j].mkd (mkE k (l.take j))] := by
 rw [List.take_add_one, List.getElem?_eq_getElem hj, Option.toList_some, mkO_append]
 rfl
theorem mkE_le {l : List Ob} (hr : ∀ i (h : i < l.length), l[i].r.length ≤ 1048576) : ∀ (j : Nat) (k : Int), j ≤ l.length → k ≤ mkE k (l.take j) ∧ mkE k (l.take j) ≤ k + 1048578 * j
 | 0, k, _ => by simp [mkE]
 | j + 1, k, h => by
   have h1 := mkE_le hr j k (by omega)
   have h2 := hr j (by omega)
   rw [mkE_take k l j (by omega)]
   omega
theorem Ob.mkd_rv (o : Ob) (k : Int) : (o.mkd k).rv = o.rv := by simp [Ob.rv, Ob.mkd, marks_len]
theorem mkO_rv : ∀ (k : Int) (l : List Ob) (i : Nat) (hi : i < l.length) (hi' : i < (mkO k l).length), (mkO k l)[i].rv = l[i].rv
 | _, [], i, hi, _ => by simp at hi
 | k, o :: l, 0, _, _ => Ob.mkd_rv o k
 | k, o :: l, i + 1, hi, hi' => mkO_rv _ l i (by simpa using hi) (by simpa [mkO] using hi')
theorem flat_setM {os : List Ob} {i j : Nat} (hi : i < os.length) (hj : j < 3) {o : Ob} {v : Value} (ho : o.cs = os[i].cs.set j v) : (os.set i o).flatMap Ob.cs = (os.flatMap Ob.cs).set (i * 3 + j) v := by
 induction os generalizing i with
 | nil => simp at hi
 | cons x os ih =>
   cases i with
   | zero =>
     simp only [List.getElem_cons_zero] at ho
     rw [List.set_cons_zero, List.flatMap_cons, List.flatMap_cons, ho, Nat.zero_mul, Nat.zero_add, List.set_append, if_pos (by simpa [Ob.cs] using hj)]
   | succ i =>
     have e : (i + 1) * 3 + j = (i * 3 + j) + 3 := by omega
     rw [List.set_cons_succ, List.flatMap_cons, List.flatMap_cons, e, List.set_append, if_neg (by simp [Ob.cs]), ih (by simpa using hi) (by simpa using ho)]
     simp [Ob.cs]
structure ChO (S : Nat → Prop) (w w' : World) : Prop where
 os : w'.os = w.os
 tape : w'.tape = w.tape
 output : w'.output = w.output
 size : w.heap.size ≤ w'.heap.size
 block : ∀ k, k < w.heap.size → ¬ S k → w'.heap[k]? = w.heap[k]?
theorem ChO.refl (S : Nat → Prop) (w : World) : ChO S w w := ⟨rfl, rfl, rfl, Nat.le_refl _, fun _ _ _ => rfl⟩
theorem ChO.trans {S : Nat → Prop} {a b c : World} (h : ChO S a b) (k : ChO S b c) : ChO S a c :=
 ⟨k.os.trans h.os, k.tape.trans h.tape, k.output.trans h.output, Nat.le_trans h.size k.size, fun i hi hr => (k.block i (Nat.lt_of_lt_of_le hi h.size) hr).trans (h.block i hi hr)⟩
theorem ChO.gb {S : Nat → Prop} {w w' : World} {r : Option Nat} (h : w.grownBy w' r) (hr : ∀ k, r = some k → S k) : ChO S w w' :=
 ⟨h.os, h.tape, h.output, h.size, fun k hk hn => h.block k hk (fun e => hn (hr k e.symm))⟩
theorem ChO.bel {S : Nat → Prop} {w w' : World} {B : Nat} (h : Below B w w') (hB : w.heap.size ≤ B) : ChO S w w' :=
 ⟨h.os, h.tape, h.output, h.size, fun k hk _ => h.block k (by omega)⟩
theorem ChO.mono {S T : Nat → Prop} {w w' : World} (h : ChO S w w') (hs : ∀ k, S k → T k) : ChO T w w' := ⟨h.os, h.tape, h.output, h.size, fun k hk hn => h.block k hk (fun e => hn (hs k e))⟩
theorem ChO.below {S : Nat → Prop} {w w' : World} {B : Nat} (h : ChO S w w') (hB : B ≤ w.heap.size) (hS : ∀ k, S k → B ≤ k) : Below B w w' :=
 ⟨h.os, h.tape, h.output, h.size, fun k hk => h.block k (by omega) (fun e => by have := hS k e; omega)⟩
theorem ChO.row {S : Nat → Prop} {w w' : World} {base e size n : Nat} {v : Value} {xs : List Value} (h : ChO S w w') (ho : w.ownsRow base e size v n xs) (hn : ∀ k, v.ownBlock = some k → ¬ S k) : w'.ownsRow base e size v n xs := by
 refine ⟨ho.1, ?_⟩
 rcases ho.2 with h1 | ⟨g, cap, cur, h1, hg, hh, r⟩
 · exact Or.inl h1
 · exact Or.inr ⟨g, cap, cur, h1, hg, by rw [h.block g (lt_of_block hh) (hn g (by rw [h1]; rfl))]; exact hh, r⟩
theorem ChO.blk {S : Nat → Prop} {w w' : World} {B t : Nat} {cs : List Value} (h : ChO S w w') (hb : Blk w B cs t) (hn : ¬ S B) : Blk w' B cs t := by
 unfold Blk at *
 rw [h.block B (lt_of_block hb) hn]; exact hb
theorem OwnRs.mark {w w' : World} {base : Nat} {l : List Ob} (h : OwnRs w base l) (j : Nat) (hj : j < l.length) (o : Ob) (hv : o.rv = l[j].rv) (ho : OwnL w' base o.rv o.r) (hg : w.grownBy w' l[j].rv.ownBlock) : OwnRs w' base (l.set j o) := by
 refine ⟨fun i hi => ?_, fun i i' hi hi' hlt a b ha hb => ?_⟩
 · rw [List.length_set] at hi
   rw [List.getElem_set]
   split
   · exact ho
   · rename_i hne
     refine (h.own i hi).kept hg ?_
     cases e : l[i].rv.ownBlock with
     | none => exact Or.inl rfl
     | some a =>
       refine Or.inr fun e2 => ?_
       rcases Nat.lt_or_gt_of_ne hne with hl | hl
       · exact absurd (h.inc j i hj hi hl a a e2.symm e) (Nat.lt_irrefl _)
       · exact absurd (h.inc i j hi hj hl a a e e2.symm) (Nat.lt_irrefl _)
 · rw [List.length_set] at hi hi'
   have e : ∀ i (hi : i < l.length) (h2 : i < (l.set j o).length), (l.set j o)[i].rv = l[i].rv := fun i hi h2 => by
     rw [List.getElem_set]
     split
     · rename_i e; subst e; exact hv
     · rfl
   rw [e i hi] at ha
   rw [e i' hi'] at hb
   exact h.inc i i' hi hi' hlt a b ha hb
theorem row_bel {w w' : World} {base e size n : Nat} {v : Value} {xs : List Value} (h : w.ownsRow base e size v n xs) (hb : Below w.heap.size w w') : w'.ownsRow base e size v n xs := by
 refine World.ownsRow.kept h (gb_of_below hb (Nat.le_refl _) none) ?_
 cases e : v.ownBlock with
 | none => exact Or.inl rfl
 | some k => exact Or.inr (by simp)
theorem set_same {L : List Value} {i : Nat} {v : Value} (h : L[i]? = some v) : L.set i v = L := by
 obtain ⟨hi, e⟩ := List.getElem?_eq_some_iff.1 h
 rw [← e, List.set_getElem_self]
theorem mid_get (L M : List Ob) (j : Nat) (hL : L.length = j) (hM : 0 < M.length) : ∃ h : j < (L ++ M).length, (L ++ M)[j] = M[0] := by
 subst hL
 exact ⟨by rw [List.length_append]; omega, by simp⟩
set_option maxHeartbeats 1600000 in
set_option maxRecDepth 100000 in
theorem markMemObjS_row (base g cap : Nat) (os : List Ob) (k : Int) (w : World) (hn : os.length ≤ 1048576) (hr : ∀ i (h : i < os.length), os[i].r.length ≤ 1048576) (h0 : 0 ≤ k) (h1 : k ≤ 1000000) (S : Nat → Prop) (hSg : S g) (hSr : ∀ i (h : i < os.length) b, os[i].rv.ownBlock = some b → S b) (hv : OwnB w base (.slice (some ⟨g, 0, none⟩) os.length cap) os) (hrs : OwnRs w base os) :
   Calls Cut.prog 70 #[.slice (some ⟨g, 0, none⟩) os.length cap, .int .i64 k] w fun e w' => e = .returned (.int .i64 (mkE k os)) ∧ OwnB w' base (.slice (some ⟨g, 0, none⟩) os.length cap) (mkO k os) ∧ OwnRs w' base (mkO k os) ∧ ChO S w w' := by
 go_enter (Cut.func_of Tryz.func70 rfl), Tryz.ntmps70
 go_wp2
 go_loopw [1, 5] (fun c i wr => ∃ (j : Nat) (q : Int), j ≤ os.length ∧ i = .int .i64 j ∧ c = .int .i64 q ∧ Hid (q = mkE k (os.take j)) ∧ wr.ownsRow base 37 3 (.slice (some ⟨g, 0, none⟩) os.length cap) os.length ((mkO k (os.take j) ++ os.drop j).flatMap Ob.cs) ∧ OwnRs wr base (mkO k (os.take j) ++ os.drop j) ∧ ChO S w wr) (fun _ i _ => os.length - (intOf i).toNat)
 case atStart => exact ⟨0, k, Nat.zero_le _, rfl, rfl, rfl, by have := hv; unfold OwnB at this; simpa [mkO] using this, by simpa [mkO] using hrs, ChO.refl _ _⟩
 case round =>
   obtain ⟨j, q, hj, rfl, rfl, HQ, hown, hors, hbl⟩ := hrel
   clear hv hrs
   by_cases hlt : j < os.length
   · have hq := mkE_le hr j k hj
     rw [← HQ.out] at hq
     obtain ⟨hq0, hq1⟩ := hq
     have hrl := hr j hlt
     have hLL : (mkO k (os.take j)).length = j := by rw [mkO_len, List.length_take]; omega
     have hL : (mkO k (os.take j) ++ os.drop j).length = os.length := by rw [List.length_append, hLL, List.length_drop]; omega
     obtain ⟨hjl, hgetj⟩ := mid_get (mkO k (os.take j)) (os.drop j) j hLL (by rw [List.length_drop]; omega)
     have hgj : (mkO k (os.take j) ++ os.drop j)[j] = os[j] := by rw [hgetj]; simp
     have hset : ∀ o : Ob, (mkO k (os.take j) ++ os.drop j).set j o = mkO k (os.take j) ++ o :: os.drop (j + 1) := fun o => by
       rw [List.set_append, if_neg (by omega), hLL, Nat.sub_self, (List.getElem_cons_drop hlt).symm, List.set_cons_zero]
     have HST : Hid (∀ o : Ob, (mkO k (os.take j) ++ os.drop j).set j o = mkO k (os.take j) ++ o :: os.drop (j + 1)) := hset
     have HMT : Hid (mkO k (os.take j) ++ os[j].mkd q :: os.drop (j + 1) = mkO k (os.take (j + 1)) ++ os.drop (j + 1)) := by
       show _ = _
       rw [mkO_take k os j hlt, HQ.out, List.append_assoc]
       rfl
     have HQN : Hid (q + 1 + 1 + (os[j].r.length : Int) = mkE k (os.take (j + 1))) := by
       show _ = _
       rw [mkE_take k os j hlt, HQ.out]
     clear hset hgetj HQ
     generalize mkO k (os.take j) ++ os.drop j = L at *
     have hLf : (L.flatMap Ob.cs).length = os.length * 3 := by rw [flat_len Ob.cs 3 (fun _ => rfl), hL]
     have f0 := hown.frozenAt (j * 3)
     obtain ⟨v0, q0⟩ : ∃ v, wr.cell? ⟨g, j * 3, none⟩ = some v := ⟨_, (own_get hown (j * 3) (by omega)).trans (List.getElem?_eq_getElem (by omega))⟩
     obtain ⟨hst1, hg1⟩ := hown.stored (j * 3) (.int .i64 q)
     have hfs := flat_setM (j := 0) hjl (by omega) (o := (L[j].wk q)) (v := .int .i64 q) (by simp [Ob.cs, Ob.wk])
     rw [Nat.add_zero] at hfs
     rw [← hfs] at hst1
     clear hfs
     have hors1 : OwnRs (wr.setCell ⟨g, j * 3, none⟩ (.int .i64 q)) base L := hors.grown hown (by decide) hg1
     have hbl1 := hbl.trans (ChO.gb hg1 (fun k e => by cases e; exact hSg))
     clear hown hors hbl
     go_wp2_with fail
     refine (markText_any _ _ (by omega) (by omega)).mono ?_
     rintro e w1 ⟨rfl, hb1⟩
     have hown2 := row_bel hst1 hb1
     have hors2 := hors1.below hb1 (Nat.le_refl _)
     have hbl2 := hbl1.trans (ChO.bel hb1 (Nat.le_refl _))
     clear hst1 hors1 hbl1 hb1 hg1 f0 q0
     have hL2 : (L.set j (L[j].wk q)).length = os.length := by rw [List.length_set]; exact hL
     have hLf2 : ((L.set j (L[j].wk q)).flatMap Ob.cs).length = os.length * 3 := by rw [flat_len Ob.cs 3 (fun _ => rfl), hL2]
     have f1 := hown2.frozenAt (j * 3 + 1)
     obtain ⟨v1, q1⟩ : ∃ v, w1.cell? ⟨g, j * 3 + 1, none⟩ = some v := ⟨_, (own_get hown2 (j * 3 + 1) (by omega)).trans (List.getElem?_eq_getElem (by omega))⟩
     have q2 : w1.cell? ⟨g, j * 3 + 2, none⟩ = some (.slice os[j].ra os[j].r.length os[j].rcap) := by
       rw [own_get hown2 (j * 3 + 2) (by omega), flat_get Ob.cs 3 (fun _ => rfl) _ j 2 (by omega) (by omega)]
       simp [Ob.cs, Ob.wk, hgj]
     obtain ⟨hst3, hg3⟩ := hown2.stored (j * 3 + 1) (.string (mt (q + 1)))
     rw [← flat_setM (i := j) (by omega) (by omega) (o := (L[j].wkt q (mt (q + 1)))) (by simp [Ob.cs, Ob.wk, Ob.wkt]), List.set_set] at hst3
     have hors3 : OwnRs (w1.setCell ⟨g, j * 3 + 1, none⟩ (.string (mt (q + 1)))) base L := hors2.grown hown2 (by decide) hg3
     have hbl3 := hbl2.trans (ChO.gb hg3 (fun k e => by cases e; exact hSg))
     have ho5 := hors3.own j hjl
     rw [hgj] at ho5 hst3
     have c5 := markIntS_own base _ os[j].r (q + 1 + 1) _ hrl (by omega) (by omega) ho5
     simp only [Ob.rv] at c5
     clear hown2 hors2 hbl2 hg3
     go_wp2_with fail
     refine c5.mono ?_
     rintro e w2 ⟨rfl, hrow, hg5⟩
     have hors4 : OwnRs w2 base (L.set j (os[j].mkd q)) := hors3.mark j hjl (os[j].mkd q) (by rw [hgj, Ob.mkd_rv]) (by
       rw [Ob.mkd_rv]
       exact hrow) (by rw [hgj]; exact hg5)
     have hown4 : w2.ownsRow base 37 3 (.slice (some ⟨g, 0, none⟩) os.length cap) os.length ((L.set j (os[j].mkd q)).flatMap Ob.cs) := by
       have e1 : (L.set j (os[j].mkd q)).flatMap Ob.cs = (L.set j (os[j].wkt q (mt (q + 1)))).flatMap Ob.cs := by
         rw [← List.set_set (a := (os[j].wkt q (mt (q + 1)))) (b := os[j].mkd q)]
         rw [flat_setM (i := j) (j := 0) (by rw [List.length_set]; exact hjl) (by omega) (o := os[j].mkd q) (v := .int .i64 q) (by simp [Ob.cs, Ob.mkd, Ob.wkt, marks_len])]
         refine set_same ?_
         rw [flat_get Ob.cs 3 (fun _ => rfl) _ j 0 (by rw [List.length_set]; exact hjl) (by omega)]
         simp [Ob.cs, Ob.wkt]
       rw [e1]
       refine World.ownsRow.kept hst3 hg5 (row_ne hst3 ho5 (by decide))
     have hbl4 := hbl3.trans (ChO.gb hg5 (hSr j hlt))
     rw [HST.out, HMT.out] at hors4 hown4
     clear c5 hst3 hors3 ho5 hrow hg5 hbl3 f1 q1 q2
     go_wp2
     go_roundw
     case rel => exact ⟨j + 1, q + 1 + 1 + os[j].r.length, by omega, by go_num, rfl, HQN, hown4, hors4, hbl4⟩
     case measure => simp [intOf]; omega
   · have ej : j = os.length := by omega
     subst ej
     rw [List.drop_length, List.append_nil, List.take_length] at hown hors
     have HE : Hid (q = mkE k os) := by
       show _ = _
       rw [HQ.out, List.take_length]
     go_wp2
     go_ret
     refine ⟨ret_int HE.out, ?_, hors, hbl⟩
     unfold OwnB
     rw [mkO_len]
     exact hown
set_option maxHeartbeats 800000 in
set_option maxRecDepth 100000 in
theorem markMemObjS_none (k : Int) (w : World) :
   Calls Cut.prog 70 #[.slice none 0 0, .int .i64 k] w fun e w' => e = .returned (.int .i64 k) ∧ w' = w := by
 go_enter (Cut.func_of Tryz.func70 rfl), Tryz.ntmps70
 go_wp2
 refine wp_loop_rounds 1 ?_
 rw [rounds_succ]
 go_wp2
 go_ret
 exact ⟨rfl, rfl⟩
theorem markMemObjS_own (base : Nat) (a : Option Addr) (cap : Nat) (os : List Ob) (k : Int) (w : World) (hn : os.length ≤ 1048576) (hr : ∀ i (h : i < os.length), os[i].r.length ≤ 1048576) (h0 : 0 ≤ k) (h1 : k ≤ 1000000) (hv : OwnB w base (.slice a os.length cap) os) (hrs : OwnRs w base os) :
   Calls Cut.prog 70 #[.slice a os.length cap, .int .i64 k] w fun e w' => e = .returned (.int .i64 (mkE k os)) ∧ OwnB w' base (.slice a os.length cap) (mkO k os) ∧ OwnRs w' base (mkO k os) ∧ ChO (fun b => (Value.slice a os.length cap).ownBlock = some b ∨ ∃ i, ∃ h : i < os.length, os[i].rv.ownBlock = some b) w w' := by
 have hcase := hv.2
 rcases hcase with ⟨h1', h2⟩ | ⟨g, cap', cur, h1', _⟩
 · have : os = [] := List.eq_nil_of_length_eq_zero h2
   subst this
   simp only [Value.slice.injEq] at h1'
   obtain ⟨rfl, -, rfl⟩ := h1'
   refine (markMemObjS_none k w).mono ?_
   rintro e w' ⟨rfl, rfl⟩
   exact ⟨rfl, hv, hrs, ChO.refl _ _⟩
 · simp only [Value.slice.injEq] at h1'
   obtain ⟨rfl, -, rfl⟩ := h1'
   exact markMemObjS_row base g cap os k w hn hr h0 h1 _ (.inl rfl) (fun i h b e => .inr ⟨i, h, e⟩) hv hrs
def mkH (y : Hp) : Hp := { y with os := mkO 1 y.os, rs := marks (mkE 1 y.os) y.rs.length, ws := wmarks (mkE 1 y.os + y.rs.length) y.ws.length, ds := wmarks (mkE 1 y.os + y.rs.length + 2 * y.ws.length) y.ds.length }
def mkHE (y : Hp) : Int := mkE 1 y.os + y.rs.length + 2 * y.ws.length + 2 * y.ds.length
theorem mkE_bound {y : Hp} (hs : Small y) : 1 ≤ mkE 1 y.os ∧ mkE 1 y.os ≤ 10000000000000 := by
 have h1 := mkE_le hs.oo y.os.length 1 (Nat.le_refl _)
 rw [List.take_length] at h1
 have := hs.o
 omega
theorem mkHE_bound {y : Hp} (hs : Small y) : 0 ≤ mkHE y ∧ mkHE y ≤ 20000000000000 := by
 have h1 := mkE_bound hs
 have h2 := hs.r
 have h3 := hs.w
 have h4 := hs.d
 unfold mkHE
 omega
theorem ne_of_lt {u v : Value} (h : ∀ a b, u.ownBlock = some a → v.ownBlock = some b → a < b) : (v.ownBlock = none ∨ v.ownBlock ≠ u.ownBlock) ∧ (u.ownBlock = none ∨ u.ownBlock ≠ v.ownBlock) := by
 constructor
 · cases e : v.ownBlock with
   | none => exact Or.inl rfl
   | some a => exact Or.inr fun e2 => absurd (h a a e2.symm e) (Nat.lt_irrefl _)
 · cases e : u.ownBlock with
   | none => exact Or.inl rfl
   | some a => exact Or.inr fun e2 => absurd (h a a e e2.symm) (Nat.lt_irrefl _)
def RowsOf (y : Hp) (b : Nat) : Prop := (Value.slice y.oa y.os.length y.ocap).ownBlock = some b ∨ (∃ i, ∃ h : i < y.os.length, y.os[i].rv.ownBlock = some b) ∨ (Value.slice y.ra y.rs.length y.rcap).ownBlock = some b ∨ (Value.slice y.wa y.ws.length y.wcap).ownBlock = some b ∨ (Value.slice y.da y.ds.length y.dcap).ownBlock = some b
theorem OwnP.rows_lt {w : World} {B : Nat} {y : Hp} (h : OwnP w B y) : ∀ b, RowsOf y b → B ≤ b ∧ b < w.heap.size := by
 rintro b (e | ⟨i, hi, e⟩ | e | e | e)
 · exact h.ob.lt b e
 · exact h.rs.lt i hi b e
 · exact h.ro.lt b e
 · exact h.wa.lt b e
 · exact h.da.lt b e
theorem OwnP.rows_ty {w : World} {B : Nat} {y : Hp} (h : OwnP w B y) : ∀ b, RowsOf y b → ∃ cur e, w.heap[b]? = some (.cells cur e (0, 0)) ∧ (e = 3 ∨ e = 37 ∨ e = 40) := by
 rintro b (e | ⟨i, hi, e⟩ | e | e | e)
 · obtain ⟨c, hc⟩ := row_ty h.ob e
   exact ⟨c, _, hc, .inr (.inl rfl)⟩
 · obtain ⟨c, hc⟩ := row_ty (h.rs.own i hi) e
   exact ⟨c, _, hc, .inl rfl⟩
 · obtain ⟨c, hc⟩ := row_ty h.ro e
   exact ⟨c, _, hc, .inl rfl⟩
 · obtain ⟨c, hc⟩ := row_ty h.wa e
   exact ⟨c, _, hc, .inr (.inr rfl)⟩
 · obtain ⟨c, hc⟩ := row_ty h.da e
   exact ⟨c, _, hc, .inr (.inr rfl)⟩
theorem OwnP.not_box {w : World} {B b t : Nat} {y : Hp} {cs : List Value} (h : OwnP w B y) (hb : Blk w b cs t) (n1 : t ≠ 3) (n2 : t ≠ 37) (n3 : t ≠ 40) : ¬ RowsOf y b := fun hr => by
 obtain ⟨cur, e, hc, he⟩ := h.rows_ty b hr
 unfold Blk at hb
 rw [hb] at hc
 simp at hc
 rcases he with he | he | he
 · exact n1 (hc.2.trans he)
 · exact n2 (hc.2.trans he)
 · exact n3 (hc.2.trans he)
set_option maxHeartbeats 1600000 in
set_option maxRecDepth 100000 in
theorem markMemHeap_own (base : Nat) (y : Hp) (w : World) (hs : Small y) (hh : OwnP w base y) :
   Calls Cut.prog 26 #[y.v, .int .i64 1] w fun e w' => e = .returned (.int .i64 (mkHE y)) ∧ OwnP w' base (mkH y) ∧ ChO (RowsOf y) w w' := by
 have hE := mkE_bound hs
 have hEE := mkHE_bound hs
 obtain ⟨so, soo, sr, sw, sd⟩ := hs
 simp only [Hp.v] at *
 go_enter (Cut.func_of Tryz.func26 rfl), Tryz.ntmps26
 have hA : Below w.heap.size w (w.alloc (Obj.cells #[Value.slice y.oa y.os.length y.ocap, Value.slice y.ra y.rs.length y.rcap, Value.slice y.wa y.ws.length y.wcap, Value.slice y.da y.ds.length y.dcap] 27)) := (Below.refl _ _).alloc (Nat.le_refl _) _
 have hK := Blk.new w [Value.slice y.oa y.os.length y.ocap, Value.slice y.ra y.rs.length y.rcap, Value.slice y.wa y.ws.length y.wcap, Value.slice y.da y.ds.length y.dcap] 27
 have r0 : ChO (RowsOf y) w _ := ChO.bel hA (Nat.le_refl _)
 have hP := hh.below hA (Nat.le_refl _)
 have c1 := markMemObjS_own base y.oa y.ocap y.os 1 _ so soo (by omega) (by omega) hP.ob hP.rs
 have hnb := hP.not_box hK (by decide) (by decide) (by decide)
 clear hA
 go_wp2_with fail
 refine c1.mono ?_
 rintro e w1 ⟨rfl, o1, o2, r1⟩
 have ro1 : OwnL w1 base (.slice y.ra y.rs.length y.rcap) y.rs := r1.row hP.ro (by
   rintro k hk (e | ⟨i, hi, e⟩)
   · exact (row_ne hP.ro hP.ob (by decide)).elim (fun h => by rw [h] at hk; cases hk) (fun h => h (by rw [hk, e]))
   · exact absurd (hP.rlt i hi k k e hk) (Nat.lt_irrefl _))
 have wa1 : OwnW w1 base (.slice y.wa y.ws.length y.wcap) y.ws := r1.row hP.wa (by
   rintro k hk (e | ⟨i, hi, e⟩)
   · exact (row_ne hP.wa hP.ob (by decide)).elim (fun h => by rw [h] at hk; cases hk) (fun h => h (by rw [hk, e]))
   · exact (row_ne hP.wa (hP.rs.own i hi) (by decide)).elim (fun h => by rw [h] at hk; cases hk) (fun h => h (by rw [hk, e])))
 have da1 : OwnW w1 base (.slice y.da y.ds.length y.dcap) y.ds := r1.row hP.da (by
   rintro k hk (e | ⟨i, hi, e⟩)
   · exact (row_ne hP.da hP.ob (by decide)).elim (fun h => by rw [h] at hk; cases hk) (fun h => h (by rw [hk, e]))
   · exact (row_ne hP.da (hP.rs.own i hi) (by decide)).elim (fun h => by rw [h] at hk; cases hk) (fun h => h (by rw [hk, e])))
 have r1' : ChO (RowsOf y) _ w1 := r1.mono (by
   rintro k (e | e)
   · exact .inl e
   · exact .inr (.inl e))
 have hK1 := r1'.blk hK hnb
 have R1 := r0.trans r1'
 have HRL : Hid (∀ i (hi : i < (mkO 1 y.os).length) a b, (mkO 1 y.os)[i].rv.ownBlock = some a → (Value.slice y.ra y.rs.length y.rcap).ownBlock = some b → a < b) := fun i hi a b ha hb => by
   rw [mkO_rv 1 y.os i (by rw [mkO_len] at hi; exact hi)] at ha
   exact hh.rlt i _ a b ha hb
 have x1 := hK1.cell 1
 simp only [List.getElem?_cons_zero, List.getElem?_cons_succ] at x1
 have c2 := markIntS_own base _ y.rs (mkE 1 y.os) w1 sr (by omega) (by omega) ro1
 clear c1 r1 r1' hK r0 hP
 go_wp2_with fail
 refine c2.mono ?_
 rintro e w2 ⟨rfl, ro2, g2⟩
 have r2 : ChO (RowsOf y) w1 w2 := ChO.gb g2 (fun k e => .inr (.inr (.inl e)))
 have hK2 := r2.blk hK1 hnb
 have o12 : OwnB w2 base (.slice y.oa y.os.length y.ocap) (mkO 1 y.os) := World.ownsRow.kept o1 g2 (row_ne o1 ro1 (by decide))
 have o22 : OwnRs w2 base (mkO 1 y.os) := ⟨fun i hi => (o2.own i hi).kept g2 (ne_of_lt (HRL.out i hi)).2, o2.inc⟩
 have wa2 : OwnW w2 base (.slice y.wa y.ws.length y.wcap) y.ws := World.ownsRow.kept wa1 g2 (row_ne wa1 ro1 (by decide))
 have da2 : OwnW w2 base (.slice y.da y.ds.length y.dcap) y.ds := World.ownsRow.kept da1 g2 (row_ne da1 ro1 (by decide))
 have R2 := R1.trans r2
 have x2 := hK2.cell 2
 simp only [List.getElem?_cons_zero, List.getElem?_cons_succ] at x2
 have c3 := markMemWatchS_own base _ y.ws (mkE 1 y.os + y.rs.length) w2 sw (by omega) (by omega) wa2
 clear c2 g2 hK1 ro1 wa1 da1 R1 r2 o1 o2 x1
 go_wp2_with fail
 refine c3.mono ?_
 rintro e w3 ⟨rfl, wa3, g3⟩
 have r3 : ChO (RowsOf y) w2 w3 := ChO.gb g3 (fun k e => .inr (.inr (.inr (.inl e))))
 have hK3 := r3.blk hK2 hnb
 have o13 : OwnB w3 base (.slice y.oa y.os.length y.ocap) (mkO 1 y.os) := World.ownsRow.kept o12 g3 (row_ne o12 wa2 (by decide))
 have o23 : OwnRs w3 base (mkO 1 y.os) := o22.grown wa2 (by decide) g3
 have ro3 : OwnL w3 base (.slice y.ra y.rs.length y.rcap) (marks (mkE 1 y.os) y.rs.length) := ro2.kept g3 (row_ne ro2 wa2 (by decide))
 have da3 : OwnW w3 base (.slice y.da y.ds.length y.dcap) y.ds := World.ownsRow.kept da2 g3 (ne_of_lt hh.wlt).1
 have R3 := R2.trans r3
 have x3 := hK3.cell 3
 simp only [List.getElem?_cons_zero, List.getElem?_cons_succ] at x3
 have c4 := markMemWatchS_own base _ y.ds (mkE 1 y.os + y.rs.length + 2 * y.ws.length) w3 sd (by omega) (by omega) da3
 clear c3 g3 hK2 ro2 wa2 da2 R2 r3 o12 o22 x2
 go_wp2_with fail
 refine c4.mono ?_
 rintro e w4 ⟨rfl, da4, g4⟩
 have r4 : ChO (RowsOf y) w3 w4 := ChO.gb g4 (fun k e => .inr (.inr (.inr (.inr e))))
 have R4 := R3.trans r4
 have HP : Hid (OwnP w4 base (mkH y)) := by
   have e1 : (Value.slice (mkH y).oa (mkH y).os.length (mkH y).ocap) = .slice y.oa y.os.length y.ocap := by simp [mkH, mkO_len]
   have e2 : (Value.slice (mkH y).ra (mkH y).rs.length (mkH y).rcap) = .slice y.ra y.rs.length y.rcap := by simp [mkH, marks_len]
   have e3 : (Value.slice (mkH y).wa (mkH y).ws.length (mkH y).wcap) = .slice y.wa y.ws.length y.wcap := by simp [mkH, wmarks_len]
   have e4 : (Value.slice (mkH y).da (mkH y).ds.length (mkH y).dcap) = .slice y.da y.ds.length y.dcap := by simp [mkH, wmarks_len]
   refine ⟨by rw [e1]; exact World.ownsRow.kept o13 g4 (row_ne o13 da3 (by decide)), o23.grown da3 (by decide) g4, by rw [e2]; exact ro3.kept g4 (row_ne ro3 da3 (by decide)), by rw [e2]; exact HRL.out, by rw [e3]; exact World.ownsRow.kept wa3 g4 (ne_of_lt hh.wlt).2, by rw [e4]; exact da4, by rw [e3, e4]; exact hh.wlt⟩
 clear c4 g4 r4
 go_wp2
 go_ret
 exact ⟨rfl, HP.out, R4⟩
set_option maxHeartbeats 800000 in
set_option maxRecDepth 100000 in
theorem heldMemWatchS_any (a : Option Addr) (n cap : Nat) (k : Int) (w : World) (hn : n ≤ 1048576) (h0 : 0 ≤ k) (h1 : k ≤ 100000000000000) (h : SegW w a (wmarks k n)) :
   Calls Cut.prog 73 #[.slice a n cap, .int .i64 k] w fun e w' => e = .returned (.int .i64 (k + 2 * n)) ∧ w' = w := by
 go_enter (Cut.func_of Tryz.func73 rfl), Tryz.ntmps73
 go_wp2
 go_loop [1, 5] (fun q i => ∃ j : Nat, j ≤ n ∧ i = .int .i64 j ∧ q = .int .i64 (k + 2 * j)) (fun _ i => n - (intOf i).toNat)
 case atStart => exact ⟨0, Nat.zero_le _, rfl, by go_num⟩
 case round =>
   obtain ⟨j, hj, rfl, rfl⟩ := hrel
   by_cases hlt : j < n
   · have hjl : j < (wmarks k n).length := by rw [wmarks_len]; exact hlt
     obtain ⟨b, off, rfl, hbw, c1, c2⟩ := h.get hjl
     rw [wmarks_get] at c1 c2
     dsimp only at c1 c2
     have hd : ((k + 2 * (j : Int)) != (k + 2 * (j : Int))) = false := by simp
     have hd1 : ((k + 2 * (j : Int) + 1) != (k + 2 * (j : Int) + 1)) = false := by simp
     go_wp2
     go_round
     case rel => exact ⟨j + 1, by omega, by go_num, by go_num⟩
     case measure => simp [intOf]; omega
   · have ej : j = n := by omega
     subst ej
     go_wp2
     go_ret
     exact ⟨rfl, rfl⟩
theorem mkO_get (k : Int) (os : List Ob) (j : Nat) (hj : j < os.length) (hj' : j < (mkO k os).length) : (mkO k os)[j] = os[j].mkd (mkE k (os.take j)) := by
 have e : mkO k os = mkO k (os.take j) ++ mkO (mkE k (os.take j)) (os.drop j) := by
   rw [← mkO_append, List.take_append_drop]
 have hL : (mkO k (os.take j)).length = j := by rw [mkO_len, List.length_take]; omega
 have e2 : os.drop j = os[j] :: os.drop (j + 1) := (List.getElem_cons_drop hj).symm
 rw [e2, mkO] at e
 have : (mkO k os)[j]? = some (os[j].mkd (mkE k (os.take j))) := by
   rw [e, List.getElem?_append_right (by omega), hL, Nat.sub_self]
   rfl
 rw [List.getElem?_eq_getElem hj'] at this
 exact Option.some.inj this
set_option maxHeartbeats 1600000 in
set_option maxRecDepth 100000 in
theorem heldMemObjS_any (a : Option Addr) (cap : Nat) (os : List Ob) (k : Int) (w : World) (hn : os.length ≤ 1048576) (hr : ∀ i (h : i < os.length), os[i].r.length ≤ 1048576) (h0 : 0 ≤ k) (h1 : k ≤ 1000000) (h : SegO w a (mkO k os)) :
   Calls Cut.prog 72 #[.slice a os.length cap, .int .i64 k] w fun e w' => e = .returned (.int .i64 (mkE k os)) ∧ Below w.heap.size w w' := by
 go_enter (Cut.func_of Tryz.func72 rfl), Tryz.ntmps72
 go_wp2
 go_loopw [1, 5] (fun q i wr => ∃ (j : Nat) (x : Int), j ≤ os.length ∧ i = .int .i64 j ∧ q = .int .i64 x ∧ Hid (x = mkE k (os.take j)) ∧ Below w.heap.size w wr) (fun _ i _ => os.length - (intOf i).toNat)
 case atStart => exact ⟨0, k, Nat.zero_le _, rfl, rfl, rfl, Below.refl _ _⟩
 case round =>
   obtain ⟨j, x, hj, rfl, rfl, HQ, hbl⟩ := hrel
   by_cases hlt : j < os.length
   · have hq := mkE_le hr j k hj
     rw [← HQ.out] at hq
     obtain ⟨hq0, hq1⟩ := hq
     have hrl := hr j hlt
     have hjl : j < (mkO k os).length := by rw [mkO_len]; exact hlt
     have hsg : SegO wr a (mkO k os) := h.below hbl (Nat.le_refl _)
     have hmk := mkO_get k os j hlt hjl
     rw [← HQ.out] at hmk
     have HQN : Hid (x + 1 + 1 + (os[j].r.length : Int) = mkE k (os.take (j + 1))) := by
       show _ = _
       rw [mkE_take k os j hlt, HQ.out]
     obtain ⟨b, off, ha, hbw, hcs⟩ := hsg.1 (by omega)
     obtain ⟨c0, c1, c2⟩ := hcs j hjl
     have hpart := hsg.2 j hjl
     rw [hmk] at c0 c1 c2 hpart
     simp only [Ob.mkd, marks_len] at c0 c1 c2 hpart
     have HPT : Hid (SegI wr os[j].ra (marks (x + 1 + 1) os[j].r.length)) := hpart
     clear hsg hmk hcs hpart HQ
     subst ha
     have hd : (x != x) = false := by simp
     have hdr : Below wr.heap.size wr wr.drew := (Below.refl _ _).drew
     have c4 := markText_any (x + 1) wr.drew (by omega) (by omega)
     go_wp2_with fail
     go_region_with (go_at_call 103; refine c4.mono ?_; rintro e w1 ⟨rfl, hb1⟩; have c0' := (hb1.cell (p := ⟨b, off + j * 3, none⟩) hbw).trans c0; have c1' := (hb1.cell (p := ⟨b, off + j * 3 + 1, none⟩) hbw).trans c1; have c2' := (hb1.cell (p := ⟨b, off + j * 3 + 2, none⟩) hbw).trans c2)
     all_goals
       have hp1 := (HPT.out.below hdr (Nat.le_refl _)).below hb1 (Nat.le_refl _)
       have hbl1 := (hbl.trans (hdr.mono hbl.size)).trans (hb1.mono (hbl.trans (hdr.mono hbl.size)).size)
       clear c0 c1 c2 hb1 hbl c4 hdr
       have c5 := heldIntS_any os[j].ra os[j].r.length os[j].rcap (x + 1 + 1) w1 hrl (by omega) (by omega) hp1
       go_wp2_with fail
       refine c5.mono ?_
       rintro e w2 ⟨rfl, rfl⟩
       clear c5
       have hdd : decide (x + 1 + 1 + (os[j].r.length : Int) < 0) = false := by simp; omega
       go_wp2
       go_roundw
       case rel => exact ⟨j + 1, x + 1 + 1 + os[j].r.length, by omega, by go_num, rfl, HQN, hbl1⟩
       case measure => simp [intOf]; omega
   · have ej : j = os.length := by omega
     subst ej
     have HE : Hid (x = mkE k os) := by
       show _ = _
       rw [HQ.out, List.take_length]
     go_wp2
     go_ret
     exact ⟨ret_int HE.out, hbl⟩
set_option maxHeartbeats 1600000 in
set_option maxRecDepth 100000 in
theorem heldMemHeap_any (y : Hp) (w : World) (hs : Small y) (hh : HpIn w (mkH y)) :
   Calls Cut.prog 28 #[y.v, .int .i64 1] w fun e w' => e = .returned (.int .i64 (mkHE y)) ∧ Below w.heap.size w w' := by
 have hE := mkE_bound hs
 have hEE := mkHE_bound hs
 obtain ⟨so, soo, sr, sw, sd⟩ := hs
 simp only [Hp.v] at *
 go_enter (Cut.func_of Tryz.func28 rfl), Tryz.ntmps28
 have hA : Below w.heap.size w (w.alloc (Obj.cells #[Value.slice y.oa y.os.length y.ocap, Value.slice y.ra y.rs.length y.rcap, Value.slice y.wa y.ws.length y.wcap, Value.slice y.da y.ds.length y.dcap] 27)) := (Below.refl _ _).alloc (Nat.le_refl _) _
 have hK := Blk.new w [Value.slice y.oa y.os.length y.ocap, Value.slice y.ra y.rs.length y.rcap, Value.slice y.wa y.ws.length y.wcap, Value.slice y.da y.ds.length y.dcap] 27
 have hI := hh.below hA (Nat.le_refl _)
 have c1 := heldMemObjS_any y.oa y.ocap y.os 1 _ so soo (by omega) (by omega) hI.so
 go_wp2_with fail
 refine c1.mono ?_
 rintro e w1 ⟨rfl, hb1⟩
 have hB1 := hA.trans (hb1.mono hA.size)
 have hK1 := hK.below hb1 hK.lt
 have hI1 := hI.below hb1 (Nat.le_refl _)
 have x1 := hK1.cell 1
 have x2 := hK1.cell 2
 have x3 := hK1.cell 3
 simp only [List.getElem?_cons_zero, List.getElem?_cons_succ] at x1 x2 x3
 have d1 : decide (mkE 1 y.os < 0) = false := by simp; omega
 have c2 := heldIntS_any y.ra y.rs.length y.rcap (mkE 1 y.os) w1 sr (by omega) (by omega) hI1.sr
 clear c1 hb1 hA hK hI
 go_wp2_with fail
 refine c2.mono ?_
 rintro e w2 ⟨rfl, rfl⟩
 have d2 : decide (mkE 1 y.os + (y.rs.length : Int) < 0) = false := by simp; omega
 have c3 := heldMemWatchS_any y.wa y.ws.length y.wcap (mkE 1 y.os + y.rs.length) w2 sw (by omega) (by omega) hI1.sw
 clear c2
 go_wp2_with fail
 refine c3.mono ?_
 rintro e w3 ⟨rfl, rfl⟩
 have d3 : decide (mkE 1 y.os + (y.rs.length : Int) + 2 * (y.ws.length : Int) < 0) = false := by simp; omega
 have c4 := heldMemWatchS_any y.da y.ds.length y.dcap (mkE 1 y.os + y.rs.length + 2 * y.ws.length) w3 sd (by omega) (by omega) hI1.sd
 clear c3
 go_wp2_with fail
 refine c4.mono ?_
 rintro e w4 ⟨rfl, rfl⟩
 have d4 : decide (mkE 1 y.os + (y.rs.length : Int) + 2 * (y.ws.length : Int) + 2 * (y.ds.length : Int) < 0) = false := by simp; omega
 clear c4
 go_wp2
 go_ret
 exact ⟨rfl, hB1⟩
end Go.Proofs.YtcpnkpogebjieaaGreat
namespace Go.Proofs.YtcpnkpogebjieaaGreat.Co
open Go.RowKit
theorem HpIn.heap {w w' : World} {h : Hp} (hh : HpIn w h) (hs : w.heap.size ≤ w'.heap.size) (ho : ∀ b, b < w.heap.size → w'.heap[b]? = w.heap[b]?) : HpIn w' h := by
 have h1 := hh.below (B := w.heap.size) (w' := { w with heap := w'.heap }) ⟨rfl, rfl, rfl, hs, ho⟩ (Nat.le_refl _)
 exact ⟨h1.so, h1.sr, h1.sw, h1.sd⟩
theorem row_heap {w w' : World} {N n : Nat} {e : TypeId} {sz : Nat} {v : Value} {xs : List Value} (h : w.ownsRow N e sz v n xs) (ho : ∀ b, v.ownBlock = some b → w'.heap[b]? = w.heap[b]?) : w'.ownsRow N e sz v n xs := by
 obtain ⟨h1, h2 | ⟨g, cp, cur, h2, h3, h4, h5⟩⟩ := h
 · exact ⟨h1, .inl h2⟩
 · refine ⟨h1, .inr ⟨g, cp, cur, h2, h3, (ho g (by rw [h2]; rfl)).trans h4, h5⟩⟩
theorem row_base {w : World} {N N' n : Nat} {e : TypeId} {sz : Nat} {v : Value} {xs : List Value} (h : w.ownsRow N' e sz v n xs) (hN : N ≤ N') : w.ownsRow N e sz v n xs := by
 obtain ⟨h1, h2 | ⟨g, cp, cur, h2, h3, h4, h5⟩⟩ := h
 · exact ⟨h1, .inl h2⟩
 · exact ⟨h1, .inr ⟨g, cp, cur, h2, Nat.le_trans hN h3, h4, h5⟩⟩
def Hp.cells (y : Hp) : List Value := [Value.slice y.oa y.os.length y.ocap, Value.slice y.ra y.rs.length y.rcap, Value.slice y.wa y.ws.length y.wcap, Value.slice y.da y.ds.length y.dcap]
def goOr (R Rr : Act → World → Prop) : Exit → Act → World → Prop
 | .normal, a, w => R a w
 | .ret, a, w => Rr a w
 | _, _, _ => False
theorem _root_.Go.Proofs.YtcpnkpogebjieaaGreat.OwnP.same {w w' : World} {B : Nat} {y : Hp} (h : OwnP w B y) (hs : ∀ b, RowsOf y b → w'.heap[b]? = w.heap[b]?) : OwnP w' B y :=
 ⟨row_heap h.ob fun b hb => hs b (.inl hb), ⟨fun i hi => row_heap (h.rs.own i hi) fun b hb => hs b (.inr (.inl ⟨i, hi, hb⟩)), h.rs.inc⟩, row_heap h.ro fun b hb => hs b (.inr (.inr (.inl hb))), h.rlt,
   row_heap h.wa fun b hb => hs b (.inr (.inr (.inr (.inl hb)))), row_heap h.da fun b hb => hs b (.inr (.inr (.inr (.inr hb)))), h.wlt⟩
def chain (P : Program) (R : Code → Act → World → Prop) (Rr : Act → World → Prop) : Nat → Code → Act → World → Prop
 | 0, c, a, w => R c a w
 | n + 1, .seq s c, a, w => s.wp P (goOr (fun a w => chain P R Rr n c a w) Rr) a w
 | _ + 1, _, _, _ => False
theorem chain_mono {P : Program} {R R' : Code → Act → World → Prop} {Rr Rr' : Act → World → Prop} : ∀ {n : Nat} {c : Code} {a : Act} {w : World}, chain P R Rr n c a w → (∀ c a w, R c a w → R' c a w) → (∀ a w, Rr a w → Rr' a w) → chain P R' Rr' n c a w
 | 0, c, a, w, h, h1, _ => h1 c a w h
 | n + 1, c, a, w, h, h1, h2 => by
   cases c with
   | seq s c =>
     refine wp_mono (show s.wp P (goOr (fun a w => chain P R Rr n c a w) Rr) a w from h) fun e a w hq => ?_
     cases e with
     | normal => exact chain_mono hq h1 h2
     | ret => exact h2 a w hq
     | _ => exact hq.elim
   | _ => exact h.elim
theorem chain_steps {P : Program} {R : Code → Act → World → Prop} {Rr : Act → World → Prop} {b : Frame} {k : List Item} {cs : List Frame} : ∀ (n : Nat) (c : Code) (a : Act) (w : World), chain P R Rr n c a w →
   (∃ c' a' w', Steps P (lone (b.at a (.code c :: k)) cs w) (lone (b.at a' (.code c' :: k)) cs w') ∧ R c' a' w') ∨ ∃ a' todo w', Steps P (lone (b.at a (.code c :: k)) cs w) (lone { b.at a' todo with mode := .returning } cs w') ∧ Rr a' w'
 | 0, c, a, w, h => .inl ⟨c, a, w, Steps.refl _ _, h⟩
 | n + 1, c, a, w, h => by
   cases c with
   | seq s c =>
     have h1 : Steps P (lone (b.at a (.code (.seq s c) :: k)) cs w) (lone (b.at a (.code s :: .code c :: k)) cs w) := .one step_seq
     obtain ⟨e, a', w', hq, ha⟩ := (show s.wp P (goOr (fun a w => chain P R Rr n c a w) Rr) a w from h) b (.code c :: k) cs
     cases e with
     | normal =>
       rcases chain_steps n c a' w' hq with ⟨c', a2, w2, h3, h4⟩ | ⟨a2, todo, w2, h3, h4⟩
       · exact .inl ⟨c', a2, w2, (h1.trans ha).trans h3, h4⟩
       · exact .inr ⟨a2, todo, w2, (h1.trans ha).trans h3, h4⟩
     | ret =>
       obtain ⟨todo, hst⟩ := ha
       exact .inr ⟨a', todo, w', h1.trans hst, hq⟩
     | _ => exact hq.elim
   | _ => exact h.elim
theorem chain_add {P : Program} {R : Code → Act → World → Prop} {Rr : Act → World → Prop} {m : Nat} : ∀ {n : Nat} {c : Code} {a : Act} {w : World}, chain P (fun c a w => chain P R Rr m c a w) Rr n c a w → chain P R Rr (m + n) c a w
 | 0, _, _, _, h => h
 | n + 1, c, a, w, h => by
   cases c with
   | seq s c =>
     refine wp_mono (show s.wp P (goOr (fun a w => chain P (fun c a w => chain P R Rr m c a w) Rr n c a w) Rr) a w from h) fun e a w hq => ?_
     cases e with
     | normal => exact chain_add hq
     | ret => exact hq
     | _ => exact hq.elim
   | _ => exact h.elim
end Go.Proofs.YtcpnkpogebjieaaGreat.Co
