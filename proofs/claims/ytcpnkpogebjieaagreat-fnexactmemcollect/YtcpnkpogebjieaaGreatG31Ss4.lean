/- The specification's own copy of one object. -/
import Derived.Test.YtcpnkpogebjieaaGreatG30Da
import Derived.Test.YtcpnkpogebjieaaGreatG19Si2
namespace Go.Proofs.YtcpnkpogebjieaaGreat
open Go.RowKit
set_option maxHeartbeats 800000 in
set_option maxRecDepth 100000 in
theorem l1Obj_any (o : Ob) (w : World) (hr : SegI w o.ra o.r) (hl : o.r.length ≤ 1048576) :
   Calls Cut.prog 37 #[.agg #[.int .i64 o.k, .string o.t, .slice o.ra o.r.length o.rcap]] w fun e w' => ∃ (a : Option Addr) (c : Nat), e = .returned (.agg #[.int .i64 o.k, .string o.t, .slice a o.r.length c]) ∧ OwnL w' w.heap.size (.slice a o.r.length c) o.r ∧ Below w.heap.size w w' := by
 obtain ⟨k0, t0, ra0, rc0, r0⟩ := o
 dsimp only at *
 obtain ⟨i0, hi, hz0, hz1, hz2⟩ := info_parts info_int
 have hB : Below w.heap.size w (((w.alloc (Obj.cells #[Value.int .i64 k0, Value.string t0, Value.slice ra0 r0.length rc0] 37)).alloc (Obj.cells #[Value.int .i64 0, Value.string ⟨#[]⟩, Value.slice none 0 0] 37)).alloc (Obj.cells #[] 3)) := (((Below.refl _ w).alloc (Nat.le_refl _) _).alloc (by simp) _).alloc (by simp; omega) _
 have hO : (((w.alloc (Obj.cells #[Value.int .i64 k0, Value.string t0, Value.slice ra0 r0.length rc0] 37)).alloc (Obj.cells #[Value.int .i64 0, Value.string ⟨#[]⟩, Value.slice none 0 0] 37)).alloc (Obj.cells #[] 3)).ownsRow w.heap.size 3 1 (.slice (some ⟨w.heap.size + 1 + 1, 0, none⟩) 0 0) 0 [] := by
   have := World.ownsRow_lit (e := 3) (size := 1) (base := w.heap.size) ((w.alloc (Obj.cells #[Value.int .i64 k0, Value.string t0, Value.slice ra0 r0.length rc0] 37)).alloc (Obj.cells #[Value.int .i64 0, Value.string ⟨#[]⟩, Value.slice none 0 0] 37)) #[] 0 (by simp; omega) (Nat.zero_le _) rfl
   simpa using this
 have hsr := (hr.below hB (Nat.le_refl _)).src
 have hb1 : Blk (((w.alloc (Obj.cells #[Value.int .i64 k0, Value.string t0, Value.slice ra0 r0.length rc0] 37)).alloc (Obj.cells #[Value.int .i64 0, Value.string ⟨#[]⟩, Value.slice none 0 0] 37)).alloc (Obj.cells #[] 3)) w.heap.size [Value.int .i64 k0, Value.string t0, Value.slice ra0 r0.length rc0] 37 := ((Blk.new w _ _).alloc _).alloc _
 have hb2 : Blk (((w.alloc (Obj.cells #[Value.int .i64 k0, Value.string t0, Value.slice ra0 r0.length rc0] 37)).alloc (Obj.cells #[Value.int .i64 0, Value.string ⟨#[]⟩, Value.slice none 0 0] 37)).alloc (Obj.cells #[] 3)) (w.heap.size + 1) [Value.int .i64 0, Value.string ⟨#[]⟩, Value.slice none 0 0] 37 := by
   have := (Blk.new (w.alloc (Obj.cells #[Value.int .i64 k0, Value.string t0, Value.slice ra0 r0.length rc0] 37)) [Value.int .i64 0, Value.string ⟨#[]⟩, Value.slice none 0 0] 37).alloc (Obj.cells #[] 3)
   simpa using this
 obtain ⟨W0, hW0⟩ : ∃ W0, W0 = (((w.alloc (Obj.cells #[Value.int .i64 k0, Value.string t0, Value.slice ra0 r0.length rc0] 37)).alloc (Obj.cells #[Value.int .i64 0, Value.string ⟨#[]⟩, Value.slice none 0 0] 37)).alloc (Obj.cells #[] 3)) := ⟨_, rfl⟩
 rw [← hW0] at hB hO hsr hb1 hb2
 go_enter (Cut.func_of Tryz.func37 rfl), Tryz.ntmps37
 go_wp2_with (at_builtin; rw [← hW0]; refine wpList_append_src _ rfl _ _ 24 rfl w.heap.size 3 i0 (.int .i64 0) 1 8 ((Cut.under_eq 24).trans Tryz.underlying24) hi hz0 hz1 hz2 rfl (by decide) _ _ _ rfl hO ra0 r0.length rc0 (r0.map (Value.int .i64)) rfl (by simp) hsr (ints_one _) ?c1 ?c2 hB.size ?_)
 case c1 => unfold maxLen; omega
 case c2 => omega
 intro v' w2 hown hgr hat
 rw [← hW0] at hgr
 clear hW0
 have hne1 := row_ne_blk hO hb1 (by decide)
 have hne2 := row_ne_blk hO hb2 (by decide)
 have hc1 := hb1.grown hgr hne1
 have hc2 := hb2.grown hgr hne2
 have ho : OwnL w2 w.heap.size v' r0 := by unfold OwnL; simpa using hown
 have hbw : Below w.heap.size w w2 := hB.trans (gb_below hgr hB.size (fun k e => (hO.lt k e).1))
 obtain ⟨va, vc, rfl, -⟩ := ho.form
 obtain ⟨x0, x1, x2⟩ : w2.cell? ⟨w.heap.size, 0, none⟩ = some (.int .i64 k0) ∧ w2.cell? ⟨w.heap.size, 1, none⟩ = some (.string t0) ∧ w2.cell? ⟨w.heap.size, 2, none⟩ = some (.slice ra0 r0.length rc0) := ⟨hc1.cell 0, hc1.cell 1, hc1.cell 2⟩
 obtain ⟨y0, y1, y2⟩ : w2.cell? ⟨w.heap.size + 1, 0, none⟩ = some (.int .i64 0) ∧ w2.cell? ⟨w.heap.size + 1, 1, none⟩ = some (.string ⟨#[]⟩) ∧ w2.cell? ⟨w.heap.size + 1, 2, none⟩ = some (.slice none 0 0) := ⟨hc2.cell 0, hc2.cell 1, hc2.cell 2⟩
 have f0 := hc1.free 2
 have g0 := hc2.free 0
 have g1 := hc2.free 1
 have g2 := hc2.free 2
 have hs1 := hc1.store 2 (.slice va r0.length vc)
 have hs2 := hc2.other ⟨w.heap.size, 2, none⟩ (.slice va r0.length vc) (by dsimp only; omega)
 have k1 : KeepT 37 w2 (w2.setCell ⟨w.heap.size, 2, none⟩ (.slice va r0.length vc)) := KeepT.set hc1 2 _
 have ht1 := hs2.store 0 (.int .i64 k0)
 have ht2 := ht1.store 1 (.string t0)
 have ht3 := ht2.store 2 (.slice va r0.length vc)
 have k4 := ((k1.trans (KeepT.set hs2 0 (.int .i64 k0))).trans (KeepT.set ht1 1 (.string t0))).trans (KeepT.set ht2 2 (.slice va r0.length vc))
 have hoE : OwnL _ w.heap.size (.slice va r0.length vc) r0 := row_keep ho k4 (by decide)
 have hbE := (((hbw.setCell (p := ⟨w.heap.size, 2, none⟩) (Nat.le_refl _) (.slice va r0.length vc)).setCell (p := ⟨w.heap.size + 1, 0, none⟩) (by dsimp only; omega) (.int .i64 k0)).setCell (p := ⟨w.heap.size + 1, 1, none⟩) (by dsimp only; omega) (.string t0)).setCell (p := ⟨w.heap.size + 1, 2, none⟩) (by dsimp only; omega) (.slice va r0.length vc)
 obtain ⟨z0, z1, z2⟩ : _ ∧ _ ∧ _ := ⟨ht3.cell 0, ht3.cell 1, ht3.cell 2⟩
 simp only [List.set_cons_zero, List.set_cons_succ, List.getElem?_cons_zero, List.getElem?_cons_succ] at z0 z1 z2
 clear hown hgr hat hB hO hsr hb1 hb2 hne1 hne2 hc1 hc2 hs1 hs2 ht1 ht2 ht3 k1 k4 ho hbw
 go_wp2
 refine bodyPost_ret (v := .agg #[.int .i64 k0, .string t0, .slice va r0.length vc]) ?_ rfl ⟨va, vc, rfl, hoE, hbE⟩
 simp [results, Tryz.results37, go_sem, z0, z1, z2]
def leftOf (n : Nat) (l : Array Bool) : Nat := ((List.range n).filter fun i => !l.getD i true).length
theorem filter_len_lt {α : Type} {p q : α → Bool} : ∀ {l : List α} {x : α}, x ∈ l → p x = true → q x = false → (∀ y, q y = true → p y = true) → (l.filter q).length < (l.filter p).length := by
 intro l
 induction l with
 | nil => intro x hx; simp at hx
 | cons a l ih =>
   intro x hx hp hq hqp
   have hle : (l.filter q).length ≤ (l.filter p).length := by
     clear ih hx
     induction l with
     | nil => simp
     | cons b l ih =>
       simp only [List.filter_cons]
       by_cases h : q b = true
       · simp [h, hqp b h, ih]
       · by_cases h' : p b = true
         · simp [h, h']; omega
         · simp [h, h', ih]
   rcases List.mem_cons.1 hx with rfl | hx
   · simp [hp, hq]; omega
   · have := ih hx hp hq hqp
     simp only [List.filter_cons]
     by_cases h : q a = true
     · simp [h, hqp a h, this]
     · by_cases h' : p a = true
       · simp [h, h']; omega
       · simp [h, h', this]
theorem leftOf_set {n : Nat} {l : Array Bool} {i : Nat} (hi : i < n) (h : l.getD i true = false) : leftOf n (l.setIfInBounds i true) < leftOf n l := by
 unfold leftOf
 refine filter_len_lt (x := i) (List.mem_range.2 hi) (by simp [h]) ?_ fun y hy => ?_
 · simp [Array.getD_eq_getD_getElem?, Array.getElem?_setIfInBounds]
   split <;> simp_all
 · by_cases e : i = y
   · subst e
     simp [Array.getD_eq_getD_getElem?, Array.getElem?_setIfInBounds] at hy
     split at hy <;> simp_all
   · rw [getD_set_ne true e] at hy
     exact hy
theorem wpAnyH_inv {P : Program} {md : Region.Mode} {ops : Array Oper} {Q : Exit → Act → World → Prop} {S : World → Prop} (I : Array Bool → Act → World → Prop) (hS : ∀ l a w, I l a w → S w)
   (step : ∀ l a w i o, I l a w → l.getD i true = false → ops[i]? = some o → (∀ e ∈ o.after, Region.binds md e = true → l.getD e.on false = true) → ∀ K : Act → World → Prop, Shut (∀ a' w', I (l.setIfInBounds i true) a' w' → K a' w') → if Region.wanted o (yielded ops a.tmps) = true then Oper.wp P o a w K Q else K (a.put o.dst undef) w)
   (done : ∀ l a w, I l a w → Region.ready md ops l = [] → Q .normal a w) : ∀ (fuel : Nat) (l : Array Bool) (a : Act) (w : World), leftOf ops.size l ≤ fuel → I l a w → wpAnyH P md ops Q S fuel l a w := by
 intro fuel
 induction fuel with
 | zero =>
   intro l a w hl hI
   have hr : Region.ready md ops l = [] := by
     rw [List.eq_nil_iff_forall_not_mem]
     intro i hi
     obtain ⟨h1, o, ho, _⟩ := mem_ready.1 hi
     have hlt : i < ops.size := (Array.getElem?_eq_some_iff.1 ho).1
     have := leftOf_set hlt h1
     omega
   exact ⟨hr, done l a w hI hr⟩
 | succ fuel ih =>
   intro l a w hl hI
   refine ⟨fun hr => done l a w hI hr, fun i hi => ?_⟩
   obtain ⟨h1, o, ho, h2⟩ := mem_ready.1 hi
   have hlt : i < ops.size := (Array.getElem?_eq_some_iff.1 ho).1
   have hs := leftOf_set hlt h1
   exact wpOp_step ho fun K hK => step l a w i o hI h1 ho h2 K fun a' w' hI' => hK a' w' ⟨hS _ _ _ hI', ih _ a' w' (by omega) hI'⟩
theorem ready_nil {md : Region.Mode} {ops : Array Oper} {l : Array Bool} (h : Region.ready md ops l = []) {i : Nat} {o : Oper} (ho : ops[i]? = some o) (ha : ∀ e ∈ o.after, Region.binds md e = true → l.getD e.on false = true) : l.getD i true = true := by
 cases hb : l.getD i true with
 | true => rfl
 | false =>
   have : i ∈ Region.ready md ops l := mem_ready.2 ⟨hb, o, ho, ha⟩
   rw [h] at this
   simp at this
structure K2 (w W : World) (a b : Hp) : Prop where
 below : Below w.heap.size w W
 ba : Blk W w.heap.size a.cs 27
 bb : Blk W (w.heap.size + 1) b.cs 27
theorem K2.step {w W W' : World} {a b : Hp} (h : K2 w W a b) (hb : Below W.heap.size W W') : K2 w W' a b :=
 ⟨h.below.trans (hb.mono h.below.size), h.ba.below hb h.ba.lt, h.bb.below hb h.bb.lt⟩
theorem K2.start (w : World) (a b : Hp) : K2 w ((w.alloc (Obj.cells #[Value.slice a.oa a.os.length a.ocap, Value.slice a.ra a.rs.length a.rcap, Value.slice a.wa a.ws.length a.wcap, Value.slice a.da a.ds.length a.dcap] 27)).alloc (Obj.cells #[Value.slice b.oa b.os.length b.ocap, Value.slice b.ra b.rs.length b.rcap, Value.slice b.wa b.ws.length b.wcap, Value.slice b.da b.ds.length b.dcap] 27)) a b := by
 refine ⟨((Below.refl _ _).alloc (Nat.le_refl _) _).alloc (by simp) _, (Blk.new w a.cs _).alloc _, ?_⟩
 have := Blk.new (w.alloc (Obj.cells #[Value.slice a.oa a.os.length a.ocap, Value.slice a.ra a.rs.length a.rcap, Value.slice a.wa a.ws.length a.wcap, Value.slice a.da a.ds.length a.dcap] 27)) b.cs 27
 rw [World.size_alloc] at this
 exact this
theorem K2.cells {w W : World} {a b : Hp} (h : K2 w W a b) :
   (W.cell? ⟨w.heap.size, 0, none⟩ = some (.slice a.oa a.os.length a.ocap) ∧ W.cell? ⟨w.heap.size, 1, none⟩ = some (.slice a.ra a.rs.length a.rcap) ∧ W.cell? ⟨w.heap.size, 2, none⟩ = some (.slice a.wa a.ws.length a.wcap) ∧ W.cell? ⟨w.heap.size, 3, none⟩ = some (.slice a.da a.ds.length a.dcap)) ∧
   (W.cell? ⟨w.heap.size + 1, 0, none⟩ = some (.slice b.oa b.os.length b.ocap) ∧ W.cell? ⟨w.heap.size + 1, 1, none⟩ = some (.slice b.ra b.rs.length b.rcap) ∧ W.cell? ⟨w.heap.size + 1, 2, none⟩ = some (.slice b.wa b.ws.length b.wcap) ∧ W.cell? ⟨w.heap.size + 1, 3, none⟩ = some (.slice b.da b.ds.length b.dcap)) :=
 ⟨cells4' h.ba, cells4' h.bb⟩
structure Fit (w : World) (h : Hp) : Prop where
 isIn : HpIn w h
 small : Small h
 txt : ∀ i (hi : i < h.os.length), h.os[i].t.size ≤ maxLen
 cap : ∀ (i : Nat) (hi : i < h.os.length), h.os[i].r.length ≤ h.os[i].rcap
theorem Fit.below {w w' : World} {h : Hp} {B : Nat} (hf : Fit w h) (hb : Below B w w') (hB : w.heap.size ≤ B) : Fit w' h := ⟨hf.isIn.below hb hB, hf.small, hf.txt, hf.cap⟩
theorem take_if {P : Program} {ops : Array Oper} {Q : Exit → Act → World → Prop} {md : Region.Mode} {S : World → Prop} {i : Nat} {oi : Oper} {v : Value} {fuel : Nat} {listed : Array Bool} {a : Act} {w : World} (d : Nat) (hi : ops[i]? = some oi) (hd : oi.dst = some d)
   (hs : Region.noSelect ops = true) (hf : Region.free md ops listed i = true) (hr : (Region.ready md ops listed).contains i = true)
   (hQ : ∀ c a w, Q (.panic c) (a.put oi.dst v) w → Q (.panic c) a w) (hy : YieldsIf P ops S oi v a) (hS : S w)
   (h : wpAnyH P md ops Q S fuel (listed.setIfInBounds i true) { a with tmps := a.tmps.setIfInBounds d v } w) : wpAnyH P md ops Q S (fuel + 1) listed a w :=
 wpAnyH_take hi hs hf hr hQ hy hS (by rw [hd]; exact h)
end Go.Proofs.YtcpnkpogebjieaaGreat
