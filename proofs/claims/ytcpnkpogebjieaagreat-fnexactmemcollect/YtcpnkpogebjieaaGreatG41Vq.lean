/- The program's own toldOf: what is due taken out of what is watched, and put behind what -/
import Derived.Deep.CutRange
import Derived.Deep.RegionHeld3
import Derived.Test.YtcpnkpogebjieaaGreatG40Vb
import Derived.Test.YtcpnkpogebjieaaGreatG19Si2
import Derived.Test.YtcpnkpogebjieaaGreatG20So
import Derived.Test.YtcpnkpogebjieaaGreatG32Dd
import Derived.Test.YtcpnkpogebjieaaGreatG30Da
namespace Go.Proofs.YtcpnkpogebjieaaGreat
open Go.RowKit Go.Shelf
attribute [local go_sem] Oper.semAt_some
theorem row_same {w w' : World} {base e size n : Nat} {v : Value} {xs : List Value} (h : w.ownsRow base e size v n xs) (hs : ∀ k, v.ownBlock = some k → w'.heap[k]? = w.heap[k]?) : w'.ownsRow base e size v n xs := by
 refine ⟨h.1, ?_⟩
 rcases h.2 with h1 | ⟨g, cap, cur, h1, hg, hh, r⟩
 · exact Or.inl h1
 · refine Or.inr ⟨g, cap, cur, h1, hg, ?_, r⟩
   rw [hs g (by rw [h1]; rfl)]; exact hh
def np (Q : Exit → Act → World → Prop) : Exit → Act → World → Prop
 | .panic _, _, _ => False
 | e, a, w => Q e a w
theorem wp_np {P : Program} {c : Code} {Q : Exit → Act → World → Prop} {a : Act} {w : World} (h : c.wp P (np Q) a w) : c.wp P Q a w :=
 wp_mono h fun e a w hq => by cases e <;> first | exact hq | exact hq.elim
def delAll (ws : List (Int × Int)) (pre : List (Int × Int)) : List (Int × Int) := pre.foldl (fun l x => l.eraseIdx x.2.toNat) ws
theorem delAll_snoc (ws pre : List (Int × Int)) (x : Int × Int) : delAll ws (pre ++ [x]) = (delAll ws pre).eraseIdx x.2.toNat := by simp [delAll]
def atsW (ws : List (Int × Int)) (zs : List Int) : List (Int × Int) := zs.map fun z => ws.getD z.toNat (0, 0)
structure TO (w : World) (h : Hp) (W : World) : Prop where
 bh : Blk W w.heap.size [Value.slice h.oa h.os.length h.ocap, Value.slice h.ra h.rs.length h.rcap, Value.slice h.wa h.ws.length h.wcap, Value.slice h.da h.ds.length h.dcap] 27
 br : Blk W (w.heap.size + 1) [Value.slice none 0 0, Value.slice none 0 0, Value.slice none 0 0, Value.slice none 0 0] 27
 be : Below w.heap.size w W
theorem TO.step {w : World} {h : Hp} {W W' : World} (t : TO w h W) (hb : Below W.heap.size W W') : TO w h W' := ⟨t.bh.step hb, t.br.step hb, t.be.trans (hb.mono t.be.size)⟩
theorem TO.gb {w : World} {h : Hp} {W W' : World} {r : Option Nat} (t : TO w h W) (hg : W.grownBy W' r) (hr : ∀ k, r = some k → w.heap.size + 1 < k) : TO w h W' :=
 ⟨t.bh.grown hg (fun e => by have := hr _ e; omega), t.br.grown hg (fun e => by have := hr _ e; omega), t.be.trans (gb_below hg t.be.size (fun k e => by have := hr k e; omega))⟩
theorem TO.sz {w : World} {h : Hp} {W : World} (t : TO w h W) : w.heap.size + 1 < W.heap.size := t.br.lt
theorem keep4 {W : World} {b B : Nat} {u c0 c1 c2 c3 : Value} (hn : ¬ b = B) (h0 : W.cell? ⟨b, 0, none⟩ = some c0) (h1 : W.cell? ⟨b, 1, none⟩ = some c1) (h2 : W.cell? ⟨b, 2, none⟩ = some c2) (h3 : W.cell? ⟨b, 3, none⟩ = some c3) :
   (W.setCell ⟨B, 0, none⟩ u).cell? ⟨b, 0, none⟩ = some c0 ∧ (W.setCell ⟨B, 0, none⟩ u).cell? ⟨b, 1, none⟩ = some c1 ∧ (W.setCell ⟨B, 0, none⟩ u).cell? ⟨b, 2, none⟩ = some c2 ∧ (W.setCell ⟨B, 0, none⟩ u).cell? ⟨b, 3, none⟩ = some c3 := by
 have e : ∀ o, (W.setCell ⟨B, 0, none⟩ u).cell? ⟨b, o, none⟩ = W.cell? ⟨b, o, none⟩ := fun o => World.cell?_of_block (Below.heap_setCell _ _ _ _ hn)
 exact ⟨(e 0).trans h0, (e 1).trans h1, (e 2).trans h2, (e 3).trans h3⟩
theorem keepA {W : World} {b : Nat} {o : Obj} {c0 c1 c2 c3 : Value} (h0 : W.cell? ⟨b, 0, none⟩ = some c0) (h1 : W.cell? ⟨b, 1, none⟩ = some c1) (h2 : W.cell? ⟨b, 2, none⟩ = some c2) (h3 : W.cell? ⟨b, 3, none⟩ = some c3) :
   (W.alloc o).cell? ⟨b, 0, none⟩ = some c0 ∧ (W.alloc o).cell? ⟨b, 1, none⟩ = some c1 ∧ (W.alloc o).cell? ⟨b, 2, none⟩ = some c2 ∧ (W.alloc o).cell? ⟨b, 3, none⟩ = some c3 :=
 ⟨Lib.cell?_alloc_some o h0, Lib.cell?_alloc_some o h1, Lib.cell?_alloc_some o h2, Lib.cell?_alloc_some o h3⟩
structure TC (w : World) (h : Hp) (W : World) (B N : Nat) (v1 v2 : Value) (ws rs : List (Int × Int)) : Prop where
 tt : TO w h W
 bw : Blk W B [v1] 25
 ow : OwnW W (w.heap.size + 1 + 1) v1 ws
 od : OwnW W N v2 rs
 lo : ∀ k, v1.ownBlock = some k → k < N
 hN : w.heap.size + 1 + 1 ≤ N
 hB : w.heap.size + 1 + 1 ≤ B
 sz : N ≤ W.heap.size
theorem TC.step {w : World} {h : Hp} {W W' : World} {B N : Nat} {v1 v2 : Value} {ws rs : List (Int × Int)} (t : TC w h W B N v1 v2 ws rs) (hb : Below W.heap.size W W') : TC w h W' B N v1 v2 ws rs :=
 ⟨t.tt.step hb, t.bw.step hb, OwnW.below t.ow hb (Nat.le_refl _), OwnW.below t.od hb (Nat.le_refl _), t.lo, t.hN, t.hB, Nat.le_trans t.sz hb.size⟩
theorem TC.grow {w : World} {h : Hp} {W W' : World} {B N : Nat} {v1 v2 v3 : Value} {ws rs rs' : List (Int × Int)} (t : TC w h W B N v1 v2 ws rs) (hg : W.grownBy W' v2.ownBlock) (ho : OwnW W' N v3 rs') : TC w h W' B N v1 v3 ws rs' := by
 have hN := t.hN
 refine ⟨t.tt.gb hg (fun k e => by have := (t.od.lt k e).1; omega), t.bw.grown hg (row_ne_blk t.od t.bw (by decide)), World.ownsRow.kept t.ow hg ?_, ho, t.lo, t.hN, t.hB, Nat.le_trans t.sz hg.size⟩
 cases q : v1.ownBlock with
 | none => exact .inl rfl
 | some k =>
   refine .inr fun e => ?_
   have := t.lo k q
   have := (t.od.lt k e.symm).1
   omega
theorem TC.same {w : World} {h : Hp} {W W' : World} {B N N2 : Nat} {v1 v2 : Value} {ws rs : List (Int × Int)} (t : TC w h W B N v1 v2 ws rs) (hs : ∀ k, k < N2 → W'.heap[k]? = W.heap[k]?) (hB : B < N2) (hv : ∀ k, v1.ownBlock = some k → k < N2) (hd : ∀ k, v2.ownBlock = some k → k < N2) (h2 : w.heap.size + 1 < N2) (hbe : Below w.heap.size w W') (hsz : W.heap.size ≤ W'.heap.size) : TC w h W' B N v1 v2 ws rs :=
 ⟨⟨t.tt.bh.same (hs _ (by omega)), t.tt.br.same (hs _ h2), hbe⟩, t.bw.same (hs _ hB), row_same t.ow (fun k e => hs k (hv k e)), row_same t.od (fun k e => hs k (hd k e)), t.lo, t.hN, t.hB, Nat.le_trans t.sz hsz⟩
def HoT (w : World) (h : Hp) (B N N2 : Nat) (dv : Value) (rs : List (Int × Int)) (M : Nat → Prop) (pre : List (Int × Int)) (W : World) : Prop :=
 (∀ k, M k → N2 ≤ k ∧ k < W.heap.size) ∧ N2 ≤ W.heap.size ∧ ∃ v, TC w h W B N v dv (delAll h.ws pre) rs ∧ ∀ k, v.ownBlock = some k → k < N2
section
variable {w : World} {h : Hp} {B N N2 : Nat} {dv : Value} {rs : List (Int × Int)} (hB : B < N2) (hd : ∀ k, dv.ownBlock = some k → k < N2) (h2 : w.heap.size + 1 < N2)
include hB hd h2
theorem HoT.chg (M : Nat → Prop) (pre : List (Int × Int)) (A C : World) (H : HoT w h B N N2 dv rs M pre A) (hc : Chg M A C) : HoT w h B N N2 dv rs (more M A C) pre C := by
 obtain ⟨hM, hs, v, t, hv⟩ := H
 have hcs := hc.size
 refine ⟨fun k hk => ?_, Nat.le_trans hs hc.size, v, t.same (fun k hk => hc.block k (by omega) (fun q => by have := (hM k q).1; omega)) hB hv hd h2 ?_ hc.size, hv⟩
 · rcases hk with hk | hk
   · have := hM k hk; omega
   · omega
 · exact t.tt.be.trans ⟨hc.os, hc.tape, hc.output, hc.size, fun k hk => hc.block k (by have := t.tt.be.size; omega) (fun q => by have := (hM k q).1; omega)⟩
theorem HoT.put {s : Nat} (hs2 : N2 ≤ s) (M : Nat → Prop) (pre : List (Int × Int)) (A : World) (k : Nat) (o o' : Obj) (H : HoT w h B N N2 dv rs M pre A) (hk : s ≤ k) (_hl : A.heap[k]? = some o) (_hn : o.isCells = false) : HoT w h B N N2 dv rs M pre (A.putObj k o') := by
 obtain ⟨hM, hs, v, t, hv⟩ := H
 have hg := grownBy_putObj' A k o'
 refine ⟨fun x hx => by simpa using hM x hx, by simpa using hs, v, t.same (fun x hx => World.putObj_heap_other (by omega)) hB hv hd h2 (t.tt.be.trans (gb_below hg t.tt.be.size (fun x e => by cases e; omega))) (by simp), hv⟩
omit hB hd h2 in
theorem HoT.al (M : Nat → Prop) (pre : List (Int × Int)) (A : World) (o : Obj) (H : HoT w h B N N2 dv rs M pre A) : HoT w h B N N2 dv rs M pre (A.alloc o) := by
 obtain ⟨hM, hs, v, t, hv⟩ := H
 exact ⟨fun x hx => by have := hM x hx; simp; omega, by simp; omega, v, t.step (al_below _ _), hv⟩
end
theorem del_len {ws : List (Int × Int)} {zs : List Int} (hasc : ∀ j (hj : j < zs.length), 0 ≤ zs[j] ∧ zs[j].toNat + (zs.length - (j + 1)) < ws.length) : ∀ i, i ≤ zs.length → (delAll ws ((bwd zs).take i)).length = ws.length - i := by
 intro i
 induction i with
 | zero => intro _; simp [delAll]
 | succ i ih =>
   intro hi
   have hj : zs.length - (i + 1) < zs.length := by omega
   have h1 := bwd_get zs (zs.length - (i + 1)) hj
   have e1 : zs.length - (zs.length - (i + 1) + 1) = i := by omega
   have e2 : zs.length - (zs.length - (i + 1)) = i + 1 := by omega
   rw [e1, e2] at h1
   have h2 := hasc _ hj
   rw [e1] at h2
   rw [← h1, delAll_snoc, List.length_eraseIdx, ih (by omega), if_pos (by omega)]
   omega
theorem pre_bwd {ws : List (Int × Int)} {zs : List Int} (hasc : ∀ j (hj : j < zs.length), 0 ≤ zs[j] ∧ zs[j].toNat + (zs.length - (j + 1)) < ws.length) {pre : List (Int × Int)} {x : Int × Int} (hp : pre ++ [x] <+: bwd zs) : 0 ≤ x.2 ∧ x.2.toNat < (delAll ws pre).length := by
 have hl := hp.length_le
 rw [bwd_len] at hl
 simp only [List.length_append, List.length_cons, List.length_nil] at hl
 have e := List.prefix_iff_eq_take.1 hp
 simp only [List.length_append, List.length_cons, List.length_nil, Nat.zero_add] at e
 have hj : zs.length - (pre.length + 1) < zs.length := by omega
 have h1 := bwd_get zs _ hj
 have e1 : zs.length - (zs.length - (pre.length + 1) + 1) = pre.length := by omega
 have e2 : zs.length - (zs.length - (pre.length + 1)) = pre.length + 1 := by omega
 rw [e1, e2, ← e] at h1
 obtain ⟨h3, h4⟩ := List.append_inj' h1 rfl
 simp only [List.cons.injEq, and_true] at h4
 have h5 := hasc _ hj
 rw [e1] at h5
 subst h4
 have h6 := del_len hasc pre.length (by omega)
 rw [h3] at h6
 refine ⟨h5.1, ?_⟩
 dsimp only
 omega
theorem row_cells {W : World} {base e size n : Nat} {v : Value} {xs : List Value} (h : W.ownsRow base e size v n xs) {j : Nat} {o : Obj} (q : v.ownBlock = some j) (hj : W.heap[j]? = some o) : o.isCells = true := by
 rcases h.2 with ⟨h3, _⟩ | ⟨g, cap, cur, h3, _, hh, _⟩
 · rw [h3] at q; simp [Value.ownBlock] at q
 · rw [h3] at q
   simp [Value.ownBlock] at q
   subst q
   rw [hh] at hj
   cases hj
   rfl
theorem TC.del {w : World} {h : Hp} {W W' : World} {B N : Nat} {v v' dv : Value} {ws ws' rs : List (Int × Int)} (t : TC w h W B N v dv ws rs) (hg : W.grownBy W' v.ownBlock) (ho : OwnW W' (w.heap.size + 1 + 1) v' ws') (hv : v'.ownBlock = v.ownBlock) : TC w h (W'.setCell ⟨B, 0, none⟩ v') B N v' dv ws' rs ∧ Blk W' B [v] 25 := by
 have hB := t.hB
 have t1 : TO w h W' := t.tt.gb hg (fun k e => by have := (t.ow.lt k e).1; omega)
 have b1 := t.bw.grown hg (row_ne_blk t.ow t.bw (by decide))
 have od1 : OwnW W' N dv rs := by
   refine World.ownsRow.kept t.od hg ?_
   cases q : dv.ownBlock with
   | none => exact .inl rfl
   | some k =>
     refine .inr fun e => ?_
     have := t.lo k e.symm
     have := (t.od.lt k q).1
     omega
 refine ⟨⟨t1.gb (gb_set W' B 0 v') (fun k e => by cases e; omega), b1.store 0 v', ownsRow_setCell_other ho (row_ne_blk ho b1 (by decide)) _, ownsRow_setCell_other od1 (row_ne_blk od1 b1 (by decide)) _, fun k e => t.lo k (hv ▸ e), t.hN, t.hB, ?_⟩, b1⟩
 simp [World.setCell]
 exact Nat.le_trans t.sz hg.size
theorem TC.a {w : World} {h : Hp} {W : World} {N : Nat} {v1 v2 : Value} (t : TO w h W) (o1 : OwnW W (w.heap.size + 1 + 1) v1 h.ws) (o2 : OwnW W N v2 h.ds) (lo : ∀ k, v1.ownBlock = some k → k < N) (hN : w.heap.size + 1 + 1 ≤ N) (hs : N ≤ W.heap.size) : TC w h (W.alloc (Obj.cells #[v1] 25)) W.heap.size N v1 v2 h.ws h.ds :=
 ⟨t.step (al_below _ _), Blk.new W [v1] _, OwnW.below o1 (al_below _ _) (Nat.le_refl _), OwnW.below o2 (al_below _ _) (Nat.le_refl _), lo, hN, t.sz, Nat.le_trans hs (al_below _ _).size⟩
theorem TC.b {w : World} {h : Hp} {W : World} {B N : Nat} {u v1 v2 : Value} (t : TO w h W) (hB : w.heap.size + 1 < B) (q : Blk W B [u] 25) (o1 : OwnW W (w.heap.size + 1 + 1) v1 h.ws) (o2 : OwnW W N v2 h.ds) (lo : ∀ k, v1.ownBlock = some k → k < N) (hN : w.heap.size + 1 + 1 ≤ N) (hs : N ≤ W.heap.size) : TC w h (W.setCell ⟨B, 0, none⟩ v1) B N v1 v2 h.ws h.ds := by
 refine ⟨t.gb (gb_set W B 0 v1) (fun k e => by cases e; exact hB), q.store 0 v1, ?_, ?_, lo, hN, hB, by simp [World.setCell]; exact hs⟩
 · exact ownsRow_setCell_other o1 (row_ne_blk o1 q (by decide)) _
 · exact ownsRow_setCell_other o2 (row_ne_blk o2 q (by decide)) _
set_option maxHeartbeats 4000000 in
set_option maxRecDepth 100000 in
theorem toldOf_any (h : Hp) (w : World) (hh : HpIn w h) (hwl : h.ws.length ≤ 20) (hdl : h.ds.length ≤ 20) (da : Option Addr) (dcap : Nat) (zs : List Int) (hz : SegI w da zs) (hzl : zs.length ≤ 20) (hasc : ∀ j (hj : j < zs.length), 0 ≤ zs[j] ∧ zs[j].toNat + (zs.length - (j + 1)) < h.ws.length) :
   Calls Cut.prog 82 #[h.v, .slice da zs.length dcap] w fun e w' => ∃ (wa : Option Addr) (wcap : Nat) (ea : Option Addr) (ecap : Nat), e = .returned (.agg #[Value.slice h.oa h.os.length h.ocap, Value.slice h.ra h.rs.length h.rcap, Value.slice wa (delAll h.ws (bwd zs)).length wcap, Value.slice ea (h.ds ++ atsW h.ws zs).length ecap]) ∧
     OwnW w' w.heap.size (.slice wa (delAll h.ws (bwd zs)).length wcap) (delAll h.ws (bwd zs)) ∧ OwnW w' w.heap.size (.slice ea (h.ds ++ atsW h.ws zs).length ecap) (h.ds ++ atsW h.ws zs) ∧ Below w.heap.size w w' := by
 obtain ⟨i0, hi, hz0, hz1, hz2⟩ := info_parts info_watch
 have T0 : TO w h ((w.alloc (Obj.cells #[Value.slice h.oa h.os.length h.ocap, Value.slice h.ra h.rs.length h.rcap, Value.slice h.wa h.ws.length h.wcap, Value.slice h.da h.ds.length h.dcap] 27)).alloc (Obj.cells #[Value.slice none 0 0, Value.slice none 0 0, Value.slice none 0 0, Value.slice none 0 0] 27)) := by
   refine ⟨(Blk.new w [Value.slice h.oa h.os.length h.ocap, Value.slice h.ra h.rs.length h.rcap, Value.slice h.wa h.ws.length h.wcap, Value.slice h.da h.ds.length h.dcap] 27).alloc _, ?_, ((Below.refl _ _).alloc (Nat.le_refl _) _).alloc (by simp) _⟩
   have := Blk.new (w.alloc (Obj.cells #[Value.slice h.oa h.os.length h.ocap, Value.slice h.ra h.rs.length h.rcap, Value.slice h.wa h.ws.length h.wcap, Value.slice h.da h.ds.length h.dcap] 27)) [Value.slice none 0 0, Value.slice none 0 0, Value.slice none 0 0, Value.slice none 0 0] 27
   rw [World.size_alloc] at this
   exact this
 have K1 : Hid (∀ W, TO w h W → Calls Cut.prog 114 #[.slice h.wa h.ws.length h.wcap] W fun e w' => ∃ v', e = .returned v' ∧ OwnW w' W.heap.size v' h.ws ∧ Below W.heap.size W w' ∧ TO w h w') := fun W t => (clone_any h.wa h.wcap h.ws W (hh.sw.below t.be (Nat.le_refl _)) (by omega)).mono fun e w' ⟨v', h1, h2, h3⟩ => ⟨v', h1, h2, h3, t.step h3⟩
 have K2 : Hid (∀ W, TO w h W → Calls Cut.prog 114 #[.slice h.da h.ds.length h.dcap] W fun e w' => ∃ v', e = .returned v' ∧ OwnW w' W.heap.size v' h.ds ∧ Below W.heap.size W w' ∧ TO w h w') := fun W t => (clone_any h.da h.dcap h.ds W (hh.sd.below t.be (Nat.le_refl _)) (by omega)).mono fun e w' ⟨v', h1, h2, h3⟩ => ⟨v', h1, h2, h3, t.step h3⟩
 have HDL : Hid (∀ (pre : List (Int × Int)) (x : Int × Int), pre ++ [x] <+: bwd zs → (delAll h.ws pre).length ≤ 20) := fun pre x hp => by
   have hl := hp.length_le
   rw [bwd_len] at hl
   simp only [List.length_append, List.length_cons, List.length_nil] at hl
   have e : pre = (bwd zs).take pre.length := List.prefix_iff_eq_take.1 ((List.prefix_append pre [x]).trans hp)
   have := del_len hasc pre.length (by omega)
   rw [← e] at this
   omega
 refine (callsIn_wide (n := 10)).1 ?_
 have hro : Fence.wide.round = none := rfl
 refine callsIn_of_wp_marks (Cut.func_of Tryz.func82 rfl) rfl trivial ?_ hro
 refine wpIn_wide.2 (wp_np ?_)
 simp only [Hp.v, Tryz.ntmps82, List.size_toArray, List.length_cons, List.length_nil, Nat.reduceAdd, Nat.reduceSub, Array.replicate_succ, Array.replicate_zero, List.push_toArray, List.append_toArray, List.nil_append, List.cons_append]
 go_wp2_with fail
 obtain ⟨W0, hW0⟩ : ∃ W0, W0 = ((w.alloc (Obj.cells #[Value.slice h.oa h.os.length h.ocap, Value.slice h.ra h.rs.length h.rcap, Value.slice h.wa h.ws.length h.wcap, Value.slice h.da h.ds.length h.dcap] 27)).alloc (Obj.cells #[Value.slice none 0 0, Value.slice none 0 0, Value.slice none 0 0, Value.slice none 0 0] 27)) := ⟨_, rfl⟩
 rw [← hW0] at T0 ⊢
 clear hW0
 go_cut [5, 6] from 11 to 16 (fun s5 s6 wx => ∃ (B N : Nat) (v1 : Value), s5 = .pointer (some ⟨B, 0, none⟩) ∧ TC w h wx B N v1 s6 h.ws h.ds)
 case first =>
   have T1 := T0.step ((Below.refl _ _).drew)
   obtain ⟨x0, x1, x2, x3⟩ := cells4'' T1.bh
   have hsz := T1.sz
   have hne0 : ¬ w.heap.size = W0.drew.heap.size := by omega
   have hne1 : ¬ w.heap.size = W0.heap.size := by have := T0.sz; omega
   have TD : TO w h (W0.alloc (Obj.cells #[Value.slice none 0 0] 25)).drew := (T0.step (al_below _ _)).step ((Below.refl _ _).drew)
   have hD := cells4'' TD.bh
   have BD : Blk (W0.alloc (Obj.cells #[Value.slice none 0 0] 25)).drew W0.heap.size [Value.slice none 0 0] 25 := Blk.new W0 [Value.slice none 0 0] 25
   have HA : Hid (∀ (W : World) (o : Obj), TO w h W → TO w h (W.alloc o)) := fun W o t => t.step (al_below _ _)
   go_region_held3 (fun W' => W'.cell? ⟨w.heap.size, 0, none⟩ = some (.slice h.oa h.os.length h.ocap) ∧ W'.cell? ⟨w.heap.size, 1, none⟩ = some (.slice h.ra h.rs.length h.rcap) ∧ W'.cell? ⟨w.heap.size, 2, none⟩ = some (.slice h.wa h.ws.length h.wcap) ∧ W'.cell? ⟨w.heap.size, 3, none⟩ = some (.slice h.da h.ds.length h.dcap)) (first | (refine ⟨?_, ?_, ?_, ?_⟩ <;> with_reducible assumption) | exact hD | (refine keep4 ?_ ?_ ?_ ?_ ?_ <;> with_reducible assumption) | (refine keepA ?_ ?_ ?_ ?_ <;> with_reducible assumption) | go_keep) (first
     | (go_at_call_of 114 (Value.slice h.wa h.ws.length h.wcap); refine (K1.out _ (by first | with_reducible assumption | exact HA.out _ _ (by with_reducible assumption))).mono ?_; rintro e w1 ⟨v1, rfl, ow1, hb1, T2⟩; obtain ⟨va, vcap, rfl, -⟩ := ow1.form; have hn1 : ¬ w.heap.size = w1.heap.size := Nat.ne_of_lt (Nat.lt_of_succ_lt T2.sz); obtain ⟨y0, y1, y2, y3⟩ := cells4'' T2.bh; try (have q1 : Blk w1 W0.heap.size [Value.slice none 0 0] 25 := BD.step hb1))
     | (go_at_call_of 114 (Value.slice h.da h.ds.length h.dcap); refine (K2.out _ (by first | with_reducible assumption | exact HA.out _ _ (by with_reducible assumption))).mono ?_; rintro e w2 ⟨v2, rfl, ow2, hb2, T3⟩; obtain ⟨ea, ecap, rfl, -⟩ := ow2.form; have hn2 : ¬ w.heap.size = w2.heap.size := Nat.ne_of_lt (Nat.lt_of_succ_lt T3.sz); obtain ⟨z0, z1, z2, z3⟩ := cells4'' T3.bh; try (first | (have q2 : Blk w2 W0.heap.size [Value.slice none 0 0] 25 := q1.step hb2) | (have q2 : Blk w2 w1.heap.size [Value.slice none 0 0] 25 := (Blk.new w1 [Value.slice none 0 0] 25).step hb2)); try (have q3 := q2.cell 0; have q4 := q2.free 0; simp only [List.getElem?_cons_zero] at q3)))
   · go_wp2_with fail
     go_meet
     case rel => exact ⟨_, _, _, rfl, TC.a T3 ((OwnW.below ow1 hb2 (Nat.le_refl _)).base hsz) ow2 (fun k e => (ow1.lt k e).2) (by have := T2.sz; omega) hb2.size⟩
   · go_wp2_with fail
     go_meet
     case rel => exact ⟨_, _, _, rfl, TC.b T3 (by have := T2.sz; omega) q2 ((OwnW.below (OwnW.below ow1 (al_below _ _) (Nat.le_refl _)) hb2 (Nat.le_refl _)).base hsz) ow2 (fun k e => by have := (ow1.lt k e).2; simp; omega) (by have := T2.sz; simp; omega) hb2.size⟩
   · go_wp2_with fail
     go_meet
     case rel => exact ⟨_, _, _, rfl, TC.b T3 (by have := T0.sz; omega) q2 ((OwnW.below ow1 hb2 (Nat.le_refl _)).base (by have := T0.sz; simp; omega)) ow2 (fun k e => (ow1.lt k e).2) (by have := T2.sz; omega) hb2.size⟩
 case rest =>
   obtain ⟨B, N, v1, rfl, C⟩ := hcut
   clear T0 K1 K2
   have e0 : atsW h.ws (zs.take 0) = [] := rfl
   have C0 : TC w h wc B N v1 u6 h.ws (h.ds ++ atsW h.ws (zs.take 0)) := by rw [e0, List.append_nil]; exact C
   clear C e0
   go_wp2
   go_loopw [6, 19] (fun v i wr => ∃ k : Nat, k ≤ zs.length ∧ i = .int .i64 k ∧ TC w h wr B N v1 v h.ws (h.ds ++ atsW h.ws (zs.take k))) (fun _ i _ => zs.length - (intOf i).toNat)
   case atStart => exact ⟨0, Nat.zero_le _, rfl, C0⟩
   case round =>
     obtain ⟨k, hk, rfl, C⟩ := hrel
     clear C0
     by_cases hlt : k < zs.length
     · obtain ⟨b5, o5, rfl, hb5, e5⟩ := hz.get hlt
       have d5 := (C.tt.be.cell (p := ⟨b5, o5 + k, none⟩) hb5).trans e5
       obtain ⟨hz0', hz1'⟩ := hasc k hlt
       have hzl' : zs[k].toNat < h.ws.length := by omega
       obtain ⟨b, off, eo, hbo, e1, e2⟩ := hh.sw.get hzl'
       have d1 := (C.tt.be.cell (p := ⟨b, off + zs[k].toNat * 2, none⟩) hbo).trans e1
       have d2 := (C.tt.be.cell (p := ⟨b, off + zs[k].toNat * 2 + 1, none⟩) hbo).trans e2
       have HF : Hid (h.ds ++ atsW h.ws (zs.take (k + 1)) = h.ds ++ atsW h.ws (zs.take k) ++ [h.ws[zs[k].toNat]]) := by
         show _ = _
         unfold atsW
         rw [List.take_succ_eq_append_getElem hlt, List.map_append, ← List.append_assoc]
         simp [List.getD, List.getElem?_eq_getElem hzl']
       have hLL : (h.ds ++ atsW h.ws (zs.take k)).length ≤ 20 + k := by simp [atsW]; omega
       obtain ⟨x0, x1, x2, x3⟩ := cells4'' C.tt.bh
       have hi1 : (k : Int) < (zs.length : Int) := by omega
       have hi2 : zs[k] < (h.ws.length : Int) := by omega
       clear hasc
       generalize h.wa = OA at eo x2 ⊢
       subst eo
       generalize hP : h.ws[zs[k].toNat] = p at *
       clear hP e1 e2 e5
       generalize zs[k] = z at *
       obtain ⟨g1, g2⟩ := p
       dsimp only at *
       generalize hL : h.ds ++ atsW h.ws (zs.take k) = L at *
       have HL : Hid (h.ds ++ atsW h.ws (zs.take k) = L) := hL
       clear hL
       have CA := C.step (al_below wr (Obj.cells #[Value.int .i64 g1, Value.int .i64 g2] 40))
       obtain ⟨va, vcap, rfl, -⟩ := C.od.form
       have hvA : (wr.alloc (Obj.cells #[Value.int .i64 g1, Value.int .i64 g2] 40)).ownsRow N 40 2 (.slice va L.length vcap) L.length (L.flatMap Go.Proofs.YtcpnkpogebjieaaGreat.wc) := CA.od
       have HEND : Hid (∀ v' w3, w3.ownsRow N 40 2 v' (L.length + 1) (L.flatMap Go.Proofs.YtcpnkpogebjieaaGreat.wc ++ [.int .i64 g1, .int .i64 g2]) → (wr.alloc (Obj.cells #[Value.int .i64 g1, Value.int .i64 g2] 40)).grownBy w3 (Value.slice va L.length vcap).ownBlock → TC w h w3 B N v1 v' h.ws (h.ds ++ atsW h.ws (zs.take (k + 1)))) := fun v' w3 ho hg => by
         refine CA.grow hg ?_
         rw [HF.out]
         unfold OwnW
         simpa [Go.Proofs.YtcpnkpogebjieaaGreat.wc] using ho
       have hl1 : L.length + 1 ≤ maxLen := by unfold maxLen; omega
       have hl2 : (L.length + 1) * 16 ≤ 140737488355328 := by omega
       have hbs : N ≤ (wr.alloc (Obj.cells #[Value.int .i64 g1, Value.int .i64 g2] 40)).heap.size := CA.sz
       clear CA C
       go_wp2_with (at_builtin; refine wpList_append_own_at _ rfl _ _ 25 rfl N 40 i0 _ 2 16 ((Cut.under_eq 25).trans Tryz.underlying25) hi hz0 hz1 hz2 rfl (by decide) _ _ _ rfl hvA ⟨wr.heap.size, 0, none⟩ 1 1 [.int .i64 g1, .int .i64 g2] rfl rfl (watch_new (g1, g2) _) (watch_one [(g1, g2)]) hl1 hl2 hbs ?_)
       intro v' w3 hown3 hgr _ _
       have C3 := HEND.out v' w3 hown3 hgr
       clear hown3 hgr HEND hvA
       go_wp2
       go_roundw
       case rel => exact ⟨k + 1, by omega, by go_num, C3⟩
       case measure => simp [intOf]; omega
     · have ek : zs.take k = zs := List.take_of_length_le (by omega)
       rw [ek] at C
       clear ek
       obtain ⟨va, vcap, rfl, -⟩ := C.od.form
       have c5 := backward_any da zs.length dcap wr
       go_wp2_with fail
       refine c5.mono ?_
       rintro e w5 ⟨rfl, hw5⟩
       clear c5
       have HRS : Hid ((h.ds ++ atsW h.ws zs).length = h.ds.length + (atsW h.ws zs).length) := List.length_append
       generalize hRS : h.ds ++ atsW h.ws zs = rs at *
       have HRS2 : Hid (h.ds ++ atsW h.ws zs = rs) := hRS
       clear hRS
       have hb5 : Below w.heap.size w w5 := by rw [hw5]; exact C.tt.be.trans ((al_below _ _).mono C.tt.be.size)
       have hle : w.heap.size ≤ w5.heap.size := hb5.size
       have hN2 : wr.heap.size < w5.heap.size := by rw [hw5]; simp
       have hBx : Blk w5 wr.heap.size [Value.slice da zs.length dcap] 24 := by rw [hw5]; exact Blk.new wr [Value.slice da zs.length dcap] _
       have hseq := backward1_seq zs da dcap (10 - 1) wr.heap.size w w5 (by omega) hz (by omega) hb5 hBx
       have hH0 : HoT w h B N wr.heap.size (.slice va rs.length vcap) rs (fun k => k = wr.heap.size) [] w5 := ⟨fun k e => by omega, by omega, v1, by rw [hw5]; exact C.step (al_below _ _), fun k e => (C.ow.lt k e).2⟩
       have hBl : B < wr.heap.size := C.bw.lt
       have hdl' : ∀ k, (Value.slice va rs.length vcap).ownBlock = some k → k < wr.heap.size := fun k e => (C.od.lt k e).2
       have hw2 : w.heap.size + 1 < wr.heap.size := C.tt.sz
       generalize wr.heap.size = N2 at *
       clear hw5 hBx C
       have h10 : (1 : Nat) ≤ 10 := by omega
       go_wp2_with fail
       refine wpIn_wide.1 (wpIn_rangeFuncG (n := 10) hro h10 (gf := 147) (lb := #[.pointer (some ⟨N2, 0, none⟩)]) rfl trivial (enters_of (Cut.func_of Tryz.func147 rfl) (by kernel_rfl) rfl) hle (fun k e => by omega) hseq (fun _ => rfl) (HoT w h B N N2 (.slice va rs.length vcap) rs) (HoT.chg hBl hdl' hw2) (HoT.put hBl hdl' hw2 (by omega)) HoT.al hH0
         (fun x => { tmps := #[Value.agg #[Value.slice h.oa h.os.length h.ocap, Value.slice h.ra h.rs.length h.rcap, Value.slice h.wa h.ws.length h.wcap, Value.slice h.da h.ds.length h.dcap], Value.slice da zs.length dcap, Value.pointer (some ⟨w.heap.size, 0, none⟩), undef, Value.pointer (some ⟨w.heap.size + 1, 0, none⟩), Value.pointer (some ⟨B, 0, none⟩), Value.slice va rs.length vcap, undef, u8, undef, .int .i64 x.2, u11, u12, u13, u14, u15, u16, Value.slice da zs.length dcap, Value.int .i64 zs.length, Value.int .i64 k, Value.bool false, u21, u22, u23, u24, u25, u26, u27, u28, u29, u30, u31, Value.slice da zs.length dcap, Value.func (Fn.func 147) #[] #[Value.pointer (some ⟨N2, 0, none⟩)], .int .i64 x.1, .int .i64 x.2, undef, undef, undef, undef, undef, undef, undef, undef, undef, undef, undef, undef], defers := [] }) ?assign ?body ?done)
       case assign =>
         intro l x W K hK
         gi_wp2
         exact hK
       case body =>
         rintro l M pre x W ⟨hM, hNW, v, C, hv⟩ hp
         obtain ⟨hx0, hx1⟩ := pre_bwd hasc hp
         have hc := C.bw.cell 0
         simp only [List.getElem?_cons_zero] at hc
         have hl0 : (delAll h.ws pre).length ≤ 20 := HDL.out pre x hp
         obtain ⟨x1, x2⟩ := x
         dsimp only at hx0 hx1
         have c6 := delete_any (w.heap.size + 1 + 1) v (delAll h.ws pre) x2.toNat W C.ow hx1 (by omega)
         rw [Int.toNat_of_nonneg hx0] at c6
         have hwr : IntKind.i64.wrap (x2 + 1) = x2 + 1 := by rw [IntKind.wrap_i64]; omega
         have HS : Hid (delAll h.ws (pre ++ [(x1, x2)]) = (delAll h.ws pre).eraseIdx x2.toNat) := delAll_snoc _ _ _
         generalize (delAll h.ws pre).eraseIdx x2.toNat = ws' at c6 HS
         have hWs := C.tt.be.size
         dsimp only
         gi_wp2_with fail
         refine ⟨trivial, ?_⟩
         refine (show CallsIn (Fence.wide.inRound l) _ _ _ _ _ _ from callsIn_wide.2 c6).mono ?_
         rintro e w6 ⟨v', rfl, ho6, hg6, hv6⟩
         obtain ⟨CD, hb6⟩ := C.del hg6 ho6 hv6
         obtain ⟨na, nc, rfl, -⟩ := ho6.form
         have hc6 := hb6.cell 0
         have hf6 := hb6.free 0
         simp only [List.getElem?_cons_zero] at hc6
         have HE : Hid (postG w.heap.size (HoT w h B N N2 (Value.slice va rs.length vcap) rs) M (pre ++ [(x1, x2)]) W .normal ⟨#[], []⟩ (w6.setCell ⟨B, 0, none⟩ (Value.slice na ws'.length nc))) := by
           have hB' := C.hB
           have hgb := gb_below hg6 hWs (fun k e => by have := (C.ow.lt k e).1; omega)
           refine ⟨(KeepsOthers.of_grownBy hg6 (fun j o e hj => row_cells C.ow e hj)).trans (KeepsOthers.setCell _ _ _), fun k hk => ?_, hgb.setCell (by dsimp only; omega) _, fun k hk => ⟨(hM k hk).1, ?_⟩, ?_, _, by rw [HS.out]; exact CD, fun k e => hv k (hv6 ▸ e)⟩
           · have h1 := hM k hk
             rw [Below.heap_setCell _ _ _ _ (by dsimp only; omega)]
             exact hg6.block k h1.2 (fun e => by have := hv k e.symm; omega)
           · have := hM k hk
             have := hg6.size
             simp [World.setCell]; omega
           · have := hg6.size
             simp [World.setCell]; omega
         clear hg6 ho6 hb6 CD c6 C hv6
         gi_wp2
         exact HE.out
       case done =>
         rintro D M W hD ⟨hM, hNW, v, C, hv⟩ hK
         have hc := C.bw.cell 0
         simp only [List.getElem?_cons_zero] at hc
         obtain ⟨x0, x1, x2, x3⟩ := cells4'' C.tt.bh
         obtain ⟨r0, r1, r2, r3⟩ := cells4'' C.tt.br
         obtain ⟨f0, f1, f2, f3⟩ := free4 C.tt.br
         obtain ⟨na, nc, rfl, -⟩ := C.ow.form
         obtain ⟨kq, bq⟩ := put4 C.tt.br (.slice h.oa h.os.length h.ocap) (.slice h.ra h.rs.length h.rcap) (.slice na (delAll h.ws (bwd zs)).length nc) (.slice va rs.length vcap)
         have hbF := below4 C.tt.be (C := w.heap.size + 1) (by omega) (.slice h.oa h.os.length h.ocap) (.slice h.ra h.rs.length h.rcap) (.slice na (delAll h.ws (bwd zs)).length nc) (.slice va rs.length vcap)
         have hKF : ((((W.setCell ⟨w.heap.size + 1, 0, none⟩ (.slice h.oa h.os.length h.ocap)).setCell ⟨w.heap.size + 1, 1, none⟩ (.slice h.ra h.rs.length h.rcap)).setCell ⟨w.heap.size + 1, 2, none⟩ (.slice na (delAll h.ws (bwd zs)).length nc)).setCell ⟨w.heap.size + 1, 3, none⟩ (.slice va rs.length vcap)).heap[D]? = some (.deferred (some [])) := by
           rw [Below.heap_setCell _ _ _ _ (by dsimp only; omega), Below.heap_setCell _ _ _ _ (by dsimp only; omega), Below.heap_setCell _ _ _ _ (by dsimp only; omega), Below.heap_setCell _ _ _ _ (by dsimp only; omega)]
           exact hK
         have o1 := row_keep C.ow kq (by decide)
         have o2 := row_keep C.od kq (by decide)
         have hNN := C.hN
         clear kq C hK hM
         go_wp2
         generalize ((((W.setCell ⟨w.heap.size + 1, 0, none⟩ (.slice h.oa h.os.length h.ocap)).setCell ⟨w.heap.size + 1, 1, none⟩ (.slice h.ra h.rs.length h.rcap)).setCell ⟨w.heap.size + 1, 2, none⟩ (.slice na (delAll h.ws (bwd zs)).length nc)).setCell ⟨w.heap.size + 1, 3, none⟩ (.slice va rs.length vcap)) = WF at *
         have bqF : Blk (WF.putObj D (.deferred none)) (w.heap.size + 1) [Value.slice h.oa h.os.length h.ocap, Value.slice h.ra h.rs.length h.rcap, Value.slice na (delAll h.ws (bwd zs)).length nc, Value.slice va rs.length vcap] 27 := bq.same (World.putObj_heap_other (by omega))
         have o1F := ownsRow_putObj o1 (.deferred none) hKF rfl
         have o2F := ownsRow_putObj o2 (.deferred none) hKF rfl
         have hbFF := hbF.trans (belowK_b (w := w) (Nat.le_refl _) WF D _ (.deferred none) (by omega) hKF rfl rfl)
         refine ⟨by simp, .inl ⟨_, _, rfl, run_takeDeferred hKF, ?_⟩⟩
         obtain ⟨z0, z1, z2, z3⟩ := cells4'' bqF
         generalize WF.putObj D (.deferred none) = WG at *
         refine ⟨.agg #[Value.slice h.oa h.os.length h.ocap, Value.slice h.ra h.rs.length h.rcap, Value.slice na (delAll h.ws (bwd zs)).length nc, Value.slice va rs.length vcap], ?_, na, nc, va, vcap, by rw [HRS2.out], OwnW.base o1F (by omega), by rw [HRS2.out]; exact OwnW.base o2F (by omega), hbFF⟩
         simp [results, Tryz.results82, go_sem, z0, z1, z2, z3]
end Go.Proofs.YtcpnkpogebjieaaGreat
namespace Go.Proofs.YtcpnkpogebjieaaGreat.Co
def delR (ws : List (Int × Int)) : List Int → List (Int × Int)
 | [] => ws
 | z :: zs => (delR ws zs).eraseIdx z.toNat
theorem delAll_map (ws pre : List (Int × Int)) : delAll ws pre = (pre.map fun x => x.2).foldl (fun l z => l.eraseIdx z.toNat) ws := by
 unfold delAll
 rw [List.foldl_map]
theorem bwd_snd (zs : List Int) : (bwd zs).map (fun x => x.2) = zs.reverse := by
 unfold bwd
 rw [List.map_reverse, List.map_map]
 congr 1
 exact List.zipIdx_map_fst 0 zs
theorem delAll_bwd (ws : List (Int × Int)) (zs : List Int) : delAll ws (bwd zs) = delR ws zs := by
 rw [delAll_map, bwd_snd]
 induction zs with
 | nil => rfl
 | cons z zs ih =>
   rw [List.reverse_cons, List.foldl_append, ih]
   rfl
variable (R wh : List Int)
theorem due_ats (ws : List (Int × Int)) : ∀ (l pre : List (Int × Int)), ws = pre ++ l → (dueFrom R wh pre.length l).map (fun z => ws.getD z.toNat (0, 0)) = l.filter (isDue R wh)
 | [], _, _ => rfl
 | x :: l, pre, e => by
   have ih := due_ats ws l (pre ++ [x]) (by rw [e]; simp)
   simp only [List.length_append, List.length_cons, List.length_nil] at ih
   unfold dueFrom
   rw [List.filter_cons]
   cases hx : isDue R wh x with
   | false => simpa using ih
   | true =>
     simp only [if_true, List.map_cons]
     rw [show (pre.length + (0 + 1)) = pre.length + 1 by omega] at ih
     rw [ih]
     congr 1
     rw [e]
     simp [List.getD]
theorem due_del : ∀ (l pre : List (Int × Int)), delR (pre ++ l) (dueFrom R wh pre.length l) = pre ++ l.filter fun x => !isDue R wh x
 | [], pre => rfl
 | x :: l, pre => by
   have ih := due_del l (pre ++ [x])
   simp only [List.length_append, List.length_cons, List.length_nil] at ih
   rw [show (pre.length + (0 + 1)) = pre.length + 1 by omega] at ih
   have e : pre ++ x :: l = (pre ++ [x]) ++ l := by simp
   unfold dueFrom
   rw [List.filter_cons]
   cases hx : isDue R wh x with
   | false =>
     rw [e]
     simp only [Bool.false_eq_true, if_false, Bool.not_false, if_true]
     rw [ih]
     simp
   | true =>
     rw [e]
     simp only [if_true, Bool.not_true, Bool.false_eq_true, if_false, delR]
     rw [ih, Int.toNat_natCast, List.eraseIdx_append_of_lt_length (by simp), List.eraseIdx_append_of_length_le (Nat.le_refl _)]
     simp
theorem due_asc : ∀ (l : List (Int × Int)) (k j : Nat) (hj : j < (dueFrom R wh k l).length), (k : Int) ≤ (dueFrom R wh k l)[j] ∧ (dueFrom R wh k l)[j].toNat + ((dueFrom R wh k l).length - (j + 1)) < k + l.length
 | [], k, j, hj => by simp [dueFrom] at hj
 | x :: l, k, j, hj => by
   have ih := due_asc l (k + 1)
   have hle := dueFrom_len R wh l (k + 1)
   cases hx : isDue R wh x with
   | false =>
     have e : dueFrom R wh k (x :: l) = dueFrom R wh (k + 1) l := by simp [dueFrom, hx]
     simp only [e] at hj ⊢
     have := ih j hj
     simp only [List.length_cons]
     omega
   | true =>
     have e : dueFrom R wh k (x :: l) = (k : Int) :: dueFrom R wh (k + 1) l := by simp [dueFrom, hx]
     simp only [e] at hj ⊢
     simp only [List.length_cons] at hj ⊢
     cases j with
     | zero =>
       simp only [List.getElem_cons_zero]
       omega
     | succ j =>
       have := ih j (by omega)
       simp only [List.getElem_cons_succ]
       omega
theorem due_told {h : Hp} (c : OkC h) : ∀ p ∈ h.ws, isDue ((reachP h.p).filter fun q => decide ((h.os.map (·.k)).getD q.toNat 0 = 4)) (whs (reachP h.p) h.os.length) p = (decide (0 ≤ pos (reachP h.p) p.1) && decide (pos (reachP h.p) p.2 < 0)) := fun p hp => by
 have hw := c.wo p hp
 simp only [watchOk, inB, Bool.and_eq_true, decide_eq_true_eq, List.length_map] at hw
 obtain ⟨⟨h1, h2⟩, h3⟩ := hw
 have l1 : p.1.toNat < h.os.length := by omega
 have l2 : p.2.toNat < (whs (reachP h.p) h.os.length).length := by rw [whs_len]; omega
 have e2 : (whs (reachP h.p) h.os.length).getD p.2.toNat 0 = pos (reachP h.p) p.2 := by
   rw [List.getD_eq_getElem?_getD, List.getElem?_eq_getElem l2, Option.getD_some, whs_at _ _ _ (by omega)]
 unfold isDue
 rw [e2]
 congr 1
 rw [Bool.eq_iff_iff]
 simp only [decide_eq_true_eq, List.mem_filter, pos_mem]
 refine ⟨fun q => q.1, fun q => ⟨q, ?_⟩⟩
 rw [List.getElem?_map, List.getElem?_eq_getElem l1] at h3
 simp only [Option.map_some, Option.some.injEq, Ob.p] at h3
 simp [List.getD, List.getElem?_eq_getElem l1, h3]
theorem dueP_ats {h : Hp} (c : OkC h) : atsW h.ws (dueP h) = toldL h.ws (reachP h.p) := by
 refine (due_ats ((reachP h.p).filter fun q => decide ((h.os.map (·.k)).getD q.toNat 0 = 4)) (whs (reachP h.p) h.os.length) h.ws h.ws [] rfl).trans ?_
 unfold toldL
 exact List.filter_congr fun p hp => due_told c p hp
theorem dueP_del {h : Hp} (c : OkC h) : delAll h.ws (bwd (dueP h)) = withoutL h.ws (toldL h.ws (reachP h.p)) := by
 rw [delAll_bwd]
 have := due_del ((reachP h.p).filter fun q => decide ((h.os.map (·.k)).getD q.toNat 0 = 4)) (whs (reachP h.p) h.os.length) h.ws []
 simp only [List.nil_append, List.length_nil] at this
 unfold dueP
 rw [this]
 unfold withoutL
 refine List.filter_congr fun p hp => ?_
 rw [due_told c p hp]
 congr 1
 rw [Bool.eq_iff_iff, decide_eq_true_eq, told_mem]
 exact ⟨fun q => ⟨hp, q⟩, fun q => q.2⟩
theorem dueP_asc (h : Hp) : ∀ j (hj : j < (dueP h).length), 0 ≤ (dueP h)[j] ∧ (dueP h)[j].toNat + ((dueP h).length - (j + 1)) < h.ws.length := fun j hj => by
 have := due_asc ((reachP h.p).filter fun q => decide ((h.os.map (·.k)).getD q.toNat 0 = 4)) (whs (reachP h.p) h.os.length) h.ws 0 j hj
 simp only [Nat.zero_add] at this
 exact this
theorem dueP_len (h : Hp) : (dueP h).length ≤ h.ws.length := dueFrom_len _ _ _ _
theorem dueP_nil {h : Hp} (c : OkC h) : dueP h = [] ↔ toldL h.ws (reachP h.p) = [] := by
 rw [← dueP_ats c]
 unfold atsW
 exact List.map_eq_nil_iff.symm
end Go.Proofs.YtcpnkpogebjieaaGreat.Co
