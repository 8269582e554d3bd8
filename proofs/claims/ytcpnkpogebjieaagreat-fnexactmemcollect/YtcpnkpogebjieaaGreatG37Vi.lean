/- The specification's own collecting: telling. -/
import Derived.Test.YtcpnkpogebjieaaGreatG36Dq
import Derived.Test.YtcpnkpogebjieaaGreatG32Dd
namespace Go.Proofs.YtcpnkpogebjieaaGreat
open Go.RowKit
theorem told_mem {ws : List (Int × Int)} {X : List Int} {p : Int × Int} : p ∈ toldL ws X ↔ p ∈ ws ∧ (decide (0 ≤ pos X p.1) && decide (pos X p.2 < 0)) = true := by
 unfold toldL; rw [List.mem_filter]
theorem filter_split (f : Int × Int → Bool) (l : List (Int × Int)) : (l.filter fun p => !f p).length + (l.filter f).length = l.length := by
 induction l with
 | nil => rfl
 | cons a l ih =>
   simp only [List.filter_cons]
   cases f a <;> simp <;> omega
theorem without_told (ws : List (Int × Int)) (X : List Int) : (withoutL ws (toldL ws X)).length + (toldL ws X).length = ws.length := by
 have h1 : withoutL ws (toldL ws X) = ws.filter fun p => !(decide (0 ≤ pos X p.1) && decide (pos X p.2 < 0)) := by
   unfold withoutL
   refine List.filter_congr fun p hp => ?_
   congr 1
   rw [Bool.eq_iff_iff, decide_eq_true_eq, told_mem]
   exact ⟨fun h => h.2, fun h => ⟨hp, h⟩⟩
 rw [h1]
 exact filter_split (fun p : Int × Int => decide (0 ≤ pos X p.1) && decide (pos X p.2 < 0)) ws
theorem OkC.tell {h : Hp} (c : OkC h) {ws ds : List (Int × Int)} (h1 : ∀ p ∈ ws, p ∈ h.ws) (h2 : ∀ p ∈ ds, p ∈ h.ws ∨ p ∈ h.ds) (h3 : ws.length + ds.length ≤ h.ws.length + h.ds.length) (wa : Option Addr) (wcap : Nat) (da : Option Addr) (dcap : Nat) : OkC { h with wa := wa, wcap := wcap, ws := ws, da := da, dcap := dcap, ds := ds } :=
 ⟨c.n60, c.r8, by have := c.w20; simp only; omega, c.ob, c.ro, fun p hp => c.wo p (h1 p hp), fun p hp => (h2 p hp).elim (c.wo p) (c.dd p)⟩
theorem avi_lt {a : Option Addr} {n cap m : Nat} {r : Option Nat} (h : ∀ k, (Value.slice a n cap).ownBlock = some k → m ≤ k) (hr : ∀ k, r = some k → k < m) : AvI a n r := fun _ x hx e => by
 subst hx
 have h1 := h x.block rfl
 have h2 := hr x.block e.symm
 omega
structure TlIn (w : World) (h : Hp) (W : World) (v : Value) (K : List Int) (wa : Option Addr) (wcap : Nat) (ws : List (Int × Int)) (da : Option Addr) (dcap : Nat) (ds : List (Int × Int)) : Prop where
 bh : Blk W w.heap.size [Value.slice h.oa h.os.length h.ocap, Value.slice h.ra h.rs.length h.rcap, Value.slice wa ws.length wcap, Value.slice da ds.length dcap] 27
 br : Blk W (w.heap.size + 1) [Value.slice none 0 0, Value.slice none 0 0, Value.slice none 0 0, Value.slice none 0 0] 27
 be : Below w.heap.size w W
 isIn : HpIn W { h with wa := wa, wcap := wcap, ws := ws, da := da, dcap := dcap, ds := ds }
 ok : OkC { h with wa := wa, wcap := wcap, ws := ws, da := da, dcap := dcap, ds := ds }
 kn : OwnL W w.heap.size v K
 pl : Places h.os.length K
 av : HpAv { h with wa := wa, wcap := wcap, ws := ws, da := da, dcap := dcap, ds := ds } v.ownBlock
 ab : HpAv { h with wa := wa, wcap := wcap, ws := ws, da := da, dcap := dcap, ds := ds } (some w.heap.size)
 ar : HpAv { h with wa := wa, wcap := wcap, ws := ws, da := da, dcap := dcap, ds := ds } (some (w.heap.size + 1))
theorem TlIn.step {w : World} {h : Hp} {W W' : World} {v : Value} {K : List Int} {wa : Option Addr} {wcap : Nat} {ws : List (Int × Int)} {da : Option Addr} {dcap : Nat} {ds : List (Int × Int)} (t : TlIn w h W v K wa wcap ws da dcap ds) (hb : Below W.heap.size W W') : TlIn w h W' v K wa wcap ws da dcap ds :=
 ⟨t.bh.step hb, t.br.step hb, t.be.trans (hb.mono t.be.size), t.isIn.below hb (Nat.le_refl _), t.ok, t.kn.below hb (Nat.le_refl _), t.pl, t.av, t.ab, t.ar⟩
theorem TlIn.grow {w : World} {h : Hp} {W W' : World} {v v' : Value} {K K' : List Int} {wa : Option Addr} {wcap : Nat} {ws : List (Int × Int)} {da : Option Addr} {dcap : Nat} {ds : List (Int × Int)} (t : TlIn w h W v K wa wcap ws da dcap ds) (hg : W.grownBy W' v.ownBlock) (hk : OwnL W' w.heap.size v' K') (hp : Places h.os.length K') (hat : v'.ownBlock = v.ownBlock ∨ ∃ g, v'.ownBlock = some g ∧ W.heap.size ≤ g) : TlIn w h W' v' K' wa wcap ws da dcap ds := by
 refine ⟨t.bh.grown hg (row_ne_blk t.kn t.bh (by decide)), t.br.grown hg (row_ne_blk t.kn t.br (by decide)), t.be.trans (gb_below hg t.be.size (fun k e => (t.kn.lt k e).1)), t.isIn.grown hg t.av, t.ok, hk, hp, ?_, t.ab, t.ar⟩
 rcases hat with e | ⟨g, e, hg'⟩
 · rw [e]; exact t.av
 · rw [e]; exact t.isIn.av hg'
theorem TlIn.fit {w : World} {h : Hp} {W : World} {v : Value} {K : List Int} {wa : Option Addr} {wcap : Nat} {ws : List (Int × Int)} {da : Option Addr} {dcap : Nat} {ds : List (Int × Int)} (t : TlIn w h W v K wa wcap ws da dcap ds) (hcap : ∀ (i : Nat) (hi : i < h.os.length), h.os[i].r.length ≤ h.os[i].rcap) : Fit W { h with wa := wa, wcap := wcap, ws := ws, da := da, dcap := dcap, ds := ds } := t.ok.fit t.isIn hcap
theorem TlIn.tr {w : World} {h : Hp} {W : World} {v : Value} {K : List Int} {wa : Option Addr} {wcap : Nat} {ws : List (Int × Int)} {da : Option Addr} {dcap : Nat} {ds : List (Int × Int)} (t : TlIn w h W v K wa wcap ws da dcap ds) (hcap : ∀ (i : Nat) (hi : i < h.os.length), h.os[i].r.length ≤ h.os[i].rcap) : Tr { h with wa := wa, wcap := wcap, ws := ws, da := da, dcap := dcap, ds := ds } := okP_tr (okC_ok t.ok) t.ok.small hcap
theorem TlIn.told {w : World} {h : Hp} {W w3 w6 : World} {v : Value} {K : List Int} {wa : Option Addr} {wcap : Nat} {ws : List (Int × Int)} {da : Option Addr} {dcap : Nat} {ds : List (Int × Int)} (t : TlIn w h W v K wa wcap ws da dcap ds) {na ea : Option Addr} {nc ec : Nat} {ns es : List (Int × Int)}
   (hb3 : Below W.heap.size W w3) (hn : OwnW w3 W.heap.size (.slice na ns.length nc) ns) (hb6 : Below w3.heap.size (w3.setCell ⟨w.heap.size, 2, none⟩ (.slice na ns.length nc)) w6) (he : OwnW w6 W.heap.size (.slice ea es.length ec) es)
   (h1 : ∀ p ∈ ns, p ∈ ws) (h2 : ∀ p ∈ es, p ∈ ws ∨ p ∈ ds) (h3 : ns.length + es.length ≤ ws.length + ds.length) :
   TlIn w h (w6.setCell ⟨w.heap.size, 3, none⟩ (.slice ea es.length ec)) v K na nc ns ea ec es ∧ KeepT 27 W (w6.setCell ⟨w.heap.size, 3, none⟩ (.slice ea es.length ec)) := by
 have s3 : (w3.setCell ⟨w.heap.size, 2, none⟩ (.slice na ns.length nc)).heap.size = w3.heap.size := by simp [World.setCell]
 have bh3 := t.bh.step hb3
 have br3 := t.br.step hb3
 have bh3s := bh3.store 2 (.slice na ns.length nc)
 have br3s := br3.other ⟨w.heap.size, 2, none⟩ (.slice na ns.length nc) (by dsimp only; omega)
 have hb6' : Below (w3.setCell ⟨w.heap.size, 2, none⟩ (.slice na ns.length nc)).heap.size (w3.setCell ⟨w.heap.size, 2, none⟩ (.slice na ns.length nc)) w6 := by rw [s3]; exact hb6
 have bh6 := bh3s.step hb6'
 have br6 := br3s.step hb6'
 have k1 : KeepT 27 W w3 := KeepT.below _ hb3 (Nat.le_refl _)
 have k2 : KeepT 27 w3 (w3.setCell ⟨w.heap.size, 2, none⟩ (.slice na ns.length nc)) := KeepT.set bh3 2 _
 have k3 : KeepT 27 (w3.setCell ⟨w.heap.size, 2, none⟩ (.slice na ns.length nc)) w6 := KeepT.below _ hb6' (Nat.le_refl _)
 have k4 : KeepT 27 w6 (w6.setCell ⟨w.heap.size, 3, none⟩ (.slice ea es.length ec)) := KeepT.set bh6 3 _
 have kk := ((k1.trans k2).trans k3).trans k4
 have hWs := t.be.size
 have hlt := t.br.lt
 have i6 := ((t.isIn.below hb3 (Nat.le_refl _)).grown (gb_set w3 w.heap.size 2 (.slice na ns.length nc)) t.ab).below hb6' (Nat.le_refl _)
 have i7 := i6.grown (gb_set w6 w.heap.size 3 (.slice ea es.length ec)) t.ab
 have hn7 : OwnW (w6.setCell ⟨w.heap.size, 3, none⟩ (.slice ea es.length ec)) W.heap.size (.slice na ns.length nc) ns := row_keep hn ((k2.trans k3).trans k4) (by decide)
 have he7 : OwnW (w6.setCell ⟨w.heap.size, 3, none⟩ (.slice ea es.length ec)) W.heap.size (.slice ea es.length ec) es := row_keep he k4 (by decide)
 have av1 : ∀ (r : Option Nat), (∀ k, r = some k → k < W.heap.size) → AvI na ns.length r ∧ AvI ea es.length r := fun r hr => ⟨avi_lt (cap := nc) (fun k q => (hn.lt k q).1) hr, avi_lt (cap := ec) (fun k q => (he.lt k q).1) hr⟩
 obtain ⟨p1, p2⟩ := av1 v.ownBlock (fun k q => (t.kn.lt k q).2)
 obtain ⟨p3, p4⟩ := av1 (some w.heap.size) (fun k q => by simp at q; omega)
 obtain ⟨p5, p6⟩ := av1 (some (w.heap.size + 1)) (fun k q => by simp at q; omega)
 refine ⟨⟨bh6.store 3 _, br6.other _ _ (by dsimp only; omega), ?_, ⟨i7.so, i7.sr, ?_, ?_⟩, t.ok.tell h1 h2 h3 na nc ea ec, row_keep t.kn kk (by decide), t.pl, ⟨t.av.ao, t.av.aoo, t.av.ar, p1, p2⟩, ⟨t.ab.ao, t.ab.aoo, t.ab.ar, p3, p4⟩, ⟨t.ar.ao, t.ar.aoo, t.ar.ar, p5, p6⟩⟩, kk⟩
 · exact (((t.be.trans (hb3.mono hWs)).setCell (Nat.le_refl _) _).trans (hb6'.mono (by rw [s3]; exact Nat.le_trans hWs hb3.size))).setCell (Nat.le_refl _) _
 · obtain ⟨a, cap, e, hs, _⟩ := hn7.form
   simp only [Value.slice.injEq] at e
   rw [e.1]; exact hs
 · obtain ⟨a, cap, e, hs, _⟩ := he7.form
   simp only [Value.slice.injEq] at e
   obtain ⟨rfl, _⟩ := e
   exact hs
theorem in4 {W : World} {B : Nat} {y : Hp} (hh : HpIn W y) (hav : HpAv y (some B)) (v0 v1 v2 v3 : Value) : HpIn ((((W.setCell ⟨B, 0, none⟩ v0).setCell ⟨B, 1, none⟩ v1).setCell ⟨B, 2, none⟩ v2).setCell ⟨B, 3, none⟩ v3) y :=
 (((hh.grown (gb_set W B 0 v0) hav).grown (gb_set _ B 1 v1) hav).grown (gb_set _ B 2 v2) hav).grown (gb_set _ B 3 v3) hav
structure PcIn (k4 : World) (m : Nat) (W : World) (l : List Ob) (vo : Value) (ps : List (Int × ByteArray × List Int)) : Prop where
 mp : l.map Ob.p = ps
 bx : Blk W (m + 1) [vo, .slice none 0 0, .slice none 0 0, .slice none 0 0] 27
 ob : OwnB W (m + 1) vo l
 rs : OwnRs W (m + 1) l
 be : Below (m + 1) k4 W
theorem PcIn.step {k4 : World} {m : Nat} {W W' : World} {l : List Ob} {vo : Value} {ps : List (Int × ByteArray × List Int)} (c : PcIn k4 m W l vo ps) (hb : Below W.heap.size W W') : PcIn k4 m W' l vo ps :=
 ⟨c.mp, c.bx.step hb, c.ob.below hb (Nat.le_refl _), c.rs.below hb (Nat.le_refl _), c.be.trans (hb.mono (Nat.le_trans (Nat.le_of_lt c.bx.lt) (Nat.le_refl _)))⟩
structure RcIn (k4 : World) (m : Nat) (W : World) (l : List Ob) (vo : Value) (ps : List (Int × ByteArray × List Int)) (M mo : Nat) (o : Ob) (X : List Int) (a : Option Addr) (cc k : Nat) : Prop where
 pc : PcIn k4 m W l vo ps
 bo : Blk W mo [Value.int .i64 o.k, Value.string o.t, Value.slice a o.r.length cc] 37
 ro : OwnL W M (.slice a o.r.length cc) (mixR (wh X) o.r k)
 lo : ∀ i (hi : i < l.length) q, l[i].rv.ownBlock = some q → q < M
 hM : m + 1 ≤ M
theorem RcIn.step {k4 : World} {m : Nat} {W W' : World} {l : List Ob} {vo : Value} {ps : List (Int × ByteArray × List Int)} {M mo : Nat} {o : Ob} {X : List Int} {a : Option Addr} {cc k : Nat} (c : RcIn k4 m W l vo ps M mo o X a cc k) (hb : Below W.heap.size W W') : RcIn k4 m W' l vo ps M mo o X a cc k :=
 ⟨c.pc.step hb, c.bo.step hb, c.ro.below hb (Nat.le_refl _), c.lo, c.hM⟩
theorem RcIn.set {k4 : World} {m : Nat} {W : World} {l : List Ob} {vo : Value} {ps : List (Int × ByteArray × List Int)} {M mo : Nat} {o : Ob} {X : List Int} {g cc k : Nat} (c : RcIn k4 m W l vo ps M mo o X (some ⟨g, 0, none⟩) cc k) (hk : k < o.r.length) : RcIn k4 m (W.setCell ⟨g, k, none⟩ (.int .i64 (wh X o.r[k]))) l vo ps M mo o X (some ⟨g, 0, none⟩) cc (k + 1) := by
 have hg : M ≤ g := (c.ro.lt g rfl).1
 have hM := c.hM
 have n1 : m + 1 ≠ g := fun q => row_ne_blk c.ro c.pc.bx (by decide) (by rw [q]; rfl)
 have n2 : mo ≠ g := fun q => row_ne_blk c.ro c.bo (by decide) (by rw [q]; rfl)
 have n3 : vo.ownBlock ≠ some g := fun q => by
   rcases row_ne c.pc.ob c.ro (by decide) with e | e
   · rw [e] at q; cases q
   · exact e q
 refine ⟨⟨c.pc.mp, c.pc.bx.other _ _ n1, ownsRow_setCell_other c.pc.ob n3 _, ⟨fun i hi => ownsRow_setCell_other (c.pc.rs.own i hi) (fun q => ?_) _, c.pc.rs.inc⟩, c.pc.be.setCell (by dsimp only; omega) _⟩, c.bo.other _ _ n2, ?_, c.lo, c.hM⟩
 · have := c.lo i hi g q
   omega
 · have := c.ro.set (mixR_len _ _ _ (Nat.le_of_lt hk)).symm (k := k) (wh X o.r[k])
   rw [mixR_set _ _ _ hk] at this
   exact this
theorem RcIn.next {k4 : World} {m : Nat} {W w3 : World} {l : List Ob} {va : Option Addr} {vcap : Nat} {ps : List (Int × ByteArray × List Int)} {M mo : Nat} {o : Ob} {X : List Int} {a : Option Addr} {cc : Nat} (c : RcIn k4 m W l (.slice va l.length vcap) ps M mo o X a cc o.r.length)
   (q cap : Nat) (hown : w3.ownsRow (m + 1) 37 3 (.slice (some ⟨q, 0, none⟩) (l.length + 1) cap) (l.length + 1) (l.flatMap Ob.cs ++ [Value.int .i64 o.k, Value.string o.t, Value.slice a o.r.length cc])) (hg : (W.alloc (Obj.cells #[Value.int .i64 o.k, Value.string o.t, Value.slice a o.r.length cc] 37)).grownBy w3 (Value.slice va l.length vcap).ownBlock) :
   PcIn k4 m (w3.setCell ⟨m + 1, 0, none⟩ (.slice (some ⟨q, 0, none⟩) (l.length + 1) cap)) (l ++ [⟨o.k, o.t, a, cc, o.r.map (wh X)⟩]) (.slice (some ⟨q, 0, none⟩) (l.length + 1) cap) (ps ++ [objQ X o]) := by
 have hA : Below W.heap.size W (W.alloc (Obj.cells #[Value.int .i64 o.k, Value.string o.t, Value.slice a o.r.length cc] 37)) := al_below _ _
 have cA := c.step hA
 have hro := cA.ro
 rw [mixR_all] at hro
 have hrv : (⟨o.k, o.t, a, cc, o.r.map (wh X)⟩ : Ob).rv = .slice a o.r.length cc := by simp [Ob.rv]
 have bx3 := cA.pc.bx.grown hg (row_ne_blk cA.pc.ob cA.pc.bx (by decide))
 have hown' : OwnB w3 (m + 1) (.slice (some ⟨q, 0, none⟩) (l.length + 1) cap) (l ++ [⟨o.k, o.t, a, cc, o.r.map (wh X)⟩]) := by unfold OwnB; simpa [Ob.cs] using hown
 have rs3 := cA.pc.rs.grown cA.pc.ob (by decide) hg
 have ro3 : OwnL w3 M (.slice a o.r.length cc) (o.r.map (wh X)) := row_kept hro cA.pc.ob hg (by decide)
 have k3 : KeepT 27 w3 (w3.setCell ⟨m + 1, 0, none⟩ (.slice (some ⟨q, 0, none⟩) (l.length + 1) cap)) := KeepT.set bx3 0 _
 have hs : m + 1 ≤ (W.alloc (Obj.cells #[Value.int .i64 o.k, Value.string o.t, Value.slice a o.r.length cc] 37)).heap.size := Nat.le_of_lt cA.pc.bx.lt
 refine ⟨by rw [List.map_append, c.pc.mp]; rfl, bx3.store 0 _, row_keep hown' k3 (by decide), ?_, (cA.pc.be.trans (gb_below hg hs (fun k e => (cA.pc.ob.lt k e).1))).setCell (Nat.le_refl _) _⟩
 refine (rs3.snoc _ (by rw [hrv]; exact ro3.base c.hM) fun i hi x y hx hy => ?_).keep k3
 have h1 := c.lo i hi x hx
 rw [hrv] at hy
 have h2 := (ro3.lt y hy).1
 omega
theorem pos_get {X : List Int} {x : Int} (h : 0 ≤ pos X x) : X[(pos X x).toNat]? = some x := by
 induction X with
 | nil => simp [pos] at h
 | cons z l ih =>
   unfold pos at h ⊢
   by_cases hz : z = x
   · simp [hz]
   · simp only [hz, if_false] at h ⊢
     by_cases hp : pos l x < 0
     · simp [hp] at h
     · simp only [hp, if_false]
       have h0 : 0 ≤ pos l x := by omega
       have e : (pos l x + 1).toNat = (pos l x).toNat + 1 := by omega
       rw [e, List.getElem?_cons_succ]
       exact ih h0
theorem wh_bd (X : List Int) (z : Int) : -1 ≤ wh X z ∧ wh X z < X.length := by
 unfold wh
 split
 · omega
 · exact pos_bd X z
theorem mov_mem {ws : List (Int × Int)} {X : List Int} {p : Int × Int} (h : p ∈ movL ws X) : ∃ q ∈ ws, 0 ≤ pos X q.1 ∧ 0 ≤ pos X q.2 ∧ p = (pos X q.1, pos X q.2) := by
 unfold movL at h
 obtain ⟨q, hq, rfl⟩ := List.mem_map.1 h
 rw [List.mem_filter, Bool.and_eq_true, decide_eq_true_eq, decide_eq_true_eq] at hq
 exact ⟨q, hq.1, hq.2.1, hq.2.2, rfl⟩
theorem mov_len (ws : List (Int × Int)) (X : List Int) : (movL ws X).length ≤ ws.length := by
 unfold movL; rw [List.length_map]; exact List.length_filter_le _ _
theorem OkC.collect {g : Hp} (c : OkC g) {X : List Int} (hp : Places g.os.length X) {l : List Ob} (hl : l.map Ob.p = (pick g.os X).map (objQ X)) (oa : Option Addr) (oc : Nat) (ra : Option Addr) (rc : Nat) (wa : Option Addr) (wc' : Nat) (da : Option Addr) (dc : Nat) : OkC ⟨oa, oc, l, ra, rc, g.rs.map (wh X), wa, wc', movL g.ws X, da, dc, movL g.ds X⟩ := by
 have hll : l.length = X.length := by
   have := congrArg List.length hl
   simpa [pick_len] using this
 have hXn := hp.len
 have n60 := c.n60
 have hat : ∀ i (hi : i < l.length) (hx : i < X.length), ∃ hz : X[i].toNat < g.os.length, l[i].p = objQ X g.os[X[i].toNat] := fun i hi hx => by
   have hr := hp.rng X[i] (List.getElem_mem hx)
   have hz : X[i].toNat < g.os.length := by omega
   refine ⟨hz, ?_⟩
   have h1 : (l.map Ob.p)[i]? = ((pick g.os X).map (objQ X))[i]? := by rw [hl]
   rw [List.getElem?_map, List.getElem?_map, List.getElem?_eq_getElem hi, List.getElem?_eq_getElem (by rw [pick_len]; exact hx)] at h1
   simp only [Option.map_some, Option.some.injEq] at h1
   rw [h1, pick_get (by rw [pick_len]; exact hx) hx hz]
 have hwt : ∀ (ws : List (Int × Int)), (∀ p ∈ ws, watchOk (g.os.map Ob.p) p = true) → ∀ p ∈ movL ws X, watchOk (l.map Ob.p) p = true := fun ws hw p hpm => by
   obtain ⟨q, hq, h1, h2, rfl⟩ := mov_mem hpm
   have hw' := hw q hq
   simp only [watchOk, inB, Bool.and_eq_true, decide_eq_true_eq, List.length_map] at hw' ⊢
   have b1 := pos_bd X q.1
   have b2 := pos_bd X q.2
   have hi : (pos X q.1).toNat < X.length := by omega
   have hg := pos_get h1
   rw [List.getElem?_eq_getElem hi] at hg
   simp only [Option.some.injEq] at hg
   obtain ⟨hz, he⟩ := hat (pos X q.1).toNat (by omega) hi
   refine ⟨⟨⟨h1, by omega⟩, h2, by omega⟩, ?_⟩
   rw [List.getElem?_map, List.getElem?_eq_getElem (by omega), Option.map_some, Option.map_some, he]
   have h4 := hw'.2
   have hq0 : q.1.toNat < g.os.length := by have := hw'.1.1; omega
   rw [List.getElem?_map, List.getElem?_eq_getElem hq0, Option.map_some, Option.map_some] at h4
   simp only [objQ, Ob.p, Option.some.injEq] at h4 ⊢
   simp only [hg]
   exact h4
 refine ⟨by simp only; omega, by simpa using c.r8, ?_, fun i hi => ?_, fun z hz => ?_, hwt g.ws c.wo, hwt g.ds c.dd⟩
 · have := mov_len g.ws X
   have := mov_len g.ds X
   have := c.w20
   simp only; omega
 · simp only at hi ⊢
   obtain ⟨hz, he⟩ := hat i hi (by omega)
   rw [he]
   have h1 := c.ob _ hz
   simp only [objOk, Ob.p, objQ, Bool.and_eq_true, List.length_map] at h1 ⊢
   refine ⟨?_, h1.2⟩
   unfold refsOk
   rw [List.all_eq_true]
   intro y hy
   obtain ⟨x, _, rfl⟩ := List.mem_map.1 hy
   have := wh_bd X x
   simp only [inB, Bool.and_eq_true, decide_eq_true_eq]
   omega
 · simp only at hz ⊢
   obtain ⟨x, _, rfl⟩ := List.mem_map.1 hz
   have := wh_bd X x
   omega
structure DcIn (k4 : World) (m : Nat) (W : World) (l : List Ob) (vo : Value) (N : Nat) (vr : Value) (zs : List Int) : Prop where
 bx : Blk W (m + 1) [vo, vr, .slice none 0 0, .slice none 0 0] 27
 ob : OwnB W (m + 1) vo l
 rs : OwnRs W (m + 1) l
 lo : ∀ i (hi : i < l.length) q, l[i].rv.ownBlock = some q → q < N
 rr : OwnL W N vr zs
 be : Below (m + 1) k4 W
 hN : m + 1 ≤ N
 sz : N ≤ W.heap.size
theorem DcIn.step {k4 : World} {m : Nat} {W W' : World} {l : List Ob} {vo : Value} {N : Nat} {vr : Value} {zs : List Int} (c : DcIn k4 m W l vo N vr zs) (hb : Below W.heap.size W W') : DcIn k4 m W' l vo N vr zs :=
 ⟨c.bx.step hb, c.ob.below hb (Nat.le_refl _), c.rs.below hb (Nat.le_refl _), c.lo, c.rr.below hb (Nat.le_refl _), c.be.trans (hb.mono (Nat.le_trans c.hN c.sz)), c.hN, Nat.le_trans c.sz hb.size⟩
theorem DcIn.next {k4 : World} {m : Nat} {W W' : World} {l : List Ob} {vo : Value} {N : Nat} {vr vr' : Value} {zs zs' : List Int} (c : DcIn k4 m W l vo N vr zs) (hg : W.grownBy W' vr.ownBlock) (hr : OwnL W' N vr' zs') : DcIn k4 m (W'.setCell ⟨m + 1, 1, none⟩ vr') l vo N vr' zs' ∧ W'.cell? ⟨m + 1, 1, none⟩ = some vr ∧ W'.frozen? ⟨m + 1, 1, none⟩ = false ∧ Below (m + 1) k4 W' := by
 have bx2 := c.bx.grown hg (row_ne_blk c.rr c.bx (by decide))
 have k3 : KeepT 27 W' (W'.setCell ⟨m + 1, 1, none⟩ vr') := KeepT.set bx2 1 _
 have hb := c.be.trans (gb_below hg (Nat.le_trans c.hN c.sz) (fun q e => Nat.le_trans c.hN (c.rr.lt q e).1))
 refine ⟨⟨bx2.store 1 _, row_keep (row_kept c.ob c.rr hg (by decide)) k3 (by decide), ⟨fun i hi => row_keep (World.ownsRow.kept (c.rs.own i hi) hg ?_) k3 (by decide), c.rs.inc⟩, c.lo, row_keep hr k3 (by decide), hb.setCell (Nat.le_refl _) _, c.hN, ?_⟩, bx2.cell 1, bx2.free 1, hb⟩
 · cases q : l[i].rv.ownBlock with
   | none => exact Or.inl rfl
   | some x =>
     refine Or.inr fun e => ?_
     have h1 := c.lo i hi x q
     have h2 := (c.rr.lt x e.symm).1
     omega
 · have := hg.size
   have := c.sz
   simp [World.setCell]
   omega
theorem heap_of {W : World} {m N : Nat} {l : List Ob} {va : Option Addr} {vcap : Nat} {ra : Option Addr} {rcap : Nat} {zs : List Int} {wa : Option Addr} {wcap : Nat} {ws : List (Int × Int)} {da : Option Addr} {dcap : Nat} {ds : List (Int × Int)} {B1 B2 : Nat}
   (ob : OwnB W (m + 1) (.slice va l.length vcap) l) (rs : OwnRs W (m + 1) l) (rr : OwnL W N (.slice ra zs.length rcap) zs) (ow : OwnW W B1 (.slice wa ws.length wcap) ws) (od : OwnW W B2 (.slice da ds.length dcap) ds) : HpIn W ⟨va, vcap, l, ra, rcap, zs, wa, wcap, ws, da, dcap, ds⟩ := by
 refine ⟨?_, ?_, ?_, ?_⟩
 · obtain ⟨a, cap, e, _, hs⟩ := ob.form
   simp only [Value.slice.injEq] at e
   obtain ⟨rfl, _⟩ := e
   exact hs (fun i hi => rs.seg i hi)
 · obtain ⟨a, cap, e, hs, _⟩ := rr.form
   simp only [Value.slice.injEq] at e
   obtain ⟨rfl, _⟩ := e
   exact hs
 · obtain ⟨a, cap, e, hs, _⟩ := ow.form
   simp only [Value.slice.injEq] at e
   obtain ⟨rfl, _⟩ := e
   exact hs
 · obtain ⟨a, cap, e, hs, _⟩ := od.form
   simp only [Value.slice.injEq] at e
   obtain ⟨rfl, _⟩ := e
   exact hs
theorem OwnRs.cap {w : World} {base : Nat} {l : List Ob} (h : OwnRs w base l) (i : Nat) (hi : i < l.length) : l[i].r.length ≤ l[i].rcap := by
 obtain ⟨a, cap, e, _, h1, _⟩ := (h.own i hi).form
 simp only [Ob.rv, Value.slice.injEq] at e
 omega
def Hp.nil : Hp := ⟨none, 0, [], none, 0, [], none, 0, [], none, 0, []⟩
theorem Hp.nil_ok : OkC Hp.nil := ⟨by simp [Hp.nil], by simp [Hp.nil], by simp [Hp.nil], fun i hi => by simp [Hp.nil] at hi, fun z hz => by simp [Hp.nil] at hz, fun p hp => by simp [Hp.nil] at hp, fun p hp => by simp [Hp.nil] at hp⟩
theorem Hp.nil_in (w : World) : HpIn w Hp.nil := ⟨⟨fun hm => by simp [Hp.nil] at hm, fun i hi => by simp [Hp.nil] at hi⟩, fun hm => by simp [Hp.nil] at hm, fun hm => by simp [Hp.nil] at hm, fun hm => by simp [Hp.nil] at hm⟩
theorem OkC.of_p {g h : Hp} (e : g.p = h.p) (c : OkC h) : OkC g := okC_of (by rw [e]; exact okC_ok c)
structure CoG (w k4 : World) (m : Nat) (g : Hp) (xa : Option Addr) (X : List Int) : Prop where
 hm : k4.heap.size = m + 1
 bg : Blk k4 m [Value.slice g.oa g.os.length g.ocap, Value.slice g.ra g.rs.length g.rcap, Value.slice g.wa g.ws.length g.wcap, Value.slice g.da g.ds.length g.dcap] 27
 br : Blk k4 (w.heap.size + 1) [Value.slice none 0 0, Value.slice none 0 0, Value.slice none 0 0, Value.slice none 0 0] 27
 be : Below w.heap.size w k4
 gi : HpIn k4 g
 gk : OkC g
 kn : SegI k4 xa X
 pl : Places g.os.length X
 sz : w.heap.size + 1 + 1 < k4.heap.size
def stepS (os : List (Int × ByteArray × List Int)) (s : List (Int × Int) × List (Int × Int) × List Int) : List (Int × Int) × List (Int × Int) × List Int :=
 (withoutL s.1 (toldL s.1 s.2.2), s.2.1 ++ toldL s.1 s.2.2, traceF os (s.2.1 ++ toldL s.1 s.2.2) 61 0 ((toldL s.1 s.2.2).foldl (fun K p => put K p.2) s.2.2))
def itS (os : List (Int × ByteArray × List Int)) : Nat → List (Int × Int) × List (Int × Int) × List Int → List (Int × Int) × List (Int × Int) × List Int
 | 0, s => s
 | n + 1, s => stepS os (itS os n s)
set_option maxHeartbeats 3200000 in
set_option maxRecDepth 100000 in
theorem l3Tell_exact (h : Hp) (w : World) (hh : HpIn w h) (c : OkC h) (hcap : ∀ (i : Nat) (hi : i < h.os.length), h.os[i].r.length ≤ h.os[i].rcap) :
   Calls Cut.prog 34 #[h.v] w fun e w' => ∃ (y : Hp) (v : Value) (X : List Int), e = .returned (.tuple #[y.v, v]) ∧ y.os = h.os ∧ y.rs = h.rs ∧ OkC y ∧ HpIn w' y ∧ OwnL w' w.heap.size v X ∧ Places h.os.length X ∧ Below w.heap.size w w' ∧ X = traceF (h.os.map Ob.p) y.ds 61 0 (putAll [] h.rs) ∧ ∃ (n : Nat) (K : List Int), itS (h.os.map Ob.p) n (h.ws, h.ds, traceF (h.os.map Ob.p) h.ds 61 0 (putAll [] h.rs)) = (y.ws, y.ds, K) ∧ toldL y.ws K = [] := by
 obtain ⟨i0, hi, hz0, hz1, hz2⟩ := info_parts info_watch
 have hB0 : Below w.heap.size w ((w.alloc (Obj.cells #[Value.slice h.oa h.os.length h.ocap, Value.slice h.ra h.rs.length h.rcap, Value.slice h.wa h.ws.length h.wcap, Value.slice h.da h.ds.length h.dcap] 27)).alloc (Obj.cells #[Value.slice none 0 0, Value.slice none 0 0, Value.slice none 0 0, Value.slice none 0 0] 27)) := ((Below.refl _ _).alloc (Nat.le_refl _) _).alloc (by simp) _
 have hK0 := (Blk.new w [Value.slice h.oa h.os.length h.ocap, Value.slice h.ra h.rs.length h.rcap, Value.slice h.wa h.ws.length h.wcap, Value.slice h.da h.ds.length h.dcap] 27).alloc (Obj.cells #[Value.slice none 0 0, Value.slice none 0 0, Value.slice none 0 0, Value.slice none 0 0] 27)
 have hR0 : Blk ((w.alloc (Obj.cells #[Value.slice h.oa h.os.length h.ocap, Value.slice h.ra h.rs.length h.rcap, Value.slice h.wa h.ws.length h.wcap, Value.slice h.da h.ds.length h.dcap] 27)).alloc (Obj.cells #[Value.slice none 0 0, Value.slice none 0 0, Value.slice none 0 0, Value.slice none 0 0] 27)) (w.heap.size + 1) [Value.slice none 0 0, Value.slice none 0 0, Value.slice none 0 0, Value.slice none 0 0] 27 := by
   have := Blk.new (w.alloc (Obj.cells #[Value.slice h.oa h.os.length h.ocap, Value.slice h.ra h.rs.length h.rcap, Value.slice h.wa h.ws.length h.wcap, Value.slice h.da h.ds.length h.dcap] 27)) [Value.slice none 0 0, Value.slice none 0 0, Value.slice none 0 0, Value.slice none 0 0] 27
   rw [World.size_alloc] at this
   exact this
 have htr : Tr h := okP_tr (okC_ok c) c.small hcap
 have c1 := l2Reach_any h _ (hh.below hB0 (Nat.le_refl _)) c.small htr (fun z hz => (c.ro z hz).2)
 go_enter (Cut.func_of Tryz.func34 rfl), Tryz.ntmps34
 simp only [Hp.v] at c1 ⊢
 go_wp2_with fail
 refine c1.mono ?_
 rintro e w1 ⟨v1, rfl, hk1, hp1, hb1⟩
 have hB1 := hB0.trans (hb1.mono hB0.size)
 have T0 : TlIn w h w1 v1 _ h.wa h.wcap h.ws h.da h.dcap h.ds := ⟨hK0.step hb1, hR0.step hb1, hB1, hh.below hB1 (Nat.le_refl _), c, hk1.base hB0.size, hp1, by
   cases q : v1.ownBlock with
   | none => exact HpAv.none _
   | some k => exact hh.av (Nat.le_trans hB0.size (hk1.lt k q).1), hh.av (Nat.le_refl _), hh.av (by omega)⟩
 generalize hK1 : traceF (h.os.map Ob.p) h.ds 61 0 (putAll [] h.rs) = K1 at T0
 have HK1 : Hid (traceF (h.os.map Ob.p) h.ds 61 0 (putAll [] h.rs) = K1) := hK1
 clear hK1
 clear c1 hB0 hK0 hR0 hk1 hp1 hb1 hB1 htr
 go_wp2
 go_loopw [4, 5, 6] (fun v _ _ wr => ∃ (K : List Int) (wa : Option Addr) (wcap : Nat) (ws : List (Int × Int)) (da : Option Addr) (dcap : Nat) (ds : List (Int × Int)), TlIn w h wr v K wa wcap ws da dcap ds ∧ ∃ n, itS (h.os.map Ob.p) n (h.ws, h.ds, K1) = (ws, ds, K)) (fun _ _ _ wr => (match wr.cell? ⟨w.heap.size, 2, none⟩ with | some (.slice _ n _) => n | _ => 0))
 case atStart => exact ⟨_, _, _, _, _, _, _, T0, 0, rfl⟩
 case round =>
   obtain ⟨K, wa, wcap, ws, da, dcap, ds, t, n, hn⟩ := hrel
   have HN : Hid (itS (h.os.map Ob.p) n (h.ws, h.ds, K1) = (ws, ds, K)) := hn
   clear hn
   clear T0
   obtain ⟨x0, x1, x2, x3⟩ := cells4'' t.bh
   obtain ⟨xa, xcap, rfl, sx, -⟩ := t.kn.form
   have hKl := t.pl.len
   have hn60 := c.n60
   have c2 := l3Told_any { h with wa := wa, wcap := wcap, ws := ws, da := da, dcap := dcap, ds := ds } xa xcap K wr t.isIn.sw (by have := t.ok.w20; simp only at this ⊢; omega) sx (by unfold maxLen; omega)
   simp only [Hp.v] at c2
   have hw20 := t.ok.w20
   simp only at hw20
   go_wp2_with fail
   refine c2.mono ?_
   rintro e w2 ⟨tv, rfl, ot, hb2⟩
   obtain ⟨ta, tcap, rfl, st, -⟩ := ot.form
   have hwrs := t.be.size
   have t2 := t.step hb2
   have hTL : (toldL ws K).length ≤ ws.length := List.length_filter_le _ _
   have HMS : Hid ((match wr.cell? ⟨w.heap.size, 2, none⟩ with | some (.slice _ n _) => n | _ => 0) = ws.length) := by show _ = _; rw [x2]
   clear c2 x0 x1 x2 x3 sx
   obtain ⟨x0, x1, x2, x3⟩ := cells4'' t2.bh
   have HWT : Hid ((withoutL ws (toldL ws K)).length + (toldL ws K).length = ws.length) := without_told ws K
   have HTM : Hid (∀ p ∈ toldL ws K, p ∈ ws) := fun p hp => (told_mem.1 hp).1
   have HZT : Hid (∀ p ∈ toldL ws K, p.2 < (h.os.length : Int)) := fun p hp => (okP_watch (h := { h with wa := wa, wcap := wcap, ws := ws, da := da, dcap := dcap, ds := ds }) t.ok.wo p ((told_mem.1 hp).1)).2.2
   generalize hTS : toldL ws K = ts at *
   have HTS : Hid (toldL ws K = ts) := hTS
   clear hTS
   by_cases h0 : ts.length = 0
   · have htr : Tr { h with wa := wa, wcap := wcap, ws := ws, da := da, dcap := dcap, ds := ds } := t2.tr hcap
     have hdr : Below w2.heap.size w2 w2.drew := (Below.refl _ _).drew
     have t2d := t2.step hdr
     have c3 := l2Reach_any { h with wa := wa, wcap := wcap, ws := ws, da := da, dcap := dcap, ds := ds } w2.drew t2d.isIn t2d.ok.small htr (fun z hz => (c.ro z hz).2)
     simp only [Hp.v] at c3
     have HB5 : Hid (∀ w6, Below w2.drew.heap.size w2.drew w6 → (fun (W' : World) => W'.cell? ⟨w.heap.size, 0, none⟩ = some (.slice h.oa h.os.length h.ocap) ∧ W'.cell? ⟨w.heap.size, 1, none⟩ = some (.slice h.ra h.rs.length h.rcap) ∧ W'.cell? ⟨w.heap.size, 2, none⟩ = some (.slice wa ws.length wcap) ∧ W'.cell? ⟨w.heap.size, 3, none⟩ = some (.slice da ds.length dcap)) w6 ∧ TlIn w h w6 _ K wa wcap ws da dcap ds) := fun w6 hb6 => ⟨cells4'' (t2d.step hb6).bh, t2d.step hb6⟩
     have HS7 : Hid (∀ w6 : World, (fun (W' : World) => W'.cell? ⟨w.heap.size, 0, none⟩ = some (.slice h.oa h.os.length h.ocap) ∧ W'.cell? ⟨w.heap.size, 1, none⟩ = some (.slice h.ra h.rs.length h.rcap) ∧ W'.cell? ⟨w.heap.size, 2, none⟩ = some (.slice wa ws.length wcap) ∧ W'.cell? ⟨w.heap.size, 3, none⟩ = some (.slice da ds.length dcap)) w6 → (fun (W' : World) => W'.cell? ⟨w.heap.size, 0, none⟩ = some (.slice h.oa h.os.length h.ocap) ∧ W'.cell? ⟨w.heap.size, 1, none⟩ = some (.slice h.ra h.rs.length h.rcap) ∧ W'.cell? ⟨w.heap.size, 2, none⟩ = some (.slice wa ws.length wcap) ∧ W'.cell? ⟨w.heap.size, 3, none⟩ = some (.slice da ds.length dcap)) ((((w6.setCell ⟨w.heap.size + 1, 0, none⟩ (.slice h.oa h.os.length h.ocap)).setCell ⟨w.heap.size + 1, 1, none⟩ (.slice h.ra h.rs.length h.rcap)).setCell ⟨w.heap.size + 1, 2, none⟩ (.slice wa ws.length wcap)).setCell ⟨w.heap.size + 1, 3, none⟩ (.slice da ds.length dcap))) := fun w6 hs => by
       have sc : ∀ (p : Addr) (u : Value), p.block ≠ w.heap.size + 1 → w6.cell? p = some u → ((((w6.setCell ⟨w.heap.size + 1, 0, none⟩ (.slice h.oa h.os.length h.ocap)).setCell ⟨w.heap.size + 1, 1, none⟩ (.slice h.ra h.rs.length h.rcap)).setCell ⟨w.heap.size + 1, 2, none⟩ (.slice wa ws.length wcap)).setCell ⟨w.heap.size + 1, 3, none⟩ (.slice da ds.length dcap)).cell? p = some u := fun p u hp hc => by
         rw [World.cell?_of_block (Below.heap_setCell _ _ _ _ hp), World.cell?_of_block (Below.heap_setCell _ _ _ _ hp), World.cell?_of_block (Below.heap_setCell _ _ _ _ hp), World.cell?_of_block (Below.heap_setCell _ _ _ _ hp)]; exact hc
       have p1 : w.heap.size ≠ w.heap.size + 1 := by omega
       exact ⟨sc _ _ p1 hs.1, sc _ _ p1 hs.2.1, sc _ _ p1 hs.2.2.1, sc _ _ p1 hs.2.2.2⟩
     have hlt2 := t2.be.size
     clear t t2 st ot hb2 hdr
     go_wp2_with fail
     go_region_held3 (fun (W' : World) => W'.cell? ⟨w.heap.size, 0, none⟩ = some (.slice h.oa h.os.length h.ocap) ∧ W'.cell? ⟨w.heap.size, 1, none⟩ = some (.slice h.ra h.rs.length h.rcap) ∧ W'.cell? ⟨w.heap.size, 2, none⟩ = some (.slice wa ws.length wcap) ∧ W'.cell? ⟨w.heap.size, 3, none⟩ = some (.slice da ds.length dcap)) (first | (refine ⟨?_, ?_, ?_, ?_⟩ <;> with_reducible assumption) | go_keep)
       (first
         | (go_at_call 58; refine c3.mono ?_; rintro e w6 ⟨v6, rfl, hk6, hp6, hb6⟩; obtain ⟨⟨m0, m1, m2, m3⟩, t6⟩ := HB5.out w6 hb6; obtain ⟨u0, u1, u2, u3⟩ := cells4'' t6.br; obtain ⟨f0, f1, f2, f3⟩ := free4 t6.br; obtain ⟨d0, d1, d2, d3⟩ := HS7.out w6 ⟨m0, m1, m2, m3⟩))
     all_goals
       obtain ⟨kq, bq⟩ := put4 t6.br (.slice h.oa h.os.length h.ocap) (.slice h.ra h.rs.length h.rcap) (.slice wa ws.length wcap) (.slice da ds.length dcap)
       obtain ⟨z0, z1, z2, z3⟩ := cells4'' bq
       have hbE := below4 t6.be (C := w.heap.size + 1) (by omega) (.slice h.oa h.os.length h.ocap) (.slice h.ra h.rs.length h.rcap) (.slice wa ws.length wcap) (.slice da ds.length dcap)
       have hinE := in4 t6.isIn t6.ar (.slice h.oa h.os.length h.ocap) (.slice h.ra h.rs.length h.rcap) (.slice wa ws.length wcap) (.slice da ds.length dcap)
       have hkE : OwnL ((((w6.setCell ⟨w.heap.size + 1, 0, none⟩ (.slice h.oa h.os.length h.ocap)).setCell ⟨w.heap.size + 1, 1, none⟩ (.slice h.ra h.rs.length h.rcap)).setCell ⟨w.heap.size + 1, 2, none⟩ (.slice wa ws.length wcap)).setCell ⟨w.heap.size + 1, 3, none⟩ (.slice da ds.length dcap)) w.heap.size v6 _ := row_keep (hk6.base (C := w.heap.size) t2d.be.size) kq (by decide)
       have cE := t6.ok
       clear kq bq t6 c3 HB5 HS7 t2d
       go_wp2
       refine bodyPost_ret (v := .tuple #[Hp.v { h with wa := wa, wcap := wcap, ws := ws, da := da, dcap := dcap, ds := ds }, v6]) ?_ rfl ⟨{ h with wa := wa, wcap := wcap, ws := ws, da := da, dcap := dcap, ds := ds }, v6, _, rfl, rfl, rfl, cE, hinE, hkE, hp6, hbE, rfl, n, K, by rw [HK1.out]; exact HN.out, by rw [HTS.out]; exact List.eq_nil_of_length_eq_zero h0⟩
       simp [results, Tryz.results34, go_sem, z0, z1, z2, z3, Hp.v]
   · have hne : ((ts.length : Int) == 0) = false := by rw [beq_zero]; exact decide_eq_false h0
     have c4 := l3Without_any wa wcap ws ta tcap ts w2 t2.isIn.sw (by omega) st (by omega)
     clear t
     go_wp2_with fail
     refine c4.mono ?_
     rintro e w3 ⟨nv, rfl, hn, hb3⟩
     obtain ⟨na, nc, rfl, -⟩ := hn.form
     have hNL : (withoutL ws ts).length ≤ ws.length := List.length_filter_le _ _
     have HNM : Hid (∀ p ∈ withoutL ws ts, p ∈ ws) := fun p hp => (List.mem_filter.1 hp).1
     generalize hNS : withoutL ws ts = ns at *
     have HNS : Hid (withoutL ws ts = ns) := hNS
     clear hNS c4
     have bh3 := t2.bh.step hb3
     have t3 := t2.step hb3
     have f2 := bh3.free 2
     have f3 := bh3.free 3
     clear x0 x1 x2 x3
     obtain ⟨x0, x1, x2, x3⟩ := cells4'' bh3
     have hsz3 : (w3.setCell ⟨w.heap.size, 2, none⟩ (.slice na ns.length nc)).heap.size = w3.heap.size := by simp [World.setCell]
     have HSZ3 : Hid ((w3.setCell ⟨w.heap.size, 2, none⟩ (.slice na ns.length nc)).heap.size = w3.heap.size) := hsz3
     have kS : KeepT 27 w3 (w3.setCell ⟨w.heap.size, 2, none⟩ (.slice na ns.length nc)) := KeepT.set bh3 2 _
     have hsd3 : SegW (w3.setCell ⟨w.heap.size, 2, none⟩ (.slice na ns.length nc)) da ds := (t3.isIn.grown (gb_set w3 w.heap.size 2 (.slice na ns.length nc)) t3.ab).sd
     have ot3 : OwnW (w3.setCell ⟨w.heap.size, 2, none⟩ (.slice na ns.length nc)) wr.heap.size (.slice ta ts.length tcap) ts := row_keep (ot.below hb3 (Nat.le_refl _)) kS (by decide)
     have bh3s := bh3.store 2 (.slice na ns.length nc)
     have hlt3 := bh3.lt
     have hne3 : ¬ w.heap.size = w3.heap.size := by omega
     have hA4 : Below w3.heap.size (w3.setCell ⟨w.heap.size, 2, none⟩ (.slice na ns.length nc)) ((w3.setCell ⟨w.heap.size, 2, none⟩ (.slice na ns.length nc)).alloc (Obj.cells #[] 40)) := (Below.refl _ _).alloc (by rw [hsz3]; exact Nat.le_refl _) _
     have hO4 : ((w3.setCell ⟨w.heap.size, 2, none⟩ (.slice na ns.length nc)).alloc (Obj.cells #[] 40)).ownsRow w3.heap.size 40 2 (.slice (some ⟨w3.heap.size, 0, none⟩) 0 0) 0 [] := by
       have := World.ownsRow_lit (e := 40) (size := 2) (base := w3.heap.size) (w3.setCell ⟨w.heap.size, 2, none⟩ (.slice na ns.length nc)) #[] 0 (by rw [hsz3]; exact Nat.le_refl _) (Nat.zero_le _) rfl
       rw [hsz3] at this
       exact this
     have hsrc1 := (hsd3.below hA4 (by rw [hsz3]; exact Nat.le_refl _)).src
     have hsz4 : w3.heap.size ≤ ((w3.setCell ⟨w.heap.size, 2, none⟩ (.slice na ns.length nc)).alloc (Obj.cells #[] 40)).heap.size := by rw [World.size_alloc, hsz3]; omega
     clear hsz3
     go_wp2_with (at_builtin; refine wpList_append_src _ rfl _ _ 25 rfl w3.heap.size 40 i0 _ 2 16 ((Cut.under_eq 25).trans Tryz.underlying25) hi hz0 hz1 hz2 rfl (by decide) _ 0 [] rfl hO4 da ds.length dcap (ds.flatMap wc) rfl (flat_len wc 2 (fun _ => rfl) _) hsrc1 (watch_one _) ?c1 ?c2 hsz4 ?_)
     case c1 => unfold maxLen; omega
     case c2 => omega
     intro v5 w5 hown5 hgr5 _
     have hb5 := hA4.trans (gb_below hgr5 hsz4 (fun q e => (hO4.lt q e).1))
     have hst3 : SegW (w3.setCell ⟨w.heap.size, 2, none⟩ (.slice na ns.length nc)) ta ts := by
       obtain ⟨a, cap, q, hs, _⟩ := ot3.form
       simp only [Value.slice.injEq] at q
       rw [q.1]; exact hs
     have hsrc2 := (hst3.below hb5 (Nat.le_of_eq HSZ3.out)).src
     have hsz5 := hb5.size
     rw [HSZ3.out] at hsz5
     have hc5 := (hb5.cell (p := ⟨w.heap.size, 3, none⟩) hlt3).trans (bh3s.cell 3)
     have hf5 := (hb5.frozen (p := ⟨w.heap.size, 3, none⟩) hlt3).trans (bh3s.free 3)
     clear hO4 hgr5 hsrc1
     go_wp2_with (at_builtin; refine wpList_append_src _ rfl _ _ 25 rfl w3.heap.size 40 i0 _ 2 16 ((Cut.under_eq 25).trans Tryz.underlying25) hi hz0 hz1 hz2 rfl (by decide) _ _ _ rfl hown5 ta ts.length tcap (ts.flatMap wc) rfl (flat_len wc 2 (fun _ => rfl) _) hsrc2 (watch_one _) ?c1 ?c2 hsz5 ?_)
     case c1 => unfold maxLen; omega
     case c2 => omega
     intro v6 w6 hown6 hgr6 _
     have hb6 := hb5.trans (gb_below hgr6 hsz5 (fun q e => (hown5.lt q e).1))
     have he6 : OwnW w6 w3.heap.size v6 (ds ++ ts) := by
       unfold OwnW
       rw [List.length_append, List.flatMap_append]
       simpa using hown6
     obtain ⟨ea, ec, rfl, -⟩ := he6.form
     obtain ⟨t7, k7⟩ := t2.told hb3 hn hb6 (he6.base hb3.size) HNM.out (fun p hp => by
       rcases List.mem_append.1 hp with q | q
       · exact Or.inr q
       · exact Or.inl (HTM.out p q)) (by have := HWT.out; rw [List.length_append]; omega)
     have hc6 := (hb6.cell (p := ⟨w.heap.size, 3, none⟩) hlt3).trans (bh3s.cell 3)
     have hf6 := (hb6.frozen (p := ⟨w.heap.size, 3, none⟩) hlt3).trans (bh3s.free 3)
     simp only [List.set_cons_succ, List.set_cons_zero, List.getElem?_cons_succ, List.getElem?_cons_zero] at hc6
     have ot7 : OwnW (w6.setCell ⟨w.heap.size, 3, none⟩ (.slice ea (ds ++ ts).length ec)) wr.heap.size (.slice ta ts.length tcap) ts := row_keep ot k7 (by decide)
     have HEL : Hid ((ds ++ ts).length = ds.length + ts.length) := List.length_append
     generalize hES : ds ++ ts = es at *
     have HES : Hid (ds ++ ts = es) := hES
     clear hES hown5 hown6 hgr6 hsrc2 hb5 hb6 hc5 hf5 hA4 hsd3 ot3 kS bh3s hst3 he6 t3 t2 bh3 ot st hn hb3 x0 x1 x2 x3 f2 f3
     go_wp2
     go_loopw [4, 6] (fun v i wq => ∃ (j : Nat) (K' : List Int), j ≤ ts.length ∧ i = .int .i64 j ∧ TlIn w h wq v K' na nc ns ea ec es ∧ OwnW wq w.heap.size (.slice ta ts.length tcap) ts ∧ (ts.take j).foldl (fun K p => put K p.2) K = K') (fun _ i _ => ts.length - (intOf i).toNat)
     case atStart => exact ⟨0, K, Nat.zero_le _, rfl, t7, OwnW.base ot7 hwrs, rfl⟩
     case round =>
       obtain ⟨j, K', hj, rfl, t8, ot8, hfk⟩ := hrel
       have HFK : Hid ((ts.take j).foldl (fun K p => put K p.2) K = K') := hfk
       clear hfk
       clear t7 ot7 k7 hc6 hf6
       have hKl' := t8.pl.len
       obtain ⟨xa', xcap', rfl, -⟩ := t8.kn.form
       by_cases hjt : j < ts.length
       · obtain ⟨a9, cap9, q9, s9, -⟩ := ot8.form
         simp only [Value.slice.injEq] at q9
         obtain ⟨q9a, -⟩ := q9
         rw [← q9a] at s9
         obtain ⟨b5, o5, rfl, hb5, e1, e2⟩ := s9.get hjt
         have hz := HZT.out ts[j] (List.getElem_mem hjt)
         have hj1 : (j : Int) < (ts.length : Int) := by omega
         have c5 := l2Put_any w.heap.size _ K' ts[j].2 wr t8.kn t8.be.size (by omega)
         have HFK2 : Hid ((ts.take (j + 1)).foldl (fun K p => put K p.2) K = put K' ts[j].2) := by
           show _ = _
           rw [List.take_succ_eq_append_getElem hjt, List.foldl_append, HFK.out]; rfl
         clear q9a s9 e1
         go_wp2_with fail
         refine c5.mono ?_
         rintro e w9 ⟨v9, rfl, hk9, hg9, hat9⟩
         have t9 := t8.grow hg9 hk9 (t8.pl.put hz) hat9
         have ot9 : OwnW w9 w.heap.size _ ts := row_kept ot8 t8.kn hg9 (by decide)
         clear c5 hk9 hg9 hat9 e2 t8 ot8
         go_wp2
         go_roundw
         case rel => exact ⟨j + 1, _, by omega, by go_num, t9, ot9, HFK2.out⟩
         case measure => simp [intOf]; omega
       · have HST : Hid (itS (h.os.map Ob.p) (n + 1) (h.ws, h.ds, K1) = (ns, es, traceF (h.os.map Ob.p) es 61 0 K')) := by
           show _ = _
           have e1 : ts.take j = ts := List.take_of_length_le (by omega)
           have e2 := HFK.out
           rw [e1] at e2
           unfold itS
           rw [HN.out]
           unfold stepS
           dsimp only
           rw [HTS.out, HNS.out, HES.out, e2]
         have c6 := l2Trace_any { h with wa := na, wcap := nc, ws := ns, da := ea, dcap := ec, ds := es } w.heap.size 61 _ K' wr t8.isIn t8.ok.small (t8.tr hcap) t8.kn t8.be.size t8.av t8.pl (by simp only; omega)
         simp only [Hp.v] at c6
         obtain ⟨x0, x1, x2, x3⟩ := cells4'' t8.bh
         go_wp2_with fail
         refine c6.mono ?_
         rintro e w9 ⟨v9, rfl, hk9, hp9, hg9, hat9⟩
         have t9 := t8.grow hg9 hk9 hp9 hat9
         have x2' := (cells4'' t9.bh).2.2.1
         have HLT : Hid (ns.length < ws.length) := by
           show _ < _
           have := HWT.out
           omega
         have HM2 : Hid ((match w9.cell? ⟨w.heap.size, 2, none⟩ with | some (.slice _ n _) => n | _ => 0) = ns.length) := by show _ = _; rw [x2']
         clear c6 hk9 hp9 hg9 hat9 t8 ot8 x0 x1 x2 x3 x2'
         go_wp2
         go_roundw
         case rel => exact ⟨_, _, _, _, _, _, _, t9, n + 1, HST.out⟩
         case measure => rw [HM2.out, HMS.out]; exact HLT.out
end Go.Proofs.YtcpnkpogebjieaaGreat
