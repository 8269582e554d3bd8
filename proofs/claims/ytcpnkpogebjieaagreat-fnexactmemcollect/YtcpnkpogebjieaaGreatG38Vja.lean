/- The specification's own MemCollect: what its loops hold, with where each has gone. -/
import Derived.Test.YtcpnkpogebjieaaGreatG37Vi
namespace Go.Proofs.YtcpnkpogebjieaaGreat
open Go.RowKit
structure PcIx (mq : Value) (ms : List Int) (k4 : World) (m : Nat) (W : World) (l : List Ob) (vo : Value) (ps : List (Int × ByteArray × List Int)) : Prop where
 mp : l.map Ob.p = ps
 bx : Blk W (m + 1) [vo, .slice none 0 0, .slice none 0 0, .slice none 0 0] 27
 ob : OwnB W (m + 1) vo l
 rs : OwnRs W (m + 1) l
 be : Below (m + 1) k4 W
 mv : OwnL W (m + 1) mq ms
theorem PcIx.step {mq : Value} {ms : List Int} {k4 : World} {m : Nat} {W W' : World} {l : List Ob} {vo : Value} {ps : List (Int × ByteArray × List Int)} (c : PcIx mq ms k4 m W l vo ps) (hb : Below W.heap.size W W') : PcIx mq ms k4 m W' l vo ps :=
 ⟨c.mp, c.bx.step hb, c.ob.below hb (Nat.le_refl _), c.rs.below hb (Nat.le_refl _), c.be.trans (hb.mono (Nat.le_trans (Nat.le_of_lt c.bx.lt) (Nat.le_refl _))), c.mv.below hb (Nat.le_refl _)⟩
structure RcIx (mq : Value) (ms : List Int) (k4 : World) (m : Nat) (W : World) (l : List Ob) (vo : Value) (ps : List (Int × ByteArray × List Int)) (M mo : Nat) (o : Ob) (X : List Int) (a : Option Addr) (cc k : Nat) : Prop where
 pc : PcIx mq ms k4 m W l vo ps
 bo : Blk W mo [Value.int .i64 o.k, Value.string o.t, Value.slice a o.r.length cc] 37
 ro : OwnL W M (.slice a o.r.length cc) (mixR (wh X) o.r k)
 lo : ∀ i (hi : i < l.length) q, l[i].rv.ownBlock = some q → q < M
 hM : m + 1 ≤ M
 ml : ∀ q, mq.ownBlock = some q → q < M
theorem RcIx.step {mq : Value} {ms : List Int} {k4 : World} {m : Nat} {W W' : World} {l : List Ob} {vo : Value} {ps : List (Int × ByteArray × List Int)} {M mo : Nat} {o : Ob} {X : List Int} {a : Option Addr} {cc k : Nat} (c : RcIx mq ms k4 m W l vo ps M mo o X a cc k) (hb : Below W.heap.size W W') : RcIx mq ms k4 m W' l vo ps M mo o X a cc k :=
 ⟨c.pc.step hb, c.bo.step hb, c.ro.below hb (Nat.le_refl _), c.lo, c.hM, c.ml⟩
theorem RcIx.set {mq : Value} {ms : List Int} {k4 : World} {m : Nat} {W : World} {l : List Ob} {vo : Value} {ps : List (Int × ByteArray × List Int)} {M mo : Nat} {o : Ob} {X : List Int} {g cc k : Nat} (c : RcIx mq ms k4 m W l vo ps M mo o X (some ⟨g, 0, none⟩) cc k) (hk : k < o.r.length) : RcIx mq ms k4 m (W.setCell ⟨g, k, none⟩ (.int .i64 (wh X o.r[k]))) l vo ps M mo o X (some ⟨g, 0, none⟩) cc (k + 1) := by
 have hg : M ≤ g := (c.ro.lt g rfl).1
 have hM := c.hM
 have n1 : m + 1 ≠ g := fun q => row_ne_blk c.ro c.pc.bx (by decide) (by rw [q]; rfl)
 have n2 : mo ≠ g := fun q => row_ne_blk c.ro c.bo (by decide) (by rw [q]; rfl)
 have n3 : vo.ownBlock ≠ some g := fun q => by
   rcases row_ne c.pc.ob c.ro (by decide) with e | e
   · rw [e] at q; cases q
   · exact e q
 refine ⟨⟨c.pc.mp, c.pc.bx.other _ _ n1, ownsRow_setCell_other c.pc.ob n3 _, ⟨fun i hi => ownsRow_setCell_other (c.pc.rs.own i hi) (fun q => ?_) _, c.pc.rs.inc⟩, c.pc.be.setCell (by dsimp only; omega) _, ownsRow_setCell_other c.pc.mv (fun q => by have := c.ml g q; omega) _⟩, c.bo.other _ _ n2, ?_, c.lo, c.hM, c.ml⟩
 · have := c.lo i hi g q
   omega
 · have := c.ro.set (mixR_len _ _ _ (Nat.le_of_lt hk)).symm (k := k) (wh X o.r[k])
   rw [mixR_set _ _ _ hk] at this
   exact this
theorem RcIx.next {mq : Value} {ms : List Int} {k4 : World} {m : Nat} {W w3 : World} {l : List Ob} {va : Option Addr} {vcap : Nat} {ps : List (Int × ByteArray × List Int)} {M mo : Nat} {o : Ob} {X : List Int} {a : Option Addr} {cc : Nat} (c : RcIx mq ms k4 m W l (.slice va l.length vcap) ps M mo o X a cc o.r.length)
   (q cap : Nat) (hown : w3.ownsRow (m + 1) 37 3 (.slice (some ⟨q, 0, none⟩) (l.length + 1) cap) (l.length + 1) (l.flatMap Ob.cs ++ [Value.int .i64 o.k, Value.string o.t, Value.slice a o.r.length cc])) (hg : (W.alloc (Obj.cells #[Value.int .i64 o.k, Value.string o.t, Value.slice a o.r.length cc] 37)).grownBy w3 (Value.slice va l.length vcap).ownBlock) :
   PcIx mq ms k4 m (w3.setCell ⟨m + 1, 0, none⟩ (.slice (some ⟨q, 0, none⟩) (l.length + 1) cap)) (l ++ [⟨o.k, o.t, a, cc, o.r.map (wh X)⟩]) (.slice (some ⟨q, 0, none⟩) (l.length + 1) cap) (ps ++ [objQ X o]) := by
 have hA : Below W.heap.size W (W.alloc (Obj.cells #[Value.int .i64 o.k, Value.string o.t, Value.slice a o.r.length cc] 37)) := al_below _ _
 have cA := c.step hA
 have hro := cA.ro
 rw [mixR_all] at hro
 have hrv : (⟨o.k, o.t, a, cc, o.r.map (wh X)⟩ : Ob).rv = .slice a o.r.length cc := by simp [Ob.rv]
 have bx3 := cA.pc.bx.grown hg (row_ne_blk cA.pc.ob cA.pc.bx (by decide))
 have hown' : OwnB w3 (m + 1) (.slice (some ⟨q, 0, none⟩) (l.length + 1) cap) (l ++ [⟨o.k, o.t, a, cc, o.r.map (wh X)⟩]) := by unfold OwnB; simpa [Ob.cs] using hown
 have rs3 := cA.pc.rs.grown cA.pc.ob (by decide) hg
 have ro3 : OwnL w3 M (.slice a o.r.length cc) (o.r.map (wh X)) := row_kept hro cA.pc.ob hg (by decide)
 have k3 : KeepT 27 w3 (w3.setCell ⟨m + 1, 0, none⟩ (.slice (some ⟨q, 0, none⟩) (l.length + 1) cap)) := KeepT.set bx3 0 _
 have hs : m + 1 ≤ (W.alloc (Obj.cells #[Value.int .i64 o.k, Value.string o.t, Value.slice a o.r.length cc] 37)).heap.size := Nat.le_of_lt cA.pc.bx.lt
 refine ⟨by rw [List.map_append, c.pc.mp]; rfl, bx3.store 0 _, row_keep hown' k3 (by decide), ?_, (cA.pc.be.trans (gb_below hg hs (fun k e => (cA.pc.ob.lt k e).1))).setCell (Nat.le_refl _) _, row_keep (row_kept cA.pc.mv cA.pc.ob hg (by decide)) k3 (by decide)⟩
 refine (rs3.snoc _ (by rw [hrv]; exact ro3.base c.hM) fun i hi x y hx hy => ?_).keep k3
 have h1 := c.lo i hi x hx
 rw [hrv] at hy
 have h2 := (ro3.lt y hy).1
 omega
structure DcIx (mq : Value) (ms : List Int) (k4 : World) (m : Nat) (W : World) (l : List Ob) (vo : Value) (N : Nat) (vr : Value) (zs : List Int) : Prop where
 bx : Blk W (m + 1) [vo, vr, .slice none 0 0, .slice none 0 0] 27
 ob : OwnB W (m + 1) vo l
 rs : OwnRs W (m + 1) l
 lo : ∀ i (hi : i < l.length) q, l[i].rv.ownBlock = some q → q < N
 rr : OwnL W N vr zs
 be : Below (m + 1) k4 W
 hN : m + 1 ≤ N
 sz : N ≤ W.heap.size
 mv : OwnL W (m + 1) mq ms
 ml : ∀ q, mq.ownBlock = some q → q < N
theorem DcIx.step {mq : Value} {ms : List Int} {k4 : World} {m : Nat} {W W' : World} {l : List Ob} {vo : Value} {N : Nat} {vr : Value} {zs : List Int} (c : DcIx mq ms k4 m W l vo N vr zs) (hb : Below W.heap.size W W') : DcIx mq ms k4 m W' l vo N vr zs :=
 ⟨c.bx.step hb, c.ob.below hb (Nat.le_refl _), c.rs.below hb (Nat.le_refl _), c.lo, c.rr.below hb (Nat.le_refl _), c.be.trans (hb.mono (Nat.le_trans c.hN c.sz)), c.hN, Nat.le_trans c.sz hb.size, c.mv.below hb (Nat.le_refl _), c.ml⟩
theorem DcIx.next {mq : Value} {ms : List Int} {k4 : World} {m : Nat} {W W' : World} {l : List Ob} {vo : Value} {N : Nat} {vr vr' : Value} {zs zs' : List Int} (c : DcIx mq ms k4 m W l vo N vr zs) (hg : W.grownBy W' vr.ownBlock) (hr : OwnL W' N vr' zs') : DcIx mq ms k4 m (W'.setCell ⟨m + 1, 1, none⟩ vr') l vo N vr' zs' ∧ W'.cell? ⟨m + 1, 1, none⟩ = some vr ∧ W'.frozen? ⟨m + 1, 1, none⟩ = false ∧ Below (m + 1) k4 W' := by
 have bx2 := c.bx.grown hg (row_ne_blk c.rr c.bx (by decide))
 have k3 : KeepT 27 W' (W'.setCell ⟨m + 1, 1, none⟩ vr') := KeepT.set bx2 1 _
 have hb := c.be.trans (gb_below hg (Nat.le_trans c.hN c.sz) (fun q e => Nat.le_trans c.hN (c.rr.lt q e).1))
 refine ⟨⟨bx2.store 1 _, row_keep (row_kept c.ob c.rr hg (by decide)) k3 (by decide), ⟨fun i hi => row_keep (World.ownsRow.kept (c.rs.own i hi) hg ?_) k3 (by decide), c.rs.inc⟩, c.lo, row_keep hr k3 (by decide), hb.setCell (Nat.le_refl _) _, c.hN, ?_, row_keep (World.ownsRow.kept c.mv hg ?_) k3 (by decide), c.ml⟩, bx2.cell 1, bx2.free 1, hb⟩
 · cases q : l[i].rv.ownBlock with
   | none => exact Or.inl rfl
   | some x =>
     refine Or.inr fun e => ?_
     have h1 := c.lo i hi x q
     have h2 := (c.rr.lt x e.symm).1
     omega
 · have := hg.size
   have := c.sz
   simp [World.setCell]
   omega
 · cases q : mq.ownBlock with
   | none => exact Or.inl rfl
   | some x =>
     refine Or.inr fun e => ?_
     have h1 := c.ml x q
     have h2 := (c.rr.lt x e.symm).1
     omega
theorem whs_succ (X : List Int) (k : Nat) : whs X (k + 1) = whs X k ++ [pos X k] := by
 unfold whs
 rw [List.range_succ, List.map_append]
 rfl
end Go.Proofs.YtcpnkpogebjieaaGreat
