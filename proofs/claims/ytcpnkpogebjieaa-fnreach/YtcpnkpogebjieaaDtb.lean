/- An ok heap that is collected is ok. No Go function is walked here. -/
import Derived.Test.YtcpnkpogebjieaaDsToDta
namespace Go.Proofs.Ytcpnkpogebjieaa
open Go.RowKit

theorem pos_get {X : List Int} {x : Int} (h : 0 ≤ pos X x) : X[(pos X x).toNat]? = some x := by
  induction X with
  | nil => simp [pos] at h
  | cons z l ih =>
    unfold pos at h ⊢
    by_cases hz : z = x
    · simp [hz]
    · simp only [hz, if_false] at h ⊢
      by_cases hp : pos l x < 0
      · simp [hp] at h
      · simp only [hp, if_false]
        have h0 : 0 ≤ pos l x := by omega
        have e : (pos l x + 1).toNat = (pos l x).toNat + 1 := by omega
        rw [e, List.getElem?_cons_succ]
        exact ih h0
theorem wh_bd (X : List Int) (z : Int) : -1 ≤ wh X z ∧ wh X z < X.length := by
  unfold wh
  split
  · omega
  · exact pos_bd X z
theorem mov_mem {ws : List (Int × Int)} {X : List Int} {p : Int × Int} (h : p ∈ movL ws X) : ∃ q ∈ ws, 0 ≤ pos X q.1 ∧ 0 ≤ pos X q.2 ∧ p = (pos X q.1, pos X q.2) := by
  unfold movL at h
  obtain ⟨q, hq, rfl⟩ := List.mem_map.1 h
  rw [List.mem_filter, Bool.and_eq_true, decide_eq_true_eq, decide_eq_true_eq] at hq
  exact ⟨q, hq.1, hq.2.1, hq.2.2, rfl⟩
theorem mov_len (ws : List (Int × Int)) (X : List Int) : (movL ws X).length ≤ ws.length := by
  unfold movL; rw [List.length_map]; exact List.length_filter_le _ _
theorem OkC.collect {g : Hp} (c : OkC g) {X : List Int} (hp : Places g.os.length X) {l : List Ob} (hl : l.map Ob.p = (pick g.os X).map (objQ X)) (oa : Option Addr) (oc : Nat) (ra : Option Addr) (rc : Nat) (wa : Option Addr) (wc' : Nat) (da : Option Addr) (dc : Nat) : OkC ⟨oa, oc, l, ra, rc, g.rs.map (wh X), wa, wc', movL g.ws X, da, dc, movL g.ds X⟩ := by
  have hll : l.length = X.length := by
    have := congrArg List.length hl
    simpa [pick_len] using this
  have hXn := hp.len
  have n60 := c.n60
  have hat : ∀ i (hi : i < l.length) (hx : i < X.length), ∃ hz : X[i].toNat < g.os.length, l[i].p = objQ X g.os[X[i].toNat] := fun i hi hx => by
    have hr := hp.rng X[i] (List.getElem_mem hx)
    have hz : X[i].toNat < g.os.length := by omega
    refine ⟨hz, ?_⟩
    have h1 : (l.map Ob.p)[i]? = ((pick g.os X).map (objQ X))[i]? := by rw [hl]
    rw [List.getElem?_map, List.getElem?_map, List.getElem?_eq_getElem hi, List.getElem?_eq_getElem (by rw [pick_len]; exact hx)] at h1
    simp only [Option.map_some, Option.some.injEq] at h1
    rw [h1, pick_get (by rw [pick_len]; exact hx) hx hz]
  have hwt : ∀ (ws : List (Int × Int)), (∀ p ∈ ws, watchOk (g.os.map Ob.p) p = true) → ∀ p ∈ movL ws X, watchOk (l.map Ob.p) p = true := fun ws hw p hpm => by
    obtain ⟨q, hq, h1, h2, rfl⟩ := mov_mem hpm
    have hw' := hw q hq
    simp only [watchOk, inB, Bool.and_eq_true, decide_eq_true_eq, List.length_map] at hw' ⊢
    have b1 := pos_bd X q.1
    have b2 := pos_bd X q.2
    have hi : (pos X q.1).toNat < X.length := by omega
    have hg := pos_get h1
    rw [List.getElem?_eq_getElem hi] at hg
    simp only [Option.some.injEq] at hg
    obtain ⟨hz, he⟩ := hat (pos X q.1).toNat (by omega) hi
    refine ⟨⟨⟨h1, by omega⟩, h2, by omega⟩, ?_⟩
    rw [List.getElem?_map, List.getElem?_eq_getElem (by omega), Option.map_some, Option.map_some, he]
    have h4 := hw'.2
    have hq0 : q.1.toNat < g.os.length := by have := hw'.1.1; omega
    rw [List.getElem?_map, List.getElem?_eq_getElem hq0, Option.map_some, Option.map_some] at h4
    simp only [objQ, Ob.p, Option.some.injEq] at h4 ⊢
    simp only [hg]
    exact h4
  refine ⟨by simp only; omega, by simpa using c.r8, ?_, fun i hi => ?_, fun z hz => ?_, hwt g.ws c.wo, hwt g.ds c.dd⟩
  · have := mov_len g.ws X
    have := mov_len g.ds X
    have := c.w20
    simp only; omega
  · simp only at hi ⊢
    obtain ⟨hz, he⟩ := hat i hi (by omega)
    rw [he]
    have h1 := c.ob _ hz
    simp only [objOk, Ob.p, objQ, Bool.and_eq_true, List.length_map] at h1 ⊢
    refine ⟨?_, h1.2⟩
    unfold refsOk
    rw [List.all_eq_true]
    intro y hy
    obtain ⟨x, _, rfl⟩ := List.mem_map.1 hy
    have := wh_bd X x
    simp only [inB, Bool.and_eq_true, decide_eq_true_eq]
    omega
  · simp only at hz ⊢
    obtain ⟨x, _, rfl⟩ := List.mem_map.1 hz
    have := wh_bd X x
    omega

/-- The new roots by now, behind the new objects. -/
structure DcIn (k4 : World) (m : Nat) (W : World) (l : List Ob) (vo : Value) (N : Nat) (vr : Value) (zs : List Int) : Prop where
  bx : Blk W (m + 1) [vo, vr, .slice none 0 0, .slice none 0 0] 27
  ob : OwnB W (m + 1) vo l
  rs : OwnRs W (m + 1) l
  lo : ∀ i (hi : i < l.length) q, l[i].rv.ownBlock = some q → q < N
  rr : OwnL W N vr zs
  be : Below (m + 1) k4 W
  hN : m + 1 ≤ N
  sz : N ≤ W.heap.size
theorem DcIn.step {k4 : World} {m : Nat} {W W' : World} {l : List Ob} {vo : Value} {N : Nat} {vr : Value} {zs : List Int} (c : DcIn k4 m W l vo N vr zs) (hb : Below W.heap.size W W') : DcIn k4 m W' l vo N vr zs :=
  ⟨c.bx.step hb, c.ob.below hb (Nat.le_refl _), c.rs.below hb (Nat.le_refl _), c.lo, c.rr.below hb (Nat.le_refl _), c.be.trans (hb.mono (Nat.le_trans c.hN c.sz)), c.hN, Nat.le_trans c.sz hb.size⟩
theorem DcIn.next {k4 : World} {m : Nat} {W W' : World} {l : List Ob} {vo : Value} {N : Nat} {vr vr' : Value} {zs zs' : List Int} (c : DcIn k4 m W l vo N vr zs) (hg : W.grownBy W' vr.ownBlock) (hr : OwnL W' N vr' zs') : DcIn k4 m (W'.setCell ⟨m + 1, 1, none⟩ vr') l vo N vr' zs' ∧ W'.cell? ⟨m + 1, 1, none⟩ = some vr ∧ W'.frozen? ⟨m + 1, 1, none⟩ = false ∧ Below (m + 1) k4 W' := by
  have bx2 := c.bx.grown hg (row_ne_blk c.rr c.bx (by decide))
  have k3 : KeepT 27 W' (W'.setCell ⟨m + 1, 1, none⟩ vr') := KeepT.set bx2 1 _
  have hb := c.be.trans (gb_below hg (Nat.le_trans c.hN c.sz) (fun q e => Nat.le_trans c.hN (c.rr.lt q e).1))
  refine ⟨⟨bx2.store 1 _, row_keep (row_kept c.ob c.rr hg (by decide)) k3 (by decide), ⟨fun i hi => row_keep (World.ownsRow.kept (c.rs.own i hi) hg ?_) k3 (by decide), c.rs.inc⟩, c.lo, row_keep hr k3 (by decide), hb.setCell (Nat.le_refl _) _, c.hN, ?_⟩, bx2.cell 1, bx2.free 1, hb⟩
  · cases q : l[i].rv.ownBlock with
    | none => exact Or.inl rfl
    | some x =>
      refine Or.inr fun e => ?_
      have h1 := c.lo i hi x q
      have h2 := (c.rr.lt x e.symm).1
      omega
  · have := hg.size
    have := c.sz
    simp [World.setCell]
    omega
/-- What is watched is laid in. -/
theorem heap_of {W : World} {m N : Nat} {l : List Ob} {va : Option Addr} {vcap : Nat} {ra : Option Addr} {rcap : Nat} {zs : List Int} {wa : Option Addr} {wcap : Nat} {ws : List (Int × Int)} {da : Option Addr} {dcap : Nat} {ds : List (Int × Int)} {B1 B2 : Nat}
    (ob : OwnB W (m + 1) (.slice va l.length vcap) l) (rs : OwnRs W (m + 1) l) (rr : OwnL W N (.slice ra zs.length rcap) zs) (ow : OwnW W B1 (.slice wa ws.length wcap) ws) (od : OwnW W B2 (.slice da ds.length dcap) ds) : HpIn W ⟨va, vcap, l, ra, rcap, zs, wa, wcap, ws, da, dcap, ds⟩ := by
  refine ⟨?_, ?_, ?_, ?_⟩
  · obtain ⟨a, cap, e, _, hs⟩ := ob.form
    simp only [Value.slice.injEq] at e
    obtain ⟨rfl, _⟩ := e
    exact hs (fun i hi => rs.seg i hi)
  · obtain ⟨a, cap, e, hs, _⟩ := rr.form
    simp only [Value.slice.injEq] at e
    obtain ⟨rfl, _⟩ := e
    exact hs
  · obtain ⟨a, cap, e, hs, _⟩ := ow.form
    simp only [Value.slice.injEq] at e
    obtain ⟨rfl, _⟩ := e
    exact hs
  · obtain ⟨a, cap, e, hs, _⟩ := od.form
    simp only [Value.slice.injEq] at e
    obtain ⟨rfl, _⟩ := e
    exact hs
theorem OwnRs.cap {w : World} {base : Nat} {l : List Ob} (h : OwnRs w base l) (i : Nat) (hi : i < l.length) : l[i].r.length ≤ l[i].rcap := by
  obtain ⟨a, cap, e, _, h1, _⟩ := (h.own i hi).form
  simp only [Ob.rv, Value.slice.injEq] at e
  omega
end Go.Proofs.Ytcpnkpogebjieaa
