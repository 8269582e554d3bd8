/- The specification's own drawing: a heap spoilt. -/
import Derived.Test.YtcpnkpogebjieaaEgToEi
import Derived.Deep.LoopGhost
import Derived.Deep.RegionHeld3
namespace Go.Proofs.Ytcpnkpogebjieaa
open Go.RowKit

/-- What is held while a heap is spoilt: the result's box, the copy's box at q, the copy in rows of its own. -/
structure SpW (w : World) (g : Nat) (cd : Cd) (q : Nat) (k : Int) (x : Hp) (W : World) : Prop where
  dw : Dw w g cd k W
  br : Blk W (w.heap.size + 1) [Value.slice none 0 0, Value.slice none 0 0, Value.slice none 0 0, Value.slice none 0 0] 27
  bx : Blk W q [Value.slice x.oa x.os.length x.ocap, Value.slice x.ra x.rs.length x.rcap, Value.slice x.wa x.ws.length x.wcap, Value.slice x.da x.ds.length x.dcap] 27
  hq : w.heap.size + 1 < q
  oq : OwnQ W w.heap.size x
  sm : Sm x
section
variable {w : World} {g : Nat} {cd : Cd} {q : Nat} {k : Int} {x : Hp} {W W' W2 : World}
theorem SpW.grow (d : SpW w g cd q k x W) (hb : Below W.heap.size W W') : SpW w g cd q k x W' :=
  ⟨d.dw.grow hb, d.br.below hb d.br.lt, d.bx.below hb d.bx.lt, d.hq, d.oq.below hb (Nat.le_refl _), d.sm⟩
theorem SpW.pick {k' : Int} (d : SpW w g cd q k x W) (hp : Picked g cd k' W W') : SpW w g cd q k' x W' := by
  have := d.dw.gw
  have := d.hq
  exact ⟨d.dw.pick hp, d.br.grown hp.gb (by simp; omega), d.bx.grown hp.gb (by simp; omega), d.hq, d.oq.far hp.gb d.dw.gw, d.sm⟩
/-- A row of the heap has grown, its head is written back. -/
theorem SpW.back {s : Option Nat} {x' : Hp} {j : Nat} {v : Value} (d : SpW w g cd q k x W) (hg : W.grownBy W2 s) (hs : ∀ i, s = some i → w.heap.size ≤ i ∧ i ≠ w.heap.size + 1 ∧ i ≠ q) (ho : OwnQ W2 w.heap.size x') (hm : Sm x')
    (hx : [Value.slice x'.oa x'.os.length x'.ocap, Value.slice x'.ra x'.rs.length x'.rcap, Value.slice x'.wa x'.ws.length x'.wcap, Value.slice x'.da x'.ds.length x'.dcap] = [Value.slice x.oa x.os.length x.ocap, Value.slice x.ra x.rs.length x.rcap, Value.slice x.wa x.ws.length x.wcap, Value.slice x.da x.ds.length x.dcap].set j v) :
    Blk W2 q [Value.slice x.oa x.os.length x.ocap, Value.slice x.ra x.rs.length x.rcap, Value.slice x.wa x.ws.length x.wcap, Value.slice x.da x.ds.length x.dcap] 27 ∧ SpW w g cd q k x' (W2.setCell ⟨q, j, none⟩ v) := by
  have bx2 := d.bx.grown hg (fun e => (hs _ e).2.2 rfl)
  have br2 := d.br.grown hg (fun e => (hs _ e).2.1 rfl)
  have hq := d.hq
  refine ⟨bx2, (d.dw.step hg (fun j e => (hs j e).1)).set (by omega) j v, br2.other _ _ (by dsimp only; omega), ?_, hq, ho.keep (KeepT.set bx2 j v), hm⟩
  rw [hx]
  exact bx2.store j v
/-- A block of a row is none of the boxes. -/
theorem SpW.apart (d : SpW w g cd q k x W) {e size n : Nat} {v : Value} {xs : List Value} (h : W.ownsRow w.heap.size e size v n xs) (he : 27 ≠ e) : ∀ i, v.ownBlock = some i → w.heap.size ≤ i ∧ i ≠ w.heap.size + 1 ∧ i ≠ q := fun i hi =>
  ⟨(World.ownsRow.lt h i hi).1, fun e1 => blk_ne d.br h he (e1 ▸ hi), fun e1 => blk_ne d.bx h he (e1 ▸ hi)⟩
theorem own_at {v v' : Value} {n g' : Nat} {m c : Nat} (hv : v' = .slice (some ⟨g', 0, none⟩) m c) (hat : v.ownBlock = some g' ∨ g' = n) : v'.ownBlock = v.ownBlock ∨ v'.ownBlock = some n := by
  subst hv
  rcases hat with e | e
  · exact Or.inl (by rw [e]; rfl)
  · exact Or.inr (by rw [← e]; rfl)
/-- The roots appended to. -/
theorem SpW.roots {o : Obj} {g' c' n : Nat} {vs : List Value} (z : Int) (d : SpW w g cd q k x W) (hl : x.rs.length < 100) (hn : n = (x.rs ++ [z]).length) (hvs : vs = (x.rs ++ [z]).map (Value.int .i64)) (hown : W2.ownsRow w.heap.size 3 1 (.slice (some ⟨g', 0, none⟩) n c') n vs) (hg : (W.alloc o).grownBy W2 (Value.slice x.ra x.rs.length x.rcap).ownBlock) (hat : (Value.slice x.ra x.rs.length x.rcap).ownBlock = some g' ∨ g' = W.heap.size + 1) :
    Blk W2 q [Value.slice x.oa x.os.length x.ocap, Value.slice x.ra x.rs.length x.rcap, Value.slice x.wa x.ws.length x.wcap, Value.slice x.da x.ds.length x.dcap] 27 ∧ SpW w g cd q k { x with ra := some ⟨g', 0, none⟩, rcap := c', rs := x.rs ++ [z] } (W2.setCell ⟨q, 1, none⟩ (.slice (some ⟨g', 0, none⟩) n c')) := by
  subst hn hvs
  have dA := d.grow (W' := W.alloc o) ((Below.refl _ _).alloc (Nat.le_refl _) _)
  have hat' : (Value.slice x.ra x.rs.length x.rcap).ownBlock = some g' ∨ g' = (W.alloc o).heap.size := by simpa using hat
  exact dA.back hg (dA.apart dA.oq.ro (by decide)) (dA.oq.growR hg hown (own_at rfl hat')) ⟨d.sm.o, d.sm.oo, by simp; omega, d.sm.w, d.sm.d⟩ rfl
/-- What is watched appended to. -/
theorem SpW.watch {o : Obj} {g' c' n : Nat} {vs : List Value} (p : Int × Int) (d : SpW w g cd q k x W) (hl : x.ws.length < 100) (hn : n = (x.ws ++ [p]).length) (hvs : vs = (x.ws ++ [p]).flatMap wc) (hown : W2.ownsRow w.heap.size 77 2 (.slice (some ⟨g', 0, none⟩) n c') n vs) (hg : (W.alloc o).grownBy W2 (Value.slice x.wa x.ws.length x.wcap).ownBlock) (hat : (Value.slice x.wa x.ws.length x.wcap).ownBlock = some g' ∨ g' = W.heap.size + 1) :
    Blk W2 q [Value.slice x.oa x.os.length x.ocap, Value.slice x.ra x.rs.length x.rcap, Value.slice x.wa x.ws.length x.wcap, Value.slice x.da x.ds.length x.dcap] 27 ∧ SpW w g cd q k { x with wa := some ⟨g', 0, none⟩, wcap := c', ws := x.ws ++ [p] } (W2.setCell ⟨q, 2, none⟩ (.slice (some ⟨g', 0, none⟩) n c')) := by
  subst hn hvs
  have dA := d.grow (W' := W.alloc o) ((Below.refl _ _).alloc (Nat.le_refl _) _)
  have hat' : (Value.slice x.wa x.ws.length x.wcap).ownBlock = some g' ∨ g' = (W.alloc o).heap.size := by simpa using hat
  exact dA.back hg (dA.apart dA.oq.wa (by decide)) (dA.oq.growW hg hown (own_at rfl hat')) ⟨d.sm.o, d.sm.oo, d.sm.r, by simp; omega, d.sm.d⟩ rfl
/-- One guardian more. -/
theorem SpW.guard {o : Obj} {g' c' n : Nat} {vs : List Value} (d : SpW w g cd q k x W) (hl : x.os.length < 100) (hn : n = (x.os ++ [(⟨4, ⟨#[]⟩, none, 0, []⟩ : Ob)]).length) (hvs : vs = (x.os ++ [(⟨4, ⟨#[]⟩, none, 0, []⟩ : Ob)]).flatMap Ob.cs) (hown : W2.ownsRow w.heap.size 52 3 (.slice (some ⟨g', 0, none⟩) n c') n vs) (hg : (W.alloc o).grownBy W2 (Value.slice x.oa x.os.length x.ocap).ownBlock) :
    Blk W2 q [Value.slice x.oa x.os.length x.ocap, Value.slice x.ra x.rs.length x.rcap, Value.slice x.wa x.ws.length x.wcap, Value.slice x.da x.ds.length x.dcap] 27 ∧ SpW w g cd q k { x with oa := some ⟨g', 0, none⟩, ocap := c', os := x.os ++ [(⟨4, ⟨#[]⟩, none, 0, []⟩ : Ob)] } (W2.setCell ⟨q, 0, none⟩ (.slice (some ⟨g', 0, none⟩) n c')) := by
  subst hn hvs
  have dA := d.grow (W' := W.alloc o) ((Below.refl _ _).alloc (Nat.le_refl _) _)
  exact dA.back hg (dA.apart dA.oq.ob (by decide)) (dA.oq.growO hg hown (own_nil _ _) (fun i hi k hk e => by simp [Ob.rv, Value.ownBlock] at e) (fun k hk => by simp [Ob.rv, Value.ownBlock] at hk)) (d.sm.more hl ⟨Nat.zero_le _, Nat.zero_le _⟩ _ _) rfl
/-- A cell of one object written. -/
theorem SpW.ob {go i j : Nat} {o : Ob} {v : Value} (d : SpW w g cd q k x W) (hoa : x.oa = some ⟨go, 0, none⟩) (hi : i < x.os.length) (hj : j < 3) (ho : o.cs = x.os[i].cs.set j v) (hrv : o.rv = x.os[i].rv) (hr : o.r = x.os[i].r) (hs : o.r.length ≤ 100 ∧ o.t.size ≤ 100) : SpW w g cd q k { x with os := x.os.set i o } (W.setCell ⟨go, i * 3 + j, none⟩ v) := by
  have hob : OwnB W w.heap.size (.slice (some ⟨go, 0, none⟩) x.os.length x.ocap) x.os := by rw [← hoa]; exact d.oq.ob
  have hne := d.apart hob (by decide) go rfl
  refine ⟨d.dw.set hne.1 _ _, d.br.other _ _ (fun e => hne.2.1 e.symm), ?_, d.hq, d.oq.setOb hoa hi hj ho hrv hr, d.sm.set hi hs⟩
  simpa using d.bx.other ⟨go, i * 3 + j, none⟩ v (fun e => hne.2.2 e.symm)
/-- One object's parts appended to. -/
theorem SpW.part {o : Obj} {go i g' c' n : Nat} {vs : List Value} (z : Int) (d : SpW w g cd q k x W) (hoa : x.oa = some ⟨go, 0, none⟩) (hi : i < x.os.length) (hn : n = (x.os[i].r ++ [z]).length) (hvs : vs = (x.os[i].r ++ [z]).map (Value.int .i64)) (hl : x.os[i].r.length < 100) (hown : W2.ownsRow w.heap.size 3 1 (.slice (some ⟨g', 0, none⟩) n c') n vs) (hg : (W.alloc o).grownBy W2 x.os[i].rv.ownBlock) (hat : x.os[i].rv.ownBlock = some g' ∨ g' = W.heap.size + 1) :
    OwnB W2 w.heap.size (.slice (some ⟨go, 0, none⟩) x.os.length x.ocap) x.os ∧ SpW w g cd q k { x with os := x.os.set i { x.os[i] with ra := some ⟨g', 0, none⟩, rcap := c', r := x.os[i].r ++ [z] } } (W2.setCell ⟨go, i * 3 + 2, none⟩ (.slice (some ⟨g', 0, none⟩) n c')) := by
  subst hn hvs
  have dA := d.grow (W' := W.alloc o) ((Below.refl _ _).alloc (Nat.le_refl _) _)
  have hat' : x.os[i].rv.ownBlock = some g' ∨ g' = (W.alloc o).heap.size := by simpa using hat
  have hob : OwnB (W.alloc o) w.heap.size (.slice (some ⟨go, 0, none⟩) x.os.length x.ocap) x.os := by rw [← hoa]; exact dA.oq.ob
  have hne := dA.apart hob (by decide) go rfl
  have hnr := dA.apart (dA.oq.rs i hi) (by decide)
  refine ⟨row_kept hob (dA.oq.rs i hi) hg (by decide), (dA.dw.step hg (fun j e => (hnr j e).1)).set hne.1 _ _, (dA.br.grown hg (fun e => (hnr _ e).2.1 rfl)).other _ _ (fun e => hne.2.1 e.symm), ?_, d.hq, dA.oq.growP hoa hi hg hown (own_at rfl hat'), d.sm.set hi ⟨by simp; omega, (d.sm.oo i hi).2⟩⟩
  simpa using (dA.bx.grown hg (fun e => (hnr _ e).2.2 rfl)).other ⟨go, i * 3 + 2, none⟩ (.slice (some ⟨g', 0, none⟩) (x.os[i].r ++ [z]).length c') (fun e => hne.2.2 e.symm)
theorem OwnB.at {base go n c : Nat} {os : List Ob} (h : OwnB W base (.slice (some ⟨go, 0, none⟩) n c) os) {i : Nat} (hi : i < os.length) : W.cell? ⟨go, i * 3, none⟩ = some (.int .i64 os[i].k) ∧ W.cell? ⟨go, i * 3 + 1, none⟩ = some (.string os[i].t) ∧ W.cell? ⟨go, i * 3 + 2, none⟩ = some (.slice os[i].ra os[i].r.length os[i].rcap) := by
  have hn : n = os.length := by
    rcases h.2 with ⟨q, _⟩ | ⟨g', cap, cur, q, _⟩
    · simp at q
    · simp only [Value.slice.injEq] at q
      exact q.2.1
  subst hn
  have hc := fun j (hj : j < 3) => (World.ownsRow.cellAt h (i * 3 + j) (by omega)).trans (flat_get Ob.cs 3 (fun _ => rfl) os i j hi hj)
  exact ⟨hc 0 (by omega), hc 1 (by omega), hc 2 (by omega)⟩
theorem OwnB.free {base go n c : Nat} {os : List Ob} (h : OwnB W base (.slice (some ⟨go, 0, none⟩) n c) os) (k : Nat) : W.frozen? ⟨go, k, none⟩ = false := by
  obtain ⟨cur, hh⟩ := row_ty h rfl
  simp [World.frozen?, hh]
theorem OwnB.ptr {base n c : Nat} {a : Option Addr} {os : List Ob} (h : OwnB W base (.slice a n c) os) (hn : 0 < os.length) : ∃ go, a = some ⟨go, 0, none⟩ := by
  rcases h.2 with ⟨h1, h2⟩ | ⟨go, cap, cur, h1, _⟩
  · omega
  · simp only [Value.slice.injEq] at h1
    exact ⟨go, h1.1⟩
end
end Go.Proofs.Ytcpnkpogebjieaa
