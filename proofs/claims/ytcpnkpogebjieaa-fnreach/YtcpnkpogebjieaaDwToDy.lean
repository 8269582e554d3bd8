/- The specification's own events: a part is taken. · The specification's own events: a part is set. · The specification's own events: one event of a copy of an ok heap, whatever its kind. -/
import Derived.Test.YtcpnkpogebjieaaDuToDv
namespace Go.Proofs.Ytcpnkpogebjieaa
open Go.RowKit

set_option maxHeartbeats 1600000 in
set_option maxRecDepth 100000 in
theorem l4Do_takes (h : Hp) (e : Ev) (B : Nat) (w : World) (hq : OwnQ w B h) (hB : B ≤ w.heap.size) (c : OkC h) (he : SegI w e.o.ra e.o.r) (hel : e.o.r.length ≤ 1048576) (het : e.o.t.size ≤ maxLen) (h0 : 0 ≤ e.to) (h1 : e.to < h.rs.length) (k2 : e.k = 2) :
    Calls Try.prog 93 #[h.v, e.v] w fun en w' => ∃ (y : Hp) (s : ByteArray), en = .returned (.tuple #[y.v, .string s]) ∧ OkC y ∧ Fit w' y ∧ Below B w w' := by
  have HK : Hid (e.k = 2) := k2
  clear k2
  obtain ⟨b0, hb0⟩ := Bx3.start w h e
  have hq3 := hq.below hb0 (Nat.le_refl _)
  have he3 := he.below hb0 (Nat.le_refl _)
  have hB3 := Nat.le_trans hB hb0.size
  have hTT := hq.rowsLt
  obtain ⟨ek, eto, efr, ept, eo⟩ := e
  dsimp only at *
  go_enter Try.func93, Try.ntmps93
  simp only [Hp.v, Ev.v, Ev.cs]
  go_upto_region 1 with fail
  obtain ⟨W3, hW3⟩ : ∃ W3, W3 = (((w.alloc (Obj.cells #[Value.slice h.oa h.os.length h.ocap, Value.slice h.ra h.rs.length h.rcap, Value.slice h.wa h.ws.length h.wcap, Value.slice h.da h.ds.length h.dcap] 27)).alloc (Obj.cells #[Value.int .i64 ek, Value.int .i64 eto, Value.int .i64 efr, Value.int .i64 ept, Value.int .i64 eo.k, Value.string eo.t, Value.slice eo.ra eo.r.length eo.rcap] 118)).alloc (Obj.cells #[Value.slice none 0 0, Value.slice none 0 0, Value.slice none 0 0, Value.slice none 0 0] 27)) := ⟨_, rfl⟩
  rw [← hW3] at b0 hb0 hq3 he3 hB3 ⊢
  clear hW3
  obtain ⟨⟨x0, x1, x2, x3⟩, ⟨y0, y1, y2, y3, y4, y5, y6⟩, ⟨u0, u1, u2, u3⟩, g0, g1, g2, g3⟩ := b0.cells
  obtain ⟨hqE, hbE, z0, z1, z2, z3⟩ := ret_heap (T := w.heap.size) b0.br hq3 (Md.of hb0 hB) (by omega) (by omega) _ _ _ _ rfl rfl rfl rfl
  have k2 := HK.out
  clear HK
  subst k2
  clear hqE hbE z0 z1 z2 z3
  have cc := l4Part_any h efr ept W3 hq3.isIn c
  simp only [Hp.v] at cc
  go_wp2_with fail
  refine cc.mono ?_
  rintro en w1 ⟨R, rfl, hR, hb1⟩
  have br1 := b0.br.below hb1 b0.br.lt
  have bh1 := b0.bh.below hb1 b0.bh.lt
  have be1 := b0.bv.below hb1 b0.bv.lt
  have hq4 := hq3.below hb1 (Nat.le_refl _)
  have hM4 : Md B w.heap.size w w1 := (Md.of hb0 hB).step hb1 hB
  clear x0 x1 x2 x3 y0 y1 y2 y3 y4 y5 y6 u0 u1 u2 u3 g0 g1 g2 g3 cc
  obtain ⟨x0, x1, x2, x3⟩ := cells4'' bh1
  obtain ⟨y1, y3⟩ : w1.cell? ⟨w.heap.size + 1, 1, none⟩ = some (.int .i64 eto) ∧ w1.cell? ⟨w.heap.size + 1, 3, none⟩ = some (.int .i64 ept) := ⟨be1.cell 1, be1.cell 3⟩
  obtain ⟨u0, u1, u2, u3⟩ := cells4'' br1
  obtain ⟨g0, g1, g2, g3⟩ := free4 br1
  rcases hR with hR | ⟨hr, hR0, hRe, hp0, hp1⟩
  · obtain ⟨hqE, hbE, z0, z1, z2, z3⟩ := ret_heap br1 hq4 hM4 (by omega) (by omega) (.slice h.oa h.os.length h.ocap) (.slice h.ra h.rs.length h.rcap) (.slice h.wa h.ws.length h.wcap) (.slice h.da h.ds.length h.dcap) rfl rfl rfl rfl
    clear hq4 hM4 br1 bh1 be1 hb1
    go_wp2
    refine bodyPost_ret (v := .tuple #[h.v, .string ⟨#[110, 111]⟩]) ?_ rfl ⟨h, _, rfl, c, c.fitQ hqE, hbE.be⟩
    simp [results, Try.results93, go_sem, z0, z1, z2, z3, Hp.v]
  · obtain ⟨gr, hgr⟩ := hq4.ro.ptr (by omega)
    have hro4 : OwnL w1 B (.slice (some ⟨gr, 0, none⟩) h.rs.length h.rcap) h.rs := by rw [← hgr]; exact hq4.ro
    have hgT : gr < w.heap.size := hTT.r gr (by rw [hgr]; rfl)
    obtain ⟨b, off, eo, hb, e1, e2, e3⟩ := hq4.isIn.so.get hr
    obtain ⟨ra', rc', eR, hsr, hcr⟩ := (hq4.rs R.toNat hr).form
    have hpl : ept.toNat < h.os[R.toNat].r.length := by omega
    obtain ⟨b', off', eo', hb', d1⟩ := hsr.get hpl
    have hzb := c.refs R.toNat hr _ (List.getElem_mem hpl)
    have hkr := (c.kind _ hr).1
    have hn60 := c.n60
    have hr8 := c.r8
    have q0 := hro4.at (k := eto.toNat) (by omega)
    have q1 := hro4.free eto.toNat
    simp only [Ob.rv, Value.slice.injEq] at eR
    have HRB : Hid (h.os[R.toNat].rv.ownBlock = some b') := by unfold Ob.rv; rw [eR.1, eo']; rfl
    rw [eR.1, eo'] at e3
    have HZ : Hid (h.os[R.toNat].r[ept.toNat] = h.os[R.toNat].r[ept.toNat]) := rfl
    obtain ⟨Z, hZ⟩ : ∃ Z, Z = h.os[R.toNat].r[ept.toNat] := ⟨_, rfl⟩
    rw [← hZ] at d1 hzb
    clear hZ HZ
    obtain ⟨N, hN⟩ : ∃ N, N = h.os[R.toNat].r.length := ⟨_, rfl⟩
    rw [← hN] at e3 hp1 hkr
    obtain ⟨NC, hNC⟩ : ∃ NC, NC = h.os[R.toNat].rcap := ⟨_, rfl⟩
    rw [← hNC] at e3
    clear hN hNC eR hsr hcr e1 e2
    have hqF := hq4.setRoot hgr eto.toNat Z
    have hMF : Md B w.heap.size w (w1.setCell ⟨gr, eto.toNat, none⟩ (.int .i64 Z)) := hM4.set (p := ⟨gr, eto.toNat, none⟩) (hro4.lt gr rfl).1 (Or.inl hgT) _
    have brF := br1.other ⟨gr, eto.toNat, none⟩ (.int .i64 Z) (by dsimp only; omega)
    have bhF := bh1.other ⟨gr, eto.toNat, none⟩ (.int .i64 Z) (by dsimp only; omega)
    have bvF := be1.other ⟨gr, eto.toNat, none⟩ (.int .i64 Z) (by dsimp only; omega)
    have cF := c.root (z := Z) hzb eto.toNat
    have cs := l4Sees_any h Z _ hqF.isIn.so (fun i hi => c.small.oo i hi) hzb.2
    have hne1 : ¬ w.heap.size = gr := by omega
    have hne2 : ¬ gr = w.heap.size := by omega
    have hne3 : ¬ w.heap.size + 1 = gr := by omega
    have hne4 : ¬ gr = w.heap.size + 1 := by omega
    have hbne : b ≠ gr := by
      intro e
      have hro5 := hq4.ro
      rw [hgr] at hro5
      have hob := hq4.ob
      rw [eo] at hob
      obtain ⟨cap1, cur1⟩ := row_ty hro5 (k := gr) rfl
      obtain ⟨cap2, cur2⟩ := row_ty hob (k := b) rfl
      rw [e, cur1] at cur2
      simp at cur2
    have hbne' : b' ≠ gr := fun e => hq4.rro R.toNat hr b' HRB.out (by rw [hgr, e]; rfl)
    have e3F := (World.cell?_of_block (a := ⟨b, off + R.toNat * 3 + 2, none⟩) (Below.heap_setCell w1 ⟨gr, eto.toNat, none⟩ (.int .i64 Z) b hbne)).trans e3
    have d1F := (World.cell?_of_block (a := ⟨b', off' + ept.toNat, none⟩) (Below.heap_setCell w1 ⟨gr, eto.toNat, none⟩ (.int .i64 Z) b' hbne')).trans d1
    obtain ⟨s0, s1, s2, s3⟩ := cells4'' bhF
    have t1 := bvF.cell 1
    have t3 := bvF.cell 3
    simp only [List.getElem?_cons_zero, List.getElem?_cons_succ] at t1 t3
    rw [eo] at x0 s0
    rw [hgr] at x1 s1
    have HEO : Hid (h.oa = some ⟨b, off, none⟩) := eo
    have HGR : Hid (h.ra = some ⟨gr, 0, none⟩) := hgr
    clear eo hgr hRe eo'
    have hRl : R < (h.os.length : Int) := by omega
    go_wp2_with fail
    go_region_held3 (fun (W' : World) => (W'.cell? ⟨w.heap.size, 0, none⟩ = some (.slice (some ⟨b, off, none⟩) h.os.length h.ocap) ∧ W'.cell? ⟨w.heap.size, 1, none⟩ = some (.slice (some ⟨gr, 0, none⟩) h.rs.length h.rcap) ∧ W'.cell? ⟨w.heap.size + 1, 1, none⟩ = some (.int .i64 eto) ∧ W'.cell? ⟨w.heap.size + 1, 3, none⟩ = some (.int .i64 ept) ∧ W'.cell? ⟨b, off + R.toNat * 3 + 2, none⟩ = some (.slice (some ⟨b', off', none⟩) N NC) ∧ W'.cell? ⟨b', off' + ept.toNat, none⟩ = some (.int .i64 Z))) (first | (refine ⟨?_, ?_, ?_, ?_, ?_, ?_⟩ <;> with_reducible assumption) | go_keep) (fail)
    go_wp2_with fail
    obtain ⟨W5, hW5⟩ : ∃ W5, W5 = (w1.setCell ⟨gr, eto.toNat, none⟩ (.int .i64 Z)).drew := ⟨_, rfl⟩
    have hbD : Below (w1.setCell ⟨gr, eto.toNat, none⟩ (.int .i64 Z)).heap.size (w1.setCell ⟨gr, eto.toNat, none⟩ (.int .i64 Z)) W5 := by rw [hW5]; exact (Below.refl _ _).drew
    rw [← hW5]
    clear hW5
    have brG := brF.step hbD
    have bhG := bhF.step hbD
    have bvG := bvF.step hbD
    have hqG := hqF.below hbD (Nat.le_refl _)
    have hMG := hMF.step hbD hB
    have hroG : OwnL W5 B (.slice (some ⟨gr, 0, none⟩) h.rs.length h.rcap) (h.rs.set eto.toNat Z) := by
      have := hqG.ro
      simp only [HGR.out, List.length_set] at this
      exact this
    have htl : eto.toNat < h.rs.length := by omega
    have q5 := hroG.at (k := eto.toNat) (by simpa using htl)
    rw [List.getElem_set_self] at q5
    clear x0 x1 x2 x3 y1 y3 u0 u1 u2 u3 g0 g1 g2 g3 s0 s1 s2 s3 t1 t3 e3 d1 e3F d1F q0 q1 cs
    obtain ⟨s0, s1, s2, s3⟩ := cells4'' bhG
    have t1 := bvG.cell 1
    simp only [List.getElem?_cons_zero, List.getElem?_cons_succ] at t1
    rw [HEO.out] at s0
    rw [HGR.out] at s1
    have c5 := l4Sees_any h Z W5.drew (hqG.below (Below.refl _ W5).drew (Nat.le_refl _)).isIn.so (fun i hi => c.small.oo i hi) hzb.2
    simp only [Hp.v, HEO.out, HGR.out] at c5
    have HB5 : Hid (∀ w6, Below W5.drew.heap.size W5.drew w6 → (fun (W' : World) => (W'.cell? ⟨w.heap.size, 0, none⟩ = some (.slice (some ⟨b, off, none⟩) h.os.length h.ocap) ∧ W'.cell? ⟨w.heap.size, 1, none⟩ = some (.slice (some ⟨gr, 0, none⟩) h.rs.length h.rcap) ∧ W'.cell? ⟨w.heap.size, 2, none⟩ = some (.slice h.wa h.ws.length h.wcap) ∧ W'.cell? ⟨w.heap.size, 3, none⟩ = some (.slice h.da h.ds.length h.dcap)) ∧ W'.cell? ⟨w.heap.size + 1, 1, none⟩ = some (.int .i64 eto) ∧ W'.cell? ⟨gr, eto.toNat, none⟩ = some (.int .i64 Z)) w6 ∧ Blk w6 (w.heap.size + 1 + 1) [Value.slice none 0 0, Value.slice none 0 0, Value.slice none 0 0, Value.slice none 0 0] 27 ∧ Md B w.heap.size w w6 ∧ OwnQ w6 B { h with rs := h.rs.set eto.toNat Z }) := fun w6 hb6 => by
      have hb6' : Below W5.heap.size W5 w6 := ((Below.refl _ _).drew).trans hb6
      have bh6 := bhG.step hb6'
      have bv6 := bvG.step hb6'
      have qq6 := (hroG.below hb6' (Nat.le_refl _)).at (k := eto.toNat) (by simpa using htl)
      rw [List.getElem_set_self] at qq6
      have m0 := bh6.cell 0
      have m1 := bh6.cell 1
      simp only [List.getElem?_cons_zero, List.getElem?_cons_succ, HEO.out, HGR.out] at m0 m1
      exact ⟨⟨⟨m0, m1, bh6.cell 2, bh6.cell 3⟩, bv6.cell 1, qq6⟩, brG.step hb6', hMG.step hb6' hB, hqG.below hb6' (Nat.le_refl _)⟩
    have HS7 : Hid (∀ w6 : World, (fun (W' : World) => (W'.cell? ⟨w.heap.size, 0, none⟩ = some (.slice (some ⟨b, off, none⟩) h.os.length h.ocap) ∧ W'.cell? ⟨w.heap.size, 1, none⟩ = some (.slice (some ⟨gr, 0, none⟩) h.rs.length h.rcap) ∧ W'.cell? ⟨w.heap.size, 2, none⟩ = some (.slice h.wa h.ws.length h.wcap) ∧ W'.cell? ⟨w.heap.size, 3, none⟩ = some (.slice h.da h.ds.length h.dcap)) ∧ W'.cell? ⟨w.heap.size + 1, 1, none⟩ = some (.int .i64 eto) ∧ W'.cell? ⟨gr, eto.toNat, none⟩ = some (.int .i64 Z)) w6 → (fun (W' : World) => (W'.cell? ⟨w.heap.size, 0, none⟩ = some (.slice (some ⟨b, off, none⟩) h.os.length h.ocap) ∧ W'.cell? ⟨w.heap.size, 1, none⟩ = some (.slice (some ⟨gr, 0, none⟩) h.rs.length h.rcap) ∧ W'.cell? ⟨w.heap.size, 2, none⟩ = some (.slice h.wa h.ws.length h.wcap) ∧ W'.cell? ⟨w.heap.size, 3, none⟩ = some (.slice h.da h.ds.length h.dcap)) ∧ W'.cell? ⟨w.heap.size + 1, 1, none⟩ = some (.int .i64 eto) ∧ W'.cell? ⟨gr, eto.toNat, none⟩ = some (.int .i64 Z)) ((((w6.setCell ⟨w.heap.size + 1 + 1, 0, none⟩ (.slice (some ⟨b, off, none⟩) h.os.length h.ocap)).setCell ⟨w.heap.size + 1 + 1, 1, none⟩ (.slice (some ⟨gr, 0, none⟩) h.rs.length h.rcap)).setCell ⟨w.heap.size + 1 + 1, 2, none⟩ (.slice h.wa h.ws.length h.wcap)).setCell ⟨w.heap.size + 1 + 1, 3, none⟩ (.slice h.da h.ds.length h.dcap))) := fun w6 hs => by
      have sc : ∀ (p : Addr) (u : Value), p.block ≠ w.heap.size + 1 + 1 → w6.cell? p = some u → ((((w6.setCell ⟨w.heap.size + 1 + 1, 0, none⟩ (.slice (some ⟨b, off, none⟩) h.os.length h.ocap)).setCell ⟨w.heap.size + 1 + 1, 1, none⟩ (.slice (some ⟨gr, 0, none⟩) h.rs.length h.rcap)).setCell ⟨w.heap.size + 1 + 1, 2, none⟩ (.slice h.wa h.ws.length h.wcap)).setCell ⟨w.heap.size + 1 + 1, 3, none⟩ (.slice h.da h.ds.length h.dcap)).cell? p = some u := fun p u hp hc => by
        rw [World.cell?_of_block (Below.heap_setCell _ _ _ _ hp), World.cell?_of_block (Below.heap_setCell _ _ _ _ hp), World.cell?_of_block (Below.heap_setCell _ _ _ _ hp), World.cell?_of_block (Below.heap_setCell _ _ _ _ hp)]; exact hc
      have p1 : w.heap.size ≠ w.heap.size + 1 + 1 := by omega
      have p2 : w.heap.size + 1 ≠ w.heap.size + 1 + 1 := by omega
      have p3 : gr ≠ w.heap.size + 1 + 1 := by omega
      exact ⟨⟨sc _ _ p1 hs.1.1, sc _ _ p1 hs.1.2.1, sc _ _ p1 hs.1.2.2.1, sc _ _ p1 hs.1.2.2.2⟩, sc _ _ p2 hs.2.1, sc _ _ p3 hs.2.2⟩
    clear hq4 hM4 br1 bh1 be1 hb1 hqF hMF brF bhF bvF hqG hMG brG bhG bvG hroG hro4 hbD
    go_region_held3 (fun (W' : World) => (W'.cell? ⟨w.heap.size, 0, none⟩ = some (.slice (some ⟨b, off, none⟩) h.os.length h.ocap) ∧ W'.cell? ⟨w.heap.size, 1, none⟩ = some (.slice (some ⟨gr, 0, none⟩) h.rs.length h.rcap) ∧ W'.cell? ⟨w.heap.size, 2, none⟩ = some (.slice h.wa h.ws.length h.wcap) ∧ W'.cell? ⟨w.heap.size, 3, none⟩ = some (.slice h.da h.ds.length h.dcap)) ∧ W'.cell? ⟨w.heap.size + 1, 1, none⟩ = some (.int .i64 eto) ∧ W'.cell? ⟨gr, eto.toNat, none⟩ = some (.int .i64 Z)) (first | (refine ⟨⟨?_, ?_, ?_, ?_⟩, ?_, ?_⟩ <;> with_reducible assumption) | go_keep)
      (first
        | (go_at_call 98; refine c5.mono ?_; rintro en w6 ⟨sx, rfl, hb6⟩; obtain ⟨⟨⟨m0, m1, m2, m3⟩, m4, m5⟩, br6, hB6, hq6⟩ := HB5.out w6 hb6; obtain ⟨u0, u1, u2, u3⟩ := cells4'' br6; obtain ⟨v0, v1, v2, v3⟩ := free4 br6; obtain ⟨⟨d0, d1, d2, d3⟩, d4, d5⟩ := HS7.out w6 ⟨⟨m0, m1, m2, m3⟩, m4, m5⟩))
    all_goals
      obtain ⟨hqE, hbE, z0, z1, z2, z3⟩ := ret_heap br6 hq6 hB6 (by omega) (by omega) (.slice (some ⟨b, off, none⟩) h.os.length h.ocap) (.slice (some ⟨gr, 0, none⟩) h.rs.length h.rcap) (.slice h.wa h.ws.length h.wcap) (.slice h.da h.ds.length h.dcap) (by rw [← HEO.out]) (by simp [HGR.out]) rfl rfl
      clear br6 hq6 hB6 HB5 HS7 c5
      go_wp2
      refine bodyPost_ret (v := .tuple #[Hp.v { h with rs := h.rs.set eto.toNat Z }, .string sx]) ?_ rfl ⟨{ h with rs := h.rs.set eto.toNat Z }, _, rfl, cF, cF.fitQ hqE, hbE.be⟩
      simp [results, Try.results93, go_sem, z0, z1, z2, z3, Hp.v, HEO.out, HGR.out]
end Go.Proofs.Ytcpnkpogebjieaa

namespace Go.Proofs.Ytcpnkpogebjieaa
open Go.RowKit

set_option maxHeartbeats 1600000 in
set_option maxRecDepth 100000 in
theorem l4Do_sets (h : Hp) (e : Ev) (B : Nat) (w : World) (hq : OwnQ w B h) (hB : B ≤ w.heap.size) (c : OkC h) (he : SegI w e.o.ra e.o.r) (hel : e.o.r.length ≤ 1048576) (het : e.o.t.size ≤ maxLen) (h0 : 0 ≤ e.to) (h1 : e.to < h.rs.length) (k2 : e.k = 3) :
    Calls Try.prog 93 #[h.v, e.v] w fun en w' => ∃ (y : Hp) (s : ByteArray), en = .returned (.tuple #[y.v, .string s]) ∧ OkC y ∧ Fit w' y ∧ Below B w w' := by
  have HK : Hid (e.k = 3) := k2
  clear k2
  obtain ⟨b0, hb0⟩ := Bx3.start w h e
  have hq3 := hq.below hb0 (Nat.le_refl _)
  have he3 := he.below hb0 (Nat.le_refl _)
  have hB3 := Nat.le_trans hB hb0.size
  have hTT := hq.rowsLt
  obtain ⟨ek, eto, efr, ept, eo⟩ := e
  dsimp only at *
  go_enter Try.func93, Try.ntmps93
  simp only [Hp.v, Ev.v, Ev.cs]
  go_upto_region 1 with fail
  obtain ⟨W3, hW3⟩ : ∃ W3, W3 = (((w.alloc (Obj.cells #[Value.slice h.oa h.os.length h.ocap, Value.slice h.ra h.rs.length h.rcap, Value.slice h.wa h.ws.length h.wcap, Value.slice h.da h.ds.length h.dcap] 27)).alloc (Obj.cells #[Value.int .i64 ek, Value.int .i64 eto, Value.int .i64 efr, Value.int .i64 ept, Value.int .i64 eo.k, Value.string eo.t, Value.slice eo.ra eo.r.length eo.rcap] 118)).alloc (Obj.cells #[Value.slice none 0 0, Value.slice none 0 0, Value.slice none 0 0, Value.slice none 0 0] 27)) := ⟨_, rfl⟩
  rw [← hW3] at b0 hb0 hq3 he3 hB3 ⊢
  clear hW3
  obtain ⟨⟨x0, x1, x2, x3⟩, ⟨y0, y1, y2, y3, y4, y5, y6⟩, ⟨u0, u1, u2, u3⟩, g0, g1, g2, g3⟩ := b0.cells
  obtain ⟨hqE, hbE, z0, z1, z2, z3⟩ := ret_heap (T := w.heap.size) b0.br hq3 (Md.of hb0 hB) (by omega) (by omega) _ _ _ _ rfl rfl rfl rfl
  have k2 := HK.out
  clear HK
  subst k2
  clear hqE hbE z0 z1 z2 z3
  have cc := l4Part_any h eto ept W3 hq3.isIn c
  simp only [Hp.v] at cc
  go_wp2_with fail
  refine cc.mono ?_
  rintro en w1 ⟨R, rfl, hR, hb1⟩
  have br1 := b0.br.below hb1 b0.br.lt
  have bh1 := b0.bh.below hb1 b0.bh.lt
  have be1 := b0.bv.below hb1 b0.bv.lt
  have hq4 := hq3.below hb1 (Nat.le_refl _)
  have hM4 : Md B w.heap.size w w1 := (Md.of hb0 hB).step hb1 hB
  clear x0 x1 x2 x3 y0 y1 y2 y3 y4 y5 y6 u0 u1 u2 u3 g0 g1 g2 g3 cc
  obtain ⟨x0, x1, x2, x3⟩ := cells4'' bh1
  obtain ⟨y2, y3⟩ : w1.cell? ⟨w.heap.size + 1, 2, none⟩ = some (.int .i64 efr) ∧ w1.cell? ⟨w.heap.size + 1, 3, none⟩ = some (.int .i64 ept) := ⟨be1.cell 2, be1.cell 3⟩
  obtain ⟨u0, u1, u2, u3⟩ := cells4'' br1
  obtain ⟨g0, g1, g2, g3⟩ := free4 br1
  rcases hR with hR | ⟨hr, hR0, hRe, hp0, hp1⟩
  · obtain ⟨hqE, hbE, z0, z1, z2, z3⟩ := ret_heap br1 hq4 hM4 (by omega) (by omega) (.slice h.oa h.os.length h.ocap) (.slice h.ra h.rs.length h.rcap) (.slice h.wa h.ws.length h.wcap) (.slice h.da h.ds.length h.dcap) rfl rfl rfl rfl
    clear hq4 hM4 br1 bh1 be1 hb1
    go_wp2
    refine bodyPost_ret (v := .tuple #[h.v, .string ⟨#[110, 111]⟩]) ?_ rfl ⟨h, _, rfl, c, c.fitQ hqE, hbE.be⟩
    simp [results, Try.results93, go_sem, z0, z1, z2, z3, Hp.v]
  · have hpl : ept.toNat < h.os[R.toNat].r.length := by omega
    have hkr := (c.kind _ hr).1
    have hn60 := c.n60
    have hRl : R < (h.os.length : Int) := by omega
    obtain ⟨g, hg⟩ := OwnL.ptr (a := h.os[R.toNat].ra) (n := h.os[R.toNat].r.length) (c := h.os[R.toNat].rcap) (hq4.rs R.toNat hr) (by omega)
    obtain ⟨hgB, hgT⟩ := (hq.rs R.toNat hr).lt g (by unfold Ob.rv; rw [hg]; rfl)
    have hri : ∀ w6, OwnQ w6 B h → OwnL w6 B (.slice (some ⟨g, 0, none⟩) h.os[R.toNat].r.length h.os[R.toNat].rcap) h.os[R.toNat].r := fun w6 hq6 => by rw [← hg]; exact hq6.rs R.toNat hr
    obtain ⟨b, off, eo, hb, e1, e2, e3⟩ := hq4.isIn.so.get hr
    have hbne : b ≠ g := by
      intro e
      have hob := hq4.ob
      rw [eo] at hob
      obtain ⟨cap1, cur1⟩ := row_ty (hri w1 hq4) (k := g) rfl
      obtain ⟨cap2, cur2⟩ := row_ty hob (k := b) rfl
      rw [e, cur1] at cur2
      simp at cur2
    have hbd := rootP_bd c.ro (by omega) efr
    have c5 := l4Root_any h efr w1.drew (hq4.below (Below.refl _ w1).drew (Nat.le_refl _)).isIn.sr c.small.r
    obtain ⟨Z, hZ⟩ : ∃ Z, Z = rootP h.rs efr := ⟨_, rfl⟩
    rw [← hZ] at c5 hbd
    clear hZ
    have cF := c.part hr (z := Z) ⟨hbd.1, hbd.2⟩ ept.toNat
    rw [hg] at e3
    obtain ⟨N, hN⟩ : ∃ N, N = h.os[R.toNat].r.length := ⟨_, rfl⟩
    obtain ⟨NC, hNC⟩ : ∃ NC, NC = h.os[R.toNat].rcap := ⟨_, rfl⟩
    rw [← hN, ← hNC] at e3
    rw [← hN] at hp1 hkr
    have HB5 : Hid (∀ w6, Below w1.drew.heap.size w1.drew w6 → (fun (W' : World) => (W'.cell? ⟨w.heap.size, 0, none⟩ = some (.slice (some ⟨b, off, none⟩) h.os.length h.ocap) ∧ W'.cell? ⟨w.heap.size, 1, none⟩ = some (.slice h.ra h.rs.length h.rcap) ∧ W'.cell? ⟨w.heap.size, 2, none⟩ = some (.slice h.wa h.ws.length h.wcap) ∧ W'.cell? ⟨w.heap.size, 3, none⟩ = some (.slice h.da h.ds.length h.dcap)) ∧ W'.cell? ⟨w.heap.size + 1, 2, none⟩ = some (.int .i64 efr) ∧ W'.cell? ⟨w.heap.size + 1, 3, none⟩ = some (.int .i64 ept) ∧ W'.cell? ⟨b, off + R.toNat * 3 + 2, none⟩ = some (.slice (some ⟨g, 0, none⟩) N NC)) w6 ∧ (fun (W' : World) => (W'.cell? ⟨w.heap.size, 0, none⟩ = some (.slice (some ⟨b, off, none⟩) h.os.length h.ocap) ∧ W'.cell? ⟨w.heap.size, 1, none⟩ = some (.slice h.ra h.rs.length h.rcap) ∧ W'.cell? ⟨w.heap.size, 2, none⟩ = some (.slice h.wa h.ws.length h.wcap) ∧ W'.cell? ⟨w.heap.size, 3, none⟩ = some (.slice h.da h.ds.length h.dcap)) ∧ W'.cell? ⟨w.heap.size + 1, 2, none⟩ = some (.int .i64 efr) ∧ W'.cell? ⟨w.heap.size + 1, 3, none⟩ = some (.int .i64 ept) ∧ W'.cell? ⟨b, off + R.toNat * 3 + 2, none⟩ = some (.slice (some ⟨g, 0, none⟩) N NC)) (w6.setCell ⟨g, ept.toNat, none⟩ (.int .i64 Z)) ∧ (∃ z, w6.cell? ⟨g, ept.toNat, none⟩ = some (.int .i64 z)) ∧ w6.frozen? ⟨g, ept.toNat, none⟩ = false ∧ Blk (w6.setCell ⟨g, ept.toNat, none⟩ (.int .i64 Z)) (w.heap.size + 1 + 1) [Value.slice none 0 0, Value.slice none 0 0, Value.slice none 0 0, Value.slice none 0 0] 27 ∧ Md B w.heap.size w (w6.setCell ⟨g, ept.toNat, none⟩ (.int .i64 Z)) ∧ OwnQ (w6.setCell ⟨g, ept.toNat, none⟩ (.int .i64 Z)) B { h with os := h.os.set R.toNat (h.os[R.toNat].part ept.toNat Z) }) := fun w6 hb6 => by
      have hb6' : Below w1.heap.size w1 w6 := ((Below.refl _ _).drew).trans hb6
      have bh6 := bh1.step hb6'
      have bv6 := be1.step hb6'
      have hq6 := hq4.below hb6' (Nat.le_refl _)
      have m0 := bh6.cell 0
      simp only [List.getElem?_cons_zero, eo] at m0
      have e6 := (hb6'.cell (p := ⟨b, off + R.toNat * 3 + 2, none⟩) hb).trans e3
      have sc : ∀ (p : Addr) (u : Value), p.block ≠ g → w6.cell? p = some u → (w6.setCell ⟨g, ept.toNat, none⟩ (.int .i64 Z)).cell? p = some u := fun p u hp hc => by
        rw [World.cell?_of_block (Below.heap_setCell _ _ _ _ hp)]; exact hc
      have p1 : w.heap.size ≠ g := by omega
      have p2 : w.heap.size + 1 ≠ g := by omega
      have m1 := bh6.cell 1
      have m2 := bh6.cell 2
      have m3 := bh6.cell 3
      have m4 := bv6.cell 2
      have m5 := bv6.cell 3
      refine ⟨⟨⟨m0, m1, m2, m3⟩, m4, m5, e6⟩, ⟨⟨sc _ _ p1 m0, sc _ _ p1 m1, sc _ _ p1 m2, sc _ _ p1 m3⟩, sc _ _ p2 m4, sc _ _ p2 m5, sc _ _ hbne e6⟩, ⟨_, (hri w6 hq6).at hpl⟩, (hri w6 hq6).free _, ?_, ?_, hq6.setPart hr hg ept.toNat Z⟩
      · exact (br1.step hb6').other _ _ (by dsimp only; omega)
      · exact (hM4.step hb6' hB).set (p := ⟨g, ept.toNat, none⟩) hgB (Or.inl hgT) _
    simp only [Hp.v, eo] at c5
    rw [eo] at x0
    have HEO : Hid (h.oa = some ⟨b, off, none⟩) := eo
    clear eo hg hri hRe e1 e2 hN hNC hq4 hM4 br1 bh1 be1 hb1
    go_wp2_with fail
    go_region_held3 (fun (W' : World) => (W'.cell? ⟨w.heap.size, 0, none⟩ = some (.slice (some ⟨b, off, none⟩) h.os.length h.ocap) ∧ W'.cell? ⟨w.heap.size, 1, none⟩ = some (.slice h.ra h.rs.length h.rcap) ∧ W'.cell? ⟨w.heap.size, 2, none⟩ = some (.slice h.wa h.ws.length h.wcap) ∧ W'.cell? ⟨w.heap.size, 3, none⟩ = some (.slice h.da h.ds.length h.dcap)) ∧ W'.cell? ⟨w.heap.size + 1, 2, none⟩ = some (.int .i64 efr) ∧ W'.cell? ⟨w.heap.size + 1, 3, none⟩ = some (.int .i64 ept) ∧ W'.cell? ⟨b, off + R.toNat * 3 + 2, none⟩ = some (.slice (some ⟨g, 0, none⟩) N NC)) (first | (refine ⟨⟨?_, ?_, ?_, ?_⟩, ?_, ?_, ?_⟩ <;> with_reducible assumption) | go_keep)
      (first
        | (go_at_call 99; refine c5.mono ?_; rintro en w6 ⟨rfl, hb6⟩; obtain ⟨⟨⟨m0, m1, m2, m3⟩, m4, m5, m6⟩, ⟨⟨d0, d1, d2, d3⟩, d4, d5, d6⟩, ⟨z, q0⟩, q1, br6, hB6, hq6⟩ := HB5.out w6 hb6))
    all_goals
      obtain ⟨hqE, hbE, z0, z1, z2, z3⟩ := ret_heap br6 hq6 hB6 (by omega) (by omega) (.slice (some ⟨b, off, none⟩) h.os.length h.ocap) (.slice h.ra h.rs.length h.rcap) (.slice h.wa h.ws.length h.wcap) (.slice h.da h.ds.length h.dcap) (by simp [HEO.out]) rfl rfl rfl
      obtain ⟨u0, u1, u2, u3⟩ := cells4'' br6
      obtain ⟨v0, v1, v2, v3⟩ := free4 br6
      clear br6 hq6 hB6 HB5 c5
      go_wp2
      refine bodyPost_ret (v := .tuple #[Hp.v { h with os := h.os.set R.toNat (h.os[R.toNat].part ept.toNat Z) }, .string ⟨#[111, 107]⟩]) ?_ rfl ⟨{ h with os := h.os.set R.toNat (h.os[R.toNat].part ept.toNat Z) }, _, rfl, cF, cF.fitQ hqE, hbE.be⟩
      simp [results, Try.results93, go_sem, z0, z1, z2, z3, Hp.v, HEO.out]
end Go.Proofs.Ytcpnkpogebjieaa

namespace Go.Proofs.Ytcpnkpogebjieaa
open Go.RowKit

theorem l4Do_any (h : Hp) (e : Ev) (B : Nat) (w : World) (hq : OwnQ w B h) (hB : B ≤ w.heap.size) (c : OkC h) (he : SegI w e.o.ra e.o.r) (hel : e.o.r.length ≤ 1048576) (het : e.o.t.size ≤ maxLen) (h01 : e.k ≠ 7 → 0 ≤ e.to ∧ e.to < h.rs.length) :
    Calls Try.prog 93 #[h.v, e.v] w fun en w' => ∃ (y : Hp) (s : ByteArray), en = .returned (.tuple #[y.v, .string s]) ∧ OkC y ∧ Fit w' y ∧ Below B w w' := by
  by_cases k2 : e.k = 2
  · exact l4Do_takes h e B w hq hB c he hel het (h01 (by omega)).1 (h01 (by omega)).2 k2
  by_cases k3 : e.k = 3
  · exact l4Do_sets h e B w hq hB c he hel het (h01 (by omega)).1 (h01 (by omega)).2 k3
  exact l4Do_rest h e B w hq hB c he hel het h01 k2 k3
end Go.Proofs.Ytcpnkpogebjieaa
