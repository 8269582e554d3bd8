/- The specification's own events: one event of a copy of an ok heap, but for taking and setting a part (2, 3), which are still to walk. · The specification's own events: one part of one object is written. -/
import Derived.Test.YtcpnkpogebjieaaDt
namespace Go.Proofs.Ytcpnkpogebjieaa
open Go.RowKit

theorem OwnQ.rowsLt {w : World} {B : Nat} {h : Hp} (hq : OwnQ w B h) : RowsLt h w.heap.size := ⟨fun k e => (hq.ob.lt k e).2, fun k e => (hq.ro.lt k e).2, fun k e => (hq.wa.lt k e).2⟩

set_option maxHeartbeats 1600000 in
set_option maxRecDepth 100000 in
theorem l4Do_rest (h : Hp) (e : Ev) (B : Nat) (w : World) (hq : OwnQ w B h) (hB : B ≤ w.heap.size) (c : OkC h) (he : SegI w e.o.ra e.o.r) (hel : e.o.r.length ≤ 1048576) (het : e.o.t.size ≤ maxLen) (h01 : e.k ≠ 7 → 0 ≤ e.to ∧ e.to < h.rs.length) (k2 : e.k ≠ 2) (k3 : e.k ≠ 3) :
    Calls Try.prog 93 #[h.v, e.v] w fun en w' => ∃ (y : Hp) (s : ByteArray), en = .returned (.tuple #[y.v, .string s]) ∧ OkC y ∧ Fit w' y ∧ Below B w w' := by
  obtain ⟨b0, hb0⟩ := Bx3.start w h e
  have hq3 := hq.below hb0 (Nat.le_refl _)
  have he3 := he.below hb0 (Nat.le_refl _)
  have hB3 := Nat.le_trans hB hb0.size
  have hTT := hq.rowsLt
  obtain ⟨ek, eto, efr, ept, eo⟩ := e
  dsimp only at *
  go_enter Try.func93, Try.ntmps93
  simp only [Hp.v, Ev.v, Ev.cs]
  go_upto_region 1 with fail
  obtain ⟨W3, hW3⟩ : ∃ W3, W3 = (((w.alloc (Obj.cells #[Value.slice h.oa h.os.length h.ocap, Value.slice h.ra h.rs.length h.rcap, Value.slice h.wa h.ws.length h.wcap, Value.slice h.da h.ds.length h.dcap] 27)).alloc (Obj.cells #[Value.int .i64 ek, Value.int .i64 eto, Value.int .i64 efr, Value.int .i64 ept, Value.int .i64 eo.k, Value.string eo.t, Value.slice eo.ra eo.r.length eo.rcap] 118)).alloc (Obj.cells #[Value.slice none 0 0, Value.slice none 0 0, Value.slice none 0 0, Value.slice none 0 0] 27)) := ⟨_, rfl⟩
  rw [← hW3] at b0 hb0 hq3 he3 hB3 ⊢
  clear hW3
  obtain ⟨⟨x0, x1, x2, x3⟩, ⟨y0, y1, y2, y3, y4, y5, y6⟩, ⟨u0, u1, u2, u3⟩, g0, g1, g2, g3⟩ := b0.cells
  obtain ⟨hqE, hbE, z0, z1, z2, z3⟩ := ret_heap (T := w.heap.size) b0.br hq3 (Md.of hb0 hB) (by omega) (by omega) _ _ _ _ rfl rfl rfl rfl
  by_cases k1 : ek = 1
  · subst k1
    obtain ⟨h0, h1⟩ := h01 (by omega)
    clear hqE hbE z0 z1 z2 z3
    have cc := l4Makes_any h ⟨1, eto, efr, ept, eo⟩ B w.heap.size W3 hq3 hB3 c hTT he3 hel het h0 h1
    simp only [Hp.v, Ev.v, Ev.cs] at cc
    go_wp2_with fail
    refine cc.mono ?_
    rintro en w1 ⟨y, s, rfl, cy, hqy, hM⟩
    have br1 : Blk w1 (w.heap.size + 1 + 1) [Value.slice none 0 0, Value.slice none 0 0, Value.slice none 0 0, Value.slice none 0 0] 27 := by
      have := hM.fr (w.heap.size + 1 + 1) (by omega) b0.br.lt
      unfold Blk
      rw [this]; exact b0.br
    clear x0 x1 x2 x3 y0 y1 y2 y3 y4 y5 y6 u0 u1 u2 u3 g0 g1 g2 g3
    obtain ⟨r0, r1, r2, r3⟩ := cells4'' br1
    obtain ⟨f0, f1, f2, f3⟩ := free4 br1
    obtain ⟨kq, bq⟩ := put4 br1 (.slice y.oa y.os.length y.ocap) (.slice y.ra y.rs.length y.rcap) (.slice y.wa y.ws.length y.wcap) (.slice y.da y.ds.length y.dcap)
    obtain ⟨z0, z1, z2, z3⟩ := cells4'' bq
    have hqE := hqy.keep kq
    have hbE := below4 ((hb0.mono hB).trans hM.be) (C := w.heap.size + 1 + 1) (by omega) (.slice y.oa y.os.length y.ocap) (.slice y.ra y.rs.length y.rcap) (.slice y.wa y.ws.length y.wcap) (.slice y.da y.ds.length y.dcap)
    clear kq bq cc hM hqy
    go_wp2
    refine bodyPost_ret (v := .tuple #[y.v, .string s]) ?_ rfl ⟨y, s, rfl, cy, cy.fitQ hqE, hbE⟩
    simp [results, Try.results93, go_sem, z0, z1, z2, z3, Hp.v]
  have n1 : (ek == 1) = false := by simp [k1]
  have n2 : (ek == 2) = false := by simp [k2]
  have n3 : (ek == 3) = false := by simp [k3]
  by_cases k4 : ek = 4
  · subst k4
    obtain ⟨h0, h1⟩ := h01 (by omega)
    obtain ⟨gr, hgr⟩ := hq3.ro.ptr (by omega)
    have hro3 : OwnL W3 B (.slice (some ⟨gr, 0, none⟩) h.rs.length h.rcap) h.rs := by rw [← hgr]; exact hq3.ro
    have hgT : gr < w.heap.size := hTT.r gr (by rw [hgr]; rfl)
    have q0 := hro3.at (k := eto.toNat) (by omega)
    have q1 := hro3.free eto.toNat
    have hqF := hq3.setRoot hgr eto.toNat (-1)
    have hMF : Md B w.heap.size w (W3.setCell ⟨gr, eto.toNat, none⟩ (.int .i64 (-1))) := (Md.of hb0 hB).set (p := ⟨gr, eto.toNat, none⟩) (hro3.lt gr rfl).1 (Or.inl hgT) _
    have brF := b0.br.other ⟨gr, eto.toNat, none⟩ (.int .i64 (-1)) (by dsimp only; omega)
    have cF := c.root (z := -1) ⟨by omega, by omega⟩ eto.toNat
    clear hqE hbE z0 z1 z2 z3
    obtain ⟨hqE, hbE, z0, z1, z2, z3⟩ := ret_heap brF hqF hMF (by omega) (by omega) (.slice h.oa h.os.length h.ocap) (.slice (some ⟨gr, 0, none⟩) h.rs.length h.rcap) (.slice h.wa h.ws.length h.wcap) (.slice h.da h.ds.length h.dcap) rfl (by simp [hgr]) rfl rfl
    have hne1 : ¬ w.heap.size = gr := by omega
    have hne2 : ¬ gr = w.heap.size := by omega
    clear hqF hMF brF
    go_wp2
    refine bodyPost_ret (v := .tuple #[Hp.v { h with rs := h.rs.set eto.toNat (-1) }, .string ⟨#[111, 107]⟩]) ?_ rfl ⟨{ h with rs := h.rs.set eto.toNat (-1) }, ⟨_, rfl⟩, cF, cF.fitQ hqE, hbE.be⟩
    simp [results, Try.results93, go_sem, z0, z1, z2, z3, Hp.v, hgr]
  have n4 : (ek == 4) = false := by simp [k4]
  by_cases k5 : ek = 5
  · subst k5
    clear hqE hbE z0 z1 z2 z3
    have cc := l4Watches_any h ⟨5, eto, efr, ept, eo⟩ B w.heap.size W3 hq3 hB3 c hTT 
    simp only [Hp.v, Ev.v, Ev.cs] at cc
    go_wp2_with fail
    refine cc.mono ?_
    rintro en w1 ⟨y, s, rfl, cy, hqy, hM⟩
    have br1 : Blk w1 (w.heap.size + 1 + 1) [Value.slice none 0 0, Value.slice none 0 0, Value.slice none 0 0, Value.slice none 0 0] 27 := by
      have := hM.fr (w.heap.size + 1 + 1) (by omega) b0.br.lt
      unfold Blk
      rw [this]; exact b0.br
    clear x0 x1 x2 x3 y0 y1 y2 y3 y4 y5 y6 u0 u1 u2 u3 g0 g1 g2 g3
    obtain ⟨r0, r1, r2, r3⟩ := cells4'' br1
    obtain ⟨f0, f1, f2, f3⟩ := free4 br1
    obtain ⟨kq, bq⟩ := put4 br1 (.slice y.oa y.os.length y.ocap) (.slice y.ra y.rs.length y.rcap) (.slice y.wa y.ws.length y.wcap) (.slice y.da y.ds.length y.dcap)
    obtain ⟨z0, z1, z2, z3⟩ := cells4'' bq
    have hqE := hqy.keep kq
    have hbE := below4 ((hb0.mono hB).trans hM.be) (C := w.heap.size + 1 + 1) (by omega) (.slice y.oa y.os.length y.ocap) (.slice y.ra y.rs.length y.rcap) (.slice y.wa y.ws.length y.wcap) (.slice y.da y.ds.length y.dcap)
    clear kq bq cc hM hqy
    go_wp2
    refine bodyPost_ret (v := .tuple #[y.v, .string s]) ?_ rfl ⟨y, s, rfl, cy, cy.fitQ hqE, hbE⟩
    simp [results, Try.results93, go_sem, z0, z1, z2, z3, Hp.v]
  have n5 : (ek == 5) = false := by simp [k5]
  by_cases k6 : ek = 6
  · subst k6
    obtain ⟨h0, h1⟩ := h01 (by omega)
    clear hqE hbE z0 z1 z2 z3
    have cc := l4Asks_any h ⟨6, eto, efr, ept, eo⟩ B w.heap.size W3 hq3 hB3 c hTT h0 h1
    simp only [Hp.v, Ev.v, Ev.cs] at cc
    go_wp2_with fail
    refine cc.mono ?_
    rintro en w1 ⟨y, s, rfl, cy, hqy, hM⟩
    have br1 : Blk w1 (w.heap.size + 1 + 1) [Value.slice none 0 0, Value.slice none 0 0, Value.slice none 0 0, Value.slice none 0 0] 27 := by
      have := hM.fr (w.heap.size + 1 + 1) (by omega) b0.br.lt
      unfold Blk
      rw [this]; exact b0.br
    clear x0 x1 x2 x3 y0 y1 y2 y3 y4 y5 y6 u0 u1 u2 u3 g0 g1 g2 g3
    obtain ⟨r0, r1, r2, r3⟩ := cells4'' br1
    obtain ⟨f0, f1, f2, f3⟩ := free4 br1
    obtain ⟨kq, bq⟩ := put4 br1 (.slice y.oa y.os.length y.ocap) (.slice y.ra y.rs.length y.rcap) (.slice y.wa y.ws.length y.wcap) (.slice y.da y.ds.length y.dcap)
    obtain ⟨z0, z1, z2, z3⟩ := cells4'' bq
    have hqE := hqy.keep kq
    have hbE := below4 ((hb0.mono hB).trans hM.be) (C := w.heap.size + 1 + 1) (by omega) (.slice y.oa y.os.length y.ocap) (.slice y.ra y.rs.length y.rcap) (.slice y.wa y.ws.length y.wcap) (.slice y.da y.ds.length y.dcap)
    clear kq bq cc hM hqy
    go_wp2
    refine bodyPost_ret (v := .tuple #[y.v, .string s]) ?_ rfl ⟨y, s, rfl, cy, cy.fitQ hqE, hbE⟩
    simp [results, Try.results93, go_sem, z0, z1, z2, z3, Hp.v]
  have n6 : (ek == 6) = false := by simp [k6]
  by_cases k7 : ek = 7
  · subst k7
    clear hqE hbE z0 z1 z2 z3
    have cc := specMemCollect_any h W3 (c.fitQ hq3)
    simp only [Hp.v] at cc
    go_wp2_with fail
    refine cc.mono ?_
    rintro en w1 ⟨y, v, rfl, cy, fy, hM⟩
    have br1 := b0.br.below hM b0.br.lt
    clear x0 x1 x2 x3 y0 y1 y2 y3 y4 y5 y6 u0 u1 u2 u3 g0 g1 g2 g3
    have hA : Below w1.heap.size w1 (w1.alloc (Obj.cells #[Value.slice y.oa y.os.length y.ocap, Value.slice y.ra y.rs.length y.rcap, Value.slice y.wa y.ws.length y.wcap, Value.slice y.da y.ds.length y.dcap] 27)) := (Below.refl _ _).alloc (Nat.le_refl _) _
    have bX := Blk.new w1 [Value.slice y.oa y.os.length y.ocap, Value.slice y.ra y.rs.length y.rcap, Value.slice y.wa y.ws.length y.wcap, Value.slice y.da y.ds.length y.dcap] 27
    have br2 := br1.below hA br1.lt
    obtain ⟨x0, x1, x2, x3⟩ := cells4'' bX
    obtain ⟨r0, r1, r2, r3⟩ := cells4'' br2
    obtain ⟨f0, f1, f2, f3⟩ := free4 br2
    obtain ⟨r4, r5, r6, r7⟩ := cells4'' br1
    obtain ⟨f4, f5, f6, f7⟩ := free4 br1
    obtain ⟨kq, bq⟩ := put4 br1 (.slice y.oa y.os.length y.ocap) (.slice y.ra y.rs.length y.rcap) (.slice y.wa y.ws.length y.wcap) (.slice y.da y.ds.length y.dcap)
    have hlt := br1.lt
    have hne1 : ¬ w1.heap.size = w.heap.size + 1 + 1 := by omega
    have hne2 : ¬ w.heap.size + 1 + 1 = w1.heap.size := by omega
    have hb4 := below4 ((hb0.mono hB).trans (hM.mono hB3)) (C := w.heap.size + 1 + 1) (by omega) (.slice y.oa y.os.length y.ocap) (.slice y.ra y.rs.length y.rcap) (.slice y.wa y.ws.length y.wcap) (.slice y.da y.ds.length y.dcap)
    have hA4 : Below ((((w1.setCell ⟨w.heap.size + 1 + 1, 0, none⟩ (.slice y.oa y.os.length y.ocap)).setCell ⟨w.heap.size + 1 + 1, 1, none⟩ (.slice y.ra y.rs.length y.rcap)).setCell ⟨w.heap.size + 1 + 1, 2, none⟩ (.slice y.wa y.ws.length y.wcap)).setCell ⟨w.heap.size + 1 + 1, 3, none⟩ (.slice y.da y.ds.length y.dcap)).heap.size ((((w1.setCell ⟨w.heap.size + 1 + 1, 0, none⟩ (.slice y.oa y.os.length y.ocap)).setCell ⟨w.heap.size + 1 + 1, 1, none⟩ (.slice y.ra y.rs.length y.rcap)).setCell ⟨w.heap.size + 1 + 1, 2, none⟩ (.slice y.wa y.ws.length y.wcap)).setCell ⟨w.heap.size + 1 + 1, 3, none⟩ (.slice y.da y.ds.length y.dcap)) (((((w1.setCell ⟨w.heap.size + 1 + 1, 0, none⟩ (.slice y.oa y.os.length y.ocap)).setCell ⟨w.heap.size + 1 + 1, 1, none⟩ (.slice y.ra y.rs.length y.rcap)).setCell ⟨w.heap.size + 1 + 1, 2, none⟩ (.slice y.wa y.ws.length y.wcap)).setCell ⟨w.heap.size + 1 + 1, 3, none⟩ (.slice y.da y.ds.length y.dcap)).alloc (Obj.cells #[Value.slice y.oa y.os.length y.ocap, Value.slice y.ra y.rs.length y.rcap, Value.slice y.wa y.ws.length y.wcap, Value.slice y.da y.ds.length y.dcap] 27)) := (Below.refl _ _).alloc (Nat.le_refl _) _
    have bq4 := bq.below hA4 bq.lt
    obtain ⟨z0, z1, z2, z3⟩ := cells4'' bq4
    have fE := fy _ (kq.trans (KeepT.below _ hA4 (Nat.le_refl _)))
    have hbE := hb4.trans (hA4.mono (Nat.le_trans hB hb4.size))
    clear kq bq cc hM fy br1 br2 bX hA hA4 bq4 hb4
    go_wp2
    refine bodyPost_ret (v := .tuple #[y.v, .string ⟨#[111, 107]⟩]) ?_ rfl ⟨y, _, rfl, cy, fE, hbE⟩
    clear fE hbE
    generalize ((((w1.setCell ⟨w.heap.size + 1 + 1, 0, none⟩ (.slice y.oa y.os.length y.ocap)).setCell ⟨w.heap.size + 1 + 1, 1, none⟩ (.slice y.ra y.rs.length y.rcap)).setCell ⟨w.heap.size + 1 + 1, 2, none⟩ (.slice y.wa y.ws.length y.wcap)).setCell ⟨w.heap.size + 1 + 1, 3, none⟩ (.slice y.da y.ds.length y.dcap)).alloc (Obj.cells #[Value.slice y.oa y.os.length y.ocap, Value.slice y.ra y.rs.length y.rcap, Value.slice y.wa y.ws.length y.wcap, Value.slice y.da y.ds.length y.dcap] 27) = WE at z0 z1 z2 z3 ⊢
    simp [results, Try.results93, go_sem, z0, z1, z2, z3, Hp.v]
  have n7 : (ek == 7) = false := by simp [k7]
  clear k1 k2 k3 k4 k5 k6 k7
  · go_wp2
    refine bodyPost_ret (v := .tuple #[h.v, .string ⟨#[110, 111]⟩]) ?_ rfl ⟨h, ⟨_, rfl⟩, c, c.fitQ hqE, hbE.be⟩
    simp [results, Try.results93, go_sem, z0, z1, z2, z3, Hp.v]
end Go.Proofs.Ytcpnkpogebjieaa

namespace Go.Proofs.Ytcpnkpogebjieaa
open Go.RowKit

/-- An object with one part written. -/
def Ob.part (o : Ob) (k : Nat) (z : Int) : Ob := { o with r := o.r.set k z }
theorem Ob.part_rv (o : Ob) (k : Nat) (z : Int) : (o.part k z).rv = o.rv := by simp [Ob.part, Ob.rv]
theorem Ob.part_cs (o : Ob) (k : Nat) (z : Int) : (o.part k z).cs = o.cs := by simp [Ob.part, Ob.cs]
theorem objOk_part {n : Int} {o : Ob} (h : objOk n o.p = true) {z : Int} (hz : -1 ≤ z ∧ z < n) (k : Nat) : objOk n (o.part k z).p = true := by
  simp only [objOk, Ob.p, Ob.part, Bool.and_eq_true, List.length_set] at *
  refine ⟨?_, h.2⟩
  have h1 := h.1
  unfold refsOk at *
  rw [List.all_eq_true] at *
  intro y hy
  rcases List.mem_or_eq_of_mem_set hy with hy | hy
  · exact h1 y hy
  · subst hy; simp [inB]; omega
theorem watchOk_part {os : List Ob} {i : Nat} (hi : i < os.length) (k : Nat) (z : Int) {p : Int × Int} (h : watchOk (os.map Ob.p) p = true) : watchOk ((os.set i (os[i].part k z)).map Ob.p) p = true := by
  simp only [watchOk, List.length_map, List.length_set] at *
  have e : ((os.set i (os[i].part k z)).map Ob.p)[p.1.toNat]?.map (fun o => o.1) = (os.map Ob.p)[p.1.toNat]?.map (fun o => o.1) := by
    simp only [List.getElem?_map, List.getElem?_set, Option.map_map]
    by_cases hj : i = p.1.toNat
    · rw [if_pos hj, ← hj, if_pos hi]
      simp [Ob.p, Ob.part, hi]
    · rw [if_neg hj]
  rw [e]; exact h
theorem OkC.part {h : Hp} (c : OkC h) {i : Nat} (hi : i < h.os.length) {z : Int} (hz : -1 ≤ z ∧ z < h.os.length) (k : Nat) : OkC { h with os := h.os.set i (h.os[i].part k z) } := by
  refine ⟨by simpa using c.n60, c.r8, c.w20, fun j hj => ?_, fun y hy => ?_, fun p hp => watchOk_part hi k z (c.wo p hp), fun p hp => watchOk_part hi k z (c.dd p hp)⟩
  · simp only [List.length_set] at hj ⊢
    rw [List.getElem_set]
    split
    · exact objOk_part (c.ob i hi) hz k
    · exact c.ob j hj
  · simp only [List.length_set]; exact c.ro y hy
/-- The row of the objects is as it was; the part's row alone is written. -/
theorem OwnQ.setPart {w : World} {B : Nat} {h : Hp} (hq : OwnQ w B h) {i : Nat} (hi : i < h.os.length) {g : Nat} (hg : h.os[i].ra = some ⟨g, 0, none⟩) (k : Nat) (z : Int) : OwnQ (w.setCell ⟨g, k, none⟩ (.int .i64 z)) B { h with os := h.os.set i (h.os[i].part k z) } := by
  have hri := hq.rs i hi
  have hri' : OwnL w B (.slice (some ⟨g, 0, none⟩) h.os[i].r.length h.os[i].rcap) h.os[i].r := by rw [← hg]; exact hri
  have hgo : h.os[i].rv.ownBlock = some g := by unfold Ob.rv; rw [hg]; rfl
  have hne : ∀ {base e size n : Nat} {v : Value} {xs : List Value}, w.ownsRow base e size v n xs → e ≠ 3 → v.ownBlock ≠ some g := fun hr he e1 => by
    obtain ⟨c1, q1⟩ := row_ty hr e1
    obtain ⟨c2, q2⟩ := row_ty hri' rfl
    rw [q1] at q2
    simp at q2
    exact he q2.2
  have hfl : (h.os.set i (h.os[i].part k z)).flatMap Ob.cs = h.os.flatMap Ob.cs := by
    rw [List.flatMap_def, List.flatMap_def, List.map_set, Ob.part_cs]
    congr 1
    rw [← List.getElem_map (f := Ob.cs) (h := by simpa using hi)]
    exact List.set_getElem_self _
  have hrv : ∀ j (hj : j < (h.os.set i (h.os[i].part k z)).length), (h.os.set i (h.os[i].part k z))[j].rv = (h.os[j]'(by simpa using hj)).rv := fun j hj => by
    rw [List.getElem_set]
    split
    · rename_i e; subst e; exact Ob.part_rv _ _ _
    · rfl
  refine ⟨?_, fun j hj => ?_, fun j l hj hl hjl => ?_, ?_, fun j hj => ?_, ownsRow_setCell_other hq.wa (hne hq.wa (by decide)) _, ownsRow_setCell_other hq.da (hne hq.da (by decide)) _, hq.wne⟩
  · have := ownsRow_setCell_other hq.ob (a := ⟨g, k, none⟩) (hne hq.ob (by decide)) (.int .i64 z)
    unfold OwnB
    simp only [hfl, List.length_set]
    exact this
  · have hj' : j < h.os.length := by simpa using hj
    simp only [List.getElem_set]
    by_cases e : i = j
    · subst e
      simp only [if_true]
      have := hri'.set rfl (k := k) z
      unfold Ob.part Ob.rv
      simp only [hg, List.length_set]
      exact this
    · simp only [if_neg e]
      exact ownsRow_setCell_other (hq.rs j hj') (fun e1 => hq.rne i j hi hj' e g hgo e1) _
  · simp only [hrv]
    exact hq.rne j l (by simpa using hj) (by simpa using hl) hjl
  · exact ownsRow_setCell_other hq.ro (fun e1 => hq.rro i hi g hgo e1) _
  · simp only [hrv]
    exact hq.rro j (by simpa using hj)
end Go.Proofs.Ytcpnkpogebjieaa
