/- The law on MemOk, walked out of the contracts of what it calls. -/
import Derived.Test.YtcpnkpogebjieaaImplOk4
import Derived.Test.YtcpnkpogebjieaaEq2
import Derived.Test.YtcpnkpogebjieaaSz
namespace Go.Proofs.Ytcpnkpogebjieaa
open Go.RowKit

theorem Small.of_p {g h : Hp} (e : g.p = h.p) (hs : Small h) : Small g := by
  simp only [Hp.p, Prod.mk.injEq] at e
  obtain ⟨e1, e2, e3, e4⟩ := e
  have el : g.os.length = h.os.length := by have := congrArg List.length e1; simpa using this
  refine ⟨by rw [el]; exact hs.o, fun i hi => ?_, by rw [e2]; exact hs.r, by rw [e3]; exact hs.w, by rw [e4]; exact hs.d⟩
  have hi' : i < h.os.length := by omega
  have h1 : (g.os.map Ob.p)[i]'(by simpa using hi) = (h.os.map Ob.p)[i]'(by simpa using hi') := by simp only [e1]
  simp only [List.getElem_map, Ob.p, Prod.mk.injEq] at h1
  rw [h1.2.2]
  exact hs.oo i hi'

theorem text_of_p {g h : Hp} (e : g.p = h.p) (hf : ∀ i (hi : i < h.os.length), h.os[i].t.size ≤ maxLen) : ∀ i (hi : i < g.os.length), g.os[i].t.size ≤ maxLen := fun i hi => by
  simp only [Hp.p, Prod.mk.injEq] at e
  obtain ⟨e1, _⟩ := e
  have el : g.os.length = h.os.length := by have := congrArg List.length e1; simpa using this
  have hi' : i < h.os.length := by omega
  have h1 : (g.os.map Ob.p)[i]'(by simpa using hi) = (h.os.map Ob.p)[i]'(by simpa using hi') := by simp only [e1]
  simp only [List.getElem_map, Ob.p, Prod.mk.injEq] at h1
  rw [h1.2.1]
  exact hf i hi'

/-- A heap's four cells in a block of its own. -/
theorem cells4 {w : World} {B t : Nat} {h : Hp} (hk : Blk w B [Value.slice h.oa h.os.length h.ocap, Value.slice h.ra h.rs.length h.rcap, Value.slice h.wa h.ws.length h.wcap, Value.slice h.da h.ds.length h.dcap] t) :
    w.cell? ⟨B, 0, none⟩ = some (.slice h.oa h.os.length h.ocap) ∧ w.cell? ⟨B, 1, none⟩ = some (.slice h.ra h.rs.length h.rcap) ∧ w.cell? ⟨B, 2, none⟩ = some (.slice h.wa h.ws.length h.wcap) ∧ w.cell? ⟨B, 3, none⟩ = some (.slice h.da h.ds.length h.dcap) :=
  ⟨hk.cell 0, hk.cell 1, hk.cell 2, hk.cell 3⟩

set_option maxHeartbeats 1600000 in
set_option maxRecDepth 100000 in
theorem lawMemOk_any (h : Hp) (w : World) (hh : HpIn w h) (hf : Fits h) :
    Calls Try.prog 4 #[h.v] w fun e w' => e = .returned (.bool true) ∧ Below w.heap.size w w' := by
  go_enter Try.func4, Try.ntmps4
  simp only [Hp.v]
  go_wp2_with fail
  have hB0 : Below w.heap.size w (w.alloc (Obj.cells #[Value.slice h.oa h.os.length h.ocap, Value.slice h.ra h.rs.length h.rcap, Value.slice h.wa h.ws.length h.wcap, Value.slice h.da h.ds.length h.dcap] 37)) := (Below.refl _ _).alloc (Nat.le_refl _) _
  have hK0 := Blk.new w [Value.slice h.oa h.os.length h.ocap, Value.slice h.ra h.rs.length h.rcap, Value.slice h.wa h.ws.length h.wcap, Value.slice h.da h.ds.length h.dcap] 37
  have c1 := szMemHeap_any h 1048576 _ (hh.below hB0 (Nat.le_refl _)) hf (by omega) (by omega)
  simp only [Hp.v] at c1
  refine c1.mono ?_
  rintro e w1 ⟨r, rfl, hb1, hr⟩
  have hB1 := hB0.trans (hb1.mono hB0.size)
  have hK1 := hK0.below hb1 hK0.lt
  clear c1 hb1 hB0 hK0
  by_cases hneg : r < 0
  · go_wp2
    go_ret
    exact ⟨rfl, hB1⟩
  have hs := hr (by omega)
  clear hr
  obtain ⟨x0, x1, x2, x3⟩ := cells4 hK1
  go_wp2_with fail
  have c2 := toMemHeap_any h w1 (hh.below hB1 (Nat.le_refl _)) hs
  simp only [Hp.v] at c2
  refine c2.mono ?_
  rintro e w2 ⟨h1, go1, gr1, gw1, gd1, rfl, hp1, hb2, own1⟩
  have hB2 := hB1.trans (hb2.mono hB1.size)
  have hK2 := hK1.below hb2 hK1.lt
  clear c2 hb2 hB1 hK1 x0 x1 x2 x3
  obtain ⟨x0, x1, x2, x3⟩ := cells4 hK2
  have HP1 : Hid (h1.p = h.p) := hp1
  have ht : ∀ i (hi : i < h.os.length), h.os[i].t.size ≤ maxLen := fun i hi => (hf.oo i hi).2
  have c3 := specMemOk_any h1 w2 own1.isIn (Small.of_p hp1 hs) (text_of_p hp1 ht)
  rw [hp1] at c3
  simp only [Hp.v] at c3
  clear hp1
  go_wp2_with fail
  refine c3.mono ?_
  rintro e w3 ⟨rfl, hb3⟩
  have hB3 := hB2.trans (hb3.mono hB2.size)
  have hK3 := hK2.below hb3 hK2.lt
  clear c3 hb3 hB2 hK2 x0 x1 x2 x3 own1 HP1
  obtain ⟨x0, x1, x2, x3⟩ := cells4 hK3
  have c4 := toMemHeap_any h w3 (hh.below hB3 (Nat.le_refl _)) hs
  simp only [Hp.v] at c4
  go_wp2_with fail
  refine c4.mono ?_
  rintro e w4 ⟨h2, go2, gr2, gw2, gd2, rfl, hp2, hb4, own2⟩
  have hB4 := hB3.trans (hb4.mono hB3.size)
  have hK4 := hK3.below hb4 hK3.lt
  clear c4 hb4 hB3 hK3 x0 x1 x2 x3
  have hbX : Below w4.heap.size w4 (w4.alloc (Obj.cells #[Value.slice h2.oa h2.os.length h2.ocap, Value.slice h2.ra h2.rs.length h2.rcap, Value.slice h2.wa h2.ws.length h2.wcap, Value.slice h2.da h2.ds.length h2.dcap] 27)) := (Below.refl _ _).alloc (Nat.le_refl _) _
  have hI2 := own2.isIn.below hbX (Nat.le_refl _)
  have hKX := Blk.new w4 [Value.slice h2.oa h2.os.length h2.ocap, Value.slice h2.ra h2.rs.length h2.rcap, Value.slice h2.wa h2.ws.length h2.wcap, Value.slice h2.da h2.ds.length h2.dcap] 27
  have hB5 := hB4.trans (hbX.mono hB4.size)
  have hK5 := hK4.below hbX hK4.lt
  have HP2 : Hid (h2.p = h.p) := hp2
  have hs2 := Small.of_p hp2 hs
  have c5 := implMemOk_any h2 _ hI2 hs2 (text_of_p hp2 ht)
  rw [hp2] at c5
  simp only [Hp.v] at c5
  clear hp2 own2 hbX hB4 hK4
  go_wp2_with fail
  refine c5.mono ?_
  rintro e w5 ⟨rfl, hb5⟩
  have hB6 := hB5.trans (hb5.mono hB5.size)
  have hK6 := hK5.below hb5 hK5.lt
  have hKY := hKX.below hb5 hKX.lt
  have hI3 := hI2.below hb5 (Nat.le_refl _)
  clear c5 hb5 hB5 hK5 hKX hI2
  obtain ⟨x0, x1, x2, x3⟩ := cells4 hK6
  obtain ⟨y0, y1, y2, y3⟩ := cells4 hKY
  generalize okP h.p = OKv
  have hdr : Below w5.heap.size w5 w5.drew := (Below.refl _ _).drew
  have c6 := toMemHeap_any h w5.drew ((hh.below hB6 (Nat.le_refl _)).below hdr (Nat.le_refl _)) hs
  simp only [Hp.v] at c6
  have hI4 := hI3.below hdr (Nat.le_refl _)
  have hKYd := hKY.below hdr hKY.lt
  have hne : (OKv != OKv) = false := by simp
  go_wp2_with fail
  go_region_with (first
    | (go_at_call 16; refine c6.mono ?_; rintro e w6 ⟨h3, go3, gr3, gw3, gd3, rfl, hp3, hb6, own3⟩; have hKZ := hKYd.below hb6 hKYd.lt; obtain ⟨z0, z1, z2, z3⟩ := cells4 hKZ; have c7 := eqMemHeap_eq h2 h3 w6 (HP2.out.trans hp3.symm) (hI4.below hb6 (Nat.le_refl _)) own3.isIn hs2; simp only [Hp.v] at c7; clear hp3)
    | (go_at_call 17; refine c7.mono ?_; rintro e w7 ⟨rfl, hb7⟩))
  all_goals
    have q1 := hB6.drew.trans (hb6.mono hB6.drew.size)
    have q2 := q1.trans (hb7.mono q1.size)
    go_wp2
    go_ret
    exact ⟨rfl, q2⟩
end Go.Proofs.Ytcpnkpogebjieaa
