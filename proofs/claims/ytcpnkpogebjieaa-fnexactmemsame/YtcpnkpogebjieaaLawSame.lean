/- The law on MemSame, walked out of the contracts of what it calls. -/
import Derived.Test.YtcpnkpogebjieaaIm
import Derived.Test.YtcpnkpogebjieaaSz2
import Derived.Test.YtcpnkpogebjieaaLawOk
namespace Go.Proofs.Ytcpnkpogebjieaa
open Go.RowKit

/-- Two heaps boxed at the law's beginning. -/
structure L2 (w W : World) (a b : Hp) : Prop where
  below : Below w.heap.size w W
  ba : Blk W w.heap.size [Value.slice a.oa a.os.length a.ocap, Value.slice a.ra a.rs.length a.rcap, Value.slice a.wa a.ws.length a.wcap, Value.slice a.da a.ds.length a.dcap] 37
  bb : Blk W (w.heap.size + 1) [Value.slice b.oa b.os.length b.ocap, Value.slice b.ra b.rs.length b.rcap, Value.slice b.wa b.ws.length b.wcap, Value.slice b.da b.ds.length b.dcap] 37
theorem L2.step {w W W' : World} {a b : Hp} (h : L2 w W a b) (hb : Below W.heap.size W W') : L2 w W' a b :=
  ⟨h.below.trans (hb.mono h.below.size), h.ba.below hb h.ba.lt, h.bb.below hb h.bb.lt⟩
theorem L2.start (w : World) (a b : Hp) : L2 w ((w.alloc (Obj.cells #[Value.slice a.oa a.os.length a.ocap, Value.slice a.ra a.rs.length a.rcap, Value.slice a.wa a.ws.length a.wcap, Value.slice a.da a.ds.length a.dcap] 37)).alloc (Obj.cells #[Value.slice b.oa b.os.length b.ocap, Value.slice b.ra b.rs.length b.rcap, Value.slice b.wa b.ws.length b.wcap, Value.slice b.da b.ds.length b.dcap] 37)) a b := by
  refine ⟨((Below.refl _ _).alloc (Nat.le_refl _) _).alloc (by simp) _, (Blk.new w _ _).alloc _, ?_⟩
  have := Blk.new (w.alloc (Obj.cells #[Value.slice a.oa a.os.length a.ocap, Value.slice a.ra a.rs.length a.rcap, Value.slice a.wa a.ws.length a.wcap, Value.slice a.da a.ds.length a.dcap] 37)) [Value.slice b.oa b.os.length b.ocap, Value.slice b.ra b.rs.length b.rcap, Value.slice b.wa b.ws.length b.wcap, Value.slice b.da b.ds.length b.dcap] 37
  rw [World.size_alloc] at this
  exact this
theorem L2.cells {w W : World} {a b : Hp} (h : L2 w W a b) :
    (W.cell? ⟨w.heap.size, 0, none⟩ = some (.slice a.oa a.os.length a.ocap) ∧ W.cell? ⟨w.heap.size, 1, none⟩ = some (.slice a.ra a.rs.length a.rcap) ∧ W.cell? ⟨w.heap.size, 2, none⟩ = some (.slice a.wa a.ws.length a.wcap) ∧ W.cell? ⟨w.heap.size, 3, none⟩ = some (.slice a.da a.ds.length a.dcap)) ∧
    (W.cell? ⟨w.heap.size + 1, 0, none⟩ = some (.slice b.oa b.os.length b.ocap) ∧ W.cell? ⟨w.heap.size + 1, 1, none⟩ = some (.slice b.ra b.rs.length b.rcap) ∧ W.cell? ⟨w.heap.size + 1, 2, none⟩ = some (.slice b.wa b.ws.length b.wcap) ∧ W.cell? ⟨w.heap.size + 1, 3, none⟩ = some (.slice b.da b.ds.length b.dcap)) :=
  ⟨cells4' h.ba, cells4' h.bb⟩

theorem fit_copy {w : World} {B go gr gw gd : Nat} {h h' : Hp} (ho : OwnH w B h' go gr gw gd) (hp : h'.p = h.p) (hs : Small h) (ht : ∀ i (hi : i < h.os.length), h.os[i].t.size ≤ maxLen) : Fit w h' :=
  ⟨ho.isIn, Small.of_p hp hs, text_of_p hp ht, fun i hi => by
    obtain ⟨g, _, _, h3, _⟩ := ho.own i hi
    omega⟩
theorem bool_eq {r s : Bool} {P : Prop} (hr : r = true ↔ P) (hs : s = true ↔ P) : r = s := by
  cases r <;> cases s <;> simp_all

set_option maxHeartbeats 3200000 in
set_option maxRecDepth 100000 in
theorem lawMemSame_any (a b : Hp) (w : World) (ha : HpIn w a) (hb : HpIn w b) (fa : Fits a) (fb : Fits b) :
    Calls Try.prog 6 #[a.v, b.v] w fun e w' => e = .returned (.bool true) ∧ Below w.heap.size w w' := by
  have hK := L2.start w a b
  have c1 := szMemHeap_le a 1048576 _ (ha.below hK.below (Nat.le_refl _)) fa (by omega) (by omega)
  go_enter Try.func6, Try.ntmps6
  simp only [Hp.v] at c1 ⊢
  go_wp2_with fail
  refine c1.mono ?_
  rintro e w1 ⟨r, rfl, hb1, hr⟩
  have hK1 := hK.step hb1
  clear c1 hb1 hK
  by_cases hneg : r < 0
  · go_wp2
    go_ret
    exact ⟨rfl, hK1.below⟩
  obtain ⟨hsa, hrl⟩ := hr (by omega)
  clear hr
  have c2 := szMemHeap_le b r w1 (hb.below hK1.below (Nat.le_refl _)) fb (by omega) (by omega)
  simp only [Hp.v] at c2
  obtain ⟨⟨a0, a1, a2, a3⟩, b0, b1, b2, b3⟩ := hK1.cells
  go_wp2_with fail
  refine c2.mono ?_
  rintro e w2 ⟨r', rfl, hb2, hr'⟩
  have hK2 := hK1.step hb2
  clear c2 hb2 hK1 a0 a1 a2 a3 b0 b1 b2 b3
  by_cases hneg' : r' < 0
  · go_wp2
    go_ret
    exact ⟨rfl, hK2.below⟩
  obtain ⟨hsb, -⟩ := hr' (by omega)
  clear hr' hrl hneg
  have hta : ∀ i (hi : i < a.os.length), a.os[i].t.size ≤ maxLen := fun i hi => (fa.oo i hi).2
  have htb : ∀ i (hi : i < b.os.length), b.os[i].t.size ≤ maxLen := fun i hi => (fb.oo i hi).2
  obtain ⟨⟨a0, a1, a2, a3⟩, b0, b1, b2, b3⟩ := hK2.cells
  have hdr : Below w2.heap.size w2 w2.drew := (Below.refl _ _).drew
  have hK2d := hK2.step hdr
  have c3 := toMemHeap_any a w2.drew (ha.below hK2d.below (Nat.le_refl _)) hsa
  have HC : Hid (∀ w3, Below w2.drew.heap.size w2.drew w3 → L2 w w3 a b ∧ _) := fun w3 hb3 => ⟨hK2d.step hb3, toMemHeap_any b w3 (hb.below (hK2d.step hb3).below (Nat.le_refl _)) hsb⟩
  simp only [Hp.v] at c3 HC
  go_wp2_with fail
  go_region_held3 (fun W => (W.cell? ⟨w.heap.size, 0, none⟩ = some (.slice a.oa a.os.length a.ocap) ∧ W.cell? ⟨w.heap.size, 1, none⟩ = some (.slice a.ra a.rs.length a.rcap) ∧ W.cell? ⟨w.heap.size, 2, none⟩ = some (.slice a.wa a.ws.length a.wcap) ∧ W.cell? ⟨w.heap.size, 3, none⟩ = some (.slice a.da a.ds.length a.dcap)) ∧ (W.cell? ⟨w.heap.size + 1, 0, none⟩ = some (.slice b.oa b.os.length b.ocap) ∧ W.cell? ⟨w.heap.size + 1, 1, none⟩ = some (.slice b.ra b.rs.length b.rcap) ∧ W.cell? ⟨w.heap.size + 1, 2, none⟩ = some (.slice b.wa b.ws.length b.wcap) ∧ W.cell? ⟨w.heap.size + 1, 3, none⟩ = some (.slice b.da b.ds.length b.dcap))) (first | (refine ⟨⟨?_, ?_, ?_, ?_⟩, ?_, ?_, ?_, ?_⟩ <;> with_reducible assumption) | go_keep)
    (first
      | (go_at_call_of 16 (Value.agg #[.slice a.oa a.os.length a.ocap, .slice a.ra a.rs.length a.rcap, .slice a.wa a.ws.length a.wcap, .slice a.da a.ds.length a.dcap]); refine c3.mono ?_; rintro e w3 ⟨x, go1, gr1, gw1, gd1, rfl, hpx, hb3, hox⟩; obtain ⟨hK3, c4⟩ := HC.out w3 hb3; have HPX : Hid (x.p = a.p) := hpx; clear hpx; obtain ⟨⟨p0, p1, p2, p3⟩, q0, q1, q2, q3⟩ := hK3.cells)
      | (go_at_call_of 16 (Value.agg #[.slice b.oa b.os.length b.ocap, .slice b.ra b.rs.length b.rcap, .slice b.wa b.ws.length b.wcap, .slice b.da b.ds.length b.dcap]); refine c4.mono ?_; rintro e w4 ⟨y, go2, gr2, gw2, gd2, rfl, hpy, hb4, hoy⟩; have hK4 := hK3.step hb4; have HPY : Hid (y.p = b.p) := hpy; clear hpy; obtain ⟨⟨s0, s1, s2, s3⟩, t0, t1, t2, t3⟩ := hK4.cells; have c5 := specMemSame_any x y w4 ((fit_copy hox HPX.out hsa hta).below hb4 (Nat.le_refl _)) (fit_copy hoy HPY.out hsb htb); simp only [Hp.v] at c5)
      | (go_at_call 22; refine c5.mono ?_; rintro e w5 ⟨rs, rfl, hrs, hb5⟩; have hK5 := hK4.step hb5; obtain ⟨⟨m0, m1, m2, m3⟩, n0, n1, n2, n3⟩ := hK5.cells))
  have HRS : Hid (rs = true ↔ SameP a.p b.p) := by
    show _ ↔ _
    rw [← HPX.out, ← HPY.out]; exact hrs
  clear hrs c3 c4 c5 HC hox hoy HPX HPY hK2 hK2d hdr hK3 hK4 hb3 hb4 hb5
  have c6 := toMemHeap_any a w5 (ha.below hK5.below (Nat.le_refl _)) hsa
  simp only [Hp.v] at c6
  go_wp2_with fail
  refine c6.mono ?_
  rintro e w6 ⟨x, go1, gr1, gw1, gd1, rfl, hpx, hb6, hox⟩
  have hK6 := hK5.step hb6
  have HPX : Hid (x.p = a.p) := hpx
  clear c6 hpx hb6 hK5 m0 m1 m2 m3 n0 n1 n2 n3
  have hA7 : Below w6.heap.size w6 (w6.alloc (Obj.cells #[Value.slice x.oa x.os.length x.ocap, Value.slice x.ra x.rs.length x.rcap, Value.slice x.wa x.ws.length x.wcap, Value.slice x.da x.ds.length x.dcap] 27)) := (Below.refl _ _).alloc (Nat.le_refl _) _
  have hKx := Blk.new w6 [Value.slice x.oa x.os.length x.ocap, Value.slice x.ra x.rs.length x.rcap, Value.slice x.wa x.ws.length x.wcap, Value.slice x.da x.ds.length x.dcap] 27
  have hFx := (fit_copy hox HPX.out hsa hta).below hA7 (Nat.le_refl _)
  have hK7 := hK6.step hA7
  have sz6 := hK6.below.size
  have c7 := toMemHeap_any b _ (hb.below hK7.below (Nat.le_refl _)) hsb
  obtain ⟨⟨m0, m1, m2, m3⟩, n0, n1, n2, n3⟩ := hK7.cells
  simp only [Hp.v] at c7
  clear hox
  go_wp2_with fail
  refine c7.mono ?_
  rintro e w8 ⟨y, go2, gr2, gw2, gd2, rfl, hpy, hb8, hoy⟩
  have HPY : Hid (y.p = b.p) := hpy
  have hK8 := hK7.step hb8
  have hKx8 := hKx.step hb8
  have hFx8 := hFx.below hb8 (Nat.le_refl _)
  clear c7 hpy m0 m1 m2 m3 n0 n1 n2 n3 hK6 hK7 hKx hFx hA7
  have hA9 : Below w8.heap.size w8 (w8.alloc (Obj.cells #[Value.slice y.oa y.os.length y.ocap, Value.slice y.ra y.rs.length y.rcap, Value.slice y.wa y.ws.length y.wcap, Value.slice y.da y.ds.length y.dcap] 27)) := (Below.refl _ _).alloc (Nat.le_refl _) _
  have hKy := Blk.new w8 [Value.slice y.oa y.os.length y.ocap, Value.slice y.ra y.rs.length y.rcap, Value.slice y.wa y.ws.length y.wcap, Value.slice y.da y.ds.length y.dcap] 27
  have hFy := (fit_copy hoy HPY.out hsb htb).below hA9 (Nat.le_refl _)
  have hFx9 := hFx8.below hA9 (Nat.le_refl _)
  have hKx9 := hKx8.step hA9
  have hK9 := hK8.step hA9
  have hlt8 := hKx8.lt
  obtain ⟨x0, x1, x2, x3⟩ := cells4' hKx9
  obtain ⟨y0, y1, y2, y3⟩ := cells4' hKy
  have c9 := implMemSame_any x y _ hFx9 hFy
  simp only [Hp.v] at c9
  clear hb8 hoy hK8 hKx8 hFx8 hA9
  go_wp2_with fail
  refine c9.mono ?_
  rintro e w10 ⟨rg, rfl, hrg, hb10⟩
  have HRG : Hid (rg = true ↔ SameP a.p b.p) := by
    show _ ↔ _
    rw [← HPX.out, ← HPY.out]; exact hrg
  obtain rfl : rg = rs := bool_eq HRG.out HRS.out
  have hne : (rg != rg) = false := by simp
  have hK10 := hK9.step hb10
  have hKx10 := hKx9.step hb10
  have hKy10 := hKy.step hb10
  have hFx10 := hFx9.below hb10 (Nat.le_refl _)
  have hFy10 := hFy.below hb10 (Nat.le_refl _)
  clear c9 hrg HRG HRS x0 x1 x2 x3 y0 y1 y2 y3 hb10 hK9 hKx9 hKy hFx9 hFy
  obtain ⟨x0, x1, x2, x3⟩ := cells4' hKx10
  obtain ⟨y0, y1, y2, y3⟩ := cells4' hKy10
  obtain ⟨⟨a0, a1, a2, a3⟩, b0, b1, b2, b3⟩ := hK10.cells
  have hdr : Below w10.heap.size w10 w10.drew := (Below.refl _ _).drew
  have hK10d := hK10.step hdr
  have hKx10d := hKx10.step hdr
  have hFx10d := hFx10.below hdr (Nat.le_refl _)
  have hFy10d := hFy10.below hdr (Nat.le_refl _)
  have hKy10d := hKy10.step hdr
  have c11 := toMemHeap_any a w10.drew (ha.below hK10d.below (Nat.le_refl _)) hsa
  simp only [Hp.v] at c11
  go_wp2_with fail
  go_region_held3 (fun W => (W.cell? ⟨w6.heap.size, 0, none⟩ = some (.slice x.oa x.os.length x.ocap) ∧ W.cell? ⟨w6.heap.size, 1, none⟩ = some (.slice x.ra x.rs.length x.rcap) ∧ W.cell? ⟨w6.heap.size, 2, none⟩ = some (.slice x.wa x.ws.length x.wcap) ∧ W.cell? ⟨w6.heap.size, 3, none⟩ = some (.slice x.da x.ds.length x.dcap)) ∧ (W.cell? ⟨w.heap.size, 0, none⟩ = some (.slice a.oa a.os.length a.ocap) ∧ W.cell? ⟨w.heap.size, 1, none⟩ = some (.slice a.ra a.rs.length a.rcap) ∧ W.cell? ⟨w.heap.size, 2, none⟩ = some (.slice a.wa a.ws.length a.wcap) ∧ W.cell? ⟨w.heap.size, 3, none⟩ = some (.slice a.da a.ds.length a.dcap))) (first | (refine ⟨⟨?_, ?_, ?_, ?_⟩, ?_, ?_, ?_, ?_⟩ <;> with_reducible assumption) | go_keep)
    (first
      | (go_at_call 16; refine c11.mono ?_; rintro e w11 ⟨x', go1, gr1, gw1, gd1, rfl, hpx', hb11, hox'⟩; have hK11 := hK10d.step hb11; have hKx11 := hKx10d.step hb11; have hFx11 := hFx10d.below hb11 (Nat.le_refl _); obtain ⟨p0, p1, p2, p3⟩ := cells4' hKx11; obtain ⟨⟨s0, s1, s2, s3⟩, t0, t1, t2, t3⟩ := hK11.cells; have c12 := eqMemHeap_eq x x' w11 (HPX.out.trans hpx'.symm) hFx11.isIn hox'.isIn hFx11.small; simp only [Hp.v] at c12; clear hpx')
      | (go_at_call 17; refine c12.mono ?_; rintro e w12 ⟨rfl, hb12⟩; have hK12 := hK11.step hb12; have hKx12 := hKx11.step hb12; obtain ⟨i0, i1, i2, i3⟩ := cells4' hKx12; obtain ⟨⟨j0, j1, j2, j3⟩, k0, k1, k2, k3⟩ := hK12.cells))
  have hKy12 := (hKy10d.step hb11).step hb12
  have hFy12 := (hFy10d.below hb11 (Nat.le_refl _)).below hb12 (Nat.le_refl _)
  clear c11 c12 hK10 hK10d hK11 hKx10 hKx10d hKx11 hKx12 hFx10 hFx10d hFx11 hFy10 hFy10d hKy10 hKy10d hdr hb11 hb12 hox' x0 x1 x2 x3 y0 y1 y2 y3 a0 a1 a2 a3 b0 b1 b2 b3 p0 p1 p2 p3 s0 s1 s2 s3 t0 t1 t2 t3 i0 i1 i2 i3
  obtain ⟨y0, y1, y2, y3⟩ := cells4' hKy12
  have hdr : Below w12.heap.size w12 w12.drew := (Below.refl _ _).drew
  have hK12d := hK12.step hdr
  have hKy12d := hKy12.step hdr
  have hFy12d := hFy12.below hdr (Nat.le_refl _)
  have c13 := toMemHeap_any b w12.drew (hb.below hK12d.below (Nat.le_refl _)) hsb
  simp only [Hp.v] at c13
  go_wp2_with fail
  go_region_held3 (fun W => (W.cell? ⟨w8.heap.size, 0, none⟩ = some (.slice y.oa y.os.length y.ocap) ∧ W.cell? ⟨w8.heap.size, 1, none⟩ = some (.slice y.ra y.rs.length y.rcap) ∧ W.cell? ⟨w8.heap.size, 2, none⟩ = some (.slice y.wa y.ws.length y.wcap) ∧ W.cell? ⟨w8.heap.size, 3, none⟩ = some (.slice y.da y.ds.length y.dcap)) ∧ (W.cell? ⟨w.heap.size + 1, 0, none⟩ = some (.slice b.oa b.os.length b.ocap) ∧ W.cell? ⟨w.heap.size + 1, 1, none⟩ = some (.slice b.ra b.rs.length b.rcap) ∧ W.cell? ⟨w.heap.size + 1, 2, none⟩ = some (.slice b.wa b.ws.length b.wcap) ∧ W.cell? ⟨w.heap.size + 1, 3, none⟩ = some (.slice b.da b.ds.length b.dcap))) (first | (refine ⟨⟨?_, ?_, ?_, ?_⟩, ?_, ?_, ?_, ?_⟩ <;> with_reducible assumption) | go_keep)
    (first
      | (go_at_call 16; refine c13.mono ?_; rintro e w13 ⟨y', go1, gr1, gw1, gd1, rfl, hpy', hb13, hoy'⟩; have hK13 := hK12d.step hb13; have hKy13 := hKy12d.step hb13; have hFy13 := hFy12d.below hb13 (Nat.le_refl _); obtain ⟨p0, p1, p2, p3⟩ := cells4' hKy13; obtain ⟨⟨s0, s1, s2, s3⟩, t0, t1, t2, t3⟩ := hK13.cells; have c14 := eqMemHeap_eq y y' w13 (HPY.out.trans hpy'.symm) hFy13.isIn hoy'.isIn hFy13.small; simp only [Hp.v] at c14; clear hpy')
      | (go_at_call 17; refine c14.mono ?_; rintro e w14 ⟨rfl, hb14⟩; have hK14 := hK13.step hb14; have hKy14 := hKy13.step hb14; obtain ⟨i0, i1, i2, i3⟩ := cells4' hKy14; obtain ⟨⟨u0, u1, u2, u3⟩, v0, v1, v2, v3⟩ := hK14.cells))
  go_wp2
  go_ret
  exact ⟨rfl, hK14.below⟩
end Go.Proofs.Ytcpnkpogebjieaa
