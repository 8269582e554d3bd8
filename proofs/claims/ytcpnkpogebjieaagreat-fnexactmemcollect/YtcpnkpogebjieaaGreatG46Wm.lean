/- The law on MemCollect: what it holds between its two calls. -/
import Derived.Test.YtcpnkpogebjieaaGreatG45Wh
namespace Go.Proofs.YtcpnkpogebjieaaGreat.Co
open Go.RowKit
set_option linter.unusedSimpArgs false
structure Lg (h : Hp) (N b1 b4 b7 : Nat) (y : Hp) (sv : Value) (ms : List Int) (m3 m4 m6 M : Nat) (g gq : Hp) (gv : Value) (zs : List Int) (E : World) : Prop where
 hh : ∃ E0, Hold N E0 E ∧ HpIn E0 h
 k1 : Blk E b1 (Hp.cells h) 48
 k4 : Blk E b4 (Hp.cells y) 27
 k7 : Blk E b7 (Hp.cells g) 27
 n1 : N ≤ b1
 l1 : b1 < m3
 l3 : m3 ≤ m4
 l4 : m3 ≤ b4 ∧ b4 < m4
 l6 : m4 ≤ m6
 n7 : m6 ≤ b7
 sp : ∃ E3, Hold m3 E3 E ∧ HpIn E3 y ∧ OwnL E3 N sv ms
 ok : OkC y
 po : OwnP E M gq
 lo : OwnL E m6 gv zs
 le : m6 ≤ M
 gl : ∀ k, gv.ownBlock = some k → k < M
 ep : g.p = y.p
structure Lx (h : Hp) (m4 m6 b6 : Nat) (x : Hp) (go gr gw gd : Nat) (E : World) : Prop where
 k6 : Blk E b6 (Hp.cells x) 27
 l6 : gd < b6
 n6 : b6 < m6
 ox : OwnH E m4 x go gr gw gd
 px : x.p = h.p
section
variable {h : Hp} {N b1 b4 b6 b7 : Nat} {y : Hp} {sv : Value} {ms : List Int} {m3 m4 m6 M : Nat} {g gq : Hp} {gv : Value} {zs : List Int} {x : Hp} {go gr gw gd : Nat} {E E' : World}
theorem Lg.on (L : Lg h N b1 b4 b7 y sv ms m3 m4 m6 M g gq gv zs E) (o : On E E') : Lg h N b1 b4 b7 y sv ms m3 m4 m6 M g gq gv zs E' := by
 obtain ⟨E0, h1, h2⟩ := L.hh
 obtain ⟨E3, h3, h4, h5⟩ := L.sp
 exact ⟨⟨E0, h1.on o, h2⟩, blk_on L.k1 o, blk_on L.k4 o, blk_on L.k7 o, L.n1, L.l1, L.l3, L.l4, L.l6, L.n7, ⟨E3, h3.on o, h4, h5⟩, L.ok, L.po.on o, ownL_on L.lo o, L.le, L.gl, L.ep⟩
theorem Lx.on (L : Lx h m4 m6 b6 x go gr gw gd E) (o : On E E') : Lx h m4 m6 b6 x go gr gw gd E' := ⟨blk_on L.k6 o, L.l6, L.n6, ownH_on L.ox o, L.px⟩
theorem Lg.hin (L : Lg h N b1 b4 b7 y sv ms m3 m4 m6 M g gq gv zs E) : HpIn E h := by
 obtain ⟨E0, h1, h2⟩ := L.hh
 exact h1.hp h2
theorem Lg.yin (L : Lg h N b1 b4 b7 y sv ms m3 m4 m6 M g gq gv zs E) : HpIn E y := by
 obtain ⟨E3, h3, h4, h5⟩ := L.sp
 exact h3.hp h4
theorem Lg.svo (L : Lg h N b1 b4 b7 y sv ms m3 m4 m6 M g gq gv zs E) : OwnL E N sv ms := by
 obtain ⟨E3, h3, h4, h5⟩ := L.sp
 exact h3.row h5
end
theorem seg_of {E : World} {B : Nat} {a : Option Addr} {cap : Nat} {xs : List Int} (h : OwnL E B (.slice a xs.length cap) xs) : SegI E a xs := by
 obtain ⟨a', cap', e, hs, _⟩ := h.form
 simp only [Value.slice.injEq] at e
 rw [e.1]; exact hs
noncomputable def lwD2 : Code := match lwD with
 | .seq _ (.seq _ c) => c
 | _ => .skip
noncomputable def lwD3 : Code := match lwD2 with
 | .seq _ (.seq _ (.seq _ c)) => c
 | _ => .skip
structure Sl (b1 b4 b7 : Nat) (sv gv : Value) (a : Act) : Prop where
 df : a.defers = []
 sz : a.tmps.size = 112
 t1 : a.tmps[1]? = some (.pointer (some ⟨b1, 0, none⟩))
 t4 : a.tmps[4]? = some (.pointer (some ⟨b4, 0, none⟩))
 t5 : a.tmps[5]? = some sv
 t7 : a.tmps[7]? = some (.pointer (some ⟨b7, 0, none⟩))
 t8 : a.tmps[8]? = some gv
section
variable {h : Hp} {N b1 b4 b6 b7 : Nat} {y : Hp} {va : Option Addr} {vcap : Nat} {ms : List Int} {m3 m4 m6 M : Nat} {g gq : Hp} {ga : Option Addr} {gcap : Nat} {zs : List Int} {x : Hp} {go gr gw gd : Nat}
set_option maxRecDepth 100000 in
set_option maxHeartbeats 8000000 in
theorem law_p2a (v0 v2 v3 v9 v10 v11 v12 v13 v14 v15 v16 v17 v18 v19 v20 v21 v22 v23 v24 v25 v26 v27 v28 v29 v30 v31 v32 v33 v34 v35 v36 v37 v38 v39 v40 v41 v42 v43 v44 v45 v46 v47 v48 v49 v50 v51 v52 v53 v54 v55 v56 v57 v58 v59 v60 v61 v62 v63 v64 v65 v66 v67 v68 v69 v70 v71 v72 v73 v74 v75 v76 v77 v78 v79 v80 v81 v82 v83 v84 v85 v86 v87 v88 v89 v90 v91 v92 v93 v94 v95 v96 v97 v98 v99 v100 v101 v102 v103 v104 v105 v106 v107 v108 v109 v110 v111 : Value) (E : World) (hs : Small h) (ez : zs = ms) (L : Lg h N b1 b4 b7 y (.slice va ms.length vcap) ms m3 m4 m6 M g g (.slice ga zs.length gcap) zs E) (Lx0 : Lx h m4 m6 b6 x go gr gw gd E) :
   chain Cut.prog (fun c a w1 => c = lwD2 ∧ Sl b1 b4 b7 (.slice va ms.length vcap) (.slice ga zs.length gcap) a ∧ a.tmps[6]? = some (.pointer (some ⟨b6, 0, none⟩)) ∧ Below E.heap.size E w1) (fun _ _ => False) 2 lwD ⟨#[v0, .pointer (some ⟨b1, 0, none⟩), v2, v3, .pointer (some ⟨b4, 0, none⟩), .slice va ms.length vcap, .pointer (some ⟨b6, 0, none⟩), .pointer (some ⟨b7, 0, none⟩), .slice ga zs.length gcap, v9, v10, v11, v12, v13, v14, v15, v16, v17, v18, v19, v20, v21, v22, v23, v24, v25, v26, v27, v28, v29, v30, v31, v32, v33, v34, v35, v36, v37, v38, v39, v40, v41, v42, v43, v44, v45, v46, v47, v48, v49, v50, v51, v52, v53, v54, v55, v56, v57, v58, v59, v60, v61, v62, v63, v64, v65, v66, v67, v68, v69, v70, v71, v72, v73, v74, v75, v76, v77, v78, v79, v80, v81, v82, v83, v84, v85, v86, v87, v88, v89, v90, v91, v92, v93, v94, v95, v96, v97, v98, v99, v100, v101, v102, v103, v104, v105, v106, v107, v108, v109, v110, v111], []⟩ E := by
 subst ez
 obtain ⟨x0, x1, x2, x3⟩ := cells4' (show Blk E b7 [Value.slice g.oa g.os.length g.ocap, Value.slice g.ra g.rs.length g.rcap, Value.slice g.wa g.ws.length g.wcap, Value.slice g.da g.ds.length g.dcap] _ from L.k7)
 obtain ⟨y0, y1, y2, y3⟩ := cells4' (show Blk E b4 [Value.slice y.oa y.os.length y.ocap, Value.slice y.ra y.rs.length y.rcap, Value.slice y.wa y.ws.length y.wcap, Value.slice y.da y.ds.length y.dcap] _ from L.k4)
 have hsy := L.ok.small
 have hlen : zs.length ≤ maxLen := (OwnL.form L.lo).elim fun a h => h.elim fun c h => Nat.le_trans h.2.2.1 h.2.2.2
 have c1 := eqMemHeap_eq g y E L.ep L.po.isIn L.yin (small_p L.ep hsy)
 simp only [Hp.v] at c1
 simp only [lwD, lwC, lwB, Tryz.f6, chain]
 go_wp2_with fail
 refine c1.mono ?_
 rintro e w1 ⟨rfl, hb1⟩
 have L1 := L.on (On.of hb1 (Nat.le_refl _))
 have Lx1 := Lx0.on (On.of hb1 (Nat.le_refl _))
 have c2 := eqIntS_any ga va zs.length zs.length gcap vcap zs zs w1 rfl rfl (seg_of L1.lo) (seg_of L1.svo) hlen hlen
 clear c1 x0 x1 x2 x3 y0 y1 y2 y3 L Lx0
 go_wp2_with fail
 refine c2.mono ?_
 rintro e w2 ⟨rfl, hb2⟩
 simp only [decide_true]
 have L2 := L1.on (On.of hb2 (Nat.le_refl _))
 have Lx2 := Lx1.on (On.of hb2 (Nat.le_refl _))
 have hB2 := hb1.trans (hb2.mono hb1.size)
 clear c2 hb1 hb2 L1 Lx1
 go_wp2
 simp only [goOr, chain]
 obtain ⟨x0, x1, x2, x3⟩ := cells4' (show Blk w2 b6 [Value.slice x.oa x.os.length x.ocap, Value.slice x.ra x.rs.length x.rcap, Value.slice x.wa x.ws.length x.wcap, Value.slice x.da x.ds.length x.dcap] _ from Lx2.k6)
 obtain ⟨y0, y1, y2, y3⟩ := cells4' (show Blk w2 b1 [Value.slice h.oa h.os.length h.ocap, Value.slice h.ra h.rs.length h.rcap, Value.slice h.wa h.ws.length h.wcap, Value.slice h.da h.ds.length h.dcap] _ from L2.k1)
 have hdr : Below w2.heap.size w2 w2.drew := (Below.refl _ _).drew
 have c7 := toMemHeap_any h w2.drew (L2.hin.below hdr (Nat.le_refl _)) hs
 simp only [Hp.v] at c7
 have hI7 := (Lx2.ox.isIn).below hdr (Nat.le_refl _)
 have hKZd := (show Blk w2 b6 [Value.slice x.oa x.os.length x.ocap, Value.slice x.ra x.rs.length x.rcap, Value.slice x.wa x.ws.length x.wcap, Value.slice x.da x.ds.length x.dcap] _ from Lx2.k6).below hdr Lx2.k6.lt
 have HPX : Hid (x.p = h.p) := Lx2.px
 have hsx := small_p HPX.out hs
 go_wp2_with fail
 go_region_with (first
   | (go_at_call 23; refine c7.mono ?_; rintro e w7 ⟨h3, go3, gr3, gw3, gd3, rfl, hp3, hb7, own8⟩; have hKW := hKZd.below hb7 hKZd.lt; obtain ⟨z0, z1, z2, z3⟩ := cells4' hKW; have c8 := eqMemHeap_eq x h3 w7 (HPX.out.trans hp3.symm) (hI7.below hb7 (Nat.le_refl _)) own8.isIn hsx; simp only [Hp.v] at c8; clear hp3)
   | (go_at_call 24; refine c8.mono ?_; rintro e w8 ⟨rfl, hb8⟩))
 all_goals
   have hst := (hdr.trans hb7).trans (hb8.mono (hdr.trans hb7).size)
   have hB9 := hB2.trans (hst.mono hB2.size)
   clear hst hb7 hb8 hdr c7 c8 hI7 hKZd hKW own8 hB2 x0 x1 x2 x3 y0 y1 y2 y3 z0 z1 z2 z3 L2 Lx2
   go_wp2
   exact ⟨rfl, ⟨rfl, rfl, rfl, rfl, rfl, rfl, rfl⟩, rfl, hB9⟩
end
section
variable {h : Hp} {N b1 b4 b6 b7 : Nat} {y : Hp} {va : Option Addr} {vcap : Nat} {ms : List Int} {m3 m4 m6 M : Nat} {g gq : Hp} {ga : Option Addr} {gcap : Nat} {zs : List Int} {x : Hp} {go gr gw gd : Nat}
theorem Lg.rg {sv gv : Value} {E E' : World} (L : Lg h N b1 b4 b7 y sv ms m3 m4 m6 M g gq gv zs E) (hr : Rg go (gd + 1) E E') (h1 : m4 ≤ go) (h2 : gd < m6) : Lg h N b1 b4 b7 y sv ms m3 m4 m6 M g gq gv zs E' := by
 obtain ⟨E0, a1, a2⟩ := L.hh
 obtain ⟨E3, a3, a4, a5⟩ := L.sp
 have n1 := L.n1
 have l1 := L.l1
 have l3 := L.l3
 have l4 := L.l4
 have n7 := L.n7
 have le := L.le
 refine ⟨⟨E0, a1.rg hr (by omega), a2⟩, L.k1.rg hr (.inl (by omega)), L.k4.rg hr (.inl (by omega)), L.k7.rg hr (.inr (by omega)), n1, l1, l3, l4, L.l6, n7, ⟨E3, a3.rg hr (by omega), a4, a5⟩, L.ok, L.po.same fun b hb => hr.block b (L.po.rows_lt b hb).2 (.inr (by have := (L.po.rows_lt b hb).1; omega)), ?_, le, L.gl, L.ep⟩
 exact row_heap L.lo fun b hb => hr.block b (L.lo.lt b hb).2 (.inr (by have := (L.lo.lt b hb).1; omega))
set_option maxRecDepth 100000 in
set_option maxHeartbeats 8000000 in
theorem law_p2b (v0 v2 v3 v9 v10 v11 v12 v13 v14 v15 v16 v17 v18 v19 v20 v21 v22 v23 v24 v25 v26 v27 v28 v29 v30 v31 v32 v33 v34 v35 v36 v37 v38 v39 v40 v41 v42 v43 v44 v45 v46 v47 v48 v49 v50 v51 v52 v53 v54 v55 v56 v57 v58 v59 v60 v61 v62 v63 v64 v65 v66 v67 v68 v69 v70 v71 v72 v73 v74 v75 v76 v77 v78 v79 v80 v81 v82 v83 v84 v85 v86 v87 v88 v89 v90 v91 v92 v93 v94 v95 v96 v97 v98 v99 v100 v101 v102 v103 v104 v105 v106 v107 v108 v109 v110 v111 : Value) (E : World) (hs : Small h) (ez : zs = ms) (L : Lg h N b1 b4 b7 y (.slice va ms.length vcap) ms m3 m4 m6 M g g (.slice ga zs.length gcap) zs E) (Lx0 : Lx h m4 m6 b6 x go gr gw gd E) (hN : N ≤ E.heap.size) :
   chain Cut.prog (fun c a w1 => c = lwD3 ∧ Sl b1 b4 b7 (.slice va ms.length vcap) (.slice ga zs.length gcap) a ∧ Lg h N b1 b4 b7 y (.slice va ms.length vcap) ms m3 m4 m6 M g g (.slice ga zs.length gcap) zs w1 ∧ Below N E w1) (fun _ _ => False) 3 lwD2 ⟨#[v0, .pointer (some ⟨b1, 0, none⟩), v2, v3, .pointer (some ⟨b4, 0, none⟩), .slice va ms.length vcap, .pointer (some ⟨b6, 0, none⟩), .pointer (some ⟨b7, 0, none⟩), .slice ga zs.length gcap, v9, v10, v11, v12, v13, v14, v15, v16, v17, v18, v19, v20, v21, v22, v23, v24, v25, v26, v27, v28, v29, v30, v31, v32, v33, v34, v35, v36, v37, v38, v39, v40, v41, v42, v43, v44, v45, v46, v47, v48, v49, v50, v51, v52, v53, v54, v55, v56, v57, v58, v59, v60, v61, v62, v63, v64, v65, v66, v67, v68, v69, v70, v71, v72, v73, v74, v75, v76, v77, v78, v79, v80, v81, v82, v83, v84, v85, v86, v87, v88, v89, v90, v91, v92, v93, v94, v95, v96, v97, v98, v99, v100, v101, v102, v103, v104, v105, v106, v107, v108, v109, v110, v111], []⟩ E := by
 subst ez
 obtain ⟨x0, x1, x2, x3⟩ := cells4' (show Blk E b6 [Value.slice x.oa x.os.length x.ocap, Value.slice x.ra x.rs.length x.rcap, Value.slice x.wa x.ws.length x.wcap, Value.slice x.da x.ds.length x.dcap] _ from Lx0.k6)
 have hsy := L.ok.small
 have hlen : zs.length ≤ maxLen := (OwnL.form L.lo).elim fun a h => h.elim fun c h => Nat.le_trans h.2.2.1 h.2.2.2
 have c1 := markMemHeap_any m4 go gr gw gd x E (small_p Lx0.px hs) Lx0.ox
 simp only [Hp.v] at c1
 simp only [lwD2, lwD, lwC, lwB, Tryz.f6, chain]
 go_wp2
 simp only [goOr, chain]
 go_wp2_with fail
 refine c1.mono ?_
 rintro e w1 ⟨q, rfl, hq, hrg⟩
 have hgo := Lx0.ox.le
 have hl6 := Lx0.l6
 have hn6 := Lx0.n6
 have hlg : m4 ≤ go := hgo
 have L1 := L.rg hrg hlg (by omega)
 have hB1 : Below N E w1 := by
   have n1 := L.n1
   have l1 := L.l1
   have l3 := L.l3
   exact ⟨hrg.os, hrg.tape, hrg.output, hrg.size, fun b hb => hrg.block b (by omega) (.inl (by omega))⟩
 clear c1 x0 x1 x2 x3 L Lx0 hrg hgo hl6 hn6
 go_wp2
 simp only [goOr, chain]
 have hqd : decide (q < 0) = false := by simp; omega
 obtain ⟨x0, x1, x2, x3⟩ := cells4' (show Blk w1 b7 [Value.slice g.oa g.os.length g.ocap, Value.slice g.ra g.rs.length g.rcap, Value.slice g.wa g.ws.length g.wcap, Value.slice g.da g.ds.length g.dcap] _ from L1.k7)
 obtain ⟨y0, y1, y2, y3⟩ := cells4' (show Blk w1 b4 [Value.slice y.oa y.os.length y.ocap, Value.slice y.ra y.rs.length y.rcap, Value.slice y.wa y.ws.length y.wcap, Value.slice y.da y.ds.length y.dcap] _ from L1.k4)
 have c1 := eqMemHeap_eq g y w1 L1.ep L1.po.isIn L1.yin (small_p L1.ep hsy)
 simp only [Hp.v] at c1
 go_wp2_with fail
 refine c1.mono ?_
 rintro e w2 ⟨rfl, hb2⟩
 have L2 := L1.on (On.of hb2 (Nat.le_refl _))
 have c2 := eqIntS_any ga va zs.length zs.length gcap vcap zs zs w2 rfl rfl (seg_of L2.lo) (seg_of L2.svo) hlen hlen
 have hB2 := hB1.trans (hb2.mono (Nat.le_trans hN hB1.size))
 clear c1 x0 x1 x2 x3 y0 y1 y2 y3 L1 hb2 hB1
 go_wp2_with fail
 refine c2.mono ?_
 rintro e w3 ⟨rfl, hb3⟩
 simp only [decide_true]
 have L3 := L2.on (On.of hb3 (Nat.le_refl _))
 have hB3 := hB2.trans (hb3.mono (Nat.le_trans hN hB2.size))
 clear c2 hb3 L2 hB2
 go_wp2
 exact ⟨rfl, ⟨rfl, rfl, rfl, rfl, rfl, rfl, rfl⟩, L3, hB3⟩
end
section
variable {h : Hp} {N b1 b4 b6 b7 : Nat} {y : Hp} {va : Option Addr} {vcap : Nat} {ms : List Int} {m3 m4 m6 M : Nat} {g gq : Hp} {ga : Option Addr} {gcap : Nat} {zs : List Int}
theorem Lg.ch {sv gv : Value} {S : Nat → Prop} {gq' : Hp} {zs' : List Int} {E E' : World} (L : Lg h N b1 b4 b7 y sv ms m3 m4 m6 M g gq gv zs E) (hr : ChO S E E') (hS : ∀ k, S k → m6 ≤ k) (h7 : ¬ S b7) (hp : OwnP E' M gq') (hl : OwnL E' m6 gv zs') : Lg h N b1 b4 b7 y sv ms m3 m4 m6 M g gq' gv zs' E' := by
 obtain ⟨E0, a1, a2⟩ := L.hh
 obtain ⟨E3, a3, a4, a5⟩ := L.sp
 have n1 := L.n1
 have l1 := L.l1
 have l3 := L.l3
 have l4 := L.l4
 have l6 := L.l6
 refine ⟨⟨E0, a1.ch hr (fun k hk => by have := hS k hk; omega), a2⟩, hr.blk L.k1 (fun hk => by have := hS _ hk; omega), hr.blk L.k4 (fun hk => by have := hS _ hk; omega), hr.blk L.k7 h7, n1, l1, l3, l4, l6, L.n7, ⟨E3, a3.ch hr (fun k hk => by have := hS k hk; omega), a4, a5⟩, L.ok, hp, hl, L.le, L.gl, L.ep⟩
set_option maxRecDepth 100000 in
set_option maxHeartbeats 8000000 in
theorem law_p2c (v0 v2 v3 v6 v9 v10 v11 v12 v13 v14 v15 v16 v17 v18 v19 v20 v21 v22 v23 v24 v25 v26 v27 v28 v29 v30 v31 v32 v33 v34 v35 v36 v37 v38 v39 v40 v41 v42 v43 v44 v45 v46 v47 v48 v49 v50 v51 v52 v53 v54 v55 v56 v57 v58 v59 v60 v61 v62 v63 v64 v65 v66 v67 v68 v69 v70 v71 v72 v73 v74 v75 v76 v77 v78 v79 v80 v81 v82 v83 v84 v85 v86 v87 v88 v89 v90 v91 v92 v93 v94 v95 v96 v97 v98 v99 v100 v101 v102 v103 v104 v105 v106 v107 v108 v109 v110 v111 : Value) (E : World) (L : Lg h N b1 b4 b7 y (.slice va ms.length vcap) ms m3 m4 m6 M g g (.slice ga zs.length gcap) zs E) (hzs : zs.length ≤ 1048576) (hN : N ≤ E.heap.size) :
   chain Cut.prog (fun c a w1 => c = lwE ∧ Sl b1 b4 b7 (.slice va ms.length vcap) (.slice ga zs.length gcap) a ∧ a.tmps[10]? = some (.int .i64 (mkHE g + zs.length)) ∧ Lg h N b1 b4 b7 y (.slice va ms.length vcap) ms m3 m4 m6 M g (mkH g) (.slice ga zs.length gcap) (marks (mkHE g) zs.length) w1 ∧ Below N E w1) (fun _ _ => False) 9 lwD3 ⟨#[v0, .pointer (some ⟨b1, 0, none⟩), v2, v3, .pointer (some ⟨b4, 0, none⟩), .slice va ms.length vcap, v6, .pointer (some ⟨b7, 0, none⟩), .slice ga zs.length gcap, v9, v10, v11, v12, v13, v14, v15, v16, v17, v18, v19, v20, v21, v22, v23, v24, v25, v26, v27, v28, v29, v30, v31, v32, v33, v34, v35, v36, v37, v38, v39, v40, v41, v42, v43, v44, v45, v46, v47, v48, v49, v50, v51, v52, v53, v54, v55, v56, v57, v58, v59, v60, v61, v62, v63, v64, v65, v66, v67, v68, v69, v70, v71, v72, v73, v74, v75, v76, v77, v78, v79, v80, v81, v82, v83, v84, v85, v86, v87, v88, v89, v90, v91, v92, v93, v94, v95, v96, v97, v98, v99, v100, v101, v102, v103, v104, v105, v106, v107, v108, v109, v110, v111], []⟩ E := by
 obtain ⟨x0, x1, x2, x3⟩ := cells4' (show Blk E b7 [Value.slice g.oa g.os.length g.ocap, Value.slice g.ra g.rs.length g.rcap, Value.slice g.wa g.ws.length g.wcap, Value.slice g.da g.ds.length g.dcap] _ from L.k7)
 have hsg : Small g := small_p L.ep L.ok.small
 have hE := mkHE_bound hsg
 have c1 := markMemHeap_own M g E hsg L.po
 simp only [Hp.v] at c1
 simp only [lwD3, lwD2, lwD, lwC, lwB, Tryz.f6, chain]
 go_wp2
 simp only [goOr, chain]
 go_wp2_with fail
 refine c1.mono ?_
 rintro e w1 ⟨rfl, hp1, hch⟩
 have hrl := L.po.rows_lt
 have hle := L.le
 have n1 := L.n1
 have l1 := L.l1
 have l3 := L.l3
 have l6 := L.l6
 have L1 : Lg h N b1 b4 b7 y (.slice va ms.length vcap) ms m3 m4 m6 M g (mkH g) (.slice ga zs.length gcap) zs w1 :=
   L.ch hch (fun k hk => by have := (hrl k hk).1; omega) (L.po.not_box L.k7 (by decide) (by decide) (by decide)) hp1 (hch.row L.lo (fun k hk hr => by have := (hrl k hr).1; have := L.gl k hk; omega))
 have hB1 : Below N E w1 := hch.below hN (fun k hk => by have := (hrl k hk).1; omega)
 clear c1 x0 x1 x2 x3 hp1 hch hrl L
 go_wp2
 simp only [goOr, chain]
 have c2 := markIntS_own m6 _ zs (mkHE g) w1 hzs (by omega) (by omega) L1.lo
 go_wp2_with fail
 refine c2.mono ?_
 rintro e w2 ⟨rfl, hl2, hgb⟩
 have L2 : Lg h N b1 b4 b7 y (.slice va ms.length vcap) ms m3 m4 m6 M g (mkH g) (.slice ga zs.length gcap) (marks (mkHE g) zs.length) w2 :=
   L1.ch (S := fun k => (Value.slice ga zs.length gcap).ownBlock = some k) (ChO.gb hgb (fun k e => e)) (fun k hk => (L1.lo.lt k hk).1) (row_ne_blk L1.lo L1.k7 (by decide))
     (L1.po.same fun b hb => hgb.block b (L1.po.rows_lt b hb).2 (fun e => by have := (L1.po.rows_lt b hb).1; have := L1.gl b e.symm; omega)) hl2
 have hB2 : Below N E w2 := hB1.trans (ChO.below (S := fun k => (Value.slice ga zs.length gcap).ownBlock = some k) (ChO.gb hgb (fun k e => e)) (Nat.le_trans hN hB1.size) (fun k hk => by have := (L1.lo.lt k hk).1; omega))
 clear c2 hl2 hgb L1 hB1
 go_wp2
 simp only [goOr, chain]
 go_wp2
 simp only [goOr, chain]
 obtain ⟨x0, x1, x2, x3⟩ := cells4' (show Blk w2 b7 [Value.slice g.oa g.os.length g.ocap, Value.slice g.ra g.rs.length g.rcap, Value.slice g.wa g.ws.length g.wcap, Value.slice g.da g.ds.length g.dcap] _ from L2.k7)
 have c3 := heldMemHeap_any g w2 hsg L2.po.isIn
 simp only [Hp.v] at c3
 go_wp2_with fail
 refine c3.mono ?_
 rintro e w3 ⟨rfl, hb3⟩
 have L3 := L2.on (On.of hb3 (Nat.le_refl _))
 have hB3 := hB2.trans (hb3.mono (Nat.le_trans hN hB2.size))
 clear c3 x0 x1 x2 x3 L2 hb3 hB2
 go_wp2
 simp only [goOr, chain]
 have hd1 : decide (mkHE g < 0) = false := by simp; omega
 go_wp2
 simp only [goOr, chain]
 have hseg : SegI w3 ga (marks (mkHE g) zs.length) := by
   have h1 := L3.lo
   obtain ⟨a', cap', e, hs, _⟩ := OwnL.form h1
   simp only [Value.slice.injEq] at e
   rw [e.1]; exact hs
 have c4 := heldIntS_any ga zs.length gcap (mkHE g) w3 hzs (by omega) (by omega) hseg
 go_wp2_with fail
 refine c4.mono ?_
 rintro e w4 ⟨rfl, rfl⟩
 clear c4
 go_wp2
 simp only [goOr, chain]
 have hd2 : decide (mkHE g + (zs.length : Int) < 0) = false := by simp; omega
 have hd3 : ((mkHE g + (zs.length : Int)) != (mkHE g + (zs.length : Int))) = false := by simp
 go_wp2
 simp only [goOr, chain]
 go_wp2
 exact ⟨rfl, ⟨rfl, rfl, rfl, rfl, rfl, rfl, rfl⟩, rfl, L3, hB3⟩
end
section
variable {h : Hp} {N b1 b4 b7 b12 : Nat} {y : Hp} {va : Option Addr} {vcap : Nat} {ms : List Int} {m3 m4 m6 M : Nat} {g gq g2 : Hp} {ga : Option Addr} {gcap : Nat} {zs : List Int} {ha : Option Addr} {hcap : Nat}
set_option maxRecDepth 100000 in
set_option maxHeartbeats 8000000 in
theorem law_p3 (v0 v1 v2 v3 v6 v9 v11 v14 v15 v16 v17 v18 v19 v20 v21 v22 v23 v24 v25 v26 v27 v28 v29 v30 v31 v32 v33 v34 v35 v36 v37 v38 v39 v40 v41 v42 v43 v44 v45 v46 v47 v48 v49 v50 v51 v52 v53 v54 v55 v56 v57 v58 v59 v60 v61 v62 v63 v64 v65 v66 v67 v68 v69 v70 v71 v72 v73 v74 v75 v76 v77 v78 v79 v80 v81 v82 v83 v84 v85 v86 v87 v88 v89 v90 v91 v92 v93 v94 v95 v96 v97 v98 v99 v100 v101 v102 v103 v104 v105 v106 v107 v108 v109 v110 v111 : Value) (E : World) (L : Lg h N b1 b4 b7 y (.slice va ms.length vcap) ms m3 m4 m6 M g (mkH g) (.slice ga zs.length gcap) (marks (mkHE g) zs.length) E) (hzs : zs.length ≤ 1048576) (hms : ms.length ≤ maxLen)
   (k12 : Blk E b12 (Hp.cells g2) 27) (hg2 : HpIn E g2) (ep2 : g2.p = y.p) (hh2 : SegI E ha ms) :
   lwF.wp Cut.prog (goOr (fun _ _ => False) (fun a w1 => a.defers = [] ∧ a.tmps.size = 112 ∧ a.tmps[2]? = some (.bool true) ∧ Below E.heap.size E w1)) ⟨#[v0, v1, v2, v3, .pointer (some ⟨b4, 0, none⟩), .slice va ms.length vcap, v6, .pointer (some ⟨b7, 0, none⟩), .slice ga zs.length gcap, v9, .int .i64 (mkHE g + zs.length), v11, .pointer (some ⟨b12, 0, none⟩), .slice ha ms.length hcap, v14, v15, v16, v17, v18, v19, v20, v21, v22, v23, v24, v25, v26, v27, v28, v29, v30, v31, v32, v33, v34, v35, v36, v37, v38, v39, v40, v41, v42, v43, v44, v45, v46, v47, v48, v49, v50, v51, v52, v53, v54, v55, v56, v57, v58, v59, v60, v61, v62, v63, v64, v65, v66, v67, v68, v69, v70, v71, v72, v73, v74, v75, v76, v77, v78, v79, v80, v81, v82, v83, v84, v85, v86, v87, v88, v89, v90, v91, v92, v93, v94, v95, v96, v97, v98, v99, v100, v101, v102, v103, v104, v105, v106, v107, v108, v109, v110, v111], []⟩ E := by
 obtain ⟨x0, x1, x2, x3⟩ := cells4' (show Blk E b12 [Value.slice g2.oa g2.os.length g2.ocap, Value.slice g2.ra g2.rs.length g2.rcap, Value.slice g2.wa g2.ws.length g2.wcap, Value.slice g2.da g2.ds.length g2.dcap] _ from k12)
 obtain ⟨y0, y1, y2, y3⟩ := cells4' (show Blk E b4 [Value.slice y.oa y.os.length y.ocap, Value.slice y.ra y.rs.length y.rcap, Value.slice y.wa y.ws.length y.wcap, Value.slice y.da y.ds.length y.dcap] _ from L.k4)
 have hsg : Small g := small_p L.ep L.ok.small
 have hE := mkHE_bound hsg
 have c1 := eqMemHeap_eq g2 y E ep2 hg2 L.yin (small_p ep2 L.ok.small)
 simp only [Hp.v] at c1
 simp only [lwF, lwE, lwD, lwC, lwB, Tryz.f6]
 go_wp2_with fail
 refine c1.mono ?_
 rintro e w1 ⟨rfl, hb1⟩
 have L1 := L.on (On.of hb1 (Nat.le_refl _))
 have c2 := eqIntS_any ha va ms.length ms.length hcap vcap ms ms w1 rfl rfl (hh2.below hb1 (Nat.le_refl _)) (seg_of L1.svo) hms hms
 clear c1 x0 x1 x2 x3 y0 y1 y2 y3 L k12 hg2
 go_wp2_with fail
 refine c2.mono ?_
 rintro e w2 ⟨rfl, hb2⟩
 simp only [decide_true]
 have L2 := L1.on (On.of hb2 (Nat.le_refl _))
 have hB2 := hb1.trans (hb2.mono hb1.size)
 clear c2 hb1 hb2 L1 hh2
 obtain ⟨x0, x1, x2, x3⟩ := cells4' (show Blk w2 b7 [Value.slice g.oa g.os.length g.ocap, Value.slice g.ra g.rs.length g.rcap, Value.slice g.wa g.ws.length g.wcap, Value.slice g.da g.ds.length g.dcap] _ from L2.k7)
 have c3 := heldMemHeap_any g w2 hsg L2.po.isIn
 simp only [Hp.v] at c3
 go_wp2_with fail
 refine c3.mono ?_
 rintro e w3 ⟨rfl, hb3⟩
 have L3 := L2.on (On.of hb3 (Nat.le_refl _))
 have hB3 := hB2.trans (hb3.mono hB2.size)
 clear c3 x0 x1 x2 x3 L2 hb3 hB2
 have hd1 : decide (mkHE g < 0) = false := by simp; omega
 have hseg : SegI w3 ga (marks (mkHE g) zs.length) := by
   have h1 := L3.lo
   obtain ⟨a', cap', e, hs, _⟩ := OwnL.form h1
   simp only [Value.slice.injEq] at e
   rw [e.1]; exact hs
 have c4 := heldIntS_any ga zs.length gcap (mkHE g) w3 hzs (by omega) (by omega) hseg
 go_wp2_with fail
 refine c4.mono ?_
 rintro e w4 ⟨rfl, rfl⟩
 clear c4
 have hd2 : decide (mkHE g + (zs.length : Int) < 0) = false := by simp; omega
 have hd3 : ((mkHE g + (zs.length : Int)) != (mkHE g + (zs.length : Int))) = false := by simp
 go_wp2
 exact ⟨rfl, rfl, rfl, hB3⟩
end
end Go.Proofs.YtcpnkpogebjieaaGreat.Co
namespace Go.Proofs.YtcpnkpogebjieaaGreat.Co
open Go.Conc Go.ConcN Go.RowKit Go.Conc.Lib Go.ConcR.Gen
section
variable {X X' X0 : Nat → Bool} {w w' w0 w1 w1' : World}
theorem em_x {b t : Nat} {c : Value} {cs : List Value} (h : Blk (emW X w) b (c :: cs) t) : X b = false ∧ Blk w b (c :: cs) t := by
 cases hx : X b with
 | false =>
   refine ⟨rfl, ?_⟩
   unfold Blk at *
   rw [emW_out hx] at h
   exact h
 | true =>
   unfold Blk at h
   rw [emW_heap] at h
   cases ho : w.heap[b]? with
   | none => rw [ho] at h; cases h
   | some ob =>
     rw [ho] at h
     cases ob <;> simp [emO, hx] at h
theorem on_em (h : On w w') : On (emW X w) (emW X w') := ⟨by rw [emW_size, emW_size]; exact h.1, fun b hb => by
 rw [emW_size] at hb
 rw [emW_heap, emW_heap, h.2 b hb]⟩
theorem on_em2 (hs : w.heap.size ≤ w'.heap.size) (h : ∀ b, b < w.heap.size → w'.heap[b]? = w.heap[b]? ∧ X' b = X b) : On (emW X w) (emW X' w') := ⟨by rw [emW_size, emW_size]; exact hs, fun b hb => by
 rw [emW_size] at hb
 have e : emO X' b = emO X b := by
   funext o
   unfold emO
   rw [(h b hb).2]
 rw [emW_heap, emW_heap, (h b hb).1, e]⟩
theorem on_seen (hE : Em X w1 w1') : On w1' (emW X w1) := ⟨by rw [emW_size, hE.size]; exact Nat.le_refl _, fun b _ => by rw [emW_heap, hE.heap b]⟩
theorem on_tape (t : Tape) (d : Nat) : On (emW X w) { emW X w with tape := t, drawn := d } := ⟨Nat.le_refl _, fun _ _ => rfl⟩
structure LA (X0 : Nat → Bool) (w0 : World) (X : Nat → Bool) (w : World) : Prop where
 old : ∀ b, b < w0.heap.size → w.heap[b]? = w0.heap[b]? ∧ X b = X0 b
 big : w0.heap.size ≤ w.heap.size
 sn : Sn X w
 oo : OO w w0
theorem LA.rely (I : LA X0 w0 X w) (r : AtRel w w1) : LA X0 w0 X w1 := by
 obtain ⟨d, rfl⟩ := r
 exact ⟨I.old, I.big, I.sn.at d, I.oo⟩
theorem LA.piece {N : Nat} {u : World} (I : LA X0 w0 X w) (hN : N = w0.heap.size) (hu : u.heap = (emW X w).heap) (huo : OO u w) (hE : Em X w1 w1') (hS : Sn X w1) (hK : Kept X w w1) (hB : Below N u w1') : LA X0 w0 X w1 := by
 subst hN
 exact ⟨fun b hb => ⟨(back_at hu hE hK (hB.block b hb)).trans (I.old b hb).1, (I.old b hb).2⟩, Nat.le_trans I.big hK.size, hS, OO.trans (OO.trans ⟨hE.os.symm, hE.out.symm⟩ ⟨hB.os, hB.output⟩) (huo.trans I.oo)⟩
structure LS (X0 : Nat → Bool) (w0 : World) (X : Nat → Bool) (P : World → Prop) (w : World) : Prop where
 la : LA X0 w0 X w
 st : ∀ E E', On E E' → P E → P E'
 p : P (emW X w)
theorem LS.rely {P : World → Prop} (I : LS X0 w0 X P w) (r : AtRel w w1) : LS X0 w0 X P w1 := by
 refine ⟨I.la.rely r, I.st, I.st _ _ ?_ I.p⟩
 obtain ⟨d, rfl⟩ := r
 exact on_em ⟨Nat.le_refl _, fun _ _ => rfl⟩
structure LT (X0 : Nat → Bool) (w0 : World) (X : Nat → Bool) (P : World → Prop) (m bq : Nat) (cl : List Value) (w : World) : Prop where
 la : LA X0 w0 X w
 st : ∀ E E', On E E' → P E → P E'
 pre : ∃ w2, P (emW X w2) ∧ On w2 w ∧ w2.heap.size ≤ bq ∧ m ≤ w2.heap.size
 k : Blk w bq cl 27
 xb : X bq = false
 nb : w0.heap.size ≤ bq
theorem LT.rely {P : World → Prop} {m bq : Nat} {cl : List Value} (I : LT X0 w0 X P m bq cl w) (r : AtRel w w1) : LT X0 w0 X P m bq cl w1 := by
 obtain ⟨w2, h1, h2, h3⟩ := I.pre
 refine ⟨I.la.rely r, I.st, ⟨w2, h1, ?_, h3⟩, ?_, I.xb, I.nb⟩
 · obtain ⟨d, rfl⟩ := r; exact h2
 · obtain ⟨d, rfl⟩ := r; exact I.k
theorem LS.alloc {P : World → Prop} {m : Nat} (I : LS X0 w0 X P w) (hm : m ≤ w.heap.size) : LT X0 w0 X P m w.heap.size [.slice none 0 0, .slice none 0 0, .slice none 0 0, .slice none 0 0] (w.alloc (Obj.cells #[Value.slice none 0 0, Value.slice none 0 0, Value.slice none 0 0, Value.slice none 0 0] 27)) := by
 refine ⟨⟨fun b hb => ⟨(Below.heap_alloc w _ b (Nat.lt_of_lt_of_le hb I.la.big)).trans (I.la.old b hb).1, (I.la.old b hb).2⟩, by have := I.la.big; simp; omega, I.la.sn.alloc _ _, I.la.oo⟩, I.st, ⟨w, I.p, ⟨by simp, fun b hb => Below.heap_alloc w _ b hb⟩, Nat.le_refl _, hm⟩, Blk.new w [Value.slice none 0 0, Value.slice none 0 0, Value.slice none 0 0, Value.slice none 0 0] 27, I.la.sn.out (Nat.le_refl _), I.la.big⟩
theorem LT.box {P : World → Prop} {m bq : Nat} {cl cl' : List Value} (I : LT X0 w0 X P m bq cl w) (hb : Blk w1 bq cl' 27) (hs : w1.heap.size = w.heap.size) (ho : ∀ b, b ≠ bq → w1.heap[b]? = w.heap[b]?) (hoo : OO w1 w) : LT X0 w0 X P m bq cl' w1 := by
 have nb := I.nb
 obtain ⟨w2, h1, h2, h3, h4⟩ := I.pre
 refine ⟨⟨fun b hb' => ⟨(ho b (by omega)).trans (I.la.old b hb').1, (I.la.old b hb').2⟩, by rw [hs]; exact I.la.big, ?_, hoo.trans I.la.oo⟩, I.st, ⟨w2, h1, ⟨by rw [hs]; exact h2.1, fun b hb' => (ho b (by omega)).trans (h2.2 b hb')⟩, h3, h4⟩, hb, I.xb, nb⟩
 refine I.la.sn.turn (by omega) (fun r hr => ho r fun e => ?_) fun r o hr ho' => ?_
 · rw [e, I.xb] at hr; cases hr
 · by_cases e : r = bq
   · subst e
     unfold Blk at hb
     rw [hb] at ho'
     exact .inr (.inl ⟨_, _, _, (Option.some.inj ho').symm⟩)
   · rw [ho r e] at ho'; exact .inl ho'
theorem LT.done {P : World → Prop} {m bq : Nat} {cl : List Value} (I : LT X0 w0 X P m bq cl w) : P (emW X w) ∧ Blk (emW X w) bq cl 27 ∧ m ≤ bq := by
 obtain ⟨w2, h1, h2, h3, h4⟩ := I.pre
 refine ⟨I.st _ _ (on_em h2) h1, ?_, by omega⟩
 unfold Blk
 rw [emW_out I.xb]
 exact I.k
theorem LS.mc {P : World → Prop} {h y : Hp} {v : Value} (I : LS X0 w0 X P w) (o : McOut h X w X' y v w') : LS X0 w0 X' P w' := by
 have big := I.la.big
 refine ⟨⟨fun b hb => ⟨((o.old b (by omega)).1).trans (I.la.old b hb).1, ((o.old b (by omega)).2).trans (I.la.old b hb).2⟩, Nat.le_trans big o.big, o.sn, o.oo.trans I.la.oo⟩, I.st, I.st _ _ (on_em2 o.big o.old) I.p⟩
end
theorem fok_lw {X : Nat → Bool} {a : Act} {k : List Item} (hd : a.defers = []) (hk : ∀ i ∈ k, okItem Tryz.progTables X i) : FOk Tryz.progTables Cut.keep X ((base 6).at a k) :=
 ⟨by kernel_rfl, hk, (fun d hq => by
   have : d ∈ a.defers := hq
   rw [hd] at this
   simp at this), rfl, fun l hl => by cases hl⟩
theorem fok_code {X : Nat → Bool} {a : Act} {c : Code} (hd : a.defers = []) (hc : okCode Tryz.progTables c = true) : FOk Tryz.progTables Cut.keep X ((base 6).at a [.code c]) := fok_lw hd (by
 intro i hi
 simp only [List.mem_cons, List.not_mem_nil, or_false] at hi
 subst hi
 exact hc)
noncomputable def lwC1 (T : Array Value) : Frame := (base 6).at ⟨T, []⟩ [.inRegion lwOps [1, 2, 3, 4, 5, 6, 7], .code lwD]
noncomputable def lwC3 (T : Array Value) : Frame := (base 6).at ⟨T, []⟩ [.inRegion lwOps2 [2, 3, 4, 5, 6, 7, 8], .code lwF]
def LwEnd (X0 : Nat → Bool) (w0 : World) (X : Nat → Bool) (g : Goroutine) (w : World) : Prop :=
 ∃ fr : Frame, g = G fr [] ∧ fr.mode = .returning ∧ fr.defers = [] ∧ fr.kind = .normal ∧ fr.fn = 6 ∧ fr.tmps.getD 2 undef = .bool true ∧ LA X0 w0 X w
end Go.Proofs.YtcpnkpogebjieaaGreat.Co
