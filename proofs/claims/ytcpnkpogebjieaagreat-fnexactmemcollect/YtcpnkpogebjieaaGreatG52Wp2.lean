/- The law on MemCollect in company: behind its second call. -/
import Derived.Test.YtcpnkpogebjieaaGreatG48Wo0
namespace Go.Proofs.YtcpnkpogebjieaaGreat.Co
open Go.Conc Go.ConcN Go.RowKit Go.Conc.Lib Go.ConcR.Gen
open Go.ConcR (DC0)
set_option linter.unusedSimpArgs false
section
variable {h : Hp} {X0 X X' : Nat → Bool} {Ch : Nat}
set_option maxRecDepth 100000 in
set_option maxHeartbeats 4000000 in
theorem lw_mid3 {w0 wq : World} {T : Array Value} {b1 b4 b7 : Nat} {y : Hp} {va : Option Addr} {vcap : Nat} {ms : List Int} {m3 m4 m6 M : Nat} {g : Hp} {ga : Option Addr} {gcap : Nat} {zs : List Int} {x : Hp} {m go gr gw gd : Nat}
   (hT : T.size = 112) (t4 : T[4]? = some (.pointer (some ⟨b4, 0, none⟩))) (t5 : T[5]? = some (.slice va ms.length vcap)) (t7 : T[7]? = some (.pointer (some ⟨b7, 0, none⟩))) (t8 : T[8]? = some (.slice ga zs.length gcap)) (t10 : T[10]? = some (.int .i64 (mkHE g + zs.length))) (ez : zs = ms) (hans : Ans h y.p ms) (hzl : zs.length ≤ 1048576) (hpx : x.p = h.p)
   (hI : LS X0 w0 X (fun E => Lg h w0.heap.size b1 b4 b7 y (.slice va ms.length vcap) ms m3 m4 m6 M g (mkH g) (.slice ga zs.length gcap) (marks (mkHE g) zs.length) E ∧ OwnH E m x go gr gw gd) wq) {g2 : Hp} {hv : Value} {w : World} (ho : McOut x X wq X' g2 hv w) :
   WayC Tryz.prog X' Ch (LwF h X0 w0 X') (G ((lwC3 T).finish (.tuple #[Hp.v g2, hv])) []) w := by
 obtain ⟨v0, v1, v2, v3, v4, v5, v6, v7, v8, v9, v10, v11, v12, v13, v14, v15, v16, v17, v18, v19, v20, v21, v22, v23, v24, v25, v26, v27, v28, v29, v30, v31, v32, v33, v34, v35, v36, v37, v38, v39, v40, v41, v42, v43, v44, v45, v46, v47, v48, v49, v50, v51, v52, v53, v54, v55, v56, v57, v58, v59, v60, v61, v62, v63, v64, v65, v66, v67, v68, v69, v70, v71, v72, v73, v74, v75, v76, v77, v78, v79, v80, v81, v82, v83, v84, v85, v86, v87, v88, v89, v90, v91, v92, v93, v94, v95, v96, v97, v98, v99, v100, v101, v102, v103, v104, v105, v106, v107, v108, v109, v110, v111, rfl⟩ := arr112 T hT
 simp only [List.getElem?_toArray, List.getElem?_cons_zero, List.getElem?_cons_succ, Option.some.injEq] at t4 t5 t7 t8 t10
 subst t4 t5 t7 t8 t10
 obtain ⟨M2, z2, o1, o2, o3, o4, o5, o6, o7, o8⟩ := ho.res
 rw [hpx] at o7 o8
 obtain ⟨ep, ez2⟩ := small_len hans ⟨o7, o8⟩
 subst ez2
 obtain ⟨ha, hcap, rfl, -⟩ := o2.form
 have hM : LS X0 w0 X' (fun E => Lg h w0.heap.size b1 b4 b7 y (.slice va z2.length vcap) z2 m3 m4 m6 M g (mkH g) (.slice ga zs.length gcap) (marks (mkHE g) zs.length) E ∧ HpIn E g2 ∧ SegI E ha z2) w := by
   have h1 := hI.mc ho
   refine ⟨h1.la, fun E E' o ⟨a1, a2, a3⟩ => ⟨a1.on o, HpIn.heap a2 o.1 o.2, segI_on a3 o⟩, h1.p.1, (o1.same fun b hb => emW_out (o5 b hb)).isIn, seg_of (row_heap o2 fun b hb => emW_out (o6 b hb))⟩
 have EZ : Hid (zs = z2) := ez
 clear ez
 clear o1 o2 o3 o4 o5 o6 o7 o8 hI ho
 obtain ⟨goa, goc, gos, gra, grc, grs, gwa, gwc, gws, gda, gdc, gds⟩ := g2
 obtain ⟨D0, hD0⟩ : ∃ D0, D0 = lwF := ⟨_, rfl⟩
 rw [lwC3, Frame.finish_at, ← hD0]
 simp only [lwOps2, lwE, lwD, lwC, lwB, Tryz.f6, List.getElem?_toArray, List.getElem?_cons_succ, List.getElem?_cons_zero, Option.bind_some]
 refine wayC_sil (n := 10) ?_
 walk_nrm
 u_op LS.rely hM
 u_op LS.rely hM
 u_op LS.rely hM
 refine Goes.stop (fun w3 h3 => ?_)
 replace hM := LS.rely hM h3
 clear h3
 -- the box
 refine wayC_op rfl (fun w4 h4 => ?_)
 have hz := at_le h4
 replace hM := LS.rely hM h4
 clear h4
 refine goes_oper_k rfl rfl (by decide) (fun K hK => ?_)
 go_simp
 refine hK _ _ ⟨⟨by simp; omega, fun B hB e he => ?_⟩, ?_⟩
 · have hm := mem_listed he
   simp [go_sem] at hm
 clear hK K
 have hN := hM.alloc (m := 0) (Nat.zero_le _)
 clear hM hz
 generalize w4.alloc (Obj.cells #[Value.slice none 0 0, Value.slice none 0 0, Value.slice none 0 0, Value.slice none 0 0] 27) = w5 at hN
 generalize w4.heap.size = bq at hN
 clear w4
 -- the store
 refine wayC_op rfl (fun w6 h6 => ?_)
 have hz := at_le h6
 replace hN := LT.rely hN h6
 clear h6
 have hl := hN.k.lt
 obtain ⟨c0, c1, c2, c3⟩ := cells4'' hN.k
 obtain ⟨f0, f1, f2, f3⟩ := free4 hN.k
 have bk := (put4 hN.k (.slice goa gos.length goc) (.slice gra grs.length grc) (.slice gwa gws.length gwc) (.slice gda gds.length gdc)).2
 refine goes_oper_k rfl rfl (by decide) (fun K hK => ?_)
 simp only [Hp.v]
 go_simp
 refine hK _ _ ⟨⟨by simp [World.setCell]; omega, fun B hB e he => ?_⟩, ?_⟩
 · have hm := mem_listed he
   have hB' : w6.heap.size ≤ B := by simpa [World.setCell] using hB
   simp [go_sem, Hp.v, c0, c1, c2, c3, f0, f1, f2, f3] at hm
   rcases hm with rfl | rfl | rfl | rfl <;> exact ⟨hN.xb, by show bq < B; omega⟩
 clear hK K hz
 replace hN := hN.box bk (by simp [World.setCell]) (fun b hb => by rw [Below.heap_setCell _ _ _ _ hb, Below.heap_setCell _ _ _ _ hb, Below.heap_setCell _ _ _ _ hb, Below.heap_setCell _ _ _ _ hb]) ⟨rfl, rfl⟩
 generalize (((w6.setCell ⟨bq, 0, none⟩ (.slice goa gos.length goc)).setCell ⟨bq, 1, none⟩ (.slice gra grs.length grc)).setCell ⟨bq, 2, none⟩ (.slice gwa gws.length gwc)).setCell ⟨bq, 3, none⟩ (.slice gda gds.length gdc) = w10 at *
 clear c0 c1 c2 c3 f0 f1 f2 f3 bk hl
 refine wayC_sil (n := 10) ?_
 try walk_nrm
 u_op LT.rely hN
 u_c stepG_region_end LT.rely hN
 refine Goes.stop (fun w11 h11 => .stop ?_)
 replace hN := LT.rely hN h11
 obtain ⟨⟨d1, d4, d5⟩, d2, -⟩ := hN.done
 rw [hD0]
 exact ⟨_, b1, b4, b7, bq, y, va, vcap, z2, m3, m4, m6, M, g, _, ga, gcap, zs, ha, hcap, rfl, rfl, rfl, rfl, rfl, rfl, rfl, rfl, EZ.out, hzl, ep, rfl, ⟨hN.la, fun E E' o ⟨a1, a2, a3, a4⟩ => ⟨a1.on o, blk_on a2 o, HpIn.heap a3 o.1 o.2, segI_on a4 o⟩, d1, d2, d4, d5⟩⟩
end
end Go.Proofs.YtcpnkpogebjieaaGreat.Co
