/- The law on MemCollect in company: to its second call. -/
import Derived.Test.YtcpnkpogebjieaaGreatG48Wo0
namespace Go.Proofs.YtcpnkpogebjieaaGreat.Co
open Go.Conc Go.ConcN Go.RowKit Go.Conc.Lib Go.ConcR.Gen
open Go.ConcR (DC0)
set_option linter.unusedSimpArgs false
section
variable {h : Hp} {X0 X X' : Nat → Bool} {Ch : Nat}
set_option maxRecDepth 100000 in
set_option maxHeartbeats 4000000 in
theorem lw_reg28 {w0 : World} {g' : Goroutine} {w : World} (hD : LwE h X0 w0 X g' w) : WayC Tryz.prog X Ch (LwCall2 h X0 w0 X) g' w := by
 obtain ⟨T, b1, b4, b7, y, va, vcap, ms, m3, m4, m6, M, g, ga, gcap, zs, hT, t1, t4, t5, t7, t8, t10, hs, ez, hans, hzl, rfl, hI⟩ := hD
 obtain ⟨v0, v1, v2, v3, v4, v5, v6, v7, v8, v9, v10, v11, v12, v13, v14, v15, v16, v17, v18, v19, v20, v21, v22, v23, v24, v25, v26, v27, v28, v29, v30, v31, v32, v33, v34, v35, v36, v37, v38, v39, v40, v41, v42, v43, v44, v45, v46, v47, v48, v49, v50, v51, v52, v53, v54, v55, v56, v57, v58, v59, v60, v61, v62, v63, v64, v65, v66, v67, v68, v69, v70, v71, v72, v73, v74, v75, v76, v77, v78, v79, v80, v81, v82, v83, v84, v85, v86, v87, v88, v89, v90, v91, v92, v93, v94, v95, v96, v97, v98, v99, v100, v101, v102, v103, v104, v105, v106, v107, v108, v109, v110, v111, rfl⟩ := arr112 T hT
 simp only [List.getElem?_toArray, List.getElem?_cons_zero, List.getElem?_cons_succ, Option.some.injEq] at t1 t4 t5 t7 t8 t10
 subst t1 t4 t5 t7 t8 t10
 have EZ : Hid (zs = ms) := ez
 clear ez
 have e1 : lwE = .seq (.region 28 lwOps2 false) lwF := rfl
 obtain ⟨D0, hD0⟩ : ∃ D0, D0 = lwF := ⟨_, rfl⟩
 rw [e1, ← hD0]
 refine wayC_sil (n := 30) ?_
 u_c stepG_seq LS.rely hI
 simp only [lwOps2, lwE, lwD, lwC, lwB, Tryz.f6]
 u_reg LS.rely hI
 refine Goes.stop (fun w3 h3 => ?_)
 replace hI := LS.rely hI h3
 clear h3
 refine wayC_op rfl (fun w4 h4 => ?_)
 have hz := at_le h4
 replace hI := LS.rely hI h4
 clear h4
 obtain ⟨xb, kb⟩ := em_x (show Blk (emW X w4) b1 [Value.slice h.oa h.os.length h.ocap, Value.slice h.ra h.rs.length h.rcap, Value.slice h.wa h.ws.length h.wcap, Value.slice h.da h.ds.length h.dcap] _ from hI.p.k1)
 have hl := kb.lt
 refine goes_oper_k rfl rfl (by decide) (fun K hK => ?_)
 obtain ⟨c0, c1, c2, c3⟩ := cells4'' kb
 go_simp
 refine hK _ _ ⟨⟨hz, fun B hB e he => ?_⟩, ?_⟩
 · have hm := mem_listed he
   simp [go_sem, c0, c1, c2, c3] at hm
   rcases hm with rfl | rfl | rfl | rfl <;> exact ⟨xb, by show b1 < B; omega⟩
 clear hK K hz c0 c1 c2 c3 hl kb xb
 refine wayC_sil (n := 5) ?_
 u_in LS.rely hI
 refine goes_call rfl rfl (by decide) rfl Tryz.func23 rfl rfl ⟨by u_nil, ?_⟩
 rw [← enter_at _ Tryz.func23 rfl]
 simp only [List.map_toArray, List.map_cons, List.map_nil, Act.eval, Array.getD_eq_getD_getElem?, List.getElem?_toArray, List.getElem?_cons_succ, List.getElem?_cons_zero, Option.getD_some]
 refine Goes.stop (fun w6 h6 => ?_)
 replace hI := LS.rely hI h6
 clear h6
 have hin := hI.p.hin
 refine call_way (R := fun v w1 => ∃ (x : Hp) (go gr gw gd : Nat), v = x.v ∧ x.p = h.p ∧ OwnH w1 w6.heap.size x go gr gw gd) (by kernel_rfl) hI.la.sn (fun t d => ?_) (fun v w7 w7' hE hS7 ho hz hoo hR => ?_)
 · refine (toMemHeap_any h _ (em_hp hin t d) hs).mono ?_
   rintro e w1 ⟨x, go, gr, gw, gd, rfl, hp, hb, own⟩
   rw [show ({ emW X w6 with tape := t, drawn := d } : World).heap.size = w6.heap.size from emW_size X w6] at hb own
   exact ⟨_, rfl, ⟨x, go, gr, gw, gd, rfl, hp, own⟩, hb⟩
 obtain ⟨x, go, gr, gw, gd, rfl, hpx, own⟩ := hR
 have hbig := hI.la.big
 have hJ : LS X0 w0 X (fun E => Lg h w0.heap.size b1 b4 b7 y (.slice va ms.length vcap) ms m3 m4 m6 M g (mkH g) (.slice ga zs.length gcap) (marks (mkHE g) zs.length) E ∧ OwnH E w6.heap.size x go gr gw gd) w7 := by
   refine ⟨⟨fun b hb => ⟨(ho b (by omega)).trans (hI.la.old b hb).1, (hI.la.old b hb).2⟩, by omega, hS7, hoo.trans hI.la.oo⟩, fun E E' o ⟨a1, a2⟩ => ⟨a1.on o, ownH_on a2 o⟩, hI.st _ _ (on_em ⟨hz, ho⟩) hI.p, ownH_on own (on_seen hE)⟩
 clear hI hE hS7 ho hz hoo own hin hbig
 rw [Frame.finish_at]
 simp only [List.getElem?_toArray, List.getElem?_cons_succ, List.getElem?_cons_zero, Option.bind_some]
 refine wayC_sil (n := 5) ?_
 walk_nrm
 u_in LS.rely hJ
 refine goes_call rfl rfl (by decide) rfl Tryz.func8 rfl rfl ⟨by u_nil, ?_⟩
 rw [← enter_at _ Tryz.func8 rfl]
 simp only [List.map_toArray, List.map_cons, List.map_nil, Act.eval, Array.getD_eq_getD_getElem?, List.getElem?_toArray, List.getElem?_cons_succ, List.getElem?_cons_zero, Option.getD_some]
 refine Goes.stop (fun w8 h8 => .stop ?_)
 replace hJ := LS.rely hJ h8
 rw [hD0]
 exact ⟨_, b1, b4, b7, y, va, vcap, ms, m3, m4, m6, M, g, ga, gcap, zs, x, _, go, gr, gw, gd, rfl, rfl, rfl, rfl, rfl, rfl, hs, EZ.out, hans, hzl, hpx, rfl, hJ⟩
end
end Go.Proofs.YtcpnkpogebjieaaGreat.Co
