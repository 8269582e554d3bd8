/- The law on MemCollect in company: its end. -/
import Derived.Test.YtcpnkpogebjieaaGreatG48Wo0
namespace Go.Proofs.YtcpnkpogebjieaaGreat.Co
open Go.Conc Go.ConcN Go.RowKit Go.Conc.Lib Go.ConcR.Gen
open Go.ConcR (DC0)
set_option linter.unusedSimpArgs false
section
variable {h : Hp} {X0 X X' : Nat → Bool} {Ch : Nat}
set_option maxRecDepth 100000 in
set_option maxHeartbeats 4000000 in
theorem lw_last {w0 : World} {g' : Goroutine} {w : World} (hD : LwF h X0 w0 X g' w) : WayC Tryz.prog X Ch (LwEnd X0 w0 X) g' w := by
 obtain ⟨T, b1, b4, b7, b12, y, va, vcap, ms, m3, m4, m6, M, g, g2, ga, gcap, zs, ha, hcap, hT, t4, t5, t7, t8, t10, t12, t13, ez, hzl, ep, rfl, hI⟩ := hD
 obtain ⟨v0, v1, v2, v3, v4, v5, v6, v7, v8, v9, v10, v11, v12, v13, v14, v15, v16, v17, v18, v19, v20, v21, v22, v23, v24, v25, v26, v27, v28, v29, v30, v31, v32, v33, v34, v35, v36, v37, v38, v39, v40, v41, v42, v43, v44, v45, v46, v47, v48, v49, v50, v51, v52, v53, v54, v55, v56, v57, v58, v59, v60, v61, v62, v63, v64, v65, v66, v67, v68, v69, v70, v71, v72, v73, v74, v75, v76, v77, v78, v79, v80, v81, v82, v83, v84, v85, v86, v87, v88, v89, v90, v91, v92, v93, v94, v95, v96, v97, v98, v99, v100, v101, v102, v103, v104, v105, v106, v107, v108, v109, v110, v111, rfl⟩ := arr112 T hT
 simp only [List.getElem?_toArray, List.getElem?_cons_zero, List.getElem?_cons_succ, Option.some.injEq] at t4 t5 t7 t8 t10 t12 t13
 subst t4 t5 t7 t8 t10 t12 t13
 have hok : okCode Tryz.progTables lwF = true := by kernel_rfl
 have hbig := hI.la.big
 refine code_way hI.la.sn (fok_code rfl hok) (R := fun _ _ => False) (Rr := fun a w2 => ∃ u : World, (u.heap = (emW X w).heap ∧ OO u w) ∧ (a.defers = [] ∧ a.tmps.size = 112 ∧ a.tmps[2]? = some (.bool true) ∧ Below w0.heap.size u w2)) (fun t d => ?_) (fun a w2 w2' hE hS hK hFO hR => hR.elim) (fun a todo w2 w2' hE hS hK hFO hR => ?_)
 · have hu : On (emW X w) { emW X w with tape := t, drawn := d } := on_tape t d
   have hz : w0.heap.size ≤ ({ emW X w with tape := t, drawn := d } : World).heap.size := by show w0.heap.size ≤ (emW X w).heap.size; rw [emW_size]; exact hbig
   obtain ⟨La, k12, hg2, hsg⟩ := hI.p
   have hms : ms.length ≤ maxLen := by rw [← ez]; unfold maxLen; omega
   have p3 := law_p3 (h := h) (N := w0.heap.size) (b1 := b1) (b4 := b4) (b7 := b7) (b12 := b12) (y := y) (va := va) (vcap := vcap) (ms := ms) (m3 := m3) (m4 := m4) (m6 := m6) (M := M) (g := g) (g2 := g2) (ga := ga) (gcap := gcap) (zs := zs) (ha := ha) (hcap := hcap) _ _ _ _ _ _ _ _ _ _ _ _ _ _ _ _ _ _ _ _ _ _ _ _ _ _ _ _ _ _ _ _ _ _ _ _ _ _ _ _ _ _ _ _ _ _ _ _ _ _ _ _ _ _ _ _ _ _ _ _ _ _ _ _ _ _ _ _ _ _ _ _ _ _ _ _ _ _ _ _ _ _ _ _ _ _ _ _ _ _ _ _ _ _ _ _ _ _ _ _ _ _ _ _ _ { emW X w with tape := t, drawn := d } (La.on hu) hzl hms (blk_on k12 hu) (HpIn.heap hg2 hu.1 hu.2) ep (segI_on hsg hu)
   refine wp_mono p3 fun e a w1 hq => ?_
   cases e with
   | normal => exact hq.elim
   | ret => exact ⟨{ emW X w with tape := t, drawn := d }, ⟨rfl, rfl, rfl⟩, hq.1, hq.2.1, hq.2.2.1, hq.2.2.2.mono hz⟩
   | _ => exact hq
 · obtain ⟨u, ⟨hu, huo⟩, r1, r2, r3, hB⟩ := hR
   exact .stop ⟨_, rfl, rfl, r1, rfl, rfl, by
     show a.tmps.getD 2 undef = _
     rw [Array.getD_eq_getD_getElem?, r3]
     rfl, hI.la.piece rfl hu huo hE hS hK hB⟩
end
end Go.Proofs.YtcpnkpogebjieaaGreat.Co
