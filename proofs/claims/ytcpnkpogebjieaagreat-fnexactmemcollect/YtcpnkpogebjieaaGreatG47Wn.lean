/- The law on MemCollect in company: to its first call of the program. -/
import Derived.Test.YtcpnkpogebjieaaGreatG46Wm
namespace Go.Proofs.YtcpnkpogebjieaaGreat.Co
open Go.Conc Go.ConcN Go.RowKit Go.Conc.Lib Go.ConcR.Gen
open Go.ConcR (DC0)
set_option linter.unusedSimpArgs false
def LwCall1 (h : Hp) (X0 : Nat → Bool) (w0 : World) (g : Goroutine) (w : World) : Prop :=
 ∃ (T : Array Value) (b1 b4 b6 : Nat) (y : Hp) (sv : Value) (ms : List Int) (x : Hp) (go gr gw gd m3 m4 : Nat), T.size = 112 ∧ T[1]? = some (.pointer (some ⟨b1, 0, none⟩)) ∧ T[4]? = some (.pointer (some ⟨b4, 0, none⟩)) ∧ T[5]? = some sv ∧ T[6]? = some (.pointer (some ⟨b6, 0, none⟩)) ∧ Small h ∧
   g = G (Frame.enter Tryz.prog 8 #[Hp.v x] .normal) [lwC1 T] ∧ LS X0 w0 X0 (L1 h w0.heap.size b1 b4 b6 y sv ms x go gr gw gd m3 m4) w
section
variable {h : Hp} {X : Nat → Bool} {Ch : Nat}
set_option maxRecDepth 100000 in
set_option maxHeartbeats 4000000 in
theorem lw_reg7 {w0 : World} {T : Array Value} {b1 b4 b6 : Nat} {y : Hp} {sv : Value} {ms : List Int} {x : Hp} {go gr gw gd m3 m4 : Nat} (hT : T.size = 112) (t1 : T[1]? = some (.pointer (some ⟨b1, 0, none⟩))) (t4 : T[4]? = some (.pointer (some ⟨b4, 0, none⟩))) (t5 : T[5]? = some sv) (t6 : T[6]? = some (.pointer (some ⟨b6, 0, none⟩))) (hs : Small h) {w : World} (hI : LS X w0 X (L1 h w0.heap.size b1 b4 b6 y sv ms x go gr gw gd m3 m4) w) :
   WayC Tryz.prog X Ch (LwCall1 h X w0) (G ((base 6).at ⟨T, []⟩ [.code lwC]) []) w := by
 obtain ⟨v0, v1, v2, v3, v4, v5, v6, v7, v8, v9, v10, v11, v12, v13, v14, v15, v16, v17, v18, v19, v20, v21, v22, v23, v24, v25, v26, v27, v28, v29, v30, v31, v32, v33, v34, v35, v36, v37, v38, v39, v40, v41, v42, v43, v44, v45, v46, v47, v48, v49, v50, v51, v52, v53, v54, v55, v56, v57, v58, v59, v60, v61, v62, v63, v64, v65, v66, v67, v68, v69, v70, v71, v72, v73, v74, v75, v76, v77, v78, v79, v80, v81, v82, v83, v84, v85, v86, v87, v88, v89, v90, v91, v92, v93, v94, v95, v96, v97, v98, v99, v100, v101, v102, v103, v104, v105, v106, v107, v108, v109, v110, v111, rfl⟩ := arr112 T hT
 simp only [List.getElem?_toArray, List.getElem?_cons_zero, List.getElem?_cons_succ, Option.some.injEq] at t1 t4 t5 t6
 subst t1 t4 t5 t6
 have e1 : lwC = .seq (.region 7 lwOps false) lwD := rfl
 obtain ⟨D0, hD0⟩ : ∃ D0, D0 = lwD := ⟨_, rfl⟩
 rw [e1, ← hD0]
 refine wayC_sil (n := 30) ?_
 u_c stepG_seq LS.rely hI
 simp only [lwOps, lwC, lwB, Tryz.f6]
 u_reg LS.rely hI
 refine Goes.stop (fun w3 h3 => ?_)
 replace hI := LS.rely hI h3
 clear h3
 refine wayC_op rfl (fun w4 h4 => ?_)
 have hz := at_le h4
 replace hI := LS.rely hI h4
 clear h4
 obtain ⟨xb, kb⟩ := em_x (show Blk (emW X w4) b6 [Value.slice x.oa x.os.length x.ocap, Value.slice x.ra x.rs.length x.rcap, Value.slice x.wa x.ws.length x.wcap, Value.slice x.da x.ds.length x.dcap] _ from hI.p.k6)
 have hl := kb.lt
 refine goes_oper_k rfl rfl (by decide) (fun K hK => ?_)
 obtain ⟨c0, c1, c2, c3⟩ := cells4'' kb
 go_simp
 refine hK _ _ ⟨⟨hz, fun B hB e he => ?_⟩, ?_⟩
 · have hm := mem_listed he
   simp [go_sem, c0, c1, c2, c3] at hm
   rcases hm with rfl | rfl | rfl | rfl <;> exact ⟨xb, by show b6 < B; omega⟩
 clear hK K hz c0 c1 c2 c3 hl kb xb
 refine wayC_sil (n := 5) ?_
 u_in LS.rely hI
 refine goes_call rfl rfl (by decide) rfl Tryz.func8 rfl rfl ⟨by u_nil, ?_⟩
 rw [← enter_at _ Tryz.func8 rfl]
 simp only [List.map_toArray, List.map_cons, List.map_nil, Act.eval, Array.getD_eq_getD_getElem?, List.getElem?_toArray, List.getElem?_cons_succ, List.getElem?_cons_zero, Option.getD_some]
 refine Goes.stop (fun w6 h6 => .stop ?_)
 replace hI := LS.rely hI h6
 rw [hD0]
 exact ⟨_, b1, b4, b6, y, _, ms, x, go, gr, gw, gd, m3, m4, rfl, rfl, rfl, rfl, rfl, hs, rfl, hI⟩
theorem lw_enter {w : World} (hs : Sn X w) (hh : HpIn (emW X w) h) (hf : Fits h) :
   WayC Tryz.prog X Ch (fun g w1 => LwCall1 h X w g w1 ∨ LwEnd X w X g w1) (G (Frame.enter Tryz.prog 6 #[h.v] .normal) []) w := by
 rw [enter_at _ Tryz.func6 (show Tryz.f6.body = some lwB from rfl)]
 have hA : LA X w X w := ⟨fun _ _ => ⟨rfl, rfl⟩, Nat.le_refl _, hs, .refl _⟩
 have hok : okCode Tryz.progTables lwB = true := by kernel_rfl
 refine chain_way 6 hs (fok_code rfl hok) (R := fun c a w2 => ∃ u : World, (u.heap = (emW X w).heap ∧ OO u w) ∧ Lw1 h u c a w2) (Rr := fun a w2 => ∃ u : World, (u.heap = (emW X w).heap ∧ OO u w) ∧ Lw1r u a w2) (fun t d => ?_) (fun c' a w2 w2' hE hS hK hFO hR => ?_) (fun a todo w2 w2' hE hS hK hFO hR => ?_)
 · have h1 := law_p1 h { emW X w with tape := t, drawn := d } (em_hp hh t d) hf
   exact chain_mono h1 (fun c a _ hq => ⟨{ emW X w with tape := t, drawn := d }, ⟨rfl, rfl, rfl⟩, hq⟩) (fun a _ hq => ⟨{ emW X w with tape := t, drawn := d }, ⟨rfl, rfl, rfl⟩, hq⟩)
 · obtain ⟨u, ⟨hu, huo⟩, rfl, r1, r2, hsm, hB, b1, b4, b6, y, sv, ms, x, go, gr, gw, gd, m3, m4, t1, t4, t5, t6, L⟩ := hR
   obtain ⟨T, D⟩ := a
   simp only at r1 r2 t1 t4 t5 t6
   subst r1
   have us : u.heap.size = w.heap.size := by rw [hu, emW_size]
   rw [us] at L hB
   refine wayC_mono (lw_reg7 r2 t1 t4 t5 t6 hsm ⟨hA.piece rfl hu huo hE hS hK hB, fun _ _ o l => l.on o, L.on (on_seen hE)⟩) fun g w hg => .inl hg
 · obtain ⟨u, ⟨hu, huo⟩, r1, r2, r3, hB⟩ := hR
   have us : u.heap.size = w.heap.size := by rw [hu, emW_size]
   rw [us] at hB
   exact .stop (.inr ⟨_, rfl, rfl, r1, rfl, rfl, by
     show a.tmps.getD 2 undef = _
     rw [Array.getD_eq_getD_getElem?, r3]
     rfl, hA.piece rfl hu huo hE hS hK hB⟩)
end
end Go.Proofs.YtcpnkpogebjieaaGreat.Co
