/- The law on MemCollect in company: behind its first call. -/
import Derived.Test.YtcpnkpogebjieaaGreatG48Wo0
namespace Go.Proofs.YtcpnkpogebjieaaGreat.Co
open Go.Conc Go.ConcN Go.RowKit Go.Conc.Lib Go.ConcR.Gen
open Go.ConcR (DC0)
set_option linter.unusedSimpArgs false
section
variable {h : Hp} {X0 X X' : Nat → Bool} {Ch : Nat}
set_option maxRecDepth 100000 in
set_option maxHeartbeats 4000000 in
theorem lw_mid1 {w0 wq : World} {T : Array Value} {b1 b4 b6 : Nat} {y : Hp} {sv : Value} {ms : List Int} {x : Hp} {go gr gw gd m3 m4 : Nat} (hT : T.size = 112) (t1 : T[1]? = some (.pointer (some ⟨b1, 0, none⟩))) (t4 : T[4]? = some (.pointer (some ⟨b4, 0, none⟩))) (t5 : T[5]? = some sv) (t6 : T[6]? = some (.pointer (some ⟨b6, 0, none⟩))) (hs : Small h)
   (hI : LS X0 w0 X (L1 h w0.heap.size b1 b4 b6 y sv ms x go gr gw gd m3 m4) wq) {g : Hp} {gv : Value} {w : World} (ho : McOut x X wq X' g gv w) :
   WayC Tryz.prog X' Ch (LwD h X0 w0 X') (G ((lwC1 T).finish (.tuple #[Hp.v g, gv])) []) w := by
 obtain ⟨v0, v1, v2, v3, v4, v5, v6, v7, v8, v9, v10, v11, v12, v13, v14, v15, v16, v17, v18, v19, v20, v21, v22, v23, v24, v25, v26, v27, v28, v29, v30, v31, v32, v33, v34, v35, v36, v37, v38, v39, v40, v41, v42, v43, v44, v45, v46, v47, v48, v49, v50, v51, v52, v53, v54, v55, v56, v57, v58, v59, v60, v61, v62, v63, v64, v65, v66, v67, v68, v69, v70, v71, v72, v73, v74, v75, v76, v77, v78, v79, v80, v81, v82, v83, v84, v85, v86, v87, v88, v89, v90, v91, v92, v93, v94, v95, v96, v97, v98, v99, v100, v101, v102, v103, v104, v105, v106, v107, v108, v109, v110, v111, rfl⟩ := arr112 T hT
 simp only [List.getElem?_toArray, List.getElem?_cons_zero, List.getElem?_cons_succ, Option.some.injEq] at t1 t4 t5 t6
 subst t1 t4 t5 t6
 have hpx := hI.p.px
 have hl4 := hI.p.l4.2
 have hox := hI.p.ox
 have hle4 : m4 ≤ wq.heap.size := by
   have h1 := hox.bo.lt
   have h2 := hox.le
   rw [emW_size] at h1
   omega
 have hlb6 : b6 < wq.heap.size := by have h1 := hI.p.k6.lt; rw [emW_size] at h1; exact h1
 have hans := hI.p.an
 have hokc := hI.p.ok
 obtain ⟨M, zs, o1, o2, o3, o4, o5, o6, o7, o8⟩ := ho.res
 rw [hpx] at o7 o8
 obtain ⟨ep, ez⟩ := small_len hans ⟨o7, o8⟩
 have hM : LS X0 w0 X' (fun E => L1 h w0.heap.size b1 b4 b6 y v5 ms x go gr gw gd m3 m4 E ∧ OwnP E M g ∧ OwnL E wq.heap.size gv zs ∧ wq.heap.size ≤ E.heap.size) w := by
   have h1 := hI.mc ho
   refine ⟨h1.la, fun E E' o ⟨a1, a2, a3, a4⟩ => ⟨a1.on o, a2.on o, ownL_on a3 o, Nat.le_trans a4 o.1⟩, h1.p, o1.same fun b hb => emW_out (o5 b hb), row_heap o2 fun b hb => emW_out (o6 b hb), by rw [emW_size]; exact ho.big⟩
 have hzl : zs.length ≤ 1048576 := by
   rw [ez]
   cases hok : okP h.p with
   | false => rw [(hans.1 hok).2]; simp
   | true =>
     obtain ⟨n, K, ws, ds, _, _, _, e4⟩ := hans.2 hok
     rw [e4, whs_len]
     have := (okP_parts hok).1
     show (h.os.map Ob.p).length ≤ _
     simp
     have h60 : h.os.length ≤ 60 := this
     omega
 obtain ⟨va, vcap, esv, -⟩ : ∃ va vcap, v5 = Value.slice va ms.length vcap ∧ True := by
   obtain ⟨E3, h3, h4, h5⟩ := hI.p.sp
   obtain ⟨a, c, e, _⟩ := h5.form
   exact ⟨a, c, e, trivial⟩
 subst esv
 obtain ⟨ga, gcap, rfl, -⟩ := o2.form
 have hfin : ∀ E bq, (L1 h w0.heap.size b1 b4 b6 y (.slice va ms.length vcap) ms x go gr gw gd m3 m4 E ∧ OwnP E M g ∧ OwnL E wq.heap.size (.slice ga zs.length gcap) zs ∧ wq.heap.size ≤ E.heap.size) → Blk E bq [Value.slice g.oa g.os.length g.ocap, Value.slice g.ra g.rs.length g.rcap, Value.slice g.wa g.ws.length g.wcap, Value.slice g.da g.ds.length g.dcap] 27 → wq.heap.size ≤ bq →
     Lg h w0.heap.size b1 b4 bq y (.slice va ms.length vcap) ms m3 m4 wq.heap.size M g g (.slice ga zs.length gcap) zs E ∧ Lx h m4 wq.heap.size b6 x go gr gw gd E := fun E bq ⟨a1, a2, a3, _⟩ k7 n7 =>
   ⟨⟨a1.hh, a1.k1, a1.k4, k7, a1.n1, a1.l1, a1.l3, a1.l4, hle4, n7, a1.sp, a1.ok, a2, a3, o3, o4, ep⟩, ⟨a1.k6, a1.l6, hlb6, a1.ox, a1.px⟩⟩
 have EZ : Hid (zs = ms) := ez
 clear ez hpx hl4 hox hle4 hlb6 o1 o2 o3 o4 o5 o6 o7 o8 ep hI ho hokc
 obtain ⟨goa, goc, gos, gra, grc, grs, gwa, gwc, gws, gda, gdc, gds⟩ := g
 obtain ⟨D0, hD0⟩ : ∃ D0, D0 = lwD := ⟨_, rfl⟩
 rw [lwC1, Frame.finish_at, ← hD0]
 simp only [lwOps, lwC, lwB, Tryz.f6, List.getElem?_toArray, List.getElem?_cons_succ, List.getElem?_cons_zero, Option.bind_some]
 refine wayC_sil (n := 10) ?_
 walk_nrm
 u_op LS.rely hM
 u_op LS.rely hM
 u_op LS.rely hM
 refine Goes.stop (fun w3 h3 => ?_)
 replace hM := LS.rely hM h3
 clear h3
 -- the box
 refine wayC_op rfl (fun w4 h4 => ?_)
 have hz := at_le h4
 replace hM := LS.rely hM h4
 clear h4
 refine goes_oper_k rfl rfl (by decide) (fun K hK => ?_)
 go_simp
 refine hK _ _ ⟨⟨by simp; omega, fun B hB e he => ?_⟩, ?_⟩
 · have hm := mem_listed he
   simp [go_sem] at hm
 clear hK K
 have hq := hM.p.2.2.2
 rw [emW_size] at hq
 have hN := hM.alloc (m := wq.heap.size) hq
 clear hM hz hq
 generalize w4.alloc (Obj.cells #[Value.slice none 0 0, Value.slice none 0 0, Value.slice none 0 0, Value.slice none 0 0] 27) = w5 at hN
 generalize w4.heap.size = bq at hN
 clear w4
 -- the store
 refine wayC_op rfl (fun w6 h6 => ?_)
 have hz := at_le h6
 replace hN := LT.rely hN h6
 clear h6
 have hl := hN.k.lt
 obtain ⟨c0, c1, c2, c3⟩ := cells4'' hN.k
 obtain ⟨f0, f1, f2, f3⟩ := free4 hN.k
 have bk := (put4 hN.k (.slice goa gos.length goc) (.slice gra grs.length grc) (.slice gwa gws.length gwc) (.slice gda gds.length gdc)).2
 refine goes_oper_k rfl rfl (by decide) (fun K hK => ?_)
 simp only [Hp.v]
 go_simp
 refine hK _ _ ⟨⟨by simp [World.setCell]; omega, fun B hB e he => ?_⟩, ?_⟩
 · have hm := mem_listed he
   have hB' : w6.heap.size ≤ B := by simpa [World.setCell] using hB
   simp [go_sem, Hp.v, c0, c1, c2, c3, f0, f1, f2, f3] at hm
   rcases hm with rfl | rfl | rfl | rfl <;> exact ⟨hN.xb, by show bq < B; omega⟩
 clear hK K hz
 replace hN := hN.box bk (by simp [World.setCell]) (fun b hb => by rw [Below.heap_setCell _ _ _ _ hb, Below.heap_setCell _ _ _ _ hb, Below.heap_setCell _ _ _ _ hb, Below.heap_setCell _ _ _ _ hb]) ⟨rfl, rfl⟩
 generalize (((w6.setCell ⟨bq, 0, none⟩ (.slice goa gos.length goc)).setCell ⟨bq, 1, none⟩ (.slice gra grs.length grc)).setCell ⟨bq, 2, none⟩ (.slice gwa gws.length gwc)).setCell ⟨bq, 3, none⟩ (.slice gda gds.length gdc) = w10 at *
 clear c0 c1 c2 c3 f0 f1 f2 f3 bk hl
 refine wayC_sil (n := 10) ?_
 try walk_nrm
 u_op LT.rely hN
 u_c stepG_region_end LT.rely hN
 refine Goes.stop (fun w11 h11 => .stop ?_)
 replace hN := LT.rely hN h11
 obtain ⟨d1, d2, d3⟩ := hN.done
 have hL := hfin _ _ d1 d2 d3
 rw [hD0]
 exact ⟨_, b1, b4, b6, bq, y, va, vcap, ms, m3, m4, _, M, _, ga, gcap, zs, x, go, gr, gw, gd, rfl, rfl, rfl, rfl, rfl, rfl, rfl, hs, EZ.out, hans, hzl, rfl, ⟨hN.la, fun E E' o ⟨a1, a2⟩ => ⟨a1.on o, a2.on o⟩, hL⟩⟩
end
end Go.Proofs.YtcpnkpogebjieaaGreat.Co
