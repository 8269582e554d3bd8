/- The law on MemCollect in company: between its calls. -/
import Derived.Test.YtcpnkpogebjieaaGreatG48Wo0
namespace Go.Proofs.YtcpnkpogebjieaaGreat.Co
open Go.Conc Go.ConcN Go.RowKit Go.Conc.Lib Go.ConcR.Gen
open Go.ConcR (DC0)
set_option linter.unusedSimpArgs false
section
variable {h : Hp} {N b1 b4 b6 b7 : Nat} {y : Hp} {va : Option Addr} {vcap : Nat} {ms : List Int} {m3 m4 m6 M : Nat} {g : Hp} {ga : Option Addr} {gcap : Nat} {zs : List Int} {x : Hp} {go gr gw gd : Nat}
set_option maxRecDepth 100000 in
set_option maxHeartbeats 4000000 in
theorem lw_a {T : Array Value} (hT : T.size = 112) (t1 : T[1]? = some (.pointer (some ⟨b1, 0, none⟩))) (t4 : T[4]? = some (.pointer (some ⟨b4, 0, none⟩))) (t5 : T[5]? = some (.slice va ms.length vcap)) (t6 : T[6]? = some (.pointer (some ⟨b6, 0, none⟩))) (t7 : T[7]? = some (.pointer (some ⟨b7, 0, none⟩))) (t8 : T[8]? = some (.slice ga zs.length gcap)) (E : World) (hs : Small h) (ez : zs = ms) (L : Lg h N b1 b4 b7 y (.slice va ms.length vcap) ms m3 m4 m6 M g g (.slice ga zs.length gcap) zs E) (Lx0 : Lx h m4 m6 b6 x go gr gw gd E) :
   chain Cut.prog (fun c a w1 => c = lwD2 ∧ Sl b1 b4 b7 (.slice va ms.length vcap) (.slice ga zs.length gcap) a ∧ a.tmps[6]? = some (.pointer (some ⟨b6, 0, none⟩)) ∧ Below E.heap.size E w1) (fun _ _ => False) 2 lwD ⟨T, []⟩ E := by
 obtain ⟨f, rfl⟩ := fun112 T hT
 simp only [List.getElem?_toArray, List.getElem?_cons_zero, List.getElem?_cons_succ, Option.some.injEq] at t1 t4 t5 t6 t7 t8
 rw [t1, t4, t5, t6, t7, t8]
 exact law_p2a _ _ _ _ _ _ _ _ _ _ _ _ _ _ _ _ _ _ _ _ _ _ _ _ _ _ _ _ _ _ _ _ _ _ _ _ _ _ _ _ _ _ _ _ _ _ _ _ _ _ _ _ _ _ _ _ _ _ _ _ _ _ _ _ _ _ _ _ _ _ _ _ _ _ _ _ _ _ _ _ _ _ _ _ _ _ _ _ _ _ _ _ _ _ _ _ _ _ _ _ _ _ _ _ _ _ E hs ez L Lx0
set_option maxRecDepth 100000 in
set_option maxHeartbeats 4000000 in
theorem lw_b {T : Array Value} (hT : T.size = 112) (t1 : T[1]? = some (.pointer (some ⟨b1, 0, none⟩))) (t4 : T[4]? = some (.pointer (some ⟨b4, 0, none⟩))) (t5 : T[5]? = some (.slice va ms.length vcap)) (t6 : T[6]? = some (.pointer (some ⟨b6, 0, none⟩))) (t7 : T[7]? = some (.pointer (some ⟨b7, 0, none⟩))) (t8 : T[8]? = some (.slice ga zs.length gcap)) (E : World) (hs : Small h) (ez : zs = ms) (L : Lg h N b1 b4 b7 y (.slice va ms.length vcap) ms m3 m4 m6 M g g (.slice ga zs.length gcap) zs E) (Lx0 : Lx h m4 m6 b6 x go gr gw gd E) (hN : N ≤ E.heap.size) :
   chain Cut.prog (fun c a w1 => c = lwD3 ∧ Sl b1 b4 b7 (.slice va ms.length vcap) (.slice ga zs.length gcap) a ∧ Lg h N b1 b4 b7 y (.slice va ms.length vcap) ms m3 m4 m6 M g g (.slice ga zs.length gcap) zs w1 ∧ Below N E w1) (fun _ _ => False) 3 lwD2 ⟨T, []⟩ E := by
 obtain ⟨f, rfl⟩ := fun112 T hT
 simp only [List.getElem?_toArray, List.getElem?_cons_zero, List.getElem?_cons_succ, Option.some.injEq] at t1 t4 t5 t6 t7 t8
 rw [t1, t4, t5, t6, t7, t8]
 exact law_p2b _ _ _ _ _ _ _ _ _ _ _ _ _ _ _ _ _ _ _ _ _ _ _ _ _ _ _ _ _ _ _ _ _ _ _ _ _ _ _ _ _ _ _ _ _ _ _ _ _ _ _ _ _ _ _ _ _ _ _ _ _ _ _ _ _ _ _ _ _ _ _ _ _ _ _ _ _ _ _ _ _ _ _ _ _ _ _ _ _ _ _ _ _ _ _ _ _ _ _ _ _ _ _ _ _ _ E hs ez L Lx0 hN
set_option maxRecDepth 100000 in
set_option maxHeartbeats 4000000 in
theorem lw_c {T : Array Value} (hT : T.size = 112) (t1 : T[1]? = some (.pointer (some ⟨b1, 0, none⟩))) (t4 : T[4]? = some (.pointer (some ⟨b4, 0, none⟩))) (t5 : T[5]? = some (.slice va ms.length vcap)) (t7 : T[7]? = some (.pointer (some ⟨b7, 0, none⟩))) (t8 : T[8]? = some (.slice ga zs.length gcap)) (E : World) (L : Lg h N b1 b4 b7 y (.slice va ms.length vcap) ms m3 m4 m6 M g g (.slice ga zs.length gcap) zs E) (hzs : zs.length ≤ 1048576) (hN : N ≤ E.heap.size) :
   chain Cut.prog (fun c a w1 => c = lwE ∧ Sl b1 b4 b7 (.slice va ms.length vcap) (.slice ga zs.length gcap) a ∧ a.tmps[10]? = some (.int .i64 (mkHE g + zs.length)) ∧ Lg h N b1 b4 b7 y (.slice va ms.length vcap) ms m3 m4 m6 M g (mkH g) (.slice ga zs.length gcap) (marks (mkHE g) zs.length) w1 ∧ Below N E w1) (fun _ _ => False) 9 lwD3 ⟨T, []⟩ E := by
 obtain ⟨f, rfl⟩ := fun112 T hT
 simp only [List.getElem?_toArray, List.getElem?_cons_zero, List.getElem?_cons_succ, Option.some.injEq] at t1 t4 t5 t7 t8
 rw [t1, t4, t5, t7, t8]
 exact law_p2c _ _ _ _ _ _ _ _ _ _ _ _ _ _ _ _ _ _ _ _ _ _ _ _ _ _ _ _ _ _ _ _ _ _ _ _ _ _ _ _ _ _ _ _ _ _ _ _ _ _ _ _ _ _ _ _ _ _ _ _ _ _ _ _ _ _ _ _ _ _ _ _ _ _ _ _ _ _ _ _ _ _ _ _ _ _ _ _ _ _ _ _ _ _ _ _ _ _ _ _ _ _ _ _ _ _ _ E L hzs hN
end
section
variable {h : Hp} {X0 X X' : Nat → Bool} {Ch : Nat}
set_option maxRecDepth 100000 in
set_option maxHeartbeats 4000000 in
theorem lw_mid2 {w0 : World} {g' : Goroutine} {w : World} (hD : LwD h X0 w0 X g' w) : WayC Tryz.prog X Ch (LwE h X0 w0 X) g' w := by
 obtain ⟨T, b1, b4, b6, b7, y, va, vcap, ms, m3, m4, m6, M, g, ga, gcap, zs, x, go, gr, gw, gd, hT, t1, t4, t5, t6, t7, t8, hs, ez, hans, hzl, rfl, hI⟩ := hD
 have hok : okCode Tryz.progTables lwD = true := by kernel_rfl
 have hbig := hI.la.big
 refine chain_way 14 hI.la.sn (fok_code rfl hok) (R := fun c a w2 => ∃ u : World, (u.heap = (emW X w).heap ∧ OO u w) ∧ (c = lwE ∧ Sl b1 b4 b7 (.slice va ms.length vcap) (.slice ga zs.length gcap) a ∧ a.tmps[10]? = some (.int .i64 (mkHE g + zs.length)) ∧ Lg h w0.heap.size b1 b4 b7 y (.slice va ms.length vcap) ms m3 m4 m6 M g (mkH g) (.slice ga zs.length gcap) (marks (mkHE g) zs.length) w2 ∧ Below w0.heap.size u w2)) (Rr := fun _ _ => False) (fun t d => ?_) (fun c' a w2 w2' hE hS hK hFO hR => ?_) (fun a todo w2 w2' hE hS hK hFO hR => hR.elim)
 · have hu : On (emW X w) { emW X w with tape := t, drawn := d } := on_tape t d
   have hz : w0.heap.size ≤ ({ emW X w with tape := t, drawn := d } : World).heap.size := by show w0.heap.size ≤ (emW X w).heap.size; rw [emW_size]; exact hbig
   obtain ⟨La, Lxa⟩ := hI.p
   have p1 := lw_a hT t1 t4 t5 t6 t7 t8 { emW X w with tape := t, drawn := d } hs ez (La.on hu) (Lxa.on hu)
   refine chain_add (n := 2) (m := 12) (chain_mono p1 ?_ (fun _ _ h => h))
   rintro c ⟨T1, D1⟩ w1 ⟨rfl, s1, s6, hb1⟩
   have o1 := On.of hb1 (Nat.le_refl _)
   have La1 := (La.on hu).on o1
   have Lxa1 := (Lxa.on hu).on o1
   have e1 : D1 = [] := s1.df
   subst e1
   have p2 := lw_b s1.sz s1.t1 s1.t4 s1.t5 s6 s1.t7 s1.t8 w1 hs ez La1 Lxa1 (Nat.le_trans hz hb1.size)
   refine chain_add (n := 3) (m := 9) (chain_mono p2 ?_ (fun _ _ h => h))
   rintro c ⟨T2, D2⟩ w2 ⟨rfl, s2, L2, hb2⟩
   have e2 : D2 = [] := s2.df
   subst e2
   have hb12 : Below w0.heap.size { emW X w with tape := t, drawn := d } w2 := (hb1.mono hz).trans hb2
   have p3 := lw_c s2.sz s2.t1 s2.t4 s2.t5 s2.t7 s2.t8 w2 L2 hzl (Nat.le_trans hz hb12.size)
   refine chain_mono p3 ?_ (fun _ _ h => h)
   rintro c a w3 ⟨rfl, s3, s10, L3, hb3⟩
   exact ⟨{ emW X w with tape := t, drawn := d }, ⟨rfl, rfl, rfl⟩, rfl, s3, s10, L3, hb12.trans hb3⟩
 · obtain ⟨u, ⟨hu, huo⟩, rfl, s, s10, L, hB⟩ := hR
   obtain ⟨T, D⟩ := a
   have e1 : D = [] := s.df
   subst e1
   exact .stop ⟨T, b1, b4, b7, y, va, vcap, ms, m3, m4, m6, M, g, ga, gcap, zs, s.sz, s.t1, s.t4, s.t5, s.t7, s.t8, s10, hs, ez, hans, hzl, rfl, ⟨hI.la.piece rfl hu huo hE hS hK hB, fun _ _ o l => l.on o, L.on (on_seen hE)⟩⟩
end
end Go.Proofs.YtcpnkpogebjieaaGreat.Co
