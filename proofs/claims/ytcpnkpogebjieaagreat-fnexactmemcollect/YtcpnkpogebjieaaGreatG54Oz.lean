/- The law on MemCollect, whole, in company, on every tape. -/
import Derived.Test.YtcpnkpogebjieaaGreatG47Wn
import Derived.Test.YtcpnkpogebjieaaGreatG49Wo1
import Derived.Test.YtcpnkpogebjieaaGreatG50Wo2
import Derived.Test.YtcpnkpogebjieaaGreatG51Wp1
import Derived.Test.YtcpnkpogebjieaaGreatG52Wp2
import Derived.Test.YtcpnkpogebjieaaGreatG53Wp3
import Derived.ProofKit
import Derived.OpenShut
import Derived.Deep.Slices
import Derived.Deep.SlicePairs
import Derived.Deep.Strs
import Derived.Lib.SmallJoins
import Derived.Test.YtcpnkpogebjieaaGreatG11Ok
namespace Go.Proofs.YtcpnkpogebjieaaGreat.Co
open Go.Conc Go.ConcN Go.RowKit Go.Conc.Lib Go.ConcR.Gen
theorem law_runs (h : Hp) (W : World) (hh : HpIn W h) (hf : Fits h) :
   ∃ N last o w' t', runNT Tryz.prog (N + 1) (solo (G (Frame.enter Tryz.prog 6 #[h.v] .normal) []) W) #[] = (.ended o w', t') ∧ runN Tryz.prog N (solo (G (Frame.enter Tryz.prog 6 #[h.v] .normal) []) W) = .next last ∧ step Tryz.prog last = .ended o w' ∧
     Go.Conc.Good Tryz.prog (fun v w' => v = .bool true ∧ w'.os = W.os ∧ w'.output = W.output ∧ W.heap.size ≤ w'.heap.size ∧ ∀ b, b < W.heap.size → w'.heap[b]? = W.heap[b]?) last o w' t' := by
 have hs := sn_start W
 have hB := bt_start W (G (Frame.enter Tryz.prog 6 #[h.v] .normal) [])
 have hin := hp_start hh
 have ht : ∀ i (hi : i < h.os.length), h.os[i].t.size ≤ maxLen := fun i hi => (hf.oo i hi).2
 have fin : ∀ {X : Nat → Bool} {SB : Nat → Prop} {gs : Array Goroutine} {w : World} {t : Trace} {sl : Option (Nat × Nat)} {K : Nat} {g : Goroutine}, runNT Tryz.prog K (solo (G (Frame.enter Tryz.prog 6 #[h.v] .normal) []) W) #[] = (.next (crowd gs w sl), t) → Bt X SB gs w t → gs[0]? = some g → LwEnd (X0 W) W X g w →
     ∃ N last o w' t', runNT Tryz.prog (N + 1) (solo (G (Frame.enter Tryz.prog 6 #[h.v] .normal) []) W) #[] = (.ended o w', t') ∧ runN Tryz.prog N (solo (G (Frame.enter Tryz.prog 6 #[h.v] .normal) []) W) = .next last ∧ step Tryz.prog last = .ended o w' ∧
     Go.Conc.Good Tryz.prog (fun v w' => v = .bool true ∧ w'.os = W.os ∧ w'.output = W.output ∧ W.heap.size ≤ w'.heap.size ∧ ∀ b, b < W.heap.size → w'.heap[b]? = W.heap[b]?) last o w' t' := by
   intro X SB gs w t sl K g hr hB h0 hE
   obtain ⟨fr, rfl, e1, e2, e3, e4, e5, hA⟩ := hE
   refine runs_end hr (end_run hB h0 e1 e2 e3 (fn := Tryz.f6) (by rw [e4]; exact Tryz.func6) (by rw [e4]; kernel_rfl) (v := .bool true) (fun d => ?_) (fun d => ?_) (fun d => ⟨rfl, hA.oo.1, hA.oo.2, hA.big, fun b hb => (hA.old b hb).1⟩) sl)
   · have := (resultsC_tmp (P := Tryz.prog) (fn := Tryz.f6) (t := 2) rfl fr.tmps (w.at d)).1
     rw [e5] at this
     exact this
   · exact (resultsC_tmp (P := Tryz.prog) (fn := Tryz.f6) (t := 2) rfl fr.tmps (w.at d)).2
 obtain ⟨n1, gs1, a1, w1, sl1, t1, hr1, hsz1, h01, hor, hB1⟩ := wayC_runs hB rfl (lw_enter (Ch := 0) hs hin hf) none
 rw [← solo_eq_crowd] at hr1
 rcases hor with ⟨T, b1, b4, b6, y, sv, ms, x, go, gr, gw, gd, m3, m4, q0, q1, q4, q5, q6, hsm, rfl, hI⟩ | hE
 · have hpx := hI.p.px
   obtain ⟨n2, gs2, w2, sl2, t2, X2, SB2, g, gv, hr2, h02, hB2, ho⟩ := mc_runs (small_p hpx hsm) (text_p hpx ht) (ownH_caps hI.p.ox) hB1 hI.la.sn hI.p.ox.isIn h01 sl1
   obtain ⟨n3, gs3, a3, w3, sl3, t3, hr3, hsz3, h03, hE3, hB3⟩ := wayC_runs hB2 h02 (wayC_trans (lw_mid1 (Ch := 0) q0 q1 q4 q5 q6 hsm hI ho) fun g w hD => wayC_trans (lw_mid2 hD) fun g w hD => lw_reg28 hD) sl2
   obtain ⟨T', b1', b4', b7, y', va, vcap, ms', m3', m4', m6, M, g1, ga, gcap, zs, x', m, go', gr', gw', gd', p0, p4, p5, p7, p8, p10, hsm', ez, hans, hzl, hpx', rfl, hJ⟩ := hE3
   obtain ⟨n4, gs4, w4, sl4, t4, X4, SB4, g2, hv, hr4, h04, hB4, ho4⟩ := mc_runs (small_p hpx' hsm) (text_p hpx' ht) (ownH_caps hJ.p.2) hB3 hJ.la.sn hJ.p.2.isIn h03 sl3
   obtain ⟨n5, gs5, a5, w5, sl5, t5, hr5, hsz5, h05, hE5, hB5⟩ := wayC_runs hB4 h04 (wayC_trans (lw_mid3 (Ch := 0) p0 p4 p5 p7 p8 p10 ez hans hzl hpx' hJ ho4) fun g w hD => lw_last hD) sl4
   refine fin (K := n1 + (n2 + (n3 + (n4 + n5)))) (sl := sl5) ?_ hB5 h05 hE5
   rw [runNT_add, hr1]
   simp only
   rw [runNT_add, hr2]
   simp only
   rw [runNT_add, hr3]
   simp only
   rw [runNT_add, hr4]
   exact hr5
 · exact fin hr1 hB1 h01 hE
end Go.Proofs.YtcpnkpogebjieaaGreat.Co
namespace Go.Proofs.YtcpnkpogebjieaaGreat.Co
open Go.ChangeShapes Go.WideShapes Go.ChangeAt Go.RowKit Go.Deep Go.Joins
theorem spot_none {w : World} {a : Addr} {v : Value} (h : w.cell? a = some v) : a = ⟨a.block, a.off, none⟩ := by
 obtain ⟨b, o, s⟩ := a
 cases s with
 | none => rfl
 | some s =>
   unfold World.cell? at h
   cases hh : w.heap[b]? with
   | none => simp [hh] at h
   | some x => cases x <;> simp [hh] at h
theorem add_at (b off i : Nat) : (⟨b, off, none⟩ : Addr).add i = ⟨b, off + i, none⟩ := by
 unfold Addr.add
 by_cases h : i = 0
 · subst h; simp
 · simp [h]
theorem cells_int : Tryz.prog.cellsOf 3 = 1 := by kernel_rfl
theorem cells_str : Tryz.prog.cellsOf 9 = 1 := by kernel_rfl
theorem cells_ints : Tryz.prog.cellsOf 24 = 1 := by kernel_rfl
theorem cells_lwatch : Tryz.prog.cellsOf 127 = 2 := by kernel_rfl
theorem cells_lobj : Tryz.prog.cellsOf 124 = 3 := by kernel_rfl
theorem cells_lheap : Tryz.prog.cellsOf 48 = 4 := by kernel_rfl
section
variable {H : Type} {enc : TypeId × Value → H} {w : World} {held : Bool}
theorem open_ints_row {fuel : Nat} {v : Value} {x : DataW H × List MemPlace} (h : DataW.trod enc Tryz.prog w 0 (fun _ => true) held fuel 24 [v] = some x) :
   ∃ (a : Option Addr) (cap : Nat) (zs : List Int), v = .slice a zs.length cap ∧ zs.length ≤ maxLen ∧ SegI w a zs := by
 rcases open_slice1 Tryz.underlying24 cells_int h with ⟨h0, _⟩ | ⟨a, len, cap, m, n, V, D, Pl, hv, _, hl, hm, hmm, _, hc⟩
 · simp at h0
   exact ⟨none, 0, [], by simpa using h0, Nat.zero_le _, fun h => by simp at h⟩
 · simp at hv hmm
   have hz : ∀ i, i < len → ∃ z : Int, V i = .int .i64 z := fun i hi => by
     obtain ⟨_, h2⟩ := hc i (by omega)
     obtain ⟨z, e, _⟩ := DataW.trod_int Tryz.underlying3 h2
     exact ⟨z, by simpa using e⟩
   obtain ⟨Z, hZ⟩ := choose_lt (α := Int) (p := fun i z => V i = .int .i64 z) hz
   refine ⟨some a, cap, (List.range len).map Z, by simpa using hv, by simp; omega, ?_⟩
   intro hlen
   simp only [List.length_map, List.length_range] at hlen ⊢
   obtain ⟨c0, _⟩ := hc 0 (by omega)
   have ha : a.add 0 = a := rfl
   rw [ha] at c0
   have es := spot_none c0
   refine ⟨a.block, a.off, by rw [← es], World.block_lt_of_cell? w a c0, fun i hi => ?_⟩
   obtain ⟨ci, _⟩ := hc i (by omega)
   rw [es, add_at] at ci
   rw [ci, hZ i hi]
   simp [List.getD, hi]
theorem open_watch_row {fuel : Nat} {v : Value} {x : DataW H × List MemPlace} (h : DataW.trod enc Tryz.prog w 0 (fun _ => true) held fuel 46 [v] = some x) :
   ∃ (a : Option Addr) (cap : Nat) (ws : List (Int × Int)), v = .slice a ws.length cap ∧ ws.length ≤ maxLen ∧ SegW w a ws := by
 rcases open_slice_pairs Tryz.underlying46 Tryz.underlying127 cells_lwatch rfl rfl cells_int cells_int h with ⟨h0, _⟩ | ⟨a, len, cap, m, n, V0, V1, D0, D1, P0, P1, hv, _, hl, hm, hmm, _, hc⟩
 · simp at h0
   exact ⟨none, 0, [], by simpa using h0, Nat.zero_le _, fun h => by simp at h⟩
 · simp at hv hmm
   have hz : ∀ i, i < len → ∃ z : Int × Int, V0 i = .int .i64 z.1 ∧ V1 i = .int .i64 z.2 := fun i hi => by
     obtain ⟨_, _, h2, h3⟩ := hc i (by omega)
     obtain ⟨z0, e0, _⟩ := DataW.trod_int Tryz.underlying3 h2
     obtain ⟨z1, e1, _⟩ := DataW.trod_int Tryz.underlying3 h3
     exact ⟨(z0, z1), by simpa using e0, by simpa using e1⟩
   obtain ⟨Z, hZ⟩ := choose_lt (α := Int × Int) (p := fun i z => V0 i = .int .i64 z.1 ∧ V1 i = .int .i64 z.2) hz
   refine ⟨some a, cap, (List.range len).map Z, by simpa using hv, by simp; omega, ?_⟩
   intro hlen
   simp only [List.length_map, List.length_range] at hlen
   obtain ⟨c0, _⟩ := hc 0 (by omega)
   have ha : a.add (0 * 2) = a := rfl
   rw [ha] at c0
   have es := spot_none c0
   refine ⟨a.block, a.off, by rw [← es], World.block_lt_of_cell? w a c0, fun i hi => ?_⟩
   simp only [List.length_map, List.length_range] at hi
   obtain ⟨ci, cj, _⟩ := hc i (by omega)
   rw [es, add_at] at ci cj
   obtain ⟨z1, z2⟩ := hZ i hi
   rw [z1] at ci
   rw [z2] at cj
   simp only [List.getElem_map, List.getElem_range]
   exact ⟨ci, cj⟩
set_option maxRecDepth 100000 in
theorem open_obj_row {fuel : Nat} {v : Value} {x : DataW H × List MemPlace} (h : DataW.trod enc Tryz.prog w 0 (fun _ => true) held fuel 45 [v] = some x) :
   ∃ (a : Option Addr) (cap : Nat) (os : List Ob), v = .slice a os.length cap ∧ os.length ≤ maxLen ∧ SegO w a os ∧ ∀ i (hi : i < os.length), os[i].r.length ≤ maxLen ∧ os[i].t.size ≤ maxLen := by
 rcases open_slice Tryz.underlying45 h with ⟨h0, _⟩ | ⟨a, len, cap, m, n, D, Pl, hv, _, hl, hm, hmm, _, hc⟩
 · simp at h0
   exact ⟨none, 0, [], by simpa using h0, Nat.zero_le _, ⟨fun h => by simp at h, fun i hi => by simp at hi⟩, fun i hi => by simp at hi⟩
 · simp at hv hmm
   rw [cells_lobj] at hc
   have hz : ∀ i, i < len → ∃ o : Ob, w.cell? (a.add (i * 3)) = some (.int .i64 o.k) ∧ w.cell? (a.add (i * 3 + 1)) = some (.string o.t) ∧ w.cell? (a.add (i * 3 + 2)) = some (.slice o.ra o.r.length o.rcap) ∧ SegI w o.ra o.r ∧ o.r.length ≤ maxLen ∧ o.t.size ≤ maxLen := fun i hi => by
     obtain ⟨cs, h1, h2⟩ := hc i (by omega)
     obtain ⟨_, hlen, hcell⟩ := World.cells?_some h1
     obtain ⟨y0, y1, y2, n', _, _, g0, g1, g2⟩ := trod_struct3 Tryz.underlying124 h2
     match cs, hlen with
     | [c0, c1, c2], _ =>
       simp only [cells_int, cells_str, cells_ints, List.drop_zero, List.take_succ_cons, List.take_zero, List.drop_succ_cons] at g0 g1 g2
       obtain ⟨k, e0, _⟩ := DataW.trod_int Tryz.underlying3 g0
       obtain ⟨t, e1, _, ht⟩ := DataW.trod_string Tryz.underlying9 g1
       obtain ⟨ra, rcap, r, e2, hr, hs⟩ := open_ints_row g2
       simp at e0 e1
       subst e0 e1 e2
       have q0 := hcell 0 (by omega)
       have q1 := hcell 1 (by omega)
       have q2 := hcell 2 (by omega)
       rw [add_add] at q0 q1 q2
       exact ⟨⟨k, t, ra, rcap, r⟩, q0, q1, q2, hs, hr, ht⟩
   have hi0 : Inhabited Ob := ⟨Ob.zero⟩
   obtain ⟨Z, hZ⟩ := choose_lt (α := Ob) (p := fun i o => w.cell? (a.add (i * 3)) = some (.int .i64 o.k) ∧ w.cell? (a.add (i * 3 + 1)) = some (.string o.t) ∧ w.cell? (a.add (i * 3 + 2)) = some (.slice o.ra o.r.length o.rcap) ∧ SegI w o.ra o.r ∧ o.r.length ≤ maxLen ∧ o.t.size ≤ maxLen) hz
   refine ⟨some a, cap, (List.range len).map Z, by simpa using hv, by simp; omega, ⟨?_, ?_⟩, ?_⟩
   · intro hlen
     simp only [List.length_map, List.length_range] at hlen
     obtain ⟨c0, _⟩ := hZ 0 (by omega)
     have ha : a.add (0 * 3) = a := rfl
     rw [ha] at c0
     have es := spot_none c0
     refine ⟨a.block, a.off, by rw [← es], World.block_lt_of_cell? w a c0, fun i hi => ?_⟩
     simp only [List.length_map, List.length_range] at hi
     obtain ⟨d0, d1, d2, _⟩ := hZ i hi
     rw [es, add_at] at d0 d1 d2
     simp only [List.getElem_map, List.getElem_range]
     exact ⟨d0, d1, d2⟩
   · intro i hi
     simp only [List.length_map, List.length_range] at hi
     simp only [List.getElem_map, List.getElem_range]
     exact (hZ i hi).2.2.2.1
   · intro i hi
     simp only [List.length_map, List.length_range] at hi
     simp only [List.getElem_map, List.getElem_range]
     exact (hZ i hi).2.2.2.2
set_option maxRecDepth 100000 in
theorem open_heap {r : Reach} {b0 : Nat} {v : Value} {d : DataW H} {p : List MemPlace} (hv : Value.okWide Tryz.prog w r b0 48 v) (h : DataW.Trod enc Tryz.prog w 0 (fun _ => true) held 48 v d p) :
   ∃ h : Hp, v = h.v ∧ HpIn w h ∧ Fits h := by
 obtain ⟨v0, v1, v2, v3, y0, y1, y2, y3, n, rfl, _, _, g0, g1, g2, g3⟩ := open_agg4 Tryz.underlying48 (by kernel_rfl) cells_lheap hv h
 obtain ⟨oa, ocap, os, rfl, ho1, ho2, ho3⟩ := open_obj_row g0
 obtain ⟨ra, rcap, rs, rfl, hr1, hr2⟩ := open_ints_row g1
 obtain ⟨wa, wcap, ws, rfl, hw1, hw2⟩ := open_watch_row g2
 obtain ⟨da, dcap, ds, rfl, hd1, hd2⟩ := open_watch_row g3
 exact ⟨⟨oa, ocap, os, ra, rcap, rs, wa, wcap, ws, da, dcap, ds⟩, rfl, ⟨ho2, hr2, hw2, hd2⟩, ⟨ho1, ho3, hr1, hw1, hd1⟩⟩
end
end Go.Proofs.YtcpnkpogebjieaaGreat.Co
