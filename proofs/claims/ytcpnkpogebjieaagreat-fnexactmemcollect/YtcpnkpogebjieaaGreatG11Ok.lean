/- inOrder beside goroutines that only leave: to the sorting. -/
import Derived.Test.YtcpnkpogebjieaaGreatG10Yc
namespace Go.Proofs.YtcpnkpogebjieaaGreat.Co
open Go.Conc Go.ConcN Go.RowKit Go.Conc.Lib Go.ConcR.Gen
open Go.ConcR (DC0)
set_option linter.unusedSimpArgs false
noncomputable def sortOps : Array Oper := match ioE with
 | .seq (.region _ ops _) _ => ops
 | _ => #[]
noncomputable def ioF : Code := match ioE with
 | .seq _ e => e
 | _ => .skip
noncomputable def ioAt (T : Array Value) : Frame := (base 113).at ⟨T, []⟩ [.inRegion sortOps [1], .code ioF]
def SortAt (X : Nat → Bool) (N1 Ch cap : Nat) (wJ : World) (all : List Value) (cs : List Frame) (g : Goroutine) (w : World) : Prop :=
 ∃ T v, T.size = 16 ∧ T[3]? = some v ∧ g = G (Frame.enter Tryz.prog 146 #[v] .normal) (ioAt T :: cs) ∧ InO X N1 Ch cap wJ all [] v w
section
variable {X : Nat → Bool} {N1 Ch cap : Nat} {wJ : World} {cs : List Frame}
set_option maxRecDepth 100000 in
set_option maxHeartbeats 2000000 in
theorem io_end {done : List Value} {v : Value} {T : Array Value} (hT : InH Ch v T) {w : World} (hF : InO X N1 Ch cap wJ done [] v w) : WayC Tryz.prog X Ch (SortAt X N1 Ch cap wJ done cs) (G ((base 113).at ⟨T, []⟩ [.code ioB, .inLoop ioB, .inBlock 0, .code ioE]) cs) w := by
 obtain ⟨v0, v1, v2, v3, v4, v5, v6, v7, v8, v9, v10, v11, v12, v13, v14, v15, rfl⟩ := arr16 T hT.sz
 obtain ⟨_, t3, t5⟩ := hT
 simp only [List.getElem?_toArray, List.getElem?_cons_zero, List.getElem?_cons_succ, Option.some.injEq] at t3 t5
 subst t3 t5
 simp only [ioB, ioE, Tryz.f113]
 refine wayC_sil (n := 20) ?_
 u_c stepG_seq InO.rely hF
 u_reg InO.rely hF
 refine Goes.stop (fun w1 h1 => ?_)
 replace hF := InO.rely hF h1
 clear h1
 obtain ⟨b, s, r, tm, hb, hc⟩ := hF.ch
 obtain rfl : b = #[] := by rw [← Array.toList_eq_nil_iff]; exact hb
 refine .shut rfl (fun d => recv_step (z := .int .i64 0) (c := Ch) (w1.at d) rfl rfl (by decide) (by simp [go_sem, rcase]) (by simp [go_sem])) hc (fun d => ?_)
 rw [recv_done rfl]
 replace hF := InO.rely hF ⟨d, rfl⟩
 clear hc hb
 refine wayC_sil (n := 30) ?_
 walk_nrm
 u_op InO.rely hF
 u_c stepG_region_end InO.rely hF
 u_c stepG_seq InO.rely hF
 u_cond false InO.rely hF
 u_exit InO.rely hF
 u_c stepG_seq InO.rely hF
 u_reg InO.rely hF
 u_op InO.rely hF
 u_in InO.rely hF
 refine goes_call rfl rfl (by decide) rfl Tryz.func146 rfl rfl ⟨by u_nil, ?_⟩
 rw [← enter_at _ Tryz.func146 rfl]
 simp only [List.map_toArray, List.map_cons, List.map_nil, Act.eval, Array.getD_eq_getD_getElem?, List.getElem?_toArray, List.getElem?_cons_succ, List.getElem?_cons_zero, Option.getD_some]
 exact Goes.stop (fun w9 h9 => .stop ⟨_, v3, rfl, rfl, rfl, InO.rely hF h9⟩)
theorem io_way : ∀ (rest done : List Value), (∀ u ∈ rest, ∃ i : Int, u = .int .i64 i) → done.length + rest.length < 1000000 → ∀ T v, InH Ch v T → ∀ w, InO X N1 Ch cap wJ done rest v w →
   WayC Tryz.prog X Ch (SortAt X N1 Ch cap wJ (done ++ rest) cs) (G ((base 113).at ⟨T, []⟩ [.code ioB, .inLoop ioB, .inBlock 0, .code ioE]) cs) w
 | [], done, _, _, T, v, hT, w, hF => by
   rw [List.append_nil]
   exact io_end hT hF
 | x :: rest, done, hi, hn, T, v, hT, w, hF => by
   simp only [List.length_cons] at hn
   refine io_round (by omega) (hi x List.mem_cons_self) (fun T v hT w hF => ?_) hT hF
   have := io_way rest (done ++ [x]) (fun u hu => hi u (List.mem_cons_of_mem _ hu)) (by simp; omega) T v hT w hF
   rwa [List.append_assoc, List.singleton_append] at this
set_option maxRecDepth 100000 in
set_option maxHeartbeats 2000000 in
theorem io_enter {all : List Value} (hi : ∀ u ∈ all, ∃ i : Int, u = .int .i64 i) (hn : all.length < 1000000) {w : World} (hF : InO X N1 Ch cap wJ [] all (.slice none 0 0) w) :
   WayC Tryz.prog X Ch (SortAt X N1 Ch cap wJ all cs) (G (Frame.enter Tryz.prog 113 #[.chan (some Ch)] .normal) cs) w := by
 rw [enter_at _ Tryz.func113 rfl]
 refine wayC_sil (n := 30) ?_
 simp only [Tryz.f113]
 walk_nrm
 u_c stepG_seq InO.rely hF
 u_reg InO.rely hF
 u_op InO.rely hF
 u_c stepG_region_end InO.rely hF
 u_c stepG_seq InO.rely hF
 u_reg InO.rely hF
 u_op InO.rely hF
 u_c stepG_region_end InO.rely hF
 u_c stepG_seq InO.rely hF
 u_c stepG_seq InO.rely hF
 u_reg InO.rely hF
 u_op InO.rely hF
 u_c stepG_region_end InO.rely hF
 u_c stepG_block InO.rely hF
 u_c stepG_loop InO.rely hF
 refine Goes.stop (fun w9 h9 => ?_)
 exact io_way all [] hi (by simpa using hn) _ (.slice none 0 0) ⟨rfl, rfl, rfl⟩ w9 (InO.rely hF h9)
end
end Go.Proofs.YtcpnkpogebjieaaGreat.Co
namespace Go.Proofs.YtcpnkpogebjieaaGreat
open Go.RowKit
set_option maxHeartbeats 400000 in
set_option maxRecDepth 100000 in
theorem toIntS_any (a : Option Addr) (n cap : Nat) (zs : List Int) (w : World) (hz : zs.length = n) (hn : n ≤ 1048576) (h : SegI w a zs) :
   Calls Cut.prog 66 #[.slice a n cap] w fun e w' => e = .returned (.slice (some ⟨w.heap.size, 0, none⟩) n n) ∧ Below w.heap.size w w' ∧
     Blk w' w.heap.size (zs.map (Value.int .i64)) 3 := by
 obtain ⟨i0, hi, hz0, hz1, hz2⟩ := info_parts info_int
 go_enter (Cut.func_of Tryz.func66 rfl), Tryz.ntmps66
 go_wp2_with (at_make; refine wpList_make_full _ rfl _ _ 24 rfl w.heap.size 3 i0 (.int .i64 0) 1 ((Cut.under_eq 24).trans Tryz.underlying24) hi hz0 hz1 .i64 .i64 _ _ n rfl rfl rfl rfl ?c1 ?c2 (Nat.le_refl _) ?_)
 case c1 => rw [hz2]; omega
 case c2 => unfold maxLen; omega
 intro w1 hown hgr
 have hb1 := below_made hgr
 have hk1 := blk_made hown
 rw [toList_madeCells_one] at hk1
 clear hown hgr
 go_wp2
 go_loopw [4] (fun i wr => ∃ k : Nat, k ≤ n ∧ i = .int .i64 k ∧ Below w.heap.size w wr ∧ Blk wr w.heap.size ((zs.take k).map (Value.int .i64) ++ List.replicate (zs.length - k) (.int .i64 0)) 3) (fun i _ => n - (intOf i).toNat)
 case atStart => exact ⟨0, Nat.zero_le _, rfl, hb1, by simpa [hz] using hk1⟩
 case round =>
   obtain ⟨k, hk, rfl, hb, hblk⟩ := hrel
   clear hb1 hk1
   by_cases hlt : k < n
   · have hkz : k < zs.length := by omega
     obtain ⟨b, off, rfl, hbw, hc⟩ := h.get hkz
     have hck : wr.cell? ⟨b, off + k, none⟩ = some (.int .i64 zs[k]) := (hb.cell (p := ⟨b, off + k, none⟩) hbw).trans hc
     have hfz := hblk.free k
     obtain ⟨v, hv⟩ : ∃ v, wr.cell? ⟨w.heap.size, k, none⟩ = some v := ⟨_, (hblk.cell k).trans (List.getElem?_eq_getElem (by simp; omega))⟩
     have hst := hblk.store k (.int .i64 zs[k])
     have hsb := hb.setCell (p := ⟨w.heap.size, k, none⟩) (Nat.le_refl _) (.int .i64 zs[k])
     rw [set_map (Value.int .i64) zs (.int .i64 0) k hkz] at hst
     have HS : Hid (Blk (wr.setCell ⟨w.heap.size, k, none⟩ (.int .i64 zs[k])) w.heap.size ((zs.take (k+1)).map (Value.int .i64) ++ List.replicate (zs.length - (k+1)) (.int .i64 0)) 3) := hst
     clear hst hblk
     go_wp2
     go_roundw
     case rel => exact ⟨k + 1, by omega, by go_num, hsb, HS.out⟩
     case measure => simp [intOf]; omega
   · go_wp2
     go_ret
     obtain rfl : k = n := by omega
     exact ⟨rfl, hb, by simpa [← hz] using hblk⟩
set_option maxHeartbeats 400000 in
set_option maxRecDepth 100000 in
theorem toMemObj_any (k : Int) (t : ByteArray) (a : Option Addr) (n cap : Nat) (zs : List Int) (w : World) (hz : zs.length = n) (hn : n ≤ 1048576) (h : SegI w a zs) :
   Calls Cut.prog 99 #[.agg #[.int .i64 k, .string t, .slice a n cap]] w fun e w' => ∃ g, e = .returned (.agg #[.int .i64 k, .string t, .slice (some ⟨g, 0, none⟩) n n]) ∧ Below w.heap.size w w' ∧
     w.heap.size ≤ g ∧ Blk w' g (zs.map (Value.int .i64)) 3 := by
 go_enter (Cut.func_of Tryz.func99 rfl), Tryz.ntmps99
 go_wp2_with fail
 have hB0 : Below w.heap.size w (((w.alloc (Obj.cells #[Value.int IntKind.i64 k, Value.string t, Value.slice a n cap] 124)).alloc
         (Obj.cells #[Value.int IntKind.i64 0, Value.string { data := #[] }, Value.slice none 0 0] 37)).alloc
     (Obj.cells #[Value.int IntKind.i64 k, Value.string t, Value.slice none 0 0] 37)) := (((Below.refl _ _).alloc (Nat.le_refl _) _).alloc (by simp) _).alloc (by simp; omega) _
 refine (toIntS_any a n cap zs _ hz hn (h.below hB0 (Nat.le_refl _))).mono ?_
 rintro e w1 ⟨rfl, hb, hk⟩
 obtain ⟨hc, hf⟩ := bcell hb
 have hz1 := hb.size
 simp at hc hf hz1 hk hb
 go_wp2
 refine bodyPost_ret (v := .agg #[.int .i64 k, .string t, .slice (some ⟨w.heap.size + 1 + 1 + 1, 0, none⟩) n n]) ?_ rfl ⟨_, rfl, ?_, ?_, ?_⟩
 · simp [results, Tryz.results99, go_sem, hc]
 · (repeat refine Below.setCell ?_ (by dsimp only; omega) _)
   exact hB0.trans (hb.mono (by omega))
 · omega
 · (repeat refine Blk.other ?_ _ _ (by dsimp only; omega))
   exact hk
set_option maxHeartbeats 400000 in
set_option maxRecDepth 100000 in
theorem toMemWatch_any (x y : Int) (w : World) :
   Calls Cut.prog 100 #[.agg #[.int .i64 x, .int .i64 y]] w fun e w' => e = .returned (.agg #[.int .i64 x, .int .i64 y]) ∧ Below w.heap.size w w' := by
 go_enter (Cut.func_of Tryz.func100 rfl), Tryz.ntmps100
 go_wp2
 refine bodyPost_ret (v := .agg #[.int .i64 x, .int .i64 y]) ?_ rfl ⟨rfl, ?_⟩
 · simp [results, Tryz.results100, go_sem]
 · exact (((Below.refl _ _).alloc (Nat.le_refl _) _).alloc (by simp) _).alloc (by simp; omega) _
theorem info_watch : (Cut.prog.info? 40).map (fun i => (i.zero, i.size, i.bytes)) = some (some (.agg #[.int .i64 0, .int .i64 0]), 2, 16) := by kernel_rfl
theorem info_obj : (Cut.prog.info? 37).map (fun i => (i.zero, i.size, i.bytes)) = some (some (.agg #[.int .i64 0, .string ⟨#[]⟩, .slice none 0 0]), 3, 48) := by kernel_rfl
set_option maxHeartbeats 400000 in
set_option maxRecDepth 100000 in
theorem toMemWatchS_any (a : Option Addr) (n cap : Nat) (ws : List (Int × Int)) (w : World) (hz : ws.length = n) (hn : n ≤ 1048576) (h : SegW w a ws) :
   Calls Cut.prog 67 #[.slice a n cap] w fun e w' => e = .returned (.slice (some ⟨w.heap.size, 0, none⟩) n n) ∧ Below w.heap.size w w' ∧
     Blk w' w.heap.size (ws.flatMap wc) 40 := by
 obtain ⟨i0, hi, hz0, hz1, hz2⟩ := info_parts info_watch
 go_enter (Cut.func_of Tryz.func67 rfl), Tryz.ntmps67
 go_wp2_with (at_make; refine wpList_make_full _ rfl _ _ 25 rfl w.heap.size 40 i0 (.agg #[.int .i64 0, .int .i64 0]) 2 ((Cut.under_eq 25).trans Tryz.underlying25) hi hz0 hz1 .i64 .i64 _ _ n rfl rfl rfl rfl ?c1 ?c2 (Nat.le_refl _) ?_)
 case c1 => rw [hz2]; omega
 case c2 => unfold maxLen; omega
 intro w1 hown hgr
 have hb1 := below_made hgr
 have hk1 := blk_made hown
 have em : (madeCells #[Value.int .i64 0, Value.int .i64 0] (n * 2)).toList = (List.replicate n ((0 : Int), (0 : Int))).flatMap wc := made_flat wc (0, 0) #[Value.int .i64 0, Value.int .i64 0] 2 (by omega) rfl (fun _ => rfl) n
 rw [em] at hk1
 clear hown hgr em
 go_wp2
 go_loopw [4] (fun i wr => ∃ k : Nat, k ≤ n ∧ i = .int .i64 k ∧ Below w.heap.size w wr ∧ Blk wr w.heap.size ((ws.take k ++ List.replicate (ws.length - k) ((0 : Int), (0 : Int))).flatMap wc) 40) (fun i _ => n - (intOf i).toNat)
 case atStart => exact ⟨0, Nat.zero_le _, rfl, hb1, by simpa [hz] using hk1⟩
 case round =>
   obtain ⟨k, hk, rfl, hb, hblk⟩ := hrel
   clear hb1 hk1
   by_cases hlt : k < n
   · have hkz : k < ws.length := by omega
     obtain ⟨b, off, rfl, hbw, c1, c2⟩ := h.get hkz
     have d1 := (hb.cell (p := ⟨b, off + k * 2, none⟩) hbw).trans c1
     have d2 := (hb.cell (p := ⟨b, off + k * 2 + 1, none⟩) hbw).trans c2
     clear c1 c2
     go_wp2_with fail
     refine (toMemWatch_any _ _ _).mono ?_
     rintro e w1 ⟨rfl, hb1⟩
     have hblk1 := hblk.below hb1 hblk.lt
     have hbb := hb.trans (hb1.mono hb.size)
     clear hb hb1 hblk d1 d2
     have f1 := hblk1.free (k * 2)
     have f2 := hblk1.free (k * 2 + 1)
     have hlen : ((ws.take k ++ List.replicate (ws.length - k) ((0 : Int), (0 : Int))).flatMap wc).length = n * 2 := by rw [flat_len wc 2 (fun _ => rfl)]; simp; omega
     obtain ⟨v1, hv1⟩ : ∃ v, w1.cell? ⟨w.heap.size, k * 2, none⟩ = some v := ⟨_, (hblk1.cell _).trans (List.getElem?_eq_getElem (by rw [hlen]; omega))⟩
     obtain ⟨v2, hv2⟩ : ∃ v, w1.cell? ⟨w.heap.size, k * 2 + 1, none⟩ = some v := ⟨_, (hblk1.cell _).trans (List.getElem?_eq_getElem (by rw [hlen]; omega))⟩
     have hst := (hblk1.store (k * 2) (.int .i64 ws[k].1)).store (k * 2 + 1) (.int .i64 ws[k].2)
     rw [set2, set_take ws (0, 0) k hkz] at hst
     have hsb := (hbb.setCell (p := ⟨w.heap.size, k * 2, none⟩) (Nat.le_refl _) (.int .i64 ws[k].1)).setCell (p := ⟨w.heap.size, k * 2 + 1, none⟩) (Nat.le_refl _) (.int .i64 ws[k].2)
     clear hblk1 hbb hlen
     go_wp2
     go_roundw
     case rel => exact ⟨k + 1, by omega, by go_num, hsb, hst⟩
     case measure => simp [intOf]; omega
   · go_wp2
     go_ret
     obtain rfl : k = n := by omega
     exact ⟨rfl, hb, by simpa [← hz] using hblk⟩
def OwnO (w : World) (B : Nat) (l : List Ob) : Prop := ∀ i (hi : i < l.length), ∃ g, l[i].ra = some ⟨g, 0, none⟩ ∧ B ≤ g ∧ l[i].rcap = l[i].r.length ∧ Blk w g (l[i].r.map (Value.int .i64)) 3
theorem OwnO.below {w w' : World} {B C : Nat} {l : List Ob} (h : OwnO w B l) (hb : Below C w w') (hC : w.heap.size ≤ C) : OwnO w' B l := fun i hi => by
 obtain ⟨g, h1, h2, h3, h4⟩ := h i hi
 exact ⟨g, h1, h2, h3, h4.below hb (Nat.lt_of_lt_of_le h4.lt hC)⟩
theorem OwnO.store {w : World} {B : Nat} {l : List Ob} (h : OwnO w B l) (p : Addr) (v : Value) (hp : p.block < B) : OwnO (w.setCell p v) B l := fun i hi => by
 obtain ⟨g, h1, h2, h3, h4⟩ := h i hi
 exact ⟨g, h1, h2, h3, h4.other p v (by omega)⟩
theorem OwnO.snoc {w : World} {B : Nat} {l : List Ob} (h : OwnO w B l) (o : Ob) (g : Nat) (h1 : o.ra = some ⟨g, 0, none⟩) (h2 : B ≤ g) (h3 : o.rcap = o.r.length) (h4 : Blk w g (o.r.map (Value.int .i64)) 3) : OwnO w B (l ++ [o]) := fun i hi => by
 by_cases hl : i < l.length
 · simpa [List.getElem_append_left hl] using h i hl
 · have e : i = l.length := by simp at hi; omega
   subst e
   simpa using ⟨g, h1, h2, h3, h4⟩
theorem OwnO.seg {w : World} {B : Nat} {l : List Ob} (h : OwnO w B l) (i : Nat) (hi : i < l.length) : SegI w l[i].ra l[i].r := by
 obtain ⟨g, h1, _, _, h4⟩ := h i hi
 rw [h1]
 exact h4.segI
theorem set_snoc {α : Type} (l : List α) (z o : α) (n : Nat) (h : l.length < n) : (l ++ List.replicate (n - l.length) z).set l.length o = (l ++ [o]) ++ List.replicate (n - (l ++ [o]).length) z := by
 obtain ⟨m, hm⟩ : ∃ m, n - l.length = m + 1 := ⟨n - l.length - 1, by omega⟩
 rw [hm, List.set_append, if_neg (by omega), Nat.sub_self, List.replicate_succ, List.set_cons_zero]
 simp [show n - (l.length + 1) = m by omega]
set_option maxHeartbeats 800000 in
set_option maxRecDepth 100000 in
theorem toMemObjS_any (a : Option Addr) (n cap : Nat) (os : List Ob) (w : World) (hz : os.length = n) (hn : n ≤ 1048576) (ho : ∀ i (hi : i < os.length), os[i].r.length ≤ 1048576) (h : SegO w a os) :
   Calls Cut.prog 65 #[.slice a n cap] w fun e w' => ∃ l : List Ob, e = .returned (.slice (some ⟨w.heap.size, 0, none⟩) n n) ∧ l.map Ob.p = os.map Ob.p ∧ Below w.heap.size w w' ∧
     Blk w' w.heap.size (l.flatMap Ob.cs) 37 ∧ OwnO w' (w.heap.size + 1) l := by
 obtain ⟨i0, hi, hz0, hz1, hz2⟩ := info_parts info_obj
 go_enter (Cut.func_of Tryz.func65 rfl), Tryz.ntmps65
 go_wp2_with (at_make; refine wpList_make_full _ rfl _ _ 23 rfl w.heap.size 37 i0 (.agg #[.int .i64 0, .string ⟨#[]⟩, .slice none 0 0]) 3 ((Cut.under_eq 23).trans Tryz.underlying23) hi hz0 hz1 .i64 .i64 _ _ n rfl rfl rfl rfl ?c1 ?c2 (Nat.le_refl _) ?_)
 case c1 => rw [hz2]; omega
 case c2 => unfold maxLen; omega
 intro w1 hown hgr
 have hb1 := below_made hgr
 have hk1 := blk_made hown
 have em : (madeCells #[Value.int .i64 0, Value.string ⟨#[]⟩, Value.slice none 0 0] (n * 3)).toList = (List.replicate n Ob.zero).flatMap Ob.cs := made_flat Ob.cs Ob.zero #[Value.int .i64 0, Value.string ⟨#[]⟩, Value.slice none 0 0] 3 (by omega) rfl (fun _ => rfl) n
 rw [em] at hk1
 clear hown hgr em
 go_wp2
 go_loopw [4] (fun i wr => ∃ (k : Nat) (l : List Ob), k ≤ n ∧ i = .int .i64 k ∧ l.length = k ∧ l.map Ob.p = (os.take k).map Ob.p ∧ Below w.heap.size w wr ∧ w.heap.size + 1 ≤ wr.heap.size ∧ Blk wr w.heap.size ((l ++ List.replicate (n - l.length) Ob.zero).flatMap Ob.cs) 37 ∧ OwnO wr (w.heap.size + 1) l) (fun i _ => n - (intOf i).toNat)
 case atStart => exact ⟨0, [], Nat.zero_le _, rfl, rfl, rfl, hb1, hk1.lt, by simpa using hk1, fun i hi => by simp at hi⟩
 case round =>
   obtain ⟨k, l, hk, rfl, hlk, hmap, hb, hws, hblk, hown⟩ := hrel
   clear hb1 hk1
   by_cases hlt : k < n
   · have hkz : k < os.length := by omega
     have hok := ho k hkz
     have hsg := (h.2 k hkz).below hb (Nat.le_refl _)
     obtain ⟨b, off, rfl, hbw, c1, c2, c3⟩ := h.get hkz
     have d1 := (hb.cell (p := ⟨b, off + k * 3, none⟩) hbw).trans c1
     have d2 := (hb.cell (p := ⟨b, off + k * 3 + 1, none⟩) hbw).trans c2
     have d3 := (hb.cell (p := ⟨b, off + k * 3 + 2, none⟩) hbw).trans c3
     have Hmap : Hid (l.map Ob.p = (os.take k).map Ob.p) := hmap
     have Hlk : Hid (l.length = k) := hlk
     clear c1 c2 c3 hmap hlk
     go_wp2_with fail
     refine (toMemObj_any _ _ _ _ _ os[k].r _ rfl hok hsg).mono ?_
     rintro e w1 ⟨g, rfl, hb1, hg, hgb⟩
     have hlk := Hlk.out
     have hblk1 := hblk.below hb1 hblk.lt
     have hown1 := hown.below hb1 (Nat.le_refl _)
     have hbb := hb.trans (hb1.mono hb.size)
     have hws1 := Nat.le_trans hws hb1.size
     clear hb hb1 hblk d1 d2 d3 hown hsg
     have f1 := hblk1.free (k * 3)
     have f2 := hblk1.free (k * 3 + 1)
     have f3 := hblk1.free (k * 3 + 2)
     have hlen : ((l ++ List.replicate (n - l.length) Ob.zero).flatMap Ob.cs).length = n * 3 := by rw [flat_len Ob.cs 3 (fun _ => rfl)]; simp; omega
     obtain ⟨v1, hv1⟩ : ∃ v, w1.cell? ⟨w.heap.size, k * 3, none⟩ = some v := ⟨_, (hblk1.cell _).trans (List.getElem?_eq_getElem (by rw [hlen]; omega))⟩
     obtain ⟨v2, hv2⟩ : ∃ v, w1.cell? ⟨w.heap.size, k * 3 + 1, none⟩ = some v := ⟨_, (hblk1.cell _).trans (List.getElem?_eq_getElem (by rw [hlen]; omega))⟩
     obtain ⟨v3, hv3⟩ : ∃ v, w1.cell? ⟨w.heap.size, k * 3 + 2, none⟩ = some v := ⟨_, (hblk1.cell _).trans (List.getElem?_eq_getElem (by rw [hlen]; omega))⟩
     have hst := ((hblk1.store (k * 3) (.int .i64 os[k].k)).store (k * 3 + 1) (.string os[k].t)).store (k * 3 + 2) (.slice (some ⟨g, 0, none⟩) os[k].r.length os[k].r.length)
     have e3 := set3 (l ++ List.replicate (n - l.length) Ob.zero) k ⟨os[k].k, os[k].t, some ⟨g, 0, none⟩, os[k].r.length, os[k].r⟩
     dsimp only at e3
     rw [e3] at hst
     have e4 := set_snoc l Ob.zero ⟨os[k].k, os[k].t, some ⟨g, 0, none⟩, os[k].r.length, os[k].r⟩ n (by omega)
     rw [hlk] at e4
     rw [hlk, e4] at hst
     have hsb := ((hbb.setCell (p := ⟨w.heap.size, k * 3, none⟩) (Nat.le_refl _) (.int .i64 os[k].k)).setCell (p := ⟨w.heap.size, k * 3 + 1, none⟩) (Nat.le_refl _) (.string os[k].t)).setCell (p := ⟨w.heap.size, k * 3 + 2, none⟩) (Nat.le_refl _) (.slice (some ⟨g, 0, none⟩) os[k].r.length os[k].r.length)
     have ho1 := ((((hown1.snoc ⟨os[k].k, os[k].t, some ⟨g, 0, none⟩, os[k].r.length, os[k].r⟩ g rfl (by omega) rfl hgb).store ⟨w.heap.size, k * 3, none⟩ (.int .i64 os[k].k) (by dsimp only; omega)).store ⟨w.heap.size, k * 3 + 1, none⟩ (.string os[k].t) (by dsimp only; omega)).store ⟨w.heap.size, k * 3 + 2, none⟩ (.slice (some ⟨g, 0, none⟩) os[k].r.length os[k].r.length) (by dsimp only; omega))
     have HM : Hid ((l ++ [(⟨os[k].k, os[k].t, some ⟨g, 0, none⟩, os[k].r.length, os[k].r⟩ : Ob)]).map Ob.p = (os.take (k + 1)).map Ob.p) := by
       show _ = _
       rw [List.map_append, Hmap.out, List.take_succ_eq_append_getElem hkz, List.map_append]; rfl
     have HL : Hid ((l ++ [(⟨os[k].k, os[k].t, some ⟨g, 0, none⟩, os[k].r.length, os[k].r⟩ : Ob)]).length = k + 1) := by show _ = _; simp [hlk]
     have Hst := id hst
     clear hblk1 hbb hlen e3 e4 hlk hgb hown1 hst
     go_wp2
     go_roundw
     case rel => exact ⟨k + 1, _, by omega, by go_num, HL.out, HM.out, hsb, by simpa [World.setCell] using hws1, Hst, ho1⟩
     case measure => simp [intOf]; omega
   · go_wp2
     go_ret
     obtain rfl : k = n := by omega
     refine ⟨l, rfl, by simpa [← hz] using hmap, hb, by simpa [hlk] using hblk, hown⟩
def Hp.p (h : Hp) : List (Int × ByteArray × List Int) × List Int × List (Int × Int) × List (Int × Int) := (h.os.map Ob.p, h.rs, h.ws, h.ds)
structure OwnH (w : World) (B : Nat) (h : Hp) (go gr gw gd : Nat) : Prop where
 oa : h.oa = some ⟨go, 0, none⟩
 ocap : h.ocap = h.os.length
 ra : h.ra = some ⟨gr, 0, none⟩
 rcap : h.rcap = h.rs.length
 wa : h.wa = some ⟨gw, 0, none⟩
 wcap : h.wcap = h.ws.length
 da : h.da = some ⟨gd, 0, none⟩
 dcap : h.dcap = h.ds.length
 le : B ≤ go
 lt1 : go < gr
 lt2 : gr < gw
 lt3 : gw < gd
 bo : Blk w go (h.os.flatMap Ob.cs) 37
 own : OwnO w (go + 1) h.os
 olt : ∀ i (hi : i < h.os.length) (g : Nat), h.os[i].ra = some ⟨g, 0, none⟩ → g < gr
 br : Blk w gr (h.rs.map (Value.int .i64)) 3
 bw : Blk w gw (h.ws.flatMap wc) 40
 bd : Blk w gd (h.ds.flatMap wc) 40
theorem OwnH.isIn {w : World} {B go gr gw gd : Nat} {h : Hp} (hh : OwnH w B h go gr gw gd) : HpIn w h := by
 refine ⟨?_, ?_, ?_, ?_⟩
 · rw [hh.oa]; exact hh.bo.segO (fun i hi => hh.own.seg i hi)
 · rw [hh.ra]; exact hh.br.segI
 · rw [hh.wa]; exact hh.bw.segW
 · rw [hh.da]; exact hh.bd.segW
set_option maxHeartbeats 1000000 in
set_option maxRecDepth 100000 in
theorem toMemHeap_any (h : Hp) (w : World) (hh : HpIn w h) (hs : Small h) :
   Calls Cut.prog 23 #[h.v] w fun e w' => ∃ (h' : Hp) (go gr gw gd : Nat), e = .returned h'.v ∧ h'.p = h.p ∧ Below w.heap.size w w' ∧ OwnH w' w.heap.size h' go gr gw gd := by
 obtain ⟨oa, ocap, os, ra, rcap, rs, wa, wcap, ws, da, dcap, ds⟩ := h
 obtain ⟨ho, hr, hw, hd⟩ := hh
 obtain ⟨so, soo, sr, sw, sd⟩ := hs
 simp only [Hp.v] at *
 go_enter (Cut.func_of Tryz.func23 rfl), Tryz.ntmps23
 go_wp2_with fail
 have hB0 : Below w.heap.size w (((w.alloc (Obj.cells #[Value.slice oa os.length ocap, Value.slice ra rs.length rcap, Value.slice wa ws.length wcap, Value.slice da ds.length dcap] 48)).alloc (Obj.cells #[Value.slice none 0 0, Value.slice none 0 0, Value.slice none 0 0, Value.slice none 0 0] 27)).alloc (Obj.cells #[Value.slice none 0 0, Value.slice none 0 0, Value.slice none 0 0, Value.slice none 0 0] 27)) := (((Below.refl _ _).alloc (Nat.le_refl _) _).alloc (by simp) _).alloc (by simp; omega) _
 refine (toMemObjS_any oa os.length ocap os _ rfl so soo (ho.below hB0 (Nat.le_refl _))).mono ?_
 rintro e w1 ⟨l, rfl, hl, hb1, hk1, ho1⟩
 have hbw := hb1.size
 obtain ⟨hc1, hf1⟩ := bcell hb1
 simp at hc1 hf1 hbw
 have q10 : w.heap.size < w1.heap.size := by omega
 have q11 : w.heap.size + 1 < w1.heap.size := by omega
 have q12 : w.heap.size + 1 + 1 < w1.heap.size := by omega
 have hB1 := hB0.trans (hb1.mono hB0.size)
 have hl' : l.length = os.length := by simpa using congrArg List.length hl
 have Hl : Hid (l.length = os.length) := hl'
 have Hm : Hid (l.map Ob.p = os.map Ob.p) := hl
 have hlt1 : ∀ i (hi : i < l.length) (g : Nat), l[i].ra = some ⟨g, 0, none⟩ → g < w1.heap.size := fun i hi g hg => by
   obtain ⟨g', e1, _, _, e4⟩ := ho1 i hi
   rw [hg] at e1
   simp at e1
   subst e1
   exact e4.lt
 clear hl hl' ho hb1 hB0
 simp at hk1 ho1
 have z1 := hk1.lt
 go_wp2_with fail
 have hX1 := hB1.setCell (p := ⟨w.heap.size + 1 + 1, 0, none⟩) (by dsimp only; omega) (Value.slice (some { block := w.heap.size + 1 + 1 + 1, off := 0 }) os.length os.length)
 have hk1x := hk1.other ⟨w.heap.size + 1 + 1, 0, none⟩ (Value.slice (some { block := w.heap.size + 1 + 1 + 1, off := 0 }) os.length os.length) (by dsimp only; omega)
 have ho1x := ho1.store ⟨w.heap.size + 1 + 1, 0, none⟩ (Value.slice (some { block := w.heap.size + 1 + 1 + 1, off := 0 }) os.length os.length) (by dsimp only; omega)
 refine (toIntS_any ra rs.length rcap rs _ rfl sr (hr.below hX1 (Nat.le_refl _))).mono ?_
 rintro e w2 ⟨rfl, hb2, hk2⟩
 have hbw2 := hb2.size
 obtain ⟨hc2, hf2⟩ := bcell hb2
 have hB2 := hX1.trans (hb2.mono hX1.size)
 have hk1y := hk1x.below hb2 hk1x.lt
 have ho1y := ho1x.below hb2 (Nat.le_refl _)
 simp at hc2 hf2 hbw2 hk2
 have z2 := hk2.lt
 have q20 : w.heap.size < w2.heap.size := by omega
 have q21 : w.heap.size + 1 < w2.heap.size := by omega
 have q22 : w.heap.size + 1 + 1 < w2.heap.size := by omega
 clear hX1 hk1x ho1x hb2 hB1 hk1 ho1 hr
 go_wp2_with fail
 have hX2 := hB2.setCell (p := ⟨w.heap.size + 1 + 1, 1, none⟩) (by dsimp only; omega) (Value.slice (some { block := w1.heap.size, off := 0 }) rs.length rs.length)
 have hk1z := hk1y.other ⟨w.heap.size + 1 + 1, 1, none⟩ (Value.slice (some { block := w1.heap.size, off := 0 }) rs.length rs.length) (by dsimp only; omega)
 have ho1z := ho1y.store ⟨w.heap.size + 1 + 1, 1, none⟩ (Value.slice (some { block := w1.heap.size, off := 0 }) rs.length rs.length) (by dsimp only; omega)
 have hk2z := hk2.other ⟨w.heap.size + 1 + 1, 1, none⟩ (Value.slice (some { block := w1.heap.size, off := 0 }) rs.length rs.length) (by dsimp only; omega)
 refine (toMemWatchS_any wa ws.length wcap ws _ rfl sw (hw.below hX2 (Nat.le_refl _))).mono ?_
 rintro e w3 ⟨rfl, hb3, hk3⟩
 have hbw3 := hb3.size
 obtain ⟨hc3, hf3⟩ := bcell hb3
 have hB3 := hX2.trans (hb3.mono hX2.size)
 have hk1a := hk1z.below hb3 hk1z.lt
 have ho1a := ho1z.below hb3 (Nat.le_refl _)
 have hk2a := hk2z.below hb3 hk2z.lt
 simp at hc3 hf3 hbw3 hk3
 have z3 := hk3.lt
 have q30 : w.heap.size < w3.heap.size := by omega
 have q31 : w.heap.size + 1 < w3.heap.size := by omega
 have q32 : w.heap.size + 1 + 1 < w3.heap.size := by omega
 clear hX2 hk1z ho1z hk2z hb3 hB2 hk1y ho1y hk2 hw
 go_wp2_with fail
 have hX3 := hB3.setCell (p := ⟨w.heap.size + 1 + 1, 2, none⟩) (by dsimp only; omega) (Value.slice (some { block := w2.heap.size, off := 0 }) ws.length ws.length)
 have hk1z := hk1a.other ⟨w.heap.size + 1 + 1, 2, none⟩ (Value.slice (some { block := w2.heap.size, off := 0 }) ws.length ws.length) (by dsimp only; omega)
 have ho1z := ho1a.store ⟨w.heap.size + 1 + 1, 2, none⟩ (Value.slice (some { block := w2.heap.size, off := 0 }) ws.length ws.length) (by dsimp only; omega)
 have hk2z := hk2a.other ⟨w.heap.size + 1 + 1, 2, none⟩ (Value.slice (some { block := w2.heap.size, off := 0 }) ws.length ws.length) (by dsimp only; omega)
 have hk3z := hk3.other ⟨w.heap.size + 1 + 1, 2, none⟩ (Value.slice (some { block := w2.heap.size, off := 0 }) ws.length ws.length) (by dsimp only; omega)
 refine (toMemWatchS_any da ds.length dcap ds _ rfl sd (hd.below hX3 (Nat.le_refl _))).mono ?_
 rintro e w4 ⟨rfl, hb4, hk4⟩
 have hbw4 := hb4.size
 obtain ⟨hc4, hf4⟩ := bcell hb4
 have hB4 := hX3.trans (hb4.mono hX3.size)
 have hk1a := hk1z.below hb4 hk1z.lt
 have ho1a := ho1z.below hb4 (Nat.le_refl _)
 have hk2a := hk2z.below hb4 hk2z.lt
 have hk3a := hk3z.below hb4 hk3z.lt
 simp at hc4 hf4 hbw4 hk4
 clear hX3 hk1z ho1z hk2z hk3z hb4 hB3 hk3 hd
 go_wp2
 have hll := Hl.out
 refine bodyPost_ret (v := .agg #[.slice (some ⟨w.heap.size + 1 + 1 + 1, 0, none⟩) os.length os.length, .slice (some ⟨w1.heap.size, 0, none⟩) rs.length rs.length, .slice (some ⟨w2.heap.size, 0, none⟩) ws.length ws.length, .slice (some ⟨w3.heap.size, 0, none⟩) ds.length ds.length]) ?_ rfl ⟨⟨some ⟨w.heap.size + 1 + 1 + 1, 0, none⟩, os.length, l, some ⟨w1.heap.size, 0, none⟩, rs.length, rs, some ⟨w2.heap.size, 0, none⟩, ws.length, ws, some ⟨w3.heap.size, 0, none⟩, ds.length, ds⟩, w.heap.size + 1 + 1 + 1, w1.heap.size, w2.heap.size, w3.heap.size, ?_, ?_, ?_, ?_⟩
 · simp [results, Tryz.results23, go_sem, hc4, hc3, hc2, hc1, q11, q21, q31]
 · simp only [hll]
 · simp only [Hp.p, Hm.out]
 · (repeat refine Below.setCell ?_ (by dsimp only; omega) _)
   exact hB4
 · refine ⟨rfl, hll.symm, rfl, rfl, rfl, rfl, rfl, rfl, by omega, z1, z2, z3, ?_, ?_, hlt1, ?_, ?_, ?_⟩
   · (repeat refine Blk.other ?_ _ _ (by dsimp only; omega))
     exact hk1a
   · (repeat refine OwnO.store ?_ _ _ (by dsimp only; omega))
     exact ho1a
   · (repeat refine Blk.other ?_ _ _ (by dsimp only; omega))
     exact hk2a
   · (repeat refine Blk.other ?_ _ _ (by dsimp only; omega))
     exact hk3a
   · (repeat refine Blk.other ?_ _ _ (by dsimp only; omega))
     exact hk4
def inB (n lo hi : Int) : Bool := decide (lo ≤ n) && decide (n ≤ hi)
def byteOk (c : UInt8) : Bool := (decide (97 ≤ c.toNat) && decide (c.toNat ≤ 122)) || (decide (48 ≤ c.toNat) && decide (c.toNat ≤ 57))
def textOkB (t : ByteArray) : Bool := decide (1 ≤ t.size) && decide (t.size ≤ 12) && t.data.toList.all byteOk
def refsOk (most : Int) (r : List Int) : Bool := r.all fun z => inB z (-1) (most - 1)
def kindOk (k : Int) (t : ByteArray) (n : Nat) : Bool :=
 if k = 1 then textOkB t && decide (n = 0)
 else if k = 2 then decide (t.size = 0) && decide (n ≤ 6)
 else if k = 3 then decide (t.size = 0) && decide (n = 2)
 else if k = 4 then decide (t.size = 0) && decide (n = 0)
 else false
def objOk (most : Int) (o : Int × ByteArray × List Int) : Bool := refsOk most o.2.2 && kindOk o.1 o.2.1 o.2.2.length
def watchOk (os : List (Int × ByteArray × List Int)) (p : Int × Int) : Bool :=
 inB p.1 0 (os.length - 1) && inB p.2 0 (os.length - 1) && decide ((os[p.1.toNat]?.map fun o => o.1) = some 4)
def okP (x : List (Int × ByteArray × List Int) × List Int × List (Int × Int) × List (Int × Int)) : Bool :=
 (decide (x.1.length ≤ 60) && decide (x.2.1.length ≤ 8) && decide (x.2.2.1.length + x.2.2.2.length ≤ 20)) &&
 (x.1.all (objOk x.1.length) && (refsOk x.1.length x.2.1 && (x.2.2.1.all (watchOk x.1) && x.2.2.2.all (watchOk x.1))))
theorem all_of {α : Type} {l : List α} {f : α → Bool} (h : ∀ i (hi : i < l.length), f l[i] = true) : l.all f = true := by
 rw [List.all_eq_true]
 intro x hx
 obtain ⟨i, hi, rfl⟩ := List.getElem_of_mem hx
 exact h i hi
theorem not_all {α : Type} {l : List α} {f : α → Bool} {k : Nat} (hk : k < l.length) (h : f l[k] = false) : l.all f = false := by
 cases hx : l.all f with
 | false => rfl
 | true => rw [List.all_eq_true] at hx; rw [hx _ (List.getElem_mem hk)] at h; simp at h
theorem all_succ {α : Type} {l : List α} {f : α → Bool} {k : Nat} (h : ∀ i (hi : i < l.length), i < k → f l[i] = true) (hk : k < l.length) (hf : f l[k] = true) : ∀ i (hi : i < l.length), i < k + 1 → f l[i] = true := fun i hi hik => by
 by_cases e : i = k
 · subst e; exact hf
 · exact h i hi (by omega)
theorem nil_size {t : ByteArray} (h : t.toList = []) : t.size = 0 := by
 rw [ByteArray.toList_eq] at h
 have := congrArg List.length h
 simpa using this
theorem size_nil {t : ByteArray} (h : t.size = 0) : t.toList = [] := by
 rw [ByteArray.toList_eq]
 exact List.eq_nil_of_length_eq_zero (by simpa using h)
theorem ret_bool {a b : Bool} (h : a = b) : Ending.returned (.bool a) = .returned (.bool b) := by rw [h]
theorem beq_nat (n m : Nat) : ((n : Int) == (m : Int)) = decide (n = m) := by
 rw [Bool.eq_iff_iff]; simp; omega
theorem beq_zero (n : Nat) : ((n : Int) == 0) = decide (n = 0) := beq_nat n 0
theorem beq_two (n : Nat) : ((n : Int) == 2) = decide (n = 2) := beq_nat n 2
theorem le_six (n : Nat) : decide ((n : Int) ≤ 6) = decide (n ≤ 6) := by
 rw [Bool.eq_iff_iff]; simp; omega
end Go.Proofs.YtcpnkpogebjieaaGreat
