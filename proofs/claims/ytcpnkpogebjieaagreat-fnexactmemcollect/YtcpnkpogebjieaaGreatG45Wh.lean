/- impl.MemCollect in company, whole, on every tape. -/
import Derived.Test.YtcpnkpogebjieaaGreatG44We
import Derived.Test.YtcpnkpogebjieaaGreatG14Eq
import Derived.Test.YtcpnkpogebjieaaGreatG10Yc
import Derived.Test.YtcpnkpogebjieaaGreatG21Ca
import Derived.Test.YtcpnkpogebjieaaGreatG34Di
import Derived.Test.YtcpnkpogebjieaaGreatG32Dd
import Derived.Test.YtcpnkpogebjieaaGreatG16Ri4
import Derived.Test.YtcpnkpogebjieaaGreatG11Ok
import Derived.Test.YtcpnkpogebjieaaGreatG39Vj
namespace Go.Proofs.YtcpnkpogebjieaaGreat.Co
open Go.Conc Go.ConcN Go.RowKit Go.Conc.Lib Go.ConcR.Gen
open Go.ConcR (DC0)
set_option linter.unusedSimpArgs false
section
variable {h : Hp} {X0 : Nat → Bool} {N : Nat} {w0 : World} {n : Nat} {X : Nat → Bool} {y : Hp} {w : World}
theorem BtRet.pp (R : BtRet h X0 N w0 n X y w) : y.p = (h.tells (spS h n).1 (spS h n).2.1).p := by
 obtain ⟨e1, e2, e3, e4⟩ := R.eo
 show (_, _, _, _) = (_, _, _, _)
 rw [e1, e2, e3, e4]
 rfl
theorem BtRet.okC (R : BtRet h X0 N w0 n X y w) (hf : HF h) : OkC y := OkC.of_p R.pp (spI hf.ok n).ok
theorem BtRet.fit (R : BtRet h X0 N w0 n X y w) (hf : HF h) (t : Tape) (d : Nat) : Fit { emW X w with tape := t, drawn := d } y := by
 obtain ⟨e1, _⟩ := R.eo
 refine ⟨em_hp R.hin t d, (R.okC hf).small, ?_, ?_⟩
 · rw [e1]; exact hf.txt
 · rw [e1]; exact hf.cap
theorem BtRet.exact (R : BtRet h X0 N w0 n X y w) (hf : HF h) : ∀ yy mm, CoP h.p yy mm → yy = ((pick y.os (reachP y.p)).map (objQ (reachP y.p)), y.rs.map (wh (reachP y.p)), watL y.ws (reachP y.p), watL y.ds (reachP y.p)) ∧ mm = whs (reachP y.p) y.os.length := by
 intro yy mm hc
 have hn := (dueP_nil (R.okC hf)).1 R.nil
 obtain ⟨e1, e2, e3, e4⟩ := R.eo
 have ep := R.pp
 rw [e3, ep] at hn
 have := coP_eq hf.ok hn hc
 rw [e1, e2, e3, e4, ep]
 exact this
end
structure MQ (X0 : Nat → Bool) (w0 : World) (br : Nat) (X : Nat → Bool) (y : Hp) (w : World) : Prop where
 old : ∀ b, b < w0.heap.size → w.heap[b]? = w0.heap[b]? ∧ X b = X0 b
 big : w0.heap.size ≤ w.heap.size
 b2 : Blk w br [.slice none 0 0, .slice none 0 0, .slice none 0 0, .slice none 0 0] 27
 n2 : w0.heap.size ≤ br
 x2 : X br = false
 sn : Sn X w
 hin : HpIn (emW X w) y
 oo : OO w w0
theorem MQ.rely {X0 : Nat → Bool} {w0 : World} {br : Nat} {X : Nat → Bool} {y : Hp} {w w1 : World} (I : MQ X0 w0 br X y w) (r : AtRel w w1) : MQ X0 w0 br X y w1 := by
 obtain ⟨d, rfl⟩ := r
 exact ⟨I.old, I.big, I.b2, I.n2, I.x2, I.sn.at d, HpIn.heap I.hin (by rw [emW_size, emW_size]; exact Nat.le_refl _) (fun b _ => by rw [emW_heap, emW_heap]; rfl), I.oo⟩
structure MJ (X0 : Nat → Bool) (w0 : World) (br : Nat) (X : Nat → Bool) (cl : List Value) (M : Nat) (y : Hp) (gv : Value) (ms : List Int) (w : World) : Prop where
 old : ∀ b, b < w0.heap.size → w.heap[b]? = w0.heap[b]? ∧ X b = X0 b
 big : w0.heap.size ≤ w.heap.size
 b2 : Blk w br cl 27
 n2 : w0.heap.size ≤ br
 x2 : X br = false
 sn : Sn X w
 oo : OO w w0
 po : OwnP w M y
 lo : OwnL w w0.heap.size gv ms
 le : w0.heap.size ≤ M
 gl : ∀ k, gv.ownBlock = some k → k < M
 xr : ∀ b, RowsOf y b → X b = false
 xg : ∀ b, gv.ownBlock = some b → X b = false
theorem MJ.rely {X0 : Nat → Bool} {w0 : World} {br : Nat} {X : Nat → Bool} {cl : List Value} {M : Nat} {y : Hp} {gv : Value} {ms : List Int} {w w1 : World} (I : MJ X0 w0 br X cl M y gv ms w) (r : AtRel w w1) : MJ X0 w0 br X cl M y gv ms w1 := by
 obtain ⟨d, rfl⟩ := r
 exact ⟨I.old, I.big, I.b2, I.n2, I.x2, I.sn.at d, I.oo, I.po.same fun _ _ => rfl, row_heap I.lo fun _ _ => rfl, I.le, I.gl, I.xr, I.xg⟩
theorem MJ.box {X0 : Nat → Bool} {w0 : World} {br : Nat} {X : Nat → Bool} {cl cl' : List Value} {M : Nat} {y : Hp} {gv : Value} {ms : List Int} {w w1 : World} (I : MJ X0 w0 br X cl M y gv ms w) (hb : Blk w1 br cl' 27) (hs : w1.heap.size = w.heap.size) (ho : ∀ b, b ≠ br → w1.heap[b]? = w.heap[b]?) (hoo : OO w1 w) : MJ X0 w0 br X cl' M y gv ms w1 := by
 have n2 := I.n2
 have nr := I.po.not_box I.b2 (by decide) (by decide) (by decide)
 have ng := row_ne_blk I.lo I.b2 (by decide)
 refine ⟨fun b hb' => ⟨(ho b (by omega)).trans (I.old b hb').1, (I.old b hb').2⟩, by rw [hs]; exact I.big, hb, n2, I.x2, ?_, hoo.trans I.oo, I.po.same fun b hr => ho b (fun e => nr (e ▸ hr)), row_heap I.lo fun b hr => ho b (fun e => ng (e ▸ hr)), I.le, I.gl, I.xr, I.xg⟩
 refine I.sn.turn (by omega) (fun r hr => ho r fun e => ?_) fun r o hr ho' => ?_
 · rw [e, I.x2] at hr; cases hr
 · by_cases e : r = br
   · subst e
     unfold Blk at hb
     rw [hb] at ho'
     exact .inr (.inl ⟨_, _, _, (Option.some.inj ho').symm⟩)
   · rw [ho r e] at ho'; exact .inl ho'
section
variable {h : Hp} {X0 X1 : Nat → Bool} {w0 : World} {br : Nat} {y : Hp} {Ch : Nat} {c : Frame} {cs : List Frame}
set_option maxRecDepth 100000 in
set_option maxHeartbeats 4000000 in
theorem mc_back {T : Array Value} (hT : T.size = 13) (t2 : T[2]? = some (.pointer (some ⟨br, 0, none⟩))) {w : World} (hokp : okP h.p = true) (hyp : okP y.p = true) (hfit : ∀ w, HpIn (emW X1 w) y → ∀ t d, Fit { emW X1 w with tape := t, drawn := d } y)
   (hex : ∀ yy mm, CoP h.p yy mm → yy = ((pick y.os (reachP y.p)).map (objQ (reachP y.p)), y.rs.map (wh (reachP y.p)), watL y.ws (reachP y.p), watL y.ds (reachP y.p)) ∧ mm = whs (reachP y.p) y.os.length) (hF : MQ X0 w0 br X1 y w) :
   WayC Tryz.prog X1 Ch (fun g w' => ∃ z v, g = G (c.finish (.tuple #[Hp.v z, v])) cs ∧ McOut h X0 w0 X1 z v w') (G ((mcC T).finish y.v) (c :: cs)) w := by
 obtain ⟨v0, v1, v2, v3, v4, v5, v6, v7, v8, v9, v10, v11, v12, rfl⟩ := arr13 T hT
 simp only [List.getElem?_toArray, List.getElem?_cons_zero, List.getElem?_cons_succ, Option.some.injEq] at t2
 subst t2
 rw [mcC, Frame.finish_at]
 simp only [mcOps, mcT, mcB, Tryz.f8, List.getElem?_toArray, List.getElem?_cons_succ, List.getElem?_cons_zero, Option.bind_some]
 refine wayC_sil (n := 10) ?_
 walk_nrm
 u_in MQ.rely hF
 refine goes_call rfl rfl (by decide) rfl Tryz.func32 rfl rfl ⟨by u_nil, ?_⟩
 rw [← enter_at _ Tryz.func32 rfl]
 simp only [List.map_toArray, List.map_cons, List.map_nil, Act.eval, Array.getD_eq_getD_getElem?, List.getElem?_toArray, List.getElem?_cons_succ, List.getElem?_cons_zero, Option.getD_some]
 refine Goes.stop (fun w6 h6 => ?_)
 replace hF := MQ.rely hF h6
 clear h6
 have hxo : ∀ b, w6.heap.size ≤ b → X1 b = false := fun b hb => hF.sn.out hb
 have hfit6 := hfit w6 hF.hin
 refine call_way (R := fun v w1 => ∃ (z : Hp) (gv : Value) (M : Nat), v = .tuple #[z.v, gv] ∧ z.p = ((pick y.os (reachP y.p)).map (objQ (reachP y.p)), y.rs.map (wh (reachP y.p)), watL y.ws (reachP y.p), watL y.ds (reachP y.p)) ∧ OwnP w1 M z ∧ OwnL w1 w6.heap.size gv (whs (reachP y.p) y.os.length) ∧ (∀ k, gv.ownBlock = some k → k < M) ∧ w6.heap.size ≤ M) (by kernel_rfl) hF.sn (fun t d => ?_) (fun v w7 w7' hE hS7 ho hz hoo hR => ?_)
 · refine (moved_any y _ (hfit6 t d) hyp).mono ?_
   rintro e w1 ⟨z, gv, M, rfl, h1, h2, h3, h4, h5, h6⟩
   rw [show ({ emW X1 w6 with tape := t, drawn := d } : World).heap.size = w6.heap.size from emW_size X1 w6] at h3 h5 h6
   exact ⟨_, rfl, ⟨z, gv, M, rfl, h1, h2, h3, h4, h5⟩, h6⟩
 obtain ⟨z, gv, M, rfl, e1, o1, o2, o3, o4⟩ := hR
 have hxr : ∀ b, RowsOf z b → X1 b = false := fun b hb => hxo b (by have := (o1.rows_lt b hb).1; omega)
 have hxg : ∀ b, gv.ownBlock = some b → X1 b = false := fun b hb => hxo b ((o2.lt b hb).1)
 have hbig := hF.big
 have hJ : MJ X0 w0 br X1 [.slice none 0 0, .slice none 0 0, .slice none 0 0, .slice none 0 0] M z gv (whs (reachP y.p) y.os.length) w7 := by
   refine ⟨fun b hb => ⟨(ho b (by omega)).trans (hF.old b hb).1, (hF.old b hb).2⟩, by omega, hF.b2.same (ho _ hF.b2.lt), hF.n2, hF.x2, hS7, hoo.trans hF.oo, o1.same fun b hr => new_seen hE (hxr b hr), ?_, by omega, o3, hxr, hxg⟩
   exact row_base (row_heap o2 fun b hr => new_seen hE (hxg b hr)) hbig
 clear hF hE hS7 ho hz hoo o1 o2 o3 o4 hxr hxg hxo hfit6 hfit hbig
 have hans : ∀ yy mm, CoP h.p yy mm → yy = z.p ∧ mm = whs (reachP y.p) y.os.length := fun yy mm hc => by
   rw [e1]; exact hex yy mm hc
 clear e1 hex
 generalize whs (reachP y.p) y.os.length = ms at hJ hans
 obtain ⟨zoa, zoc, zos, zra, zrc, zrs, zwa, zwc, zws, zda, zdc, zds⟩ := z
 rw [Frame.finish_at]
 simp only [List.getElem?_toArray, List.getElem?_cons_succ, List.getElem?_cons_zero, Option.bind_some]
 refine wayC_sil (n := 10) ?_
 walk_nrm
 u_op MJ.rely hJ
 u_op MJ.rely hJ
 refine Goes.stop (fun w8 h8 => ?_)
 replace hJ := MJ.rely hJ h8
 clear h8
 refine wayC_op rfl (fun w9 h9 => ?_)
 have hz := at_le h9
 replace hJ := MJ.rely hJ h9
 clear h9
 have hl := hJ.b2.lt
 obtain ⟨c0, c1, c2, c3⟩ := cells4'' hJ.b2
 obtain ⟨f0, f1, f2, f3⟩ := free4 hJ.b2
 obtain ⟨kq, bq⟩ := put4 hJ.b2 (.slice zoa zos.length zoc) (.slice zra zrs.length zrc) (.slice zwa zws.length zwc) (.slice zda zds.length zdc)
 clear kq
 refine goes_oper_k rfl rfl (by decide) (fun K hK => ?_)
 simp only [Hp.v]
 go_simp
 refine hK _ _ ⟨⟨by simp [World.setCell]; omega, fun B hB e he => ?_⟩, ?_⟩
 · have hm := mem_listed he
   have hB' : w9.heap.size ≤ B := by simpa [World.setCell] using hB
   simp [go_sem, Hp.v, c0, c1, c2, c3, f0, f1, f2, f3] at hm
   rcases hm with rfl | rfl | rfl | rfl <;> exact ⟨hJ.x2, by show br < B; omega⟩
 clear hK K hz
 replace hJ := hJ.box bq (by simp [World.setCell]) (fun b hb => by rw [Below.heap_setCell _ _ _ _ hb, Below.heap_setCell _ _ _ _ hb, Below.heap_setCell _ _ _ _ hb, Below.heap_setCell _ _ _ _ hb]) ⟨rfl, rfl⟩
 generalize (((w9.setCell ⟨br, 0, none⟩ (.slice zoa zos.length zoc)).setCell ⟨br, 1, none⟩ (.slice zra zrs.length zrc)).setCell ⟨br, 2, none⟩ (.slice zwa zws.length zwc)).setCell ⟨br, 3, none⟩ (.slice zda zds.length zdc) = w10 at *
 clear c0 c1 c2 c3 f0 f1 f2 f3 bq hl w9
 refine wayC_sil (n := 10) ?_
 try walk_nrm
 u_op MJ.rely hJ
 u_c stepG_region_end MJ.rely hJ
 u_c stepG_ret' MJ.rely hJ
 refine Goes.stop (fun w11 h11 => ?_)
 replace hJ := MJ.rely hJ h11
 clear h11
 have hEm := em_emW X1 w11 w11.tape w11.drawn
 have hb2 : Blk { emW X1 w11 with tape := w11.tape, drawn := w11.drawn } br [.slice zoa zos.length zoc, .slice zra zrs.length zrc, .slice zwa zws.length zwc, .slice zda zds.length zdc] 27 := em_blk hJ.b2 hJ.x2 w11.tape w11.drawn
 generalize ({ emW X1 w11 with tape := w11.tape, drawn := w11.drawn } : World) = E at hEm hb2
 obtain ⟨z0, z1, z2, z3⟩ := cells4'' hb2
 refine leave_way (v := .tuple #[(⟨zoa, zoc, zos, zra, zrc, zrs, zwa, zwc, zws, zda, zdc, zds⟩ : Hp).v, gv]) hJ.sn ?_ rfl rfl (fn := Tryz.f8) Tryz.func8 hEm ?_ (fun d => .stop ⟨_, _, rfl, ?_⟩)
 · refine ⟨by kernel_rfl, fun i hi => ?_, (fun d hq => by simp [Frame.at] at hq), rfl, fun l hl => by cases hl⟩
   simp only [Frame.at, List.mem_cons, List.not_mem_nil, or_false] at hi
   subst hi
   exact (show okCode Tryz.progTables .ret = true by kernel_rfl)
 · simp [results, Frame.at, Tryz.results8, go_sem, z0, z1, z2, z3, Hp.v]
 · have hJ2 := MJ.rely hJ ⟨d, rfl⟩
   exact ⟨hJ2.old, hJ2.big, hJ2.sn, hJ2.oo, M, ms, hJ2.po, hJ2.lo, hJ2.le, hJ2.gl, hJ2.xr, hJ2.xg, (fun e => by rw [hokp] at e; cases e), fun _ => hans⟩
theorem mc_runs (hsm : Small h) (ht : ∀ i (hi : i < h.os.length), h.os[i].t.size ≤ maxLen) (hcap : ∀ (i : Nat) (hi : i < h.os.length), h.os[i].r.length ≤ h.os[i].rcap) {X : Nat → Bool} {SB : Nat → Prop} {gs : Array Goroutine} {w : World} {t : Trace} (hB : Bt X SB gs w t) (hs : Sn X w) (hh : HpIn (emW X w) h)
   (h0 : gs[0]? = some (G (Frame.enter Tryz.prog 8 #[h.v] .normal) (c :: cs))) (sl : Option (Nat × Nat)) :
   ∃ K gs' w' sl' t' X' SB' y v, runNT Tryz.prog K (crowd gs w sl) t = (.next (crowd gs' w' sl'), t') ∧ gs'[0]? = some (G (c.finish (.tuple #[Hp.v y, v])) cs) ∧ Bt X' SB' gs' w' t' ∧ McOut h X w X' y v w' := by
 obtain ⟨n1, gs1, a1, w1, sl1, t1, hr1, hsz1, h01, hor, hB1⟩ := wayC_runs hB h0 (mc_enter (Ch := 0) (c := c) (cs := cs) hs hh hsm ht) sl
 rcases hor with ⟨T, bx, br, hokp, hT, t2, rfl, hI⟩ | ⟨rfl, ho⟩
 · have hf : HF h := ⟨okC_of hokp, ht, hcap⟩
   obtain ⟨n2, gs2, w2, sl2, t2', X2, SB2, m, y, hr2, h02, hB2, hR⟩ := bt_runs hf hB1 hI.sn hI.hin h01 sl1
   have hlb := hI.b2.lt
   have hbig := hI.big
   have hQ : MQ X w br X2 y w2 := by
     refine ⟨fun b hb => ⟨((hR.old b (by omega)).1).trans (hI.old b hb).1, ((hR.old b (by omega)).2).trans (hI.old b hb).2⟩, Nat.le_trans hbig hR.big, hI.b2.same (hR.old br hlb).1, hI.n2, ((hR.old br hlb).2).trans hI.x2, hR.sn, hR.hin, hR.oo.trans hI.oo⟩
   have hy := hR.okC hf
   obtain ⟨e1, _⟩ := hR.eo
   obtain ⟨n3, gs3, a3, w3, sl3, t3, hr3, hsz3, h03, ⟨z, v, rfl, ho⟩, hB3⟩ := wayC_runs hB2 h02 (mc_back (Ch := 0) (c := c) (cs := cs) hT t2 hokp (okC_ok hy) (fun w hin t d => ⟨em_hp hin t d, hy.small, by rw [e1]; exact hf.txt, by rw [e1]; exact hf.cap⟩) (hR.exact hf) hQ) sl2
   refine ⟨n1 + (n2 + n3), gs3, w3, sl3, t3, X2, SB2, z, v, ?_, h03, hB3, ho⟩
   rw [runNT_add, hr1]
   simp only
   rw [runNT_add, hr2]
   exact hr3
 · exact ⟨n1, gs1, w1, sl1, t1, X, SB, nilH, _, hr1, h01, hB1, ho⟩
end
end Go.Proofs.YtcpnkpogebjieaaGreat.Co
namespace Go.Proofs.YtcpnkpogebjieaaGreat
open Go.RowKit
set_option maxHeartbeats 800000 in
set_option maxRecDepth 100000 in
theorem eqMemObjS_eq (a b : Option Addr) (n ca cb : Nat) (xs ys : List Ob) (w : World) (hn : xs.length = n) (hp : xs.map Ob.p = ys.map Ob.p) (hx : SegO w a xs) (hy : SegO w b ys) (hn1 : n ≤ maxLen) (hr : ∀ i (hi : i < xs.length), xs[i].r.length ≤ maxLen) :
   Calls Cut.prog 68 #[.slice a n ca, .slice b n cb] w fun e w' => e = .returned (.bool true) ∧ Below w.heap.size w w' := by
 unfold maxLen at hn1
 have hm : ys.length = n := by have := congrArg List.length hp; simp at this; omega
 have HP : Hid (xs.map Ob.p = ys.map Ob.p) := hp
 clear hp
 go_enter (Cut.func_of Tryz.func68 rfl), Tryz.ntmps68
 go_wp2
 go_loopw [5] (fun i wr => ∃ k : Nat, k ≤ n ∧ i = .int .i64 k ∧ Below w.heap.size w wr) (fun i _ => n - (intOf i).toNat)
 case atStart => exact ⟨0, Nat.zero_le _, rfl, Below.refl _ _⟩
 case round =>
   obtain ⟨k, hk, rfl, hb⟩ := hrel
   by_cases hlt : k < n
   · have hkx : k < xs.length := by omega
     have hky : k < ys.length := by omega
     have hrk := hr k hkx
     obtain ⟨b1, o1, rfl, hb1, c1, c2, c3⟩ := hx.get hkx
     obtain ⟨b2, o2, rfl, hb2, c4, c5, c6⟩ := hy.get hky
     have s1 := (hx.2 k hkx).below hb (Nat.le_refl _)
     have s2 := (hy.2 k hky).below hb (Nat.le_refl _)
     have he : xs[k].p = ys[k].p := by
       have h1 : (xs.map Ob.p)[k]'(by simpa using hkx) = (ys.map Ob.p)[k]'(by simpa using hky) := by simp only [HP.out]
       simpa using h1
     simp only [Ob.p, Prod.mk.injEq] at he
     obtain ⟨e1, e2, e3⟩ := he
     rw [← e1] at c4
     rw [← e2] at c5
     rw [← e3] at c6 s2
     have d1 := (hb.cell (p := ⟨b1, o1 + k * 3, none⟩) hb1).trans c1
     have d2 := (hb.cell (p := ⟨b1, o1 + k * 3 + 1, none⟩) hb1).trans c2
     have d3 := (hb.cell (p := ⟨b1, o1 + k * 3 + 2, none⟩) hb1).trans c3
     have d4 := (hb.cell (p := ⟨b2, o2 + k * 3, none⟩) hb2).trans c4
     have d5 := (hb.cell (p := ⟨b2, o2 + k * 3 + 1, none⟩) hb2).trans c5
     have d6 := (hb.cell (p := ⟨b2, o2 + k * 3 + 2, none⟩) hb2).trans c6
     have hi1 : (k : Int) < (n : Int) := by omega
     clear c1 c2 c3 c4 c5 c6 e1 e2 e3
     have s1d := s1.below (Below.refl wr.heap.size wr).drew (Nat.le_refl _)
     have s2d := s2.below (Below.refl wr.heap.size wr).drew (Nat.le_refl _)
     clear s1 s2
     go_wp2_with fail
     go_region_with (go_at_call 101; refine (eqMemObj_eq _ _ _ _ _ _ _ xs[k].r _ rfl s1d s2d hrk).mono ?_; rintro e w' ⟨rfl, hbx⟩)
     all_goals
       have hbb := hb.drew.trans (hbx.mono hb.drew.size)
       go_wp2
       go_roundw
       case rel => exact ⟨k + 1, by omega, by go_num, hbb⟩
       case measure => simp [intOf]; omega
   · go_wp2
     go_ret
     exact ⟨rfl, hb⟩
set_option maxHeartbeats 800000 in
set_option maxRecDepth 100000 in
theorem eqMemHeap_eq (g h : Hp) (w : World) (hp : g.p = h.p) (hg : HpIn w g) (hh : HpIn w h) (hs : Small g) :
   Calls Cut.prog 24 #[g.v, h.v] w fun e w' => e = .returned (.bool true) ∧ Below w.heap.size w w' := by
 obtain ⟨oa, ocap, os, ra, rcap, rs, wa, wcap, ws, da, dcap, ds⟩ := g
 obtain ⟨oa2, ocap2, os2, ra2, rcap2, rs2, wa2, wcap2, ws2, da2, dcap2, ds2⟩ := h
 obtain ⟨ho, hr, hw, hd⟩ := hg
 obtain ⟨ho2, hr2, hw2, hd2⟩ := hh
 obtain ⟨so, soo, sr, sw, sd⟩ := hs
 simp only [Hp.v, Hp.p, Prod.mk.injEq] at *
 obtain ⟨e1, rfl, rfl, rfl⟩ := hp
 have e0 : os2.length = os.length := by have := congrArg List.length e1; simp at this; omega
 rw [e0]
 have HP : Hid (os.map Ob.p = os2.map Ob.p) := e1
 clear e0 e1
 go_enter (Cut.func_of Tryz.func24 rfl), Tryz.ntmps24
 go_wp2_with fail
 have hB0 : Below w.heap.size w ((w.alloc (Obj.cells #[Value.slice oa os.length ocap, Value.slice ra rs.length rcap, Value.slice wa ws.length wcap, Value.slice da ds.length dcap] 27)).alloc (Obj.cells #[Value.slice oa2 os.length ocap2, Value.slice ra2 rs.length rcap2, Value.slice wa2 ws.length wcap2, Value.slice da2 ds.length dcap2] 27)) := ((Below.refl _ _).alloc (Nat.le_refl _) _).alloc (by simp) _
 refine (eqMemObjS_eq oa oa2 os.length ocap ocap2 os os2 _ rfl HP.out (ho.below hB0 (Nat.le_refl _)) (ho2.below hB0 (Nat.le_refl _)) (by unfold maxLen; omega) (fun i hi => by have := soo i hi; unfold maxLen; omega)).mono ?_
 rintro e w1 ⟨rfl, hb1⟩
 have hB1 := hB0.trans (hb1.mono hB0.size)
 obtain ⟨hc1, _⟩ := bcell hb1
 have z1 := hb1.size
 simp at hc1 z1
 have q10 : w.heap.size < w1.heap.size := by omega
 have q11 : w.heap.size + 1 < w1.heap.size := by omega
 clear hb1 hB0
 go_wp2_with fail
 refine (eqIntS_any ra ra2 rs.length rs.length rcap rcap2 rs rs _ rfl rfl (hr.below hB1 (Nat.le_refl _)) (hr2.below hB1 (Nat.le_refl _)) (by unfold maxLen; omega) (by unfold maxLen; omega)).mono ?_
 rintro e w2 ⟨rfl, hb2⟩
 have hB2 := hB1.trans (hb2.mono hB1.size)
 obtain ⟨hc2, _⟩ := bcell hb2
 have z2 := hb2.size
 have q20 : w.heap.size < w2.heap.size := by omega
 have q21 : w.heap.size + 1 < w2.heap.size := by omega
 simp only [decide_true]
 clear hb2 hB1
 go_wp2_with fail
 refine (eqMemWatchS_eq wa wa2 ws.length wcap wcap2 ws _ rfl (hw.below hB2 (Nat.le_refl _)) (hw2.below hB2 (Nat.le_refl _)) (by unfold maxLen; omega)).mono ?_
 rintro e w3 ⟨rfl, hb3⟩
 have hB3 := hB2.trans (hb3.mono hB2.size)
 obtain ⟨hc3, _⟩ := bcell hb3
 clear hb3 hB2
 go_wp2_with fail
 refine (eqMemWatchS_eq da da2 ds.length dcap dcap2 ds _ rfl (hd.below hB3 (Nat.le_refl _)) (hd2.below hB3 (Nat.le_refl _)) (by unfold maxLen; omega)).mono ?_
 rintro e w4 ⟨rfl, hb4⟩
 have hB4 := hB3.trans (hb4.mono hB3.size)
 clear hb4 hB3
 go_wp2
 go_ret
 exact ⟨rfl, hB4⟩
set_option maxHeartbeats 400000 in
set_option maxRecDepth 100000 in
theorem szIntS_any (a : Option Addr) (n cap : Nat) (l : Int) (w : World) (hn : n ≤ maxLen) (h0 : 0 ≤ l) (h1 : l ≤ 1048576) :
   Calls Cut.prog 63 #[.slice a n cap, .int .i64 l] w fun e w' => ∃ r : Int, e = .returned (.int .i64 r) ∧ w' = w ∧ -1 ≤ r ∧ r ≤ l ∧ (0 ≤ r → n ≤ 1048576) := by
 unfold maxLen at hn
 by_cases hlt : l - n < 0
 · go_enter (Cut.func_of Tryz.func63 rfl), Tryz.ntmps63
   go_wp2
   go_ret
   exact ⟨_, rfl, rfl, by omega, by omega, by omega⟩
 · go_enter (Cut.func_of Tryz.func63 rfl), Tryz.ntmps63
   go_wp2
   go_ret
   exact ⟨_, rfl, rfl, by omega, by omega, by omega⟩
set_option maxHeartbeats 400000 in
set_option maxRecDepth 100000 in
theorem szMemWatchS_any (a : Option Addr) (n cap : Nat) (l : Int) (w : World) (hn : n ≤ maxLen) (h0 : 0 ≤ l) (h1 : l ≤ 1048576) :
   Calls Cut.prog 64 #[.slice a n cap, .int .i64 l] w fun e w' => ∃ r : Int, e = .returned (.int .i64 r) ∧ w' = w ∧ -1 ≤ r ∧ r ≤ l ∧ (0 ≤ r → n ≤ 1048576) := by
 unfold maxLen at hn
 by_cases hlt : l - n < 0
 · go_enter (Cut.func_of Tryz.func64 rfl), Tryz.ntmps64
   go_wp2
   go_ret
   exact ⟨_, rfl, rfl, by omega, by omega, by omega⟩
 · go_enter (Cut.func_of Tryz.func64 rfl), Tryz.ntmps64
   go_wp2
   go_ret
   exact ⟨_, rfl, rfl, by omega, by omega, by omega⟩
set_option maxHeartbeats 400000 in
set_option maxRecDepth 100000 in
theorem szMemObj_any (k : Int) (t : ByteArray) (a : Option Addr) (n cap : Nat) (l : Int) (w : World) (ht : t.size ≤ maxLen) (hn : n ≤ maxLen) (h0 : 0 ≤ l) (h1 : l ≤ 1048576) :
   Calls Cut.prog 98 #[.agg #[.int .i64 k, .string t, .slice a n cap], .int .i64 l] w fun e w' => ∃ r : Int, e = .returned (.int .i64 r) ∧ Below w.heap.size w w' ∧ -1 ≤ r ∧ r ≤ l ∧ (0 ≤ r → n ≤ 1048576) := by
 have hn' := hn
 unfold maxLen at hn' ht
 by_cases hlt : l - t.size < 0
 · go_enter (Cut.func_of Tryz.func98 rfl), Tryz.ntmps98
   go_wp2
   go_ret
   exact ⟨_, rfl, (Below.refl _ _).alloc (Nat.le_refl _) _, by omega, by omega, by omega⟩
 · go_enter (Cut.func_of Tryz.func98 rfl), Tryz.ntmps98
   go_wp2_with fail
   refine (szIntS_any _ _ _ _ _ hn (by omega) (by omega)).mono ?_
   rintro e w1 ⟨r, rfl, rfl, r1, r2, r3⟩
   by_cases hr : r < 0
   · go_wp2
     go_ret
     exact ⟨_, rfl, (Below.refl _ _).alloc (Nat.le_refl _) _, by omega, by omega, by omega⟩
   · go_wp2
     go_ret
     exact ⟨_, rfl, (Below.refl _ _).alloc (Nat.le_refl _) _, by omega, by omega, by omega⟩
set_option maxHeartbeats 400000 in
set_option maxRecDepth 100000 in
theorem szMemObjS_any (a : Option Addr) (n cap : Nat) (os : List Ob) (l : Int) (w : World) (hs : SegO w a os) (hl : os.length = n) (hn : n ≤ maxLen) (ho : ∀ i (hi : i < os.length), os[i].r.length ≤ maxLen ∧ os[i].t.size ≤ maxLen) (h0 : 0 ≤ l) (h1 : l ≤ 1048576) :
   Calls Cut.prog 62 #[.slice a n cap, .int .i64 l] w fun e w' => ∃ r : Int, e = .returned (.int .i64 r) ∧ Below w.heap.size w w' ∧ -1 ≤ r ∧ r ≤ l ∧ (0 ≤ r → n ≤ 1048576 ∧ ∀ i (hi : i < os.length), os[i].r.length ≤ 1048576) := by
 have hn' := hn
 unfold maxLen at hn'
 by_cases hlt : l - n < 0
 · go_enter (Cut.func_of Tryz.func62 rfl), Tryz.ntmps62
   go_wp2
   go_ret
   exact ⟨_, rfl, Below.refl _ _, by omega, by omega, by omega⟩
 · have hd : decide (l - (n : Int) < 0) = false := by simp; omega
   go_enter (Cut.func_of Tryz.func62 rfl), Tryz.ntmps62
   go_wp2
   go_loopw [1, 5] (fun c i wr => ∃ (k : Nat) (r : Int), k ≤ n ∧ i = .int .i64 k ∧ c = .int .i64 r ∧ 0 ≤ r ∧ r ≤ l ∧ Below w.heap.size w wr ∧ ∀ j (hj : j < os.length), j < k → os[j].r.length ≤ 1048576) (fun _ i _ => n - (intOf i).toNat)
   case atStart => exact ⟨0, _, Nat.zero_le _, rfl, rfl, by omega, by omega, Below.refl _ _, fun j _ h => by omega⟩
   case round =>
     obtain ⟨k, r, hk, rfl, rfl, hr0, hr1, hb, hall⟩ := hrel
     by_cases hkn : k < n
     · have hkl : k < os.length := by omega
       obtain ⟨b, off, rfl, hbw, c1, c2, c3⟩ := hs.get hkl
       obtain ⟨ho1, ho2⟩ := ho k hkl
       have d1 := (hb.cell (p := ⟨b, off + k * 3, none⟩) hbw).trans c1
       have d2 := (hb.cell (p := ⟨b, off + k * 3 + 1, none⟩) hbw).trans c2
       have d3 := (hb.cell (p := ⟨b, off + k * 3 + 2, none⟩) hbw).trans c3
       clear c1 c2 c3
       go_wp2_with fail
       refine (szMemObj_any _ _ _ _ _ _ _ ho2 ho1 (by omega) (by omega)).mono ?_
       rintro e w1 ⟨r', rfl, hb1, r1, r2, r3⟩
       have hbb := hb.trans (hb1.mono hb.size)
       have HA : Hid (0 ≤ r' → ∀ j (hj : j < os.length), j < k + 1 → os[j].r.length ≤ 1048576) := fun h j hj hjk => by
         by_cases e : j = k
         · subst e; exact r3 h
         · exact hall j hj (by omega)
       clear hall r3 d1 d2 d3
       by_cases hr : r' < 0
       · go_wp2
         go_ret
         exact ⟨_, rfl, hbb, by omega, by omega, by omega⟩
       · go_wp2
         go_roundw
         case rel => exact ⟨k + 1, r', by omega, by go_num, rfl, by omega, by omega, hbb, HA.out (by omega)⟩
         case measure => simp [intOf]; omega
     · go_wp2
       go_ret
       exact ⟨_, rfl, hb, by omega, by omega, fun _ => ⟨by omega, fun i hi => hall i hi (by omega)⟩⟩
set_option maxHeartbeats 400000 in
set_option maxRecDepth 100000 in
theorem szMemHeap_any (h : Hp) (l : Int) (w : World) (hh : HpIn w h) (hf : Fits h) (h0 : 0 ≤ l) (h1 : l ≤ 1048576) :
   Calls Cut.prog 22 #[h.v, .int .i64 l] w fun e w' => ∃ r : Int, e = .returned (.int .i64 r) ∧ Below w.heap.size w w' ∧ (0 ≤ r → Small h) := by
 obtain ⟨oa, ocap, os, ra, rcap, rs, wa, wcap, ws, da, dcap, ds⟩ := h
 obtain ⟨ho, hr, hw, hd⟩ := hh
 obtain ⟨fo, foo, fr, fw, fd⟩ := hf
 simp only [Hp.v] at *
 go_enter (Cut.func_of Tryz.func22 rfl), Tryz.ntmps22
 go_wp2_with fail
 have hB0 : Below w.heap.size w (w.alloc (Obj.cells #[Value.slice oa os.length ocap, Value.slice ra rs.length rcap, Value.slice wa ws.length wcap, Value.slice da ds.length dcap] 48)) := (Below.refl _ _).alloc (Nat.le_refl _) _
 refine (szMemObjS_any _ _ _ os _ _ (ho.below hB0 (Nat.le_refl _)) rfl fo foo h0 h1).mono ?_
 rintro e w1 ⟨r, rfl, hb, r1, r2, r3⟩
 obtain ⟨hc, _⟩ := bcell hb
 simp at hc
 have hbb := hB0.trans (hb.mono hB0.size)
 clear hb
 by_cases hr0 : r < 0
 · go_wp2
   go_ret
   exact ⟨_, rfl, hbb, by omega⟩
 · go_wp2_with fail
   refine (szIntS_any _ _ _ _ _ fr (by omega) (by omega)).mono ?_
   rintro e w2 ⟨r', rfl, rfl, q1, q2, q3⟩
   by_cases hr1 : r' < 0
   · go_wp2
     go_ret
     exact ⟨_, rfl, hbb, by omega⟩
   · go_wp2_with fail
     refine (szMemWatchS_any _ _ _ _ _ fw (by omega) (by omega)).mono ?_
     rintro e w3 ⟨r'', rfl, rfl, p1, p2, p3⟩
     by_cases hr2 : r'' < 0
     · go_wp2
       go_ret
       exact ⟨_, rfl, hbb, by omega⟩
     · go_wp2_with fail
       refine (szMemWatchS_any _ _ _ _ _ fd (by omega) (by omega)).mono ?_
       rintro e w4 ⟨r3', rfl, rfl, s1, s2, s3⟩
       by_cases hr3 : r3' < 0
       · go_wp2
         go_ret
         exact ⟨_, rfl, hbb, by omega⟩
       · go_wp2
         go_ret
         exact ⟨_, rfl, hbb, fun _ => ⟨(r3 (by omega)).1, (r3 (by omega)).2, q3 (by omega), p3 (by omega), s3 (by omega)⟩⟩
end Go.Proofs.YtcpnkpogebjieaaGreat
namespace Go.Proofs.YtcpnkpogebjieaaGreat.Co
open Go.RowKit
set_option linter.unusedSimpArgs false
theorem arr_map (T : Array Value) : T = ((List.range T.size).map fun i => T.getD i undef).toArray := by
 apply Array.ext
 · simp
 · intro i h1 h2
   simp [Array.getD, h1]
set_option maxRecDepth 100000 in
theorem fun112 (T : Array Value) (h : T.size = 112) : ∃ f : Nat → Value, T = #[f 0, f 1, f 2, f 3, f 4, f 5, f 6, f 7, f 8, f 9, f 10, f 11, f 12, f 13, f 14, f 15, f 16, f 17, f 18, f 19, f 20, f 21, f 22, f 23, f 24, f 25, f 26, f 27, f 28, f 29, f 30, f 31, f 32, f 33, f 34, f 35, f 36, f 37, f 38, f 39, f 40, f 41, f 42, f 43, f 44, f 45, f 46, f 47, f 48, f 49, f 50, f 51, f 52, f 53, f 54, f 55, f 56, f 57, f 58, f 59, f 60, f 61, f 62, f 63, f 64, f 65, f 66, f 67, f 68, f 69, f 70, f 71, f 72, f 73, f 74, f 75, f 76, f 77, f 78, f 79, f 80, f 81, f 82, f 83, f 84, f 85, f 86, f 87, f 88, f 89, f 90, f 91, f 92, f 93, f 94, f 95, f 96, f 97, f 98, f 99, f 100, f 101, f 102, f 103, f 104, f 105, f 106, f 107, f 108, f 109, f 110, f 111] := by
 have e := arr_map T
 rw [h] at e
 exact ⟨fun i => T.getD i undef, e⟩
set_option maxRecDepth 100000 in
theorem arr112 (T : Array Value) (h : T.size = 112) : ∃ v0 v1 v2 v3 v4 v5 v6 v7 v8 v9 v10 v11 v12 v13 v14 v15 v16 v17 v18 v19 v20 v21 v22 v23 v24 v25 v26 v27 v28 v29 v30 v31 v32 v33 v34 v35 v36 v37 v38 v39 v40 v41 v42 v43 v44 v45 v46 v47 v48 v49 v50 v51 v52 v53 v54 v55 v56 v57 v58 v59 v60 v61 v62 v63 v64 v65 v66 v67 v68 v69 v70 v71 v72 v73 v74 v75 v76 v77 v78 v79 v80 v81 v82 v83 v84 v85 v86 v87 v88 v89 v90 v91 v92 v93 v94 v95 v96 v97 v98 v99 v100 v101 v102 v103 v104 v105 v106 v107 v108 v109 v110 v111, T = #[v0, v1, v2, v3, v4, v5, v6, v7, v8, v9, v10, v11, v12, v13, v14, v15, v16, v17, v18, v19, v20, v21, v22, v23, v24, v25, v26, v27, v28, v29, v30, v31, v32, v33, v34, v35, v36, v37, v38, v39, v40, v41, v42, v43, v44, v45, v46, v47, v48, v49, v50, v51, v52, v53, v54, v55, v56, v57, v58, v59, v60, v61, v62, v63, v64, v65, v66, v67, v68, v69, v70, v71, v72, v73, v74, v75, v76, v77, v78, v79, v80, v81, v82, v83, v84, v85, v86, v87, v88, v89, v90, v91, v92, v93, v94, v95, v96, v97, v98, v99, v100, v101, v102, v103, v104, v105, v106, v107, v108, v109, v110, v111] := by
 obtain ⟨f, e⟩ := fun112 T h
 exact ⟨f 0, f 1, f 2, f 3, f 4, f 5, f 6, f 7, f 8, f 9, f 10, f 11, f 12, f 13, f 14, f 15, f 16, f 17, f 18, f 19, f 20, f 21, f 22, f 23, f 24, f 25, f 26, f 27, f 28, f 29, f 30, f 31, f 32, f 33, f 34, f 35, f 36, f 37, f 38, f 39, f 40, f 41, f 42, f 43, f 44, f 45, f 46, f 47, f 48, f 49, f 50, f 51, f 52, f 53, f 54, f 55, f 56, f 57, f 58, f 59, f 60, f 61, f 62, f 63, f 64, f 65, f 66, f 67, f 68, f 69, f 70, f 71, f 72, f 73, f 74, f 75, f 76, f 77, f 78, f 79, f 80, f 81, f 82, f 83, f 84, f 85, f 86, f 87, f 88, f 89, f 90, f 91, f 92, f 93, f 94, f 95, f 96, f 97, f 98, f 99, f 100, f 101, f 102, f 103, f 104, f 105, f 106, f 107, f 108, f 109, f 110, f 111, e⟩
theorem small_p {g h : Hp} (e : g.p = h.p) (hs : Small h) : Small g := by
 simp only [Hp.p, Prod.mk.injEq] at e
 obtain ⟨e1, e2, e3, e4⟩ := e
 have el : g.os.length = h.os.length := by have := congrArg List.length e1; simpa using this
 refine ⟨by rw [el]; exact hs.o, fun i hi => ?_, by rw [e2]; exact hs.r, by rw [e3]; exact hs.w, by rw [e4]; exact hs.d⟩
 have hi' : i < h.os.length := by omega
 have e5 : (g.os.map Ob.p)[i]? = (h.os.map Ob.p)[i]? := by rw [e1]
 rw [List.getElem?_map, List.getElem?_map, List.getElem?_eq_getElem hi, List.getElem?_eq_getElem hi'] at e5
 simp only [Option.map_some, Option.some.injEq, Ob.p, Prod.mk.injEq] at e5
 rw [e5.2.2]
 exact hs.oo i hi'
theorem text_p {g h : Hp} (e : g.p = h.p) (hf : ∀ i (hi : i < h.os.length), h.os[i].t.size ≤ maxLen) : ∀ i (hi : i < g.os.length), g.os[i].t.size ≤ maxLen := fun i hi => by
 simp only [Hp.p, Prod.mk.injEq] at e
 obtain ⟨e1, _⟩ := e
 have el : g.os.length = h.os.length := by have := congrArg List.length e1; simpa using this
 have hi' : i < h.os.length := by omega
 have e5 : (g.os.map Ob.p)[i]? = (h.os.map Ob.p)[i]? := by rw [e1]
 rw [List.getElem?_map, List.getElem?_map, List.getElem?_eq_getElem hi, List.getElem?_eq_getElem hi'] at e5
 simp only [Option.map_some, Option.some.injEq, Ob.p, Prod.mk.injEq] at e5
 rw [e5.2.1]
 exact hf i hi'
theorem ownH_caps {w : World} {B go gr gw gd : Nat} {h : Hp} (hh : OwnH w B h go gr gw gd) : ∀ (i : Nat) (hi : i < h.os.length), h.os[i].r.length ≤ h.os[i].rcap := fun i hi => by
 obtain ⟨g, _, _, h3, _⟩ := hh.own i hi
 omega
structure Hold (m : Nat) (E0 E : World) : Prop where
 sz : E0.heap.size = m
 le : m ≤ E.heap.size
 bl : ∀ b, b < m → E.heap[b]? = E0.heap[b]?
theorem Hold.refl (E : World) : Hold E.heap.size E E := ⟨rfl, Nat.le_refl _, fun _ _ => rfl⟩
theorem Hold.hp {m : Nat} {E0 E : World} {h : Hp} (H : Hold m E0 E) (hh : HpIn E0 h) : HpIn E h := HpIn.heap hh (by rw [H.sz]; exact H.le) fun b hb => H.bl b (by rw [← H.sz]; exact hb)
theorem Hold.row {m : Nat} {E0 E : World} {N n e sz : Nat} {v : Value} {xs : List Value} (H : Hold m E0 E) (hr : E0.ownsRow N e sz v n xs) : E.ownsRow N e sz v n xs := row_heap hr fun b hb => H.bl b (by rw [← H.sz]; exact (World.ownsRow.lt hr b hb).2)
def On (E E' : World) : Prop := E.heap.size ≤ E'.heap.size ∧ ∀ b, b < E.heap.size → E'.heap[b]? = E.heap[b]?
theorem On.of {E E' : World} {B : Nat} (h : Below B E E') (hB : E.heap.size ≤ B) : On E E' := ⟨h.size, fun b hb => h.block b (by omega)⟩
theorem On.trans {a b c : World} (h : On a b) (k : On b c) : On a c := ⟨Nat.le_trans h.1 k.1, fun x hx => (k.2 x (Nat.lt_of_lt_of_le hx h.1)).trans (h.2 x hx)⟩
theorem On.refl (a : World) : On a a := ⟨Nat.le_refl _, fun _ _ => rfl⟩
theorem Hold.on {m : Nat} {E0 E E' : World} (H : Hold m E0 E) (h : On E E') : Hold m E0 E' := ⟨H.sz, Nat.le_trans H.le h.1, fun b hb => (h.2 b (Nat.lt_of_lt_of_le hb H.le)).trans (H.bl b hb)⟩
theorem Hold.ch {m : Nat} {S : Nat → Prop} {E0 E E' : World} (H : Hold m E0 E) (h : ChO S E E') (hS : ∀ k, S k → m ≤ k) : Hold m E0 E' := ⟨H.sz, Nat.le_trans H.le h.size, fun b hb => (h.block b (Nat.lt_of_lt_of_le hb H.le) (fun e => by have := hS b e; omega)).trans (H.bl b hb)⟩
theorem Hold.rg {m lo hi : Nat} {E0 E E' : World} (H : Hold m E0 E) (h : Rg lo hi E E') (hS : m ≤ lo) : Hold m E0 E' := ⟨H.sz, Nat.le_trans H.le h.size, fun b hb => (h.block b (Nat.lt_of_lt_of_le hb H.le) (.inl (by omega))).trans (H.bl b hb)⟩
theorem blk_on {E E' : World} {b t : Nat} {cs : List Value} (h : Blk E b cs t) (ho : On E E') : Blk E' b cs t := h.same (ho.2 b h.lt)
theorem ownH_on {w w' : World} {B go gr gw gd : Nat} {h : Hp} (hh : OwnH w B h go gr gw gd) (hb : On w w') : OwnH w' B h go gr gw gd := by
 have hb' : Below w.heap.size w { w with heap := w'.heap } := ⟨rfl, rfl, rfl, hb.1, hb.2⟩
 have ho := hh.own.below hb' (Nat.le_refl _)
 exact ⟨hh.oa, hh.ocap, hh.ra, hh.rcap, hh.wa, hh.wcap, hh.da, hh.dcap, hh.le, hh.lt1, hh.lt2, hh.lt3, blk_on hh.bo hb, ho, hh.olt, blk_on hh.br hb, blk_on hh.bw hb, blk_on hh.bd hb⟩
theorem _root_.Go.Proofs.YtcpnkpogebjieaaGreat.OwnP.on {E E' : World} {B : Nat} {y : Hp} (h : OwnP E B y) (ho : On E E') : OwnP E' B y := h.same fun b hb => ho.2 b (h.rows_lt b hb).2
theorem ownL_on {E E' : World} {B : Nat} {v : Value} {xs : List Int} (h : OwnL E B v xs) (ho : On E E') : OwnL E' B v xs := row_heap h fun b hb => ho.2 b (h.lt b hb).2
theorem box_new (w : World) (c0 c1 c2 c3 : Value) : Blk (w.alloc (Obj.cells #[c0, c1, c2, c3] 27)) w.heap.size [c0, c1, c2, c3] 27 ∧ Below w.heap.size w (w.alloc (Obj.cells #[c0, c1, c2, c3] 27)) :=
 ⟨Blk.new w [c0, c1, c2, c3] 27, (Below.refl _ _).alloc (Nat.le_refl _) _⟩
noncomputable def lwB : Code := match Tryz.f6.body with
 | some c => c
 | _ => .skip
noncomputable def lwC : Code := match lwB with
 | .seq _ (.seq _ (.seq _ (.seq _ (.seq _ (.seq _ c))))) => c
 | _ => .skip
noncomputable def lwOps : Array Oper := match lwC with
 | .seq (.region _ ops _) _ => ops
 | _ => #[]
noncomputable def lwD : Code := match lwC with
 | .seq _ c => c
 | _ => .skip
noncomputable def lwE : Code := match lwD with
 | .seq _ (.seq _ (.seq _ (.seq _ (.seq _ (.seq _ (.seq _ (.seq _ (.seq _ (.seq _ (.seq _ (.seq _ (.seq _ (.seq _ c))))))))))))) => c
 | _ => .skip
noncomputable def lwOps2 : Array Oper := match lwE with
 | .seq (.region _ ops _) _ => ops
 | _ => #[]
noncomputable def lwF : Code := match lwE with
 | .seq _ c => c
 | _ => .skip
def Ans (h : Hp) (yp : List (Int × ByteArray × List Int) × List Int × List (Int × Int) × List (Int × Int)) (ms : List Int) : Prop := (okP h.p = false → yp = ([], [], [], []) ∧ ms = []) ∧ (okP h.p = true → CoP h.p yp ms)
structure L1 (h : Hp) (N b1 b4 b6 : Nat) (y : Hp) (sv : Value) (ms : List Int) (x : Hp) (go gr gw gd m3 m4 : Nat) (E : World) : Prop where
 hh : ∃ E0, Hold N E0 E ∧ HpIn E0 h
 k1 : Blk E b1 (Hp.cells h) 48
 k4 : Blk E b4 (Hp.cells y) 27
 k6 : Blk E b6 (Hp.cells x) 27
 n1 : N ≤ b1
 l1 : b1 < m3
 l3 : m3 ≤ m4
 l4 : m3 ≤ b4 ∧ b4 < m4
 l6 : gd < b6
 sp : ∃ E3, Hold m3 E3 E ∧ HpIn E3 y ∧ OwnL E3 N sv ms
 ox : OwnH E m4 x go gr gw gd
 ok : OkC y
 px : x.p = h.p
 an : Ans h y.p ms
theorem L1.on {h : Hp} {N b1 b4 b6 : Nat} {y : Hp} {sv : Value} {ms : List Int} {x : Hp} {go gr gw gd m3 m4 : Nat} {E E' : World} (L : L1 h N b1 b4 b6 y sv ms x go gr gw gd m3 m4 E) (o : On E E') : L1 h N b1 b4 b6 y sv ms x go gr gw gd m3 m4 E' := by
 obtain ⟨E0, h1, h2⟩ := L.hh
 obtain ⟨E3, h3, h4, h5⟩ := L.sp
 exact ⟨⟨E0, h1.on o, h2⟩, blk_on L.k1 o, blk_on L.k4 o, blk_on L.k6 o, L.n1, L.l1, L.l3, L.l4, L.l6, ⟨E3, h3.on o, h4, h5⟩, ownH_on L.ox o, L.ok, L.px, L.an⟩
set_option maxRecDepth 100000 in
theorem enter112 (v : Value) : (#[v] ++ Array.replicate 111 undef : Array Value) = #[v, undef, undef, undef, undef, undef, undef, undef, undef, undef, undef, undef, undef, undef, undef, undef, undef, undef, undef, undef, undef, undef, undef, undef, undef, undef, undef, undef, undef, undef, undef, undef, undef, undef, undef, undef, undef, undef, undef, undef, undef, undef, undef, undef, undef, undef, undef, undef, undef, undef, undef, undef, undef, undef, undef, undef, undef, undef, undef, undef, undef, undef, undef, undef, undef, undef, undef, undef, undef, undef, undef, undef, undef, undef, undef, undef, undef, undef, undef, undef, undef, undef, undef, undef, undef, undef, undef, undef, undef, undef, undef, undef, undef, undef, undef, undef, undef, undef, undef, undef, undef, undef, undef, undef, undef, undef, undef, undef, undef, undef, undef, undef] := by kernel_rfl
def Lw1 (h : Hp) (u : World) (c : Code) (a : Act) (w1 : World) : Prop :=
 c = lwC ∧ a.defers = [] ∧ a.tmps.size = 112 ∧ Small h ∧ Below u.heap.size u w1 ∧ ∃ (b1 b4 b6 : Nat) (y : Hp) (sv : Value) (ms : List Int) (x : Hp) (go gr gw gd m3 m4 : Nat),
   a.tmps[1]? = some (.pointer (some ⟨b1, 0, none⟩)) ∧ a.tmps[4]? = some (.pointer (some ⟨b4, 0, none⟩)) ∧ a.tmps[5]? = some sv ∧ a.tmps[6]? = some (.pointer (some ⟨b6, 0, none⟩)) ∧ L1 h u.heap.size b1 b4 b6 y sv ms x go gr gw gd m3 m4 w1
def Lw1r (u : World) (a : Act) (w1 : World) : Prop := a.defers = [] ∧ a.tmps.size = 112 ∧ a.tmps[2]? = some (.bool true) ∧ Below u.heap.size u w1
set_option maxRecDepth 100000 in
set_option maxHeartbeats 8000000 in
theorem law_p1 (h : Hp) (u : World) (hh : HpIn u h) (hf : Fits h) : chain Cut.prog (Lw1 h u) (Lw1r u) 6 lwB ⟨#[h.v] ++ Array.replicate 111 undef, []⟩ u := by
 rw [enter112]
 simp only [lwB, Tryz.f6, Hp.v, chain]
 have hB0 : Below u.heap.size u (u.alloc (Obj.cells #[Value.slice h.oa h.os.length h.ocap, Value.slice h.ra h.rs.length h.rcap, Value.slice h.wa h.ws.length h.wcap, Value.slice h.da h.ds.length h.dcap] 48)) := (Below.refl _ _).alloc (Nat.le_refl _) _
 have hK0 := Blk.new u [Value.slice h.oa h.os.length h.ocap, Value.slice h.ra h.rs.length h.rcap, Value.slice h.wa h.ws.length h.wcap, Value.slice h.da h.ds.length h.dcap] 48
 have hS0 : u.heap.size < (u.alloc (Obj.cells #[Value.slice h.oa h.os.length h.ocap, Value.slice h.ra h.rs.length h.rcap, Value.slice h.wa h.ws.length h.wcap, Value.slice h.da h.ds.length h.dcap] 48)).heap.size := hK0.lt
 have c1 := szMemHeap_any h 1048576 _ (hh.below hB0 (Nat.le_refl _)) hf (by omega) (by omega)
 simp only [Hp.v] at c1
 go_wp2
 simp only [goOr, chain]
 generalize u.alloc (Obj.cells #[Value.slice h.oa h.os.length h.ocap, Value.slice h.ra h.rs.length h.rcap, Value.slice h.wa h.ws.length h.wcap, Value.slice h.da h.ds.length h.dcap] 48) = u0 at *
 obtain ⟨x0, x1, x2, x3⟩ := cells4' hK0
 go_wp2
 simp only [goOr, chain]
 go_wp2_with fail
 refine c1.mono ?_
 rintro e w1 ⟨r, rfl, hb1, hr⟩
 have hB1 := hB0.trans (hb1.mono hB0.size)
 have hK1 := hK0.below hb1 hK0.lt
 clear c1 hb1 hB0 hK0 x0 x1 x2 x3
 go_wp2
 simp only [goOr, chain]
 by_cases hneg : r < 0
 · have hd : decide (r < 0) = true := by simp [hneg]
   go_wp2
   exact ⟨rfl, rfl, rfl, hB1⟩
 have hd : decide (r < 0) = false := by simp [hneg]
 have hs := hr (by omega)
 clear hr
 have ht : ∀ i (hi : i < h.os.length), h.os[i].t.size ≤ maxLen := fun i hi => (hf.oo i hi).2
 have HT : Hid (∀ i (hi : i < h.os.length), h.os[i].t.size ≤ maxLen) := ht
 clear ht hS0
 go_wp2
 simp only [goOr, chain]
 obtain ⟨x0, x1, x2, x3⟩ := cells4' hK1
 have hK1s := hK1.lt
 have c2 := toMemHeap_any h w1 (hh.below hB1 (Nat.le_refl _)) hs
 simp only [Hp.v] at c2
 go_wp2_with fail
 refine c2.mono ?_
 rintro e w2 ⟨h1, go1, gr1, gw1, gd1, rfl, hp1, hb2, own1⟩
 have hB2 := hB1.trans (hb2.mono hB1.size)
 have hK2 := hK1.below hb2 hK1.lt
 have c3 := specMemCollect_exact h1 w2 ⟨own1.isIn, small_p hp1 hs, text_p hp1 HT.out, ownH_caps own1⟩
 rw [hp1] at c3
 simp only [Hp.v] at c3
 clear c2 hb2 hB1 hK1 x0 x1 x2 x3 hp1 own1
 go_wp2_with fail
 refine c3.mono ?_
 rintro e w3 ⟨y, sv, ms, rfl, hyc, hyf, hsv, hy1, hy2, hb3⟩
 have hsv' : OwnL w3 u.heap.size sv ms := row_base hsv (by have := hB2.size; omega)
 have hB3 := hB2.trans (hb3.mono hB2.size)
 have hK3 := hK2.below hb3 hK2.lt
 have hyin := hyf.isIn
 obtain ⟨bq, hb4⟩ := box_new w3 (.slice y.oa y.os.length y.ocap) (.slice y.ra y.rs.length y.rcap) (.slice y.wa y.ws.length y.wcap) (.slice y.da y.ds.length y.dcap)
 have hB4 := hB3.trans (hb4.mono hB3.size)
 have hK4 := hK3.below hb4 hK3.lt
 have ho34 := On.of hb4 (Nat.le_refl _)
 have hl3 := hK3.lt
 have hl4 := bq.lt
 have HA : Hid (Ans h y.p ms) := ⟨hy1, hy2⟩
 have HN0 : Hid (u.heap.size < w3.heap.size) := hl3
 clear c3 hb3 hB2 hK2 hB3 hK3 hsv hyf hb4 hy1 hy2
 go_wp2
 simp only [goOr, chain]
 generalize w3.alloc (Obj.cells #[Value.slice y.oa y.os.length y.ocap, Value.slice y.ra y.rs.length y.rcap, Value.slice y.wa y.ws.length y.wcap, Value.slice y.da y.ds.length y.dcap] 27) = w4 at *
 obtain ⟨x0, x1, x2, x3⟩ := cells4' hK4
 have c5 := toMemHeap_any h w4 (hh.below hB4 (Nat.le_refl _)) hs
 simp only [Hp.v] at c5
 go_wp2_with fail
 refine c5.mono ?_
 rintro e w5 ⟨x, go, gr, gw, gd, rfl, hpx, hb5, ownx⟩
 have ho45 := On.of hb5 (Nat.le_refl _)
 have hB5 := hB4.trans (hb5.mono hB4.size)
 have hgd := ownx.bd.lt
 obtain ⟨bq6, hb6⟩ := box_new w5 (.slice x.oa x.os.length x.ocap) (.slice x.ra x.rs.length x.rcap) (.slice x.wa x.ws.length x.wcap) (.slice x.da x.ds.length x.dcap)
 have ho56 := On.of hb6 (Nat.le_refl _)
 have hB6 := hB5.trans (hb6.mono hB5.size)
 have HPX : Hid (x.p = h.p) := hpx
 clear c5 hb5 hB4 hB5 hb6 hpx x0 x1 x2 x3
 simp only [Hp.v]
 go_wp2
 have ho46 := ho45.trans ho56
 refine ⟨rfl, rfl, rfl, hs, hB6, u.heap.size, w3.heap.size, w5.heap.size, y, sv, ms, x, go, gr, gw, gd, w3.heap.size, w4.heap.size, rfl, rfl, rfl, rfl, ?_⟩
 exact ⟨⟨u, ⟨rfl, hB6.size, hB6.block⟩, hh⟩, blk_on hK4 ho46, blk_on bq ho46, bq6, Nat.le_refl _, HN0.out, ho34.1, ⟨Nat.le_refl _, hl4⟩, hgd, ⟨w3, (Hold.refl w3).on (ho34.trans ho46), hyin, hsv'⟩, ownH_on ownx ho56, hyc, HPX.out, HA.out⟩
end Go.Proofs.YtcpnkpogebjieaaGreat.Co
