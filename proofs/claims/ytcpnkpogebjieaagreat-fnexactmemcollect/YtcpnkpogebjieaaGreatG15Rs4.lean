/- The specification's own MemOk, whole. -/
import Derived.Test.YtcpnkpogebjieaaGreatG14Eq
namespace Go.Proofs.YtcpnkpogebjieaaGreat
open Go.RowKit
def Hp.cs (h : Hp) : List Value := [.slice h.oa h.os.length h.ocap, .slice h.ra h.rs.length h.rcap, .slice h.wa h.ws.length h.wcap, .slice h.da h.ds.length h.dcap]
theorem okP_big {h : Hp} (hx : 60 < h.os.length ∨ 8 < h.rs.length ∨ 20 < h.ws.length + h.ds.length) : okP h.p = false := by
 have : (decide (h.p.1.length ≤ 60) && decide (h.p.2.1.length ≤ 8) && decide (h.p.2.2.1.length + h.p.2.2.2.length ≤ 20)) = false := by
   simp only [Hp.p, List.length_map]
   rcases hx with hx | hx | hx
   · simp [show ¬ h.os.length ≤ 60 by omega]
   · simp [show ¬ h.rs.length ≤ 8 by omega]
   · simp [show ¬ h.ws.length + h.ds.length ≤ 20 by omega]
 unfold okP
 rw [this]; rfl
theorem okP_small {h : Hp} (h1 : h.os.length ≤ 60) (h2 : h.rs.length ≤ 8) (h3 : h.ws.length + h.ds.length ≤ 20) :
   okP h.p = (h.os.all (fun o => objOk h.os.length o.p) && (refsOk h.os.length h.rs && (h.ws.all (watchOk (h.os.map Ob.p)) && h.ds.all (watchOk (h.os.map Ob.p))))) := by
 simp [okP, Hp.p, h1, h2, h3, List.all_map, Function.comp_def]
set_option maxHeartbeats 1600000 in
set_option maxRecDepth 100000 in
theorem specMemOk_any (h : Hp) (w : World) (hh : HpIn w h) (hs : Small h) (ht : ∀ i (hi : i < h.os.length), h.os[i].t.size ≤ maxLen) :
   Calls Cut.prog 12 #[h.v] w fun e w' => e = .returned (.bool (okP h.p)) ∧ Below w.heap.size w w' := by
 have hbig := @okP_big h
 have hsmall := @okP_small h
 generalize okP h.p = OK at hbig hsmall ⊢
 obtain ⟨oa, ocap, os, ra, rcap, rs, wa, wcap, ws, da, dcap, ds⟩ := h
 obtain ⟨ho, hr, hw, hd⟩ := hh
 obtain ⟨so, soo, sr, sw, sd⟩ := hs
 simp only [Hp.v] at *
 have Hbig : Hid (60 < os.length ∨ 8 < rs.length ∨ 20 < ws.length + ds.length → OK = false) := hbig
 clear hbig
 by_cases g1 : 60 < os.length
 · have HO : Hid (OK = false) := Hbig.out (Or.inl g1)
   clear Hbig hsmall
   go_enter (Cut.func_of Tryz.func12 rfl), Tryz.ntmps12
   go_wp2
   go_ret
   exact ⟨ret_bool HO.out.symm, (Below.refl _ _).alloc (Nat.le_refl _) _⟩
 by_cases g2 : 8 < rs.length
 · have HO : Hid (OK = false) := Hbig.out (Or.inr (Or.inl g2))
   clear Hbig hsmall
   go_enter (Cut.func_of Tryz.func12 rfl), Tryz.ntmps12
   go_wp2
   go_ret
   exact ⟨ret_bool HO.out.symm, (Below.refl _ _).alloc (Nat.le_refl _) _⟩
 by_cases g3 : 20 < ws.length + ds.length
 · have HO : Hid (OK = false) := Hbig.out (Or.inr (Or.inr g3))
   have g3' : (20 : Int) < (ws.length : Int) + (ds.length : Int) := by omega
   clear Hbig hsmall
   go_enter (Cut.func_of Tryz.func12 rfl), Tryz.ntmps12
   go_wp2
   go_ret
   exact ⟨ret_bool HO.out.symm, (Below.refl _ _).alloc (Nat.le_refl _) _⟩
 have HO : Hid (OK = (os.all (fun o => objOk os.length o.p) && (refsOk os.length rs && (ws.all (watchOk (os.map Ob.p)) && ds.all (watchOk (os.map Ob.p)))))) := hsmall (by omega) (by omega) (by omega)
 clear hsmall Hbig
 have k1 : decide ((60 : Int) < (os.length : Int)) = false := by simp; omega
 have k2 : decide ((8 : Int) < (rs.length : Int)) = false := by simp; omega
 have k3 : decide ((20 : Int) < (ws.length : Int) + (ds.length : Int)) = false := by simp; omega
 go_enter (Cut.func_of Tryz.func12 rfl), Tryz.ntmps12
 go_wp2
 have hB0 : Below w.heap.size w (w.alloc (Obj.cells #[Value.slice oa os.length ocap, Value.slice ra rs.length rcap, Value.slice wa ws.length wcap, Value.slice da ds.length dcap] 27)) := (Below.refl _ _).alloc (Nat.le_refl _) _
 have hK0 : Blk (w.alloc (Obj.cells #[Value.slice oa os.length ocap, Value.slice ra rs.length rcap, Value.slice wa ws.length wcap, Value.slice da ds.length dcap] 27)) w.heap.size [Value.slice oa os.length ocap, Value.slice ra rs.length rcap, Value.slice wa ws.length wcap, Value.slice da ds.length dcap] 27 := Blk.new w _ _
 go_loopw [3] (fun i wr => ∃ k : Nat, k ≤ os.length ∧ i = .int .i64 k ∧ Below w.heap.size w wr ∧ Blk wr w.heap.size [Value.slice oa os.length ocap, Value.slice ra rs.length rcap, Value.slice wa ws.length wcap, Value.slice da ds.length dcap] 27 ∧ ∀ j (hj : j < os.length), j < k → objOk os.length os[j].p = true) (fun i _ => os.length - (intOf i).toNat)
 case atStart => exact ⟨0, Nat.zero_le _, rfl, hB0, hK0, fun j _ h => by omega⟩
 case round =>
   obtain ⟨k, hk, rfl, hb, hblk, hall⟩ := hrel
   clear hB0 hK0
   have c0 := hblk.cell 0
   have c1 := hblk.cell 1
   have c2 := hblk.cell 2
   have c3 := hblk.cell 3
   simp only [List.getElem?_cons_zero, List.getElem?_cons_succ] at c0 c1 c2 c3
   have hsz := hblk.lt
   by_cases hlt : k < os.length
   · have HA : Hid (∀ j (hj : j < os.length), j < k → objOk os.length os[j].p = true) := hall
     clear hall
     have hrl : os[k].r.length ≤ maxLen := by have := soo k hlt; unfold maxLen; omega
     have htl := ht k hlt
     have s1 := ((ho.2 k hlt).below hb (Nat.le_refl _)).below (Below.refl wr.heap.size wr).drew (Nat.le_refl _)
     obtain ⟨b, off, rfl, hbw, e1, e2, e3⟩ := ho.get hlt
     have d1 := (hb.cell (p := ⟨b, off + k * 3, none⟩) hbw).trans e1
     have d2 := (hb.cell (p := ⟨b, off + k * 3 + 1, none⟩) hbw).trans e2
     have d3 := (hb.cell (p := ⟨b, off + k * 3 + 2, none⟩) hbw).trans e3
     have hi1 : (k : Int) < (os.length : Int) := by omega
     clear e1 e2 e3
     go_wp2_with fail
     go_region_with (go_at_call 41; refine (l1ObjOk_any _ _ _ _ _ os[k].r _ _ rfl hrl htl s1 (by omega) (by omega)).mono ?_; rintro e w' ⟨rfl, hbx⟩)
     all_goals
       have hbb := hb.drew.trans (hbx.mono hb.drew.size)
       have hblk1 := (hblk.below (Below.refl wr.heap.size wr).drew hsz).below hbx hsz
       clear hbx d1 d2 d3 s1 c0 c1 c2 c3
       cases hob : objOk os.length (os[k].k, os[k].t, os[k].r) with
       | false =>
         have HF : Hid (OK = false) := by
           show OK = false
           rw [HO.out, not_all (f := fun o => objOk os.length o.p) hlt hob]; rfl
         clear hob
         go_wp2
         go_ret
         exact ⟨ret_bool HF.out.symm, hbb⟩
       | true =>
         have HR : Hid (∀ j (hj : j < os.length), j < k + 1 → objOk os.length os[j].p = true) := all_succ (f := fun (o : Ob) => objOk os.length o.p) HA.out hlt hob
         clear hob
         go_wp2
         go_roundw
         case rel => exact ⟨k + 1, by omega, by go_num, hbb, hblk1, HR.out⟩
         case measure => simp [intOf]; omega
   · have HO1 : Hid (OK = (refsOk os.length rs && (ws.all (watchOk (os.map Ob.p)) && ds.all (watchOk (os.map Ob.p))))) := by
       show OK = _
       rw [HO.out, all_of (f := fun o => objOk os.length o.p) (fun i hi => hall i hi (by omega)), Bool.true_and]
     have hnk : decide ((k : Int) < (os.length : Int)) = false := by simp; omega
     clear hall HO
     obtain ⟨wo, rfl⟩ : ∃ wo : World, wo = wr := ⟨_, rfl⟩
     go_wp2
     go_loopw [4] (fun i wr => ∃ k : Nat, k ≤ rs.length ∧ i = .int .i64 k ∧ Below w.heap.size w wr ∧ Blk wr w.heap.size [Value.slice oa os.length ocap, Value.slice ra rs.length rcap, Value.slice wa ws.length wcap, Value.slice da ds.length dcap] 27 ∧ ∀ j (hj : j < rs.length), j < k → inB rs[j] (-1) (os.length - 1) = true) (fun i _ => rs.length - (intOf i).toNat)
     case atStart => exact ⟨0, Nat.zero_le _, rfl, hb, hblk, fun j _ h => by omega⟩
     case round =>
       obtain ⟨m, hm, rfl, hb, hblk, hall⟩ := hrel
       have c0 := hblk.cell 0
       have c1 := hblk.cell 1
       have c2 := hblk.cell 2
       have c3 := hblk.cell 3
       simp only [List.getElem?_cons_zero, List.getElem?_cons_succ] at c0 c1 c2 c3
       have hsz := hblk.lt
       by_cases hlt : m < rs.length
       · have HA : Hid (∀ j (hj : j < rs.length), j < m → inB rs[j] (-1) (os.length - 1) = true) := hall
         clear hall
         obtain ⟨b, off, rfl, hbw, e1⟩ := hr.get hlt
         have d1 := (hb.cell (p := ⟨b, off + m, none⟩) hbw).trans e1
         have hi1 : (m : Int) < (rs.length : Int) := by omega
         clear e1
         go_wp2_with fail
         go_quiet ((go_at_call 42; exact Calls.quiet_of_same (l1In_any _ _ _ _)))
         have hbb := bdrewN hb nq
         have hblk1 := hblk.below (bdrewN (Below.refl wr.heap.size wr) nq) hsz
         cases hob : inB rs[m] (-1) ((os.length : Int) - 1) with
         | false =>
           have HF : Hid (OK = false) := by
             show OK = false
             rw [HO1.out]
             simp only [refsOk]
             rw [not_all (f := fun z => inB z (-1) ((os.length : Int) - 1)) hlt hob]; rfl
           clear hob
           go_wp2
           go_ret
           exact ⟨ret_bool HF.out.symm, hbb⟩
         | true =>
           have HR : Hid (∀ j (hj : j < rs.length), j < m + 1 → inB rs[j] (-1) (os.length - 1) = true) := all_succ (f := fun z => inB z (-1) ((os.length : Int) - 1)) HA.out hlt hob
           clear hob
           go_wp2
           go_roundw
           case rel => exact ⟨m + 1, by omega, by go_num, hbb, hblk1, HR.out⟩
           case measure => simp [intOf]; omega
       · have HO2 : Hid (OK = (ws.all (watchOk (os.map Ob.p)) && ds.all (watchOk (os.map Ob.p)))) := by
           show OK = _
           rw [HO1.out]
           simp only [refsOk]
           rw [all_of (f := fun z => inB z (-1) ((os.length : Int) - 1)) (fun i hi => hall i hi (by omega)), Bool.true_and]
         have hnm : decide ((m : Int) < (rs.length : Int)) = false := by simp; omega
         clear hall HO1
         go_wp2_with fail
         have kw := l1WatchOk_any ⟨oa, ocap, os, ra, rcap, rs, wa, wcap, ws, da, dcap, ds⟩ wa ws.length wcap ws wr rfl (by unfold maxLen; omega) ⟨ho.below hb (Nat.le_refl _), hr.below hb (Nat.le_refl _), hw.below hb (Nat.le_refl _), hd.below hb (Nat.le_refl _)⟩ so (hw.below hb (Nat.le_refl _))
         simp only [Hp.v] at kw
         refine kw.mono ?_
         rintro e w1 ⟨rfl, hb1⟩
         have hbb := hb.trans (hb1.mono hb.size)
         have hblk1 := hblk.below hb1 hsz
         clear kw c0 c1 c2 c3
         have c0 := hblk1.cell 0
         have c1 := hblk1.cell 1
         have c2 := hblk1.cell 2
         have c3 := hblk1.cell 3
         simp only [List.getElem?_cons_zero, List.getElem?_cons_succ] at c0 c1 c2 c3
         cases hob : ws.all (watchOk (os.map Ob.p)) with
         | false =>
           have HF : Hid (OK = false) := by
             show OK = false
             rw [HO2.out, hob]; rfl
           clear hob
           go_wp2
           go_ret
           exact ⟨ret_bool HF.out.symm, hbb⟩
         | true =>
           have HF : Hid (OK = ds.all (watchOk (os.map Ob.p))) := by
             show OK = _
             rw [HO2.out, hob, Bool.true_and]
           clear hob
           go_wp2_with fail
           have kw := l1WatchOk_any ⟨oa, ocap, os, ra, rcap, rs, wa, wcap, ws, da, dcap, ds⟩ da ds.length dcap ds w1 rfl (by unfold maxLen; omega) ⟨ho.below hbb (Nat.le_refl _), hr.below hbb (Nat.le_refl _), hw.below hbb (Nat.le_refl _), hd.below hbb (Nat.le_refl _)⟩ so (hd.below hbb (Nat.le_refl _))
           simp only [Hp.v] at kw
           refine kw.mono ?_
           rintro e w2 ⟨rfl, hb2⟩
           have hb3 := hbb.trans (hb2.mono hbb.size)
           clear kw
           go_wp2
           go_ret
           exact ⟨ret_bool HF.out.symm, hb3⟩
theorem okP_parts {h : Hp} (hok : okP h.p = true) : h.os.length ≤ 60 ∧ h.rs.length ≤ 8 ∧ h.ws.length + h.ds.length ≤ 20 ∧ (∀ i (hi : i < h.os.length), objOk h.os.length h.os[i].p = true) ∧ refsOk h.os.length h.rs = true ∧ (∀ p ∈ h.ws, watchOk (h.os.map Ob.p) p = true) ∧ (∀ p ∈ h.ds, watchOk (h.os.map Ob.p) p = true) := by
 by_cases hx : 60 < h.os.length ∨ 8 < h.rs.length ∨ 20 < h.ws.length + h.ds.length
 · rw [okP_big hx] at hok; simp at hok
 · have h1 : h.os.length ≤ 60 := by omega
   have h2 : h.rs.length ≤ 8 := by omega
   have h3 : h.ws.length + h.ds.length ≤ 20 := by omega
   rw [okP_small h1 h2 h3] at hok
   simp only [Bool.and_eq_true] at hok
   obtain ⟨a, b, c, d⟩ := hok
   refine ⟨h1, h2, h3, fun i hi => ?_, b, fun p hp => ?_, fun p hp => ?_⟩
   · rw [List.all_eq_true] at a
     exact a _ (List.getElem_mem hi)
   · rw [List.all_eq_true] at c; exact c p hp
   · rw [List.all_eq_true] at d; exact d p hp
theorem refs_lt {n : Nat} {r : List Int} (h : refsOk n r = true) : ∀ z ∈ r, -1 ≤ z ∧ z < n := fun z hz => by
 unfold refsOk at h
 rw [List.all_eq_true] at h
 have := h z hz
 simp [inB] at this
 omega
theorem okP_tr {h : Hp} (hok : okP h.p = true) (hs : Small h) (hcap : ∀ (i : Nat) (hi : i < h.os.length), h.os[i].r.length ≤ h.os[i].rcap) : Tr h := by
 obtain ⟨h1, _, _, h4, _, _, h7⟩ := okP_parts hok
 refine ⟨h1, fun i hi hk => ?_, hcap, fun x z hz => ?_, fun x => ?_⟩
 · have := h4 i hi
   simp only [objOk, Ob.p, Bool.and_eq_true] at this
   have h5 := this.2
   simp [kindOk, hk] at h5
   omega
 · by_cases hi : x.toNat < h.os.length
   · have hr : refsOk h.os.length h.os[x.toNat].r = true := by
       have := h4 _ hi
       simp only [objOk, Ob.p, Bool.and_eq_true] at this
       exact this.1
     rw [nextP_at rfl hi] at hz
     split at hz
     · exact (refs_lt hr z (List.mem_of_mem_drop hz)).2
     · split at hz
       · obtain ⟨p, hp, rfl⟩ := List.mem_map.1 hz
         have := h7 p (List.mem_filter.1 hp).1
         simp only [watchOk, inB, Bool.and_eq_true, decide_eq_true_eq, List.length_map] at this
         omega
       · exact (refs_lt hr z hz).2
   · have : nextP (h.os.map Ob.p) h.ds x = [] := by
       unfold nextP
       rw [List.getElem?_eq_none (by simp; omega)]
     rw [this] at hz
     simp at hz
 · by_cases hi : x.toNat < h.os.length
   · rw [nextP_at rfl hi]
     have hr := hs.oo _ hi
     have hd := hs.d
     split
     · rw [List.length_drop]; omega
     · split
       · rw [List.length_map]
         exact Nat.le_trans (List.length_filter_le _ _) hd
       · exact hr
   · have : nextP (h.os.map Ob.p) h.ds x = [] := by
       unfold nextP
       rw [List.getElem?_eq_none (by simp; omega)]
     rw [this]; simp
set_option maxHeartbeats 1600000 in
set_option maxRecDepth 100000 in
theorem l2Reach_any (h : Hp) (w : World) (hh : HpIn w h) (hs : Small h) (ht : Tr h) (hr : ∀ z ∈ h.rs, z < h.os.length) :
   Calls Cut.prog 58 #[h.v] w fun e w' => ∃ v', e = .returned v' ∧ OwnL w' w.heap.size v' (traceF (h.os.map Ob.p) h.ds 61 0 (putAll [] h.rs)) ∧ Places h.os.length (traceF (h.os.map Ob.p) h.ds 61 0 (putAll [] h.rs)) ∧ Below w.heap.size w w' := by
 have hn60 := ht.n60
 have hrl := hs.r
 go_enter (Cut.func_of Tryz.func58 rfl), Tryz.ntmps58
 simp only [Hp.v]
 go_wp2
 have hB0 : Below w.heap.size w (w.alloc (Obj.cells #[Value.slice h.oa h.os.length h.ocap, Value.slice h.ra h.rs.length h.rcap, Value.slice h.wa h.ws.length h.wcap, Value.slice h.da h.ds.length h.dcap] 27)) := (Below.refl _ _).alloc (Nat.le_refl _) _
 have hK0 := Blk.new w [Value.slice h.oa h.os.length h.ocap, Value.slice h.ra h.rs.length h.rcap, Value.slice h.wa h.ws.length h.wcap, Value.slice h.da h.ds.length h.dcap] 27
 have hO0 := World.ownsRow_lit (e := 3) (size := 1) (base := w.heap.size) (w.alloc (Obj.cells #[Value.slice h.oa h.os.length h.ocap, Value.slice h.ra h.rs.length h.rcap, Value.slice h.wa h.ws.length h.wcap, Value.slice h.da h.ds.length h.dcap] 27)) #[] 0 (by simp) (Nat.zero_le _) rfl
 simp only [World.size_alloc] at hO0
 have hB1 := hB0.alloc hB0.size (Obj.cells #[] 3)
 go_loopw [3, 4] (fun v i wr => ∃ (j : Nat), i = .int .i64 j ∧ j ≤ h.rs.length ∧ OwnL wr w.heap.size v (putAll [] (h.rs.take j)) ∧ Places h.os.length (putAll [] (h.rs.take j)) ∧ Below w.heap.size w wr ∧ (∀ k, v.ownBlock = some k → w.heap.size ≤ k) ∧ Blk wr w.heap.size [Value.slice h.oa h.os.length h.ocap, Value.slice h.ra h.rs.length h.rcap, Value.slice h.wa h.ws.length h.wcap, Value.slice h.da h.ds.length h.dcap] 27) (fun _ i _ => h.rs.length - (intOf i).toNat)
 case atStart => exact ⟨0, rfl, Nat.zero_le _, hO0, Places.nil _, hB1, fun k e => by simp [Value.ownBlock] at e; omega, hK0.alloc _⟩
 case round =>
   obtain ⟨j, rfl, hjn, hown, hpl, hb, hob, hblk⟩ := hrel
   clear hB0 hK0 hO0 hB1
   obtain ⟨x0, x1, x2, x3⟩ := cells4' hblk
   by_cases hj : j < h.rs.length
   · obtain ⟨va, vcap, rfl, -⟩ := hown.form
     have hpj := hpl.len
     have HP : Hid (putAll [] (h.rs.take (j + 1)) = put (putAll [] (h.rs.take j)) h.rs[j]) := putAll_snoc [] h.rs j hj
     have hz := hr h.rs[j] (List.getElem_mem hj)
     obtain ⟨b6, off6, e6, hb6, d1⟩ := hh.sr.get hj
     rw [e6] at x1
     clear e6
     have d2 := (hb.cell (p := ⟨b6, off6 + j, none⟩) hb6).trans d1
     have c3 := l2Put_any w.heap.size _ (putAll [] (h.rs.take j)) h.rs[j] wr hown hb.size (by omega)
     clear d1
     go_wp2_with fail
     refine c3.mono ?_
     rintro e w2 ⟨v', rfl, hown', hg', hat⟩
     have hb' := hb.trans (gb_below hg' hb.size hob)
     have hblk' := hblk.grown hg' (hown.ne hblk (by decide))
     have hob' : ∀ k, v'.ownBlock = some k → w.heap.size ≤ k := fun k e => (hown'.lt k e).1
     have hpl' : Hid (Places h.os.length (putAll [] (h.rs.take (j + 1)))) := by
       show Places _ _
       rw [HP.out]; exact hpl.put hz
     have hown2 : Hid (OwnL w2 w.heap.size v' (putAll [] (h.rs.take (j + 1)))) := by
       show OwnL _ _ _ _
       rw [HP.out]; exact hown'
     clear c3 hown hpl hob hblk hat hg' hown' x0 x1 x2 x3 d2
     go_wp2
     go_roundw
     case rel => exact ⟨j + 1, by go_num, by omega, hown2.out, hpl'.out, hb', hob', hblk'⟩
     case measure => simp [intOf]; omega
   · have ej : h.rs.take j = h.rs := List.take_of_length_le (by omega)
     rw [ej] at hown hpl
     have hjd : decide ((j : Int) < (h.rs.length : Int)) = false := by simp; omega
     have hin := hh.below hb (Nat.le_refl _)
     have hav : HpAv h u3.ownBlock := by
       cases e : u3.ownBlock with
       | none => exact HpAv.none h
       | some k => exact hh.av (hob k e)
     have c4 := l2Trace_any h w.heap.size 61 u3 (putAll [] h.rs) wr hin hs ht hown hb.size hav hpl (by omega)
     simp only [Hp.v] at c4
     clear ej
     go_wp2_with fail
     refine c4.mono ?_
     rintro e w2 ⟨v', rfl, hown', hpl', hg', hat⟩
     have hb' := hb.trans (gb_below hg' hb.size hob)
     clear c4
     go_wp2
     go_ret
     exact ⟨_, rfl, hown', hpl', hb'⟩
end Go.Proofs.YtcpnkpogebjieaaGreat
