/- The program's own MemOk: what is watched; the whole. -/
import Derived.Test.YtcpnkpogebjieaaGreatG16Ri4
import Derived.Test.YtcpnkpogebjieaaGreatG15Rs4
namespace Go.Proofs.YtcpnkpogebjieaaGreat
open Go.RowKit
theorem pl_in (p : Int) (n : Int) : plB p n = inB p 0 (n - 1) := by
 rw [Bool.eq_iff_iff]; simp [inB, plB]; omega
set_option maxHeartbeats 800000 in
set_option maxRecDepth 100000 in
theorem watchesOk_any (oa : Option Addr) (ocap : Nat) (os : List Ob) (a : Option Addr) (n cap : Nat) (ws : List (Int × Int)) (w : World) (hl : ws.length = n) (hn : n ≤ maxLen) (ho : SegO w oa os) (_hs : os.length ≤ 1048576) (hw : SegW w a ws) :
   Calls Cut.prog 47 #[.slice a n cap, .slice oa os.length ocap] w fun e w' => e = .returned (.bool (ws.all (watchOk (os.map Ob.p)))) ∧ Below w.heap.size w w' := by
 have hn1 := hn
 unfold maxLen at hn1
 go_enter (Cut.func_of Tryz.func47 rfl), Tryz.ntmps47
 go_wp2
 go_loopw [6, 9] (fun _ i wr => ∃ k : Nat, k ≤ n ∧ i = .int .i64 k ∧ Below w.heap.size w wr ∧ ∀ j (hj : j < ws.length), j < k → watchOk (os.map Ob.p) ws[j] = true) (fun _ i _ => n - (intOf i).toNat)
 case atStart => exact ⟨0, Nat.zero_le _, rfl, Below.refl _ _, fun j _ h => by omega⟩
 case round =>
   obtain ⟨k, hk, rfl, hb, hall⟩ := hrel
   by_cases hlt : k < n
   · have hkl : k < ws.length := by omega
     obtain ⟨b, off, rfl, hbw, c1, c2⟩ := hw.get hkl
     have d1 := (hb.cell (p := ⟨b, off + k * 2, none⟩) hbw).trans c1
     have d2 := (hb.cell (p := ⟨b, off + k * 2 + 1, none⟩) hbw).trans c2
     have hbA := hb.alloc hb.size (Obj.cells #[Value.int .i64 ws[k].1, Value.int .i64 ws[k].2] 40)
     have HA : Hid (∀ j (hj : j < ws.length), j < k → watchOk (os.map Ob.p) ws[j] = true) := hall
     clear hall c1 c2
     go_wp2_with fail
     refine (placeOk_any _ _ _).mono ?_
     rintro e w1 ⟨rfl, rfl⟩
     cases h1 : plB ws[k].1 (os.length : Int) with
     | false =>
       have HF : Hid (ws.all (watchOk (os.map Ob.p)) = false) := not_all hkl (by rw [pl_in] at h1; simp [watchOk, h1])
       clear h1
       go_wp2
       go_ret
       exact ⟨ret_bool HF.out.symm, hbA⟩
     | true =>
       have hx : 0 ≤ ws[k].1 ∧ ws[k].1 < (os.length : Int) := by simpa [plB] using h1
       obtain ⟨hx0, hx1⟩ := hx
       have H1 : Hid (plB ws[k].1 (os.length : Int) = true) := h1
       clear h1
       go_wp2_with fail
       refine (placeOk_any _ _ _).mono ?_
       rintro e w1 ⟨rfl, rfl⟩
       cases h2 : plB ws[k].2 (os.length : Int) with
       | false =>
         have HF : Hid (ws.all (watchOk (os.map Ob.p)) = false) := not_all hkl (by rw [pl_in] at h2; simp [watchOk, h2])
         clear h2
         go_wp2
         go_ret
         exact ⟨ret_bool HF.out.symm, hbA⟩
       | true =>
         have hgl : ws[k].1.toNat < os.length := by omega
         obtain ⟨b2, off2, rfl, hbw2, e1, _, _⟩ := ho.get hgl
         have f1 := (hbA.cell (p := ⟨b2, off2 + ws[k].1.toNat * 3, none⟩) hbw2).trans e1
         have HW : Hid (watchOk (os.map Ob.p) ws[k] = decide (os[ws[k].1.toNat].k = 4)) := by
           show _ = _
           have h1 := H1.out
           rw [pl_in] at h1 h2
           simp [watchOk, h1, h2, hgl, Ob.p]
         clear h2 e1
         by_cases h4 : os[ws[k].1.toNat].k = 4
         · have hb4 : (os[ws[k].1.toNat].k != 4) = false := by simp [h4]
           have HR : Hid (∀ j (hj : j < ws.length), j < k + 1 → watchOk (os.map Ob.p) ws[j] = true) := all_succ HA.out hkl (by rw [HW.out]; simp [h4])
           clear h4
           go_wp2
           go_roundw
           case rel => exact ⟨k + 1, by omega, by go_num, hbA, HR.out⟩
           case measure => simp [intOf]; omega
         · have hb4 : (os[ws[k].1.toNat].k != 4) = true := by simp [h4]
           have HF : Hid (ws.all (watchOk (os.map Ob.p)) = false) := not_all hkl (by rw [HW.out]; simp [h4])
           clear h4
           go_wp2
           go_ret
           exact ⟨ret_bool HF.out.symm, hbA⟩
   · have HF : Hid (ws.all (watchOk (os.map Ob.p)) = true) := all_of (fun i hi => hall i hi (by omega))
     clear hall
     go_wp2
     go_ret
     exact ⟨ret_bool HF.out.symm, hb⟩
set_option maxHeartbeats 1600000 in
set_option maxRecDepth 100000 in
theorem implMemOk_any (h : Hp) (w : World) (hh : HpIn w h) (hs : Small h) (ht : ∀ i (hi : i < h.os.length), h.os[i].t.size ≤ maxLen) :
   Calls Cut.prog 13 #[h.v] w fun e w' => e = .returned (.bool (okP h.p)) ∧ Below w.heap.size w w' := by
 have hbig := @okP_big h
 have hsmall := @okP_small h
 generalize okP h.p = OK at hbig hsmall ⊢
 obtain ⟨oa, ocap, os, ra, rcap, rs, wa, wcap, ws, da, dcap, ds⟩ := h
 obtain ⟨ho, hr, hw, hd⟩ := hh
 obtain ⟨so, soo, sr, sw, sd⟩ := hs
 simp only [Hp.v] at *
 have Hbig : Hid (60 < os.length ∨ 8 < rs.length ∨ 20 < ws.length + ds.length → OK = false) := hbig
 clear hbig
 by_cases g1 : 60 < os.length
 · have HO : Hid (OK = false) := Hbig.out (Or.inl g1)
   clear Hbig hsmall
   go_enter (Cut.func_of Tryz.func13 rfl), Tryz.ntmps13
   go_wp2
   go_ret
   exact ⟨ret_bool HO.out.symm, (Below.refl _ _).alloc (Nat.le_refl _) _⟩
 by_cases g2 : 8 < rs.length
 · have HO : Hid (OK = false) := Hbig.out (Or.inr (Or.inl g2))
   clear Hbig hsmall
   go_enter (Cut.func_of Tryz.func13 rfl), Tryz.ntmps13
   go_wp2
   go_ret
   exact ⟨ret_bool HO.out.symm, (Below.refl _ _).alloc (Nat.le_refl _) _⟩
 by_cases g3 : 20 < ws.length + ds.length
 · have HO : Hid (OK = false) := Hbig.out (Or.inr (Or.inr g3))
   have g3' : (20 : Int) < (ws.length : Int) + (ds.length : Int) := by omega
   clear Hbig hsmall
   go_enter (Cut.func_of Tryz.func13 rfl), Tryz.ntmps13
   go_wp2
   go_ret
   exact ⟨ret_bool HO.out.symm, (Below.refl _ _).alloc (Nat.le_refl _) _⟩
 have HO : Hid (OK = (os.all (fun o => objOk os.length o.p) && (refsOk os.length rs && (ws.all (watchOk (os.map Ob.p)) && ds.all (watchOk (os.map Ob.p)))))) := hsmall (by omega) (by omega) (by omega)
 clear hsmall Hbig
 have k1 : decide ((60 : Int) < (os.length : Int)) = false := by simp; omega
 have k2 : decide ((8 : Int) < (rs.length : Int)) = false := by simp; omega
 have k3 : decide ((20 : Int) < (ws.length : Int) + (ds.length : Int)) = false := by simp; omega
 go_enter (Cut.func_of Tryz.func13 rfl), Tryz.ntmps13
 go_wp2
 have hB0 : Below w.heap.size w (w.alloc (Obj.cells #[Value.slice oa os.length ocap, Value.slice ra rs.length rcap, Value.slice wa ws.length wcap, Value.slice da ds.length dcap] 27)) := (Below.refl _ _).alloc (Nat.le_refl _) _
 have hK0 : Blk (w.alloc (Obj.cells #[Value.slice oa os.length ocap, Value.slice ra rs.length rcap, Value.slice wa ws.length wcap, Value.slice da ds.length dcap] 27)) w.heap.size [Value.slice oa os.length ocap, Value.slice ra rs.length rcap, Value.slice wa ws.length wcap, Value.slice da ds.length dcap] 27 := Blk.new w _ _
 go_loopw [4, 28] (fun _ i wr => ∃ k : Nat, k ≤ os.length ∧ i = .int .i64 k ∧ Below w.heap.size w wr ∧ Blk wr w.heap.size [Value.slice oa os.length ocap, Value.slice ra rs.length rcap, Value.slice wa ws.length wcap, Value.slice da ds.length dcap] 27 ∧ ∀ j (hj : j < os.length), j < k → objOk os.length os[j].p = true) (fun _ i _ => os.length - (intOf i).toNat)
 case atStart => exact ⟨0, Nat.zero_le _, rfl, hB0, hK0, fun j _ h => by omega⟩
 case round =>
   obtain ⟨k, hk, rfl, hb, hblk, hall⟩ := hrel
   clear hB0 hK0
   have c0 := hblk.cell 0
   have c1 := hblk.cell 1
   have c2 := hblk.cell 2
   have c3 := hblk.cell 3
   simp only [List.getElem?_cons_zero, List.getElem?_cons_succ] at c0 c1 c2 c3
   have hsz := hblk.lt
   by_cases hlt : k < os.length
   · have HA : Hid (∀ j (hj : j < os.length), j < k → objOk os.length os[j].p = true) := hall
     clear hall
     have hrl : os[k].r.length ≤ maxLen := by have := soo k hlt; unfold maxLen; omega
     have htl := ht k hlt
     have s0 := (ho.2 k hlt).below hb (Nat.le_refl _)
     obtain ⟨b, off, rfl, hbw, e1, e2, e3⟩ := ho.get hlt
     have d1 := (hb.cell (p := ⟨b, off + k * 3, none⟩) hbw).trans e1
     have d2 := (hb.cell (p := ⟨b, off + k * 3 + 1, none⟩) hbw).trans e2
     have d3 := (hb.cell (p := ⟨b, off + k * 3 + 2, none⟩) hbw).trans e3
     have hi1 : (k : Int) < (os.length : Int) := by omega
     clear e1 e2 e3
     have bX : Below wr.heap.size wr (wr.alloc (Obj.cells #[Value.int .i64 os[k].k, Value.string os[k].t, Value.slice os[k].ra os[k].r.length os[k].rcap] 37)).drew := ((Below.refl wr.heap.size wr).alloc (Nat.le_refl _) _).drew
     have sX := s0.below bX (Nat.le_refl _)
     have cX := (bX.cell (p := ⟨w.heap.size, 0, none⟩) hsz).trans c0
     have zX : w.heap.size < (wr.alloc (Obj.cells #[Value.int .i64 os[k].k, Value.string os[k].t, Value.slice os[k].ra os[k].r.length os[k].rcap] 37)).drew.heap.size := Nat.lt_of_lt_of_le hsz bX.size
     have hbX := hb.trans (bX.mono hb.size)
     have kX := hblk.below bX hsz
     clear s0 bX
     go_wp2_with fail
     go_region_with (first
       | (go_at_call 45; refine (thingOf_any _ _ _ _ _ os[k].r _ rfl sX).mono ?_; rintro e w1 ⟨rfl, hbx⟩; have s1 := sX.below hbx (Nat.le_refl _); have cx1 := (hbx.cell (p := ⟨w.heap.size, 0, none⟩) zX).trans cX)
       | (go_at_call 44; refine (thingOk_of _ _ _ _ _ os[k].r _ _ rfl hrl htl s1 (by omega)).mono ?_; rintro e w2 ⟨rfl, hby⟩))
     all_goals
       have h1 := hbX.trans (hbx.mono hbX.size)
       have hbb := h1.trans (hby.mono h1.size)
       have q1 := kX.below hbx zX
       have hblk1 := q1.below hby q1.lt
       clear hbx hby d1 d2 d3 sX s1 cx1 cX c0 c1 c2 c3 q1 h1 kX hbX hblk hb
       cases hob : objOk os.length (os[k].k, os[k].t, os[k].r) with
       | false =>
         have HF : Hid (OK = false) := by
           show OK = false
           rw [HO.out, not_all (f := fun o => objOk os.length o.p) hlt hob]; rfl
         clear hob
         go_wp2
         go_ret
         exact ⟨ret_bool HF.out.symm, hbb⟩
       | true =>
         have HR : Hid (∀ j (hj : j < os.length), j < k + 1 → objOk os.length os[j].p = true) := all_succ (f := fun (o : Ob) => objOk os.length o.p) HA.out hlt hob
         clear hob
         go_wp2
         go_roundw
         case rel => exact ⟨k + 1, by omega, by go_num, hbb, hblk1, HR.out⟩
         case measure => simp [intOf]; omega
   · have HO1 : Hid (OK = (refsOk os.length rs && (ws.all (watchOk (os.map Ob.p)) && ds.all (watchOk (os.map Ob.p))))) := by
       show OK = _
       rw [HO.out, all_of (f := fun o => objOk os.length o.p) (fun i hi => hall i hi (by omega)), Bool.true_and]
     have hnk : decide ((k : Int) < (os.length : Int)) = false := by simp; omega
     clear hall HO
     go_wp2_with fail
     refine (placesOk_any ra rs.length rcap rs os.length wr rfl (by unfold maxLen; omega) (hr.below hb (Nat.le_refl _)) (by omega)).mono ?_
     rintro e w1 ⟨rfl, rfl⟩
     cases hob : refsOk os.length rs with
     | false =>
       have HF : Hid (OK = false) := by
         show OK = false
         rw [HO1.out, hob]; rfl
       clear hob
       go_wp2
       go_ret
       exact ⟨ret_bool HF.out.symm, hb⟩
     | true =>
       have HO2 : Hid (OK = (ws.all (watchOk (os.map Ob.p)) && ds.all (watchOk (os.map Ob.p)))) := by
         show OK = _
         rw [HO1.out, hob, Bool.true_and]
       clear hob HO1
       go_wp2_with fail
       refine (watchesOk_any oa ocap os wa ws.length wcap ws _ rfl (by unfold maxLen; omega) (ho.below hb (Nat.le_refl _)) so (hw.below hb (Nat.le_refl _))).mono ?_
       rintro e w1 ⟨rfl, hb1⟩
       have hbb := hb.trans (hb1.mono hb.size)
       have hblk1 := hblk.below hb1 hsz
       clear c0 c1 c2 c3
       have c0 := hblk1.cell 0
       have c3 := hblk1.cell 3
       simp only [List.getElem?_cons_zero, List.getElem?_cons_succ] at c0 c3
       cases hob : ws.all (watchOk (os.map Ob.p)) with
       | false =>
         have HF : Hid (OK = false) := by
           show OK = false
           rw [HO2.out, hob]; rfl
         clear hob
         go_wp2
         go_ret
         exact ⟨ret_bool HF.out.symm, hbb⟩
       | true =>
         have HF : Hid (OK = ds.all (watchOk (os.map Ob.p))) := by
           show OK = _
           rw [HO2.out, hob, Bool.true_and]
         clear hob
         go_wp2_with fail
         refine (watchesOk_any oa ocap os da ds.length dcap ds _ rfl (by unfold maxLen; omega) (ho.below hbb (Nat.le_refl _)) so (hd.below hbb (Nat.le_refl _))).mono ?_
         rintro e w2 ⟨rfl, hb2⟩
         have hb3 := hbb.trans (hb2.mono hbb.size)
         go_wp2
         go_ret
         exact ⟨ret_bool HF.out.symm, hb3⟩
end Go.Proofs.YtcpnkpogebjieaaGreat
