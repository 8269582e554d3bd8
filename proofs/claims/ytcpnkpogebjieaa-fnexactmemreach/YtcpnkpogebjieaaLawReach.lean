/- The law on MemReach, walked out of the contracts of what it calls. -/
import Derived.Test.YtcpnkpogebjieaaRi5
import Derived.Test.YtcpnkpogebjieaaMk2
import Derived.Test.YtcpnkpogebjieaaLawOk
namespace Go.Proofs.Ytcpnkpogebjieaa
open Go.RowKit

theorem OwnH.below {w w' : World} {B C go gr gw gd : Nat} {h : Hp} (hh : OwnH w B h go gr gw gd) (hb : Below C w w') (hC : w.heap.size ≤ C) : OwnH w' B h go gr gw gd :=
  ⟨hh.oa, hh.ocap, hh.ra, hh.rcap, hh.wa, hh.wcap, hh.da, hh.dcap, hh.le, hh.lt1, hh.lt2, hh.lt3, hh.bo.below hb (Nat.lt_of_lt_of_le hh.bo.lt hC), hh.own.below hb hC, hh.olt, hh.br.below hb (Nat.lt_of_lt_of_le hh.br.lt hC), hh.bw.below hb (Nat.lt_of_lt_of_le hh.bw.lt hC), hh.bd.below hb (Nat.lt_of_lt_of_le hh.bd.lt hC)⟩
theorem OwnH.caps {w : World} {B go gr gw gd : Nat} {h : Hp} (hh : OwnH w B h go gr gw gd) : ∀ (i : Nat) (hi : i < h.os.length), h.os[i].r.length ≤ h.os[i].rcap := fun i hi => by
  obtain ⟨g, _, _, h3, _⟩ := hh.own i hi
  omega

theorem reach_len {h : Hp} (hs : Small h) (hcap : ∀ (i : Nat) (hi : i < h.os.length), h.os[i].r.length ≤ h.os[i].rcap) : (reachP h.p).length ≤ 60 := by
  cases hok : okP h.p with
  | false => simp [reachP, hok]
  | true =>
    have htr := okP_tr hok hs hcap
    have e : reachP h.p = traceF (h.os.map Ob.p) h.ds 61 0 (putAll [] h.rs) := by simp only [reachP, hok, if_true]; rfl
    have := (trace_places htr 61 0 ((Places.nil _).putAll (fun z hz => (refs_lt (okP_parts hok).2.2.2.2.1 z hz).2))).len
    have := htr.n60
    rw [e]
    omega

set_option maxHeartbeats 4000000 in
set_option maxRecDepth 100000 in
theorem lawMemReach_any (h : Hp) (w : World) (hh : HpIn w h) (hf : Fits h) :
    Calls Try.prog 5 #[h.v] w fun e w' => e = .returned (.bool true) ∧ Below w.heap.size w w' := by
  go_enter Try.func5, Try.ntmps5
  simp only [Hp.v]
  go_wp2_with fail
  have hB0 : Below w.heap.size w (w.alloc (Obj.cells #[Value.slice h.oa h.os.length h.ocap, Value.slice h.ra h.rs.length h.rcap, Value.slice h.wa h.ws.length h.wcap, Value.slice h.da h.ds.length h.dcap] 37)) := (Below.refl _ _).alloc (Nat.le_refl _) _
  have hK0 := Blk.new w [Value.slice h.oa h.os.length h.ocap, Value.slice h.ra h.rs.length h.rcap, Value.slice h.wa h.ws.length h.wcap, Value.slice h.da h.ds.length h.dcap] 37
  have c1 := szMemHeap_any h 1048576 _ (hh.below hB0 (Nat.le_refl _)) hf (by omega) (by omega)
  simp only [Hp.v] at c1
  refine c1.mono ?_
  rintro e w1 ⟨r, rfl, hb1, hr⟩
  have hB1 := hB0.trans (hb1.mono hB0.size)
  have hK1 := hK0.below hb1 hK0.lt
  clear c1 hb1 hB0 hK0
  by_cases hneg : r < 0
  · go_wp2
    go_ret
    exact ⟨rfl, hB1⟩
  have hs := hr (by omega)
  clear hr
  obtain ⟨x0, x1, x2, x3⟩ := cells4 hK1
  have ht : ∀ i (hi : i < h.os.length), h.os[i].t.size ≤ maxLen := fun i hi => (hf.oo i hi).2
  have c2 := toMemHeap_any h w1 (hh.below hB1 (Nat.le_refl _)) hs
  simp only [Hp.v] at c2
  go_wp2_with fail
  refine c2.mono ?_
  rintro e w2 ⟨h1, go1, gr1, gw1, gd1, rfl, hp1, hb2, own1⟩
  have hB2 := hB1.trans (hb2.mono hB1.size)
  have hK2 := hK1.below hb2 hK1.lt
  have hlen := reach_len (Small.of_p hp1 hs) own1.caps
  have c3 := specMemReach_any h1 w2 own1.isIn (Small.of_p hp1 hs) (text_of_p hp1 ht) own1.caps
  rw [hp1] at c3 hlen
  simp only [Hp.v] at c3
  generalize hRR : reachP h.p = R at c3 hlen
  have HRR : Hid (reachP h.p = R) := hRR
  clear c2 hb2 hB1 hK1 x0 x1 x2 x3 hp1 own1 hRR
  go_wp2_with fail
  refine c3.mono ?_
  rintro e w3 ⟨v0, rfl, hv0, hb3⟩
  have hB3 := hB2.trans (hb3.mono hB2.size)
  have hK3 := hK2.below hb3 hK2.lt
  have hrow0 : ∀ k, v0.ownBlock = some k → k < w3.heap.size := fun k e => (hv0.lt k e).2
  have hw3 : w.heap.size < w3.heap.size := hK3.lt
  clear c3 hb3 hB2 hK2
  obtain ⟨va0, vcap0, rfl, -⟩ := hv0.form
  obtain ⟨x0, x1, x2, x3⟩ := cells4 hK3
  have c4 := toMemHeap_any h w3 (hh.below hB3 (Nat.le_refl _)) hs
  simp only [Hp.v] at c4
  go_wp2_with fail
  refine c4.mono ?_
  rintro e w4 ⟨h2, go2, gr2, gw2, gd2, rfl, hp2, hb4, own2⟩
  have hB4 := hB3.trans (hb4.mono hB3.size)
  have hK4 := hK3.below hb4 hK3.lt
  have hv4 := hv0.below hb4 (Nat.le_refl _)
  have hgd2 := own2.bd.lt
  have hle2 := own2.le
  have hl34 := hb4.size
  clear c4 hb4 hB3 hK3 hv0 x0 x1 x2 x3
  have hbX : Below w4.heap.size w4 (w4.alloc (Obj.cells #[Value.slice h2.oa h2.os.length h2.ocap, Value.slice h2.ra h2.rs.length h2.rcap, Value.slice h2.wa h2.ws.length h2.wcap, Value.slice h2.da h2.ds.length h2.dcap] 27)) := (Below.refl _ _).alloc (Nat.le_refl _) _
  have own3 := own2.below hbX (Nat.le_refl _)
  have hKX := Blk.new w4 [Value.slice h2.oa h2.os.length h2.ocap, Value.slice h2.ra h2.rs.length h2.rcap, Value.slice h2.wa h2.ws.length h2.wcap, Value.slice h2.da h2.ds.length h2.dcap] 27
  have hB5 := hB4.trans (hbX.mono hB4.size)
  have hK5 := hK4.below hbX hK4.lt
  have hv5 := hv4.below hbX (Nat.le_refl _)
  have HP2 : Hid (h2.p = h.p) := hp2
  have hs2 := Small.of_p hp2 hs
  have c5 := implMemReach_any h2 _ own3.isIn hs2 (text_of_p hp2 ht) own3.caps
  rw [hp2, HRR.out] at c5
  simp only [Hp.v] at c5
  clear hp2 own2 hbX hB4 hK4 hv4
  go_wp2_with fail
  refine c5.mono ?_
  rintro e w5 ⟨g0, rfl, hg0, hb5⟩
  have hB6 := hB5.trans (hb5.mono hB5.size)
  have hK6 := hK5.below hb5 hK5.lt
  have hKY := hKX.below hb5 hKX.lt
  have own6 := own3.below hb5 (Nat.le_refl _)
  have hv6 := hv5.below hb5 (Nat.le_refl _)
  have hrowg : ∀ k, g0.ownBlock = some k → w4.heap.size + 1 ≤ k := fun k e => by have := (hg0.lt k e).1; simpa using this
  clear c5 hb5 hB5 hK5 hKX own3 hv5
  obtain ⟨ga, gcap, rfl, -⟩ := hg0.form
  obtain ⟨_, _, ev, hsg0, -⟩ := hg0.form
  cases ev
  obtain ⟨_, _, ev, hsv6, -⟩ := hv6.form
  cases ev
  go_wp2_with fail
  have c6 := eqIntS_any ga va0 R.length R.length gcap vcap0 R R w5 rfl rfl hsg0 hsv6 (by unfold maxLen; omega) (by unfold maxLen; omega)
  refine c6.mono ?_
  rintro e w6 ⟨rfl, hb6⟩
  simp only [decide_true]
  have hB7 := hB6.trans (hb6.mono hB6.size)
  have hK7 := hK6.below hb6 hK6.lt
  have hKZ := hKY.below hb6 hKY.lt
  have own7 := own6.below hb6 (Nat.le_refl _)
  have hv7 := hv6.below hb6 (Nat.le_refl _)
  have hg7 := hg0.below hb6 (Nat.le_refl _)
  clear c6 hb6 hB6 hK6 hKY own6 hv6 hg0 hsg0 hsv6
  obtain ⟨x0, x1, x2, x3⟩ := cells4 hK7
  obtain ⟨y0, y1, y2, y3⟩ := cells4 hKZ
  have hdr : Below w6.heap.size w6 w6.drew := (Below.refl _ _).drew
  have c7 := toMemHeap_any h w6.drew ((hh.below hB7 (Nat.le_refl _)).below hdr (Nat.le_refl _)) hs
  simp only [Hp.v] at c7
  have hI7 := (own7.isIn).below hdr (Nat.le_refl _)
  have hKZd := hKZ.below hdr hKZ.lt
  go_wp2_with fail
  go_region_with (first
    | (go_at_call 16; refine c7.mono ?_; rintro e w7 ⟨h3, go3, gr3, gw3, gd3, rfl, hp3, hb7, own8⟩; have hKW := hKZd.below hb7 hKZd.lt; obtain ⟨z0, z1, z2, z3⟩ := cells4 hKW; have c8 := eqMemHeap_eq h2 h3 w7 (HP2.out.trans hp3.symm) (hI7.below hb7 (Nat.le_refl _)) own8.isIn hs2; simp only [Hp.v] at c8; clear hp3)
    | (go_at_call 17; refine c8.mono ?_; rintro e w8 ⟨rfl, hb8⟩))
  all_goals
    have hst := (hdr.trans hb7).trans (hb8.mono (hdr.trans hb7).size)
    have hB9 := hB7.trans (hst.mono hB7.size)
    have hK9 := hK7.below hst hK7.lt
    have hKX9 := hKZ.below hst hKZ.lt
    have own9 := own7.below hst (Nat.le_refl _)
    have hv9 := hv7.below hst (Nat.le_refl _)
    have hg9 := hg7.below hst (Nat.le_refl _)
    clear hst hb7 hb8 hdr c7 c8 hI7 hKZd hKW own8 hB7 hK7 hKZ own7 hv7 hg7 x0 x1 x2 x3 y0 y1 y2 y3 z0 z1 z2 z3 w7
    obtain ⟨y0, y1, y2, y3⟩ := cells4 hKX9
    have c9 := markMemHeap_any w3.heap.size go2 gr2 gw2 gd2 h2 w8 hs2 own9
    simp only [Hp.v] at c9
    go_wp2_with fail
    refine c9.mono ?_
    rintro e w9 ⟨q, rfl, hq, hrg⟩
    have hgo8 := own9.bo.lt
    have hB10 := hB9.trans ((hrg.below (by omega)).mono (by omega))
    have hK10 := hK9.rg hrg (Or.inl (by omega))
    have hv10 := hv9.rg hrg (fun k e => Or.inl (by have := hrow0 k e; omega))
    have hg10 := hg9.rg hrg (fun k e => Or.inr (by have := hrowg k e; omega))
    clear c9 hrg own9 hB9 hK9 hv9 hg9 hKX9 y0 y1 y2 y3
    obtain ⟨_, _, ev, hsg, -⟩ := hg10.form
    cases ev
    obtain ⟨_, _, ev, hsv, -⟩ := hv10.form
    cases ev
    have hqd : decide (q < 0) = false := by simp; omega
    have c10 := eqIntS_any ga va0 R.length R.length gcap vcap0 R R w9 rfl rfl hsg hsv (by unfold maxLen; omega) (by unfold maxLen; omega)
    go_wp2_with fail
    refine c10.mono ?_
    rintro e w10 ⟨rfl, hb10⟩
    simp only [decide_true]
    have hB11 := hB10.trans (hb10.mono hB10.size)
    have hK11 := hK10.below hb10 hK10.lt
    have hv11 := hv10.below hb10 (Nat.le_refl _)
    have hg11 := hg10.below hb10 (Nat.le_refl _)
    clear c10 hb10 hB10 hK10 hv10 hg10 hsg hsv
    have c11 := markIntS_own _ _ R 1 w10 (by omega) (by omega) (by omega) hg11
    go_wp2_with fail
    refine c11.mono ?_
    rintro e w11 ⟨rfl, hg12, hgb⟩
    have hB12 := hB11.trans (gb_below hgb hB11.size (fun k e => by have := hrowg k e; omega))
    have hK12 := hK11.grown hgb (fun e => by have := hrowg _ e; omega)
    have hv12 := hv11.kept hgb (by
      cases e : (Value.slice va0 R.length vcap0).ownBlock with
      | none => exact Or.inl rfl
      | some k => exact Or.inr (fun e2 => by have := hrow0 k e; have := hrowg k e2.symm; omega))
    clear c11 hgb hB11 hK11 hv11 hg11
    obtain ⟨a', _, ev, hsm, -⟩ := hg12.form
    have ea : a' = ga := by simp at ev; exact ev.1.symm
    subst ea
    clear ev
    have c12 := heldIntS_any a' R.length gcap 1 w11 (by omega) (by omega) (by omega) hsm
    go_wp2_with fail
    refine c12.mono ?_
    rintro e w12 ⟨rfl, rfl⟩
    clear c12
    obtain ⟨x0, x1, x2, x3⟩ := cells4 hK12
    have c13 := toMemHeap_any h w12 (hh.below hB12 (Nat.le_refl _)) hs
    simp only [Hp.v] at c13
    have hd1 : decide ((1 : Int) + (R.length : Int) < 0) = false := by simp; omega
    have hd2 : (((1 : Int) + (R.length : Int)) != ((1 : Int) + (R.length : Int))) = false := by simp
    go_wp2_with fail
    refine c13.mono ?_
    rintro e w13 ⟨h4, go4, gr4, gw4, gd4, rfl, hp4, hb13, own13⟩
    have hB13 := hB12.trans (hb13.mono hB12.size)
    have hv13 := hv12.below hb13 (Nat.le_refl _)
    have hsm13 := hsm.below hb13 (Nat.le_refl _)
    have c14 := implMemReach_any h4 _ own13.isIn (Small.of_p hp4 hs) (text_of_p hp4 ht) own13.caps
    rw [hp4, HRR.out] at c14
    simp only [Hp.v] at c14
    clear c13 hb13 hB12 hK12 hv12 hg12 hsm x0 x1 x2 x3 hp4 own13
    go_wp2_with fail
    refine c14.mono ?_
    rintro e w14 ⟨v14, rfl, hv14, hb14⟩
    have hB14 := hB13.trans (hb14.mono hB13.size)
    have hv15 := hv13.below hb14 (Nat.le_refl _)
    have hsm14 := hsm13.below hb14 (Nat.le_refl _)
    obtain ⟨a14, cap14, rfl, hs14, -⟩ := hv14.form
    obtain ⟨_, _, ev, hs15, -⟩ := hv15.form
    cases ev
    have c15 := eqIntS_any a14 va0 R.length R.length cap14 vcap0 R R w14 rfl rfl hs14 hs15 (by unfold maxLen; omega) (by unfold maxLen; omega)
    clear c14 hb14 hB13 hv13 hsm13 hv14 hv15
    go_wp2_with fail
    refine c15.mono ?_
    rintro e w15 ⟨rfl, hb15⟩
    simp only [decide_true]
    have hB15 := hB14.trans (hb15.mono hB14.size)
    have hsm15 := hsm14.below hb15 (Nat.le_refl _)
    have c16 := heldIntS_any a' R.length gcap 1 w15 (by omega) (by omega) (by omega) hsm15
    clear c15 hb15 hB14 hs14 hs15
    go_wp2_with fail
    refine c16.mono ?_
    rintro e w16 ⟨rfl, rfl⟩
    clear c16
    go_wp2
    go_ret
    exact ⟨rfl, hB15⟩
end Go.Proofs.Ytcpnkpogebjieaa
