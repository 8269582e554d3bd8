/- The specification's own coming to: a list and all that can be come to from it; the whole. -/
import Derived.Test.YtcpnkpogebjieaaRs2
import Derived.Deep.RegionWith
namespace Go.Proofs.Ytcpnkpogebjieaa
open Go.RowKit

/-- What a heap must be for tracing. -/
structure Tr (h : Hp) : Prop where
  n60 : h.os.length ≤ 60
  weak : ∀ (i : Nat) (hi : i < h.os.length), h.os[i].k = 3 → 1 ≤ h.os[i].r.length
  cap : ∀ (i : Nat) (hi : i < h.os.length), h.os[i].r.length ≤ h.os[i].rcap
  nx : ∀ x, ∀ z ∈ nextP (h.os.map Ob.p) h.ds x, z < h.os.length
  nl : ∀ x, (nextP (h.os.map Ob.p) h.ds x).length ≤ 1048576

set_option maxHeartbeats 1600000 in
set_option maxRecDepth 100000 in
theorem l2Trace_any (h : Hp) (base F : Nat) (v0 : Value) (l0 : List Int) (w : World) (hh : HpIn w h) (hs : Small h) (ht : Tr h) (hv : OwnL w base v0 l0) (hb : base ≤ w.heap.size) (hav : HpAv h v0.ownBlock) (hpl : Places h.os.length l0) (hF : h.os.length ≤ F) :
    Calls Try.prog 64 #[h.v, v0] w fun e w' => ∃ v', e = .returned v' ∧ OwnL w' base v' (traceF (h.os.map Ob.p) h.ds F 0 l0) ∧ Places h.os.length (traceF (h.os.map Ob.p) h.ds F 0 l0) ∧ w.grownBy w' v0.ownBlock ∧ (v'.ownBlock = v0.ownBlock ∨ ∃ g, v'.ownBlock = some g ∧ w.heap.size ≤ g) := by
  have hn60 := ht.n60
  generalize hR : traceF (h.os.map Ob.p) h.ds F 0 l0 = R
  have HR : Hid (traceF (h.os.map Ob.p) h.ds F 0 l0 = R) := hR
  clear hR
  obtain ⟨a0, cap0, rfl, -⟩ := hv.form
  go_enter Try.func64, Try.ntmps64
  simp only [Hp.v]
  go_wp2
  have hB0 : Below w.heap.size w (w.alloc (Obj.cells #[Value.slice h.oa h.os.length h.ocap, Value.slice h.ra h.rs.length h.rcap, Value.slice h.wa h.ws.length h.wcap, Value.slice h.da h.ds.length h.dcap] 27)) := (Below.refl _ _).alloc (Nat.le_refl _) _
  have hK0 := Blk.new w [Value.slice h.oa h.os.length h.ocap, Value.slice h.ra h.rs.length h.rcap, Value.slice h.wa h.ws.length h.wcap, Value.slice h.da h.ds.length h.dcap] 27
  go_loopw [1, 5] (fun v i wr => ∃ (k f : Nat) (l : List Int), i = .int .i64 k ∧ k ≤ h.os.length ∧ OwnL wr base v l ∧ Places h.os.length l ∧ traceF (h.os.map Ob.p) h.ds f k l = R ∧ h.os.length ≤ k + f ∧ HpIn wr h ∧ HpAv h v.ownBlock ∧ w.grownBy wr (Value.slice a0 l0.length cap0).ownBlock ∧ (v.ownBlock = (Value.slice a0 l0.length cap0).ownBlock ∨ ∃ g, v.ownBlock = some g ∧ w.heap.size ≤ g) ∧ Blk wr w.heap.size [Value.slice h.oa h.os.length h.ocap, Value.slice h.ra h.rs.length h.rcap, Value.slice h.wa h.ws.length h.wcap, Value.slice h.da h.ds.length h.dcap] 27) (fun _ i _ => h.os.length - (intOf i).toNat)
  case atStart => exact ⟨0, F, l0, rfl, Nat.zero_le _, hv.below hB0 (Nat.le_refl _), hpl, HR.out, by omega, hh.below hB0 (Nat.le_refl _), hav, gb_of_below hB0 (Nat.le_refl _) _, Or.inl rfl, hK0⟩
  case round =>
    obtain ⟨k, f, l, rfl, hkn, hown, hpl2, htr, hkf, hin, hav2, hgr, hob, hblk⟩ := hrel
    clear hB0 hK0 hv hav hh hpl
    have HT : Hid (traceF (h.os.map Ob.p) h.ds f k l = R) := htr
    clear htr
    have hll := hpl2.len
    obtain ⟨va, vcap, rfl, hseg, -⟩ := hown.form
    by_cases hlt : k < l.length
    · obtain ⟨f', rfl⟩ : ∃ f', f = f' + 1 := ⟨f - 1, by omega⟩
      have hx := hpl2.rng l[k] (List.getElem_mem hlt)
      have HT2 : Hid (traceF (h.os.map Ob.p) h.ds f' (k + 1) (putAll l (nextP (h.os.map Ob.p) h.ds l[k])) = R) := by
        have := HT.out
        unfold traceF at this
        rw [if_pos hlt] at this
        have e : l.getD k 0 = l[k] := by simp [List.getD, List.getElem?_eq_getElem hlt]
        rw [e] at this
        exact this
      obtain ⟨b, off, rfl, hbw, c1⟩ := hseg.get hlt
      obtain ⟨x0, x1, x2, x3⟩ := cells4' hblk
      have hdr : Below wr.heap.size wr wr.drew := (Below.refl _ _).drew
      have c2 := l2Next_any h l[k] wr.drew (hin.below hdr (Nat.le_refl _)) hs hx.1 hx.2 ht.weak ht.cap
      simp only [Hp.v] at c2
      have hi1 : (k : Int) < (l.length : Int) := by omega
      have hnx := ht.nx l[k]
      have hnl := ht.nl l[k]
      generalize nextP (h.os.map Ob.p) h.ds l[k] = nx at c2 HT2 hnx hnl
      have hkn2 : k < h.os.length := by omega
      clear HT
      go_wp2_with fail
      go_region_with (go_at_call 84; refine c2.mono ?_; rintro e w1 ⟨nv, rfl, na, ncap, ⟨rfl, hnseg, hnb, hnav⟩⟩)
      all_goals
        have hst := hdr.trans hnb
        have hown1 := hown.below hst (Nat.le_refl _)
        have hin1 := hin.below hst (Nat.le_refl _)
        have hblk1 := hblk.below hst hblk.lt
        have hgr1 := gb_trans hgr (gb_of_below hst (Nat.le_refl _) _)
        have hav1 := hnav _ hav2 (fun g e => (hown.lt g e).2)
        have hws : w.heap.size ≤ w1.heap.size := hgr1.size
        clear hnav hst hnb hown hin hblk hgr hdr x0 x1 x2 x3 c1 c2 hseg
        go_wp2
        go_loopw [1, 7] (fun v i wi => ∃ (j : Nat), i = .int .i64 j ∧ j ≤ nx.length ∧ OwnL wi base v (putAll l (nx.take j)) ∧ Places h.os.length (putAll l (nx.take j)) ∧ HpIn wi h ∧ HpAv h v.ownBlock ∧ w.grownBy wi (Value.slice a0 l0.length cap0).ownBlock ∧ (v.ownBlock = (Value.slice a0 l0.length cap0).ownBlock ∨ ∃ g, v.ownBlock = some g ∧ w.heap.size ≤ g) ∧ Blk wi w.heap.size [Value.slice h.oa h.os.length h.ocap, Value.slice h.ra h.rs.length h.rcap, Value.slice h.wa h.ws.length h.wcap, Value.slice h.da h.ds.length h.dcap] 27 ∧ SegI wi na nx ∧ AvI na nx.length v.ownBlock) (fun _ i _ => nx.length - (intOf i).toNat)
        case atStart => exact ⟨0, rfl, Nat.zero_le _, hown1, hpl2, hin1, hav2, hgr1, hob, hblk1, hnseg, hav1⟩
        case round =>
          obtain ⟨j, rfl, hjn, hown, hplj, hin, hav3, hgr, hob2, hblk, hseg2, hav4⟩ := hrel
          clear hown1 hin1 hav2 hgr1 hob hblk1 hnseg hav1
          obtain ⟨va, vcap, rfl, -⟩ := hown.form
          by_cases hj : j < nx.length
          · obtain ⟨b6, off6, rfl, hb6, d1⟩ := hseg2.get hj
            have hpj := hplj.len
            have HP : Hid (putAll l (nx.take (j + 1)) = put (putAll l (nx.take j)) nx[j]) := putAll_snoc l nx j hj
            have hz := hnx nx[j] (List.getElem_mem hj)
            have c3 := l2Put_any base _ (putAll l (nx.take j)) nx[j] wr hown (by have := hgr.size; omega) (by omega)
            go_wp2_with fail
            refine c3.mono ?_
            rintro e w2 ⟨v', rfl, hown', hg', hat⟩
            have hob' := own_chain hob2 hat hgr.size
            have hgr' := gb_step hgr hg' hob2
            have hblk' := hblk.grown hg' (hown.ne hblk (by decide))
            have hin' := hin.grown hg' hav3
            have hseg' := hseg2.grown hg' hav4
            have hav3' : HpAv h v'.ownBlock := by
              rcases hat with e | ⟨g, e, hge⟩
              · rw [e]; exact hav3
              · rw [e]; exact hin.av hge
            have hav4' : AvI (some ⟨b6, off6, none⟩) nx.length v'.ownBlock := by
              rcases hat with e | ⟨g, e, hge⟩
              · rw [e]; exact hav4
              · rw [e]; exact hseg2.av hge
            have hpl' : Hid (Places h.os.length (putAll l (nx.take (j + 1)))) := by
              show Places _ _
              rw [HP.out]; exact hplj.put hz
            have hown2 : Hid (OwnL w2 base v' (putAll l (nx.take (j + 1)))) := by
              show OwnL _ _ _ _
              rw [HP.out]; exact hown'
            clear c3 hown hplj hin hav3 hgr hob2 hblk hseg2 hav4 hat hg' d1 hown'
            go_wp2
            go_roundw
            case rel => exact ⟨j + 1, by go_num, by omega, hown2.out, hpl'.out, hin', hav3', hgr', hob', hblk', hseg', hav4'⟩
            case measure => simp [intOf]; omega
          · have ej : nx.take j = nx := List.take_of_length_le (by omega)
            have hown2 : Hid (OwnL wr base (Value.slice va (putAll l (nx.take j)).length vcap) (putAll l nx)) := by
              show OwnL _ _ _ _
              rw [ej] at hown ⊢; exact hown
            rw [ej] at hplj
            have hjd : decide ((j : Int) < (nx.length : Int)) = false := by simp; omega
            clear ej hown
            go_wp2
            go_roundw
            case rel => exact ⟨k + 1, f', _, by go_num, by omega, hown2.out, hplj, HT2.out, by omega, hin, hav3, hgr, hob2, hblk⟩
            case measure => simp [intOf]; omega
    · have e : R = l := by
        have := HT.out
        rw [← this]
        cases f with
        | zero => rfl
        | succ f => unfold traceF; rw [if_neg hlt]
      have hnk : decide ((k : Int) < (l.length : Int)) = false := by simp; omega
      go_wp2
      go_ret
      exact ⟨_, rfl, by rw [e]; exact hown, by rw [e]; exact hpl2, hgr, hob⟩
end Go.Proofs.Ytcpnkpogebjieaa
