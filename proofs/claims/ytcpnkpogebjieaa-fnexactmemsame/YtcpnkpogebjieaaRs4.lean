/- The specification's own MemReach, whole. -/
import Derived.Test.YtcpnkpogebjieaaRs3
import Derived.Test.YtcpnkpogebjieaaSpecOk4
namespace Go.Proofs.Ytcpnkpogebjieaa
open Go.RowKit

theorem okP_parts {h : Hp} (hok : okP h.p = true) : h.os.length ≤ 60 ∧ h.rs.length ≤ 8 ∧ h.ws.length + h.ds.length ≤ 20 ∧ (∀ i (hi : i < h.os.length), objOk h.os.length h.os[i].p = true) ∧ refsOk h.os.length h.rs = true ∧ (∀ p ∈ h.ws, watchOk (h.os.map Ob.p) p = true) ∧ (∀ p ∈ h.ds, watchOk (h.os.map Ob.p) p = true) := by
  by_cases hx : 60 < h.os.length ∨ 8 < h.rs.length ∨ 20 < h.ws.length + h.ds.length
  · rw [okP_big hx] at hok; simp at hok
  · have h1 : h.os.length ≤ 60 := by omega
    have h2 : h.rs.length ≤ 8 := by omega
    have h3 : h.ws.length + h.ds.length ≤ 20 := by omega
    rw [okP_small h1 h2 h3] at hok
    simp only [Bool.and_eq_true] at hok
    obtain ⟨a, b, c, d⟩ := hok
    refine ⟨h1, h2, h3, fun i hi => ?_, b, fun p hp => ?_, fun p hp => ?_⟩
    · rw [List.all_eq_true] at a
      exact a _ (List.getElem_mem hi)
    · rw [List.all_eq_true] at c; exact c p hp
    · rw [List.all_eq_true] at d; exact d p hp

theorem refs_lt {n : Nat} {r : List Int} (h : refsOk n r = true) : ∀ z ∈ r, -1 ≤ z ∧ z < n := fun z hz => by
  unfold refsOk at h
  rw [List.all_eq_true] at h
  have := h z hz
  simp [inB] at this
  omega

theorem okP_tr {h : Hp} (hok : okP h.p = true) (hs : Small h) (hcap : ∀ (i : Nat) (hi : i < h.os.length), h.os[i].r.length ≤ h.os[i].rcap) : Tr h := by
  obtain ⟨h1, _, _, h4, _, _, h7⟩ := okP_parts hok
  refine ⟨h1, fun i hi hk => ?_, hcap, fun x z hz => ?_, fun x => ?_⟩
  · have := h4 i hi
    simp only [objOk, Ob.p, Bool.and_eq_true] at this
    have h5 := this.2
    simp [kindOk, hk] at h5
    omega
  · by_cases hi : x.toNat < h.os.length
    · have hr : refsOk h.os.length h.os[x.toNat].r = true := by
        have := h4 _ hi
        simp only [objOk, Ob.p, Bool.and_eq_true] at this
        exact this.1
      rw [nextP_at rfl hi] at hz
      split at hz
      · exact (refs_lt hr z (List.mem_of_mem_drop hz)).2
      · split at hz
        · obtain ⟨p, hp, rfl⟩ := List.mem_map.1 hz
          have := h7 p (List.mem_filter.1 hp).1
          simp only [watchOk, inB, Bool.and_eq_true, decide_eq_true_eq, List.length_map] at this
          omega
        · exact (refs_lt hr z hz).2
    · have : nextP (h.os.map Ob.p) h.ds x = [] := by
        unfold nextP
        rw [List.getElem?_eq_none (by simp; omega)]
      rw [this] at hz
      simp at hz
  · by_cases hi : x.toNat < h.os.length
    · rw [nextP_at rfl hi]
      have hr := hs.oo _ hi
      have hd := hs.d
      split
      · rw [List.length_drop]; omega
      · split
        · rw [List.length_map]
          exact Nat.le_trans (List.length_filter_le _ _) hd
        · exact hr
    · have : nextP (h.os.map Ob.p) h.ds x = [] := by
        unfold nextP
        rw [List.getElem?_eq_none (by simp; omega)]
      rw [this]; simp

set_option maxHeartbeats 1600000 in
set_option maxRecDepth 100000 in
theorem l2Reach_any (h : Hp) (w : World) (hh : HpIn w h) (hs : Small h) (ht : Tr h) (hr : ∀ z ∈ h.rs, z < h.os.length) :
    Calls Try.prog 27 #[h.v] w fun e w' => ∃ v', e = .returned v' ∧ OwnL w' w.heap.size v' (traceF (h.os.map Ob.p) h.ds 61 0 (putAll [] h.rs)) ∧ Places h.os.length (traceF (h.os.map Ob.p) h.ds 61 0 (putAll [] h.rs)) ∧ Below w.heap.size w w' := by
  have hn60 := ht.n60
  have hrl := hs.r
  go_enter Try.func27, Try.ntmps27
  simp only [Hp.v]
  go_wp2
  have hB0 : Below w.heap.size w (w.alloc (Obj.cells #[Value.slice h.oa h.os.length h.ocap, Value.slice h.ra h.rs.length h.rcap, Value.slice h.wa h.ws.length h.wcap, Value.slice h.da h.ds.length h.dcap] 27)) := (Below.refl _ _).alloc (Nat.le_refl _) _
  have hK0 := Blk.new w [Value.slice h.oa h.os.length h.ocap, Value.slice h.ra h.rs.length h.rcap, Value.slice h.wa h.ws.length h.wcap, Value.slice h.da h.ds.length h.dcap] 27
  have hO0 := World.ownsRow_lit (e := 3) (size := 1) (base := w.heap.size) (w.alloc (Obj.cells #[Value.slice h.oa h.os.length h.ocap, Value.slice h.ra h.rs.length h.rcap, Value.slice h.wa h.ws.length h.wcap, Value.slice h.da h.ds.length h.dcap] 27)) #[] 0 (by simp) (Nat.zero_le _) rfl
  simp only [World.size_alloc] at hO0
  have hB1 := hB0.alloc hB0.size (Obj.cells #[] 3)
  go_loopw [3, 4] (fun v i wr => ∃ (j : Nat), i = .int .i64 j ∧ j ≤ h.rs.length ∧ OwnL wr w.heap.size v (putAll [] (h.rs.take j)) ∧ Places h.os.length (putAll [] (h.rs.take j)) ∧ Below w.heap.size w wr ∧ (∀ k, v.ownBlock = some k → w.heap.size ≤ k) ∧ Blk wr w.heap.size [Value.slice h.oa h.os.length h.ocap, Value.slice h.ra h.rs.length h.rcap, Value.slice h.wa h.ws.length h.wcap, Value.slice h.da h.ds.length h.dcap] 27) (fun _ i _ => h.rs.length - (intOf i).toNat)
  case atStart => exact ⟨0, rfl, Nat.zero_le _, hO0, Places.nil _, hB1, fun k e => by simp [Value.ownBlock] at e; omega, hK0.alloc _⟩
  case round =>
    obtain ⟨j, rfl, hjn, hown, hpl, hb, hob, hblk⟩ := hrel
    clear hB0 hK0 hO0 hB1
    obtain ⟨x0, x1, x2, x3⟩ := cells4' hblk
    by_cases hj : j < h.rs.length
    · obtain ⟨va, vcap, rfl, -⟩ := hown.form
      have hpj := hpl.len
      have HP : Hid (putAll [] (h.rs.take (j + 1)) = put (putAll [] (h.rs.take j)) h.rs[j]) := putAll_snoc [] h.rs j hj
      have hz := hr h.rs[j] (List.getElem_mem hj)
      obtain ⟨b6, off6, e6, hb6, d1⟩ := hh.sr.get hj
      rw [e6] at x1
      clear e6
      have d2 := (hb.cell (p := ⟨b6, off6 + j, none⟩) hb6).trans d1
      have c3 := l2Put_any w.heap.size _ (putAll [] (h.rs.take j)) h.rs[j] wr hown hb.size (by omega)
      clear d1
      go_wp2_with fail
      refine c3.mono ?_
      rintro e w2 ⟨v', rfl, hown', hg', hat⟩
      have hb' := hb.trans (gb_below hg' hb.size hob)
      have hblk' := hblk.grown hg' (hown.ne hblk (by decide))
      have hob' : ∀ k, v'.ownBlock = some k → w.heap.size ≤ k := fun k e => (hown'.lt k e).1
      have hpl' : Hid (Places h.os.length (putAll [] (h.rs.take (j + 1)))) := by
        show Places _ _
        rw [HP.out]; exact hpl.put hz
      have hown2 : Hid (OwnL w2 w.heap.size v' (putAll [] (h.rs.take (j + 1)))) := by
        show OwnL _ _ _ _
        rw [HP.out]; exact hown'
      clear c3 hown hpl hob hblk hat hg' hown' x0 x1 x2 x3 d2
      go_wp2
      go_roundw
      case rel => exact ⟨j + 1, by go_num, by omega, hown2.out, hpl'.out, hb', hob', hblk'⟩
      case measure => simp [intOf]; omega
    · have ej : h.rs.take j = h.rs := List.take_of_length_le (by omega)
      rw [ej] at hown hpl
      have hjd : decide ((j : Int) < (h.rs.length : Int)) = false := by simp; omega
      have hin := hh.below hb (Nat.le_refl _)
      have hav : HpAv h u3.ownBlock := by
        cases e : u3.ownBlock with
        | none => exact HpAv.none h
        | some k => exact hh.av (hob k e)
      have c4 := l2Trace_any h w.heap.size 61 u3 (putAll [] h.rs) wr hin hs ht hown hb.size hav hpl (by omega)
      simp only [Hp.v] at c4
      clear ej
      go_wp2_with fail
      refine c4.mono ?_
      rintro e w2 ⟨v', rfl, hown', hpl', hg', hat⟩
      have hb' := hb.trans (gb_below hg' hb.size hob)
      clear c4
      go_wp2
      go_ret
      exact ⟨_, rfl, hown', hpl', hb'⟩

set_option maxHeartbeats 1600000 in
set_option maxRecDepth 100000 in
theorem specMemReach_any (h : Hp) (w : World) (hh : HpIn w h) (hs : Small h) (ht : ∀ i (hi : i < h.os.length), h.os[i].t.size ≤ maxLen) (hcap : ∀ (i : Nat) (hi : i < h.os.length), h.os[i].r.length ≤ h.os[i].rcap) :
    Calls Try.prog 10 #[h.v] w fun e w' => ∃ v', e = .returned v' ∧ OwnL w' w.heap.size v' (reachP h.p) ∧ Below w.heap.size w w' := by
  go_enter Try.func10, Try.ntmps10
  simp only [Hp.v]
  have hB0 : Below w.heap.size w (w.alloc (Obj.cells #[Value.slice h.oa h.os.length h.ocap, Value.slice h.ra h.rs.length h.rcap, Value.slice h.wa h.ws.length h.wcap, Value.slice h.da h.ds.length h.dcap] 27)) := (Below.refl _ _).alloc (Nat.le_refl _) _
  have hK0 := Blk.new w [Value.slice h.oa h.os.length h.ocap, Value.slice h.ra h.rs.length h.rcap, Value.slice h.wa h.ws.length h.wcap, Value.slice h.da h.ds.length h.dcap] 27
  have c1 := specMemOk_any h _ (hh.below hB0 (Nat.le_refl _)) hs ht
  simp only [Hp.v] at c1
  go_wp2_with fail
  refine c1.mono ?_
  rintro e w1 ⟨rfl, hb1⟩
  have hB1 := hB0.trans (hb1.mono hB0.size)
  have hK1 := hK0.below hb1 hK0.lt
  clear c1 hb1 hB0 hK0
  cases hok : okP h.p with
  | false =>
    have E : Hid (reachP h.p = []) := by simp [Hid, reachP, hok]
    clear hok
    go_wp2
    go_ret
    refine ⟨_, rfl, ?_, hB1.alloc hB1.size _⟩
    rw [E.out]
    exact World.ownsRow_lit (e := 3) (size := 1) (base := w.heap.size) w1 #[] 0 hB1.size (Nat.zero_le _) rfl
  | true =>
    have htr := okP_tr hok hs hcap
    have hrr := fun z hz => (refs_lt (okP_parts hok).2.2.2.2.1 z hz).2
    have E : Hid (reachP h.p = traceF (h.os.map Ob.p) h.ds 61 0 (putAll [] h.rs)) := by
      show _ = _
      simp only [reachP, hok, if_true]; rfl
    clear hok
    obtain ⟨x0, x1, x2, x3⟩ := cells4' hK1
    have c2 := l2Reach_any h w1 (hh.below hB1 (Nat.le_refl _)) hs htr hrr
    simp only [Hp.v] at c2
    go_wp2_with fail
    refine c2.mono ?_
    rintro e w2 ⟨v', rfl, hown, _, hb2⟩
    have hB2 := hB1.trans (hb2.mono hB1.size)
    have hown' : OwnL w2 w.heap.size v' (traceF (h.os.map Ob.p) h.ds 61 0 (putAll [] h.rs)) := hown.base hB1.size
    clear c2
    go_wp2
    go_ret
    exact ⟨_, rfl, by rw [E.out]; exact hown', hB2⟩
end Go.Proofs.Ytcpnkpogebjieaa
