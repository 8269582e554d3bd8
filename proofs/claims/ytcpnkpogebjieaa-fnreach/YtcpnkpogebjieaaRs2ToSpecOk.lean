/- The specification's own coming to: from one object. · The specification's own coming to: a list and all that can be come to from it; the whole. · The specification's own MemOk: it answers whether the heap is ok, and changes nothing that was there. -/
import Derived.Test.YtcpnkpogebjieaaRi2ToRs1
import Derived.Deep.RegionWith
import Derived.Test.YtcpnkpogebjieaaToToOk
import Derived.Deep.QuietTactic
import Derived.BigQuiet
namespace Go.Proofs.Ytcpnkpogebjieaa
open Go.RowKit

theorem nextP_at {os : List Ob} {ds : List (Int × Int)} {x : Int} {i : Nat} (hx : x.toNat = i) (hi : i < os.length) :
    nextP (os.map Ob.p) ds x = if os[i].k = 3 then os[i].r.drop 1 else if os[i].k = 4 then (ds.filter fun p => p.1 == x).map fun p => p.2 else os[i].r := by
  subst hx
  simp [nextP, List.getElem?_map, List.getElem?_eq_getElem hi, Ob.p]

/-- What one comes to from an object, as it lies in memory. -/
structure NextIn (w w' : World) (h : Hp) (v : Value) (nx : List Int) (na : Option Addr) (ncap : Nat) : Prop where
  val : v = .slice na nx.length ncap
  seg : SegI w' na nx
  kept : Below w.heap.size w w'
  av : ∀ r, HpAv h r → (∀ g, r = some g → g < w.heap.size) → AvI na nx.length r

/-- What a guardian has been told of, among the first. -/
def flt (ds : List (Int × Int)) (x : Int) : List Int := (ds.filter fun p => p.1 == x).map fun p => p.2
theorem flt_succ (ds : List (Int × Int)) (x : Int) (k : Nat) (hk : k < ds.length) : flt (ds.take (k + 1)) x = if (ds[k].1 == x) = true then flt (ds.take k) x ++ [ds[k].2] else flt (ds.take k) x := by
  unfold flt
  rw [List.take_succ_eq_append_getElem hk, List.filter_append]
  by_cases h : (ds[k].1 == x) = true
  · simp only [List.filter_cons, h, if_true, List.filter_nil, List.map_append, List.map_cons, List.map_nil]
  · simp only [List.filter_cons, h, List.filter_nil]
    simp
theorem flt_le (ds : List (Int × Int)) (x : Int) (k : Nat) : (flt (ds.take k) x).length ≤ k := by
  unfold flt
  rw [List.length_map]
  exact Nat.le_trans (List.length_filter_le _ _) (List.length_take_le _ _)

set_option maxHeartbeats 1600000 in
set_option maxRecDepth 100000 in
theorem l2Next_any (h : Hp) (x : Int) (w : World) (hh : HpIn w h) (hs : Small h) (h0 : 0 ≤ x) (h1 : x < h.os.length) (h3 : ∀ (i : Nat) (hi : i < h.os.length), h.os[i].k = 3 → 1 ≤ h.os[i].r.length) (hcp : ∀ (i : Nat) (hi : i < h.os.length), h.os[i].r.length ≤ h.os[i].rcap) :
    Calls Try.prog 84 #[h.v, .int .i64 x] w fun e w' => ∃ v, e = .returned v ∧ ∃ na ncap, NextIn w w' h v (nextP (h.os.map Ob.p) h.ds x) na ncap := by
  have hav := fun (r : Option Nat) (q : HpAv h r) => q
  obtain ⟨oa, ocap, os, ra, rcap, rs, wa, wcap, ws, da, dcap, ds⟩ := h
  obtain ⟨ho, -, -, hd⟩ := hh
  obtain ⟨so, soo, -, -, sd⟩ := hs
  simp only [Hp.v] at *
  have hi : x.toNat < os.length := by omega
  have HN := nextP_at (os := os) (ds := ds) rfl hi
  have h3' := h3 _ hi
  have hcp' := hcp _ hi
  have soo' := soo _ hi
  obtain ⟨b, off, rfl, hbw, c1, c2, c3⟩ := ho.get hi
  have hsg := ho.2 _ hi
  have Hav : Hid (∀ r, HpAv (⟨some ⟨b, off, none⟩, ocap, os, ra, rcap, rs, wa, wcap, ws, da, dcap, ds⟩ : Hp) r → AvI os[x.toNat].ra os[x.toNat].r.length r) := fun r q => q.aoo _ hi
  clear hav h3 soo hcp
  generalize nextP (os.map Ob.p) ds x = NX at HN ⊢
  by_cases k3 : os[x.toNat].k = 3
  · rw [if_pos k3] at HN
    rw [k3] at c1
    have hl := h3' k3
    clear h3' k3
    obtain ⟨b2, off2, e2, hb2, hcs⟩ := hsg (by omega)
    rw [e2] at c3
    have HNX : Hid (NX = os[x.toNat].r.drop 1) := HN
    clear HN
    generalize hn : os[x.toNat].r.length = n at *
    have hl1 : (1 : Int) ≤ (n : Int) := by omega
    go_enter Try.func84, Try.ntmps84
    go_wp2
    · have hn0 : n - 1 = 0 := by omega
      have hlen : NX.length = 0 := by rw [HNX.out, List.length_drop, hn]; exact hn0
      go_ret
      refine ⟨_, rfl, some ⟨b2, off2, none⟩, 0, ⟨?_, fun hm => by omega, ((Below.refl _ _).alloc (Nat.le_refl _) _).alloc (by simp) _, fun r q _ hm => by omega⟩⟩
      rw [hlen, ← hn0]; rfl
    · have hlen : NX.length = n - 1 := by rw [HNX.out, List.length_drop, hn]
      go_ret
      refine ⟨_, rfl, some ⟨b2, off2 + 1, none⟩, os[x.toNat].rcap - 1, ⟨?_, fun hm => ⟨b2, off2 + 1, rfl, ?_, fun i hi2 => ?_⟩, ((Below.refl _ _).alloc (Nat.le_refl _) _).alloc (by simp) _, fun r q _ hm y hy => ?_⟩⟩
      · rw [hlen]; rfl
      · simp; omega
      · have hb3 : Below w.heap.size w _ := ((Below.refl _ w).alloc (Nat.le_refl _) (Obj.cells #[Value.slice (some { block := b, off := off }) os.length ocap, Value.slice ra rs.length rcap, Value.slice wa ws.length wcap, Value.slice da ds.length dcap] 27)).alloc (by simp) (Obj.cells #[Value.int .i64 3, Value.string os[x.toNat].t, Value.slice (some ⟨b2, off2, none⟩) n os[x.toNat].rcap] 52)
        refine (hb3.cell (p := ⟨b2, off2 + 1 + i, none⟩) hb2).trans ?_
        have := hcs (i + 1) (by omega)
        rw [show off2 + 1 + i = off2 + (i + 1) by omega, this, HNX.out]
        simp [List.getD]
        try rw [Nat.add_comm]
      · have := Hav.out r q (by omega) _ e2
        simp at hy
        subst hy
        exact this
  rw [if_neg k3] at HN
  have g3 : (os[x.toNat].k == 3) = false := by simpa using k3
  by_cases k4 : os[x.toNat].k = 4
  · rw [if_pos k4] at HN
    have HNX : Hid (NX = (ds.filter fun p => p.1 == x).map fun p => p.2) := HN
    clear HN h3' k3 g3
    rw [k4] at c1
    clear k4
    obtain ⟨i0, hi', hz0, hz1, hz2⟩ := info_parts info_int
    go_enter Try.func84, Try.ntmps84
    go_wp2
    have hB0 : Below w.heap.size w ((w.alloc (Obj.cells #[Value.slice (some { block := b, off := off }) os.length ocap, Value.slice ra rs.length rcap, Value.slice wa ws.length wcap, Value.slice da ds.length dcap] 27)).alloc (Obj.cells #[Value.int .i64 4, Value.string os[x.toNat].t, Value.slice os[x.toNat].ra os[x.toNat].r.length os[x.toNat].rcap] 52)) := ((Below.refl _ w).alloc (Nat.le_refl _) _).alloc (by simp) _
    have hK0 : Blk ((w.alloc (Obj.cells #[Value.slice (some { block := b, off := off }) os.length ocap, Value.slice ra rs.length rcap, Value.slice wa ws.length wcap, Value.slice da ds.length dcap] 27)).alloc (Obj.cells #[Value.int .i64 4, Value.string os[x.toNat].t, Value.slice os[x.toNat].ra os[x.toNat].r.length os[x.toNat].rcap] 52)) w.heap.size [Value.slice (some { block := b, off := off }) os.length ocap, Value.slice ra rs.length rcap, Value.slice wa ws.length wcap, Value.slice da ds.length dcap] 27 := (Blk.new w _ _).alloc _
    have hO0 := World.ownsRow_lit (e := 3) (size := 1) (base := w.heap.size + 2) ((w.alloc (Obj.cells #[Value.slice (some { block := b, off := off }) os.length ocap, Value.slice ra rs.length rcap, Value.slice wa ws.length wcap, Value.slice da ds.length dcap] 27)).alloc (Obj.cells #[Value.int .i64 4, Value.string os[x.toNat].t, Value.slice os[x.toNat].ra os[x.toNat].r.length os[x.toNat].rcap] 52)) #[] 0 (by simp) (Nat.zero_le _) rfl
    simp only [World.size_alloc] at hO0
    clear c1 c2 c3 hsg hcp' soo'
    go_loopw [6, 7] (fun v i wr => ∃ k : Nat, k ≤ ds.length ∧ i = .int .i64 k ∧ OwnL wr (w.heap.size + 2) v (flt (ds.take k) x) ∧ Below w.heap.size w wr ∧ Blk wr w.heap.size [Value.slice (some { block := b, off := off }) os.length ocap, Value.slice ra rs.length rcap, Value.slice wa ws.length wcap, Value.slice da ds.length dcap] 27 ∧ w.heap.size + 2 ≤ wr.heap.size) (fun _ i _ => ds.length - (intOf i).toNat)
    case atStart => exact ⟨0, Nat.zero_le _, rfl, hO0, hB0.alloc (by simp; omega) _, hK0.alloc _, by simp⟩
    case round =>
      obtain ⟨k, hk, rfl, hown, hb, hblk, hsz⟩ := hrel
      clear hB0 hK0 hO0
      have q3 := hblk.cell 3
      simp only [List.getElem?_cons_zero, List.getElem?_cons_succ] at q3
      by_cases hlt : k < ds.length
      · obtain ⟨b5, off5, rfl, hb5, e1, e2⟩ := hd.get hlt
        have d1 := (hb.cell (p := ⟨b5, off5 + k * 2, none⟩) hb5).trans e1
        have d2 := (hb.cell (p := ⟨b5, off5 + k * 2 + 1, none⟩) hb5).trans e2
        clear e1 e2
        have HF := flt_succ ds x k hlt
        have hfl := flt_le ds x k
        by_cases hm : (ds[k].1 == x) = true
        · rw [if_pos hm] at HF
          have HF' : Hid (flt (ds.take (k + 1)) x = flt (ds.take k) x ++ [ds[k].2]) := HF
          clear HF
          obtain ⟨va, vcap, rfl, -⟩ := hown.form
          have hvA : (wr.alloc (Obj.cells #[Value.int .i64 ds[k].2] 3)).ownsRow (w.heap.size + 2) 3 1 (.slice va (flt (ds.take k) x).length vcap) (flt (ds.take k) x).length ((flt (ds.take k) x).map (Value.int .i64)) := World.ownsRow.alloc hown _
          have hne := hown.ne hblk (by decide)
          have hrow := fun k' h' => (hown.lt k' h').1
          go_wp2_with (at_builtin; refine wpList_append_own_at _ rfl _ _ 24 rfl (w.heap.size + 2) 3 i0 (.int .i64 0) 1 8 Try.underlying24 hi' hz0 hz1 hz2 rfl (by decide) _ _ _ rfl hvA ⟨wr.heap.size, 0, none⟩ 1 1 [.int .i64 ds[k].2] rfl rfl (cell_one_new _ _ _) ?c2 ?c3 ?c4 ?c5 ?_)
          case c2 => intro u hu; simp at hu; subst hu; rfl
          case c3 => unfold maxLen; omega
          case c4 => omega
          case c5 => simp; omega
          intro v' w2 hown2 hgr _ _
          have hA : Below wr.heap.size wr (wr.alloc (Obj.cells #[Value.int .i64 ds[k].2] 3)) := (Below.refl _ _).alloc (Nat.le_refl _) _
          have hblk2 := (hblk.alloc (Obj.cells #[Value.int .i64 ds[k].2] 3)).grown hgr hne
          have hb2 : Below w.heap.size w w2 := (hb.trans (hA.mono hb.size)).trans (gb_below hgr (Nat.le_trans hb.size hA.size) (fun k' h' => by have := hrow k' h'; omega))
          have hsz2 : w.heap.size + 2 ≤ w2.heap.size := Nat.le_trans hsz (Nat.le_trans hA.size hgr.size)
          have hown3 : Hid (OwnL w2 (w.heap.size + 2) v' (flt (ds.take (k + 1)) x)) := by
            show OwnL _ _ _ _
            rw [HF'.out]
            unfold OwnL
            simpa using hown2
          clear hown2 hgr hA hvA hne hrow
          go_wp2
          go_roundw
          case rel => exact ⟨k + 1, by omega, by go_num, hown3.out, hb2, hblk2, hsz2⟩
          case measure => simp [intOf]; omega
        · rw [if_neg hm] at HF
          have hm' : (ds[k].1 == x) = false := by simpa using hm
          have HF' : Hid (OwnL wr (w.heap.size + 2) u6 (flt (ds.take (k + 1)) x)) := by
            show OwnL _ _ _ _
            rw [HF]; exact hown
          clear HF hm
          go_wp2
          go_roundw
          case rel => exact ⟨k + 1, by omega, by go_num, HF'.out, hb, hblk, hsz⟩
          case measure => simp [intOf]; omega
      · have hk2 : k = ds.length := by omega
        subst hk2
        rw [List.take_length] at hown
        have hNX : Hid (NX = flt ds x) := HNX.out
        clear HNX
        obtain ⟨va, vcap, rfl, hseg, -⟩ := hown.form
        have hrow := fun k' h' => (hown.lt k' h').1
        go_wp2
        go_ret
        refine ⟨_, rfl, va, vcap, ⟨?_, ?_, hb, fun r _ hr hm y hy => ?_⟩⟩
        · rw [hNX.out]; rfl
        · rw [hNX.out]; exact hseg
        · subst hy
          intro e
          have h1 := hrow y.block rfl
          have h2 := hr y.block e.symm
          omega
  · rw [if_neg k4] at HN
    have g4 : (os[x.toNat].k == 4) = false := by simpa using k4
    subst HN
    clear h3' k3 k4
    go_enter Try.func84, Try.ntmps84
    go_wp2
    go_ret
    have hb3 : Below w.heap.size w _ := ((Below.refl _ w).alloc (Nat.le_refl _) (Obj.cells #[Value.slice (some { block := b, off := off }) os.length ocap, Value.slice ra rs.length rcap, Value.slice wa ws.length wcap, Value.slice da ds.length dcap] 27)).alloc (by simp) (Obj.cells #[Value.int .i64 os[x.toNat].k, Value.string os[x.toNat].t, Value.slice os[x.toNat].ra os[x.toNat].r.length os[x.toNat].rcap] 52)
    exact ⟨_, rfl, os[x.toNat].ra, os[x.toNat].rcap, ⟨rfl, hsg.below hb3 (Nat.le_refl _), hb3, fun r q _ => Hav.out r q⟩⟩
end Go.Proofs.Ytcpnkpogebjieaa

namespace Go.Proofs.Ytcpnkpogebjieaa
open Go.RowKit

/-- What a heap must be for tracing. -/
structure Tr (h : Hp) : Prop where
  n60 : h.os.length ≤ 60
  weak : ∀ (i : Nat) (hi : i < h.os.length), h.os[i].k = 3 → 1 ≤ h.os[i].r.length
  cap : ∀ (i : Nat) (hi : i < h.os.length), h.os[i].r.length ≤ h.os[i].rcap
  nx : ∀ x, ∀ z ∈ nextP (h.os.map Ob.p) h.ds x, z < h.os.length
  nl : ∀ x, (nextP (h.os.map Ob.p) h.ds x).length ≤ 1048576

set_option maxHeartbeats 1600000 in
set_option maxRecDepth 100000 in
theorem l2Trace_any (h : Hp) (base F : Nat) (v0 : Value) (l0 : List Int) (w : World) (hh : HpIn w h) (hs : Small h) (ht : Tr h) (hv : OwnL w base v0 l0) (hb : base ≤ w.heap.size) (hav : HpAv h v0.ownBlock) (hpl : Places h.os.length l0) (hF : h.os.length ≤ F) :
    Calls Try.prog 64 #[h.v, v0] w fun e w' => ∃ v', e = .returned v' ∧ OwnL w' base v' (traceF (h.os.map Ob.p) h.ds F 0 l0) ∧ Places h.os.length (traceF (h.os.map Ob.p) h.ds F 0 l0) ∧ w.grownBy w' v0.ownBlock ∧ (v'.ownBlock = v0.ownBlock ∨ ∃ g, v'.ownBlock = some g ∧ w.heap.size ≤ g) := by
  have hn60 := ht.n60
  generalize hR : traceF (h.os.map Ob.p) h.ds F 0 l0 = R
  have HR : Hid (traceF (h.os.map Ob.p) h.ds F 0 l0 = R) := hR
  clear hR
  obtain ⟨a0, cap0, rfl, -⟩ := hv.form
  go_enter Try.func64, Try.ntmps64
  simp only [Hp.v]
  go_wp2
  have hB0 : Below w.heap.size w (w.alloc (Obj.cells #[Value.slice h.oa h.os.length h.ocap, Value.slice h.ra h.rs.length h.rcap, Value.slice h.wa h.ws.length h.wcap, Value.slice h.da h.ds.length h.dcap] 27)) := (Below.refl _ _).alloc (Nat.le_refl _) _
  have hK0 := Blk.new w [Value.slice h.oa h.os.length h.ocap, Value.slice h.ra h.rs.length h.rcap, Value.slice h.wa h.ws.length h.wcap, Value.slice h.da h.ds.length h.dcap] 27
  go_loopw [1, 5] (fun v i wr => ∃ (k f : Nat) (l : List Int), i = .int .i64 k ∧ k ≤ h.os.length ∧ OwnL wr base v l ∧ Places h.os.length l ∧ traceF (h.os.map Ob.p) h.ds f k l = R ∧ h.os.length ≤ k + f ∧ HpIn wr h ∧ HpAv h v.ownBlock ∧ w.grownBy wr (Value.slice a0 l0.length cap0).ownBlock ∧ (v.ownBlock = (Value.slice a0 l0.length cap0).ownBlock ∨ ∃ g, v.ownBlock = some g ∧ w.heap.size ≤ g) ∧ Blk wr w.heap.size [Value.slice h.oa h.os.length h.ocap, Value.slice h.ra h.rs.length h.rcap, Value.slice h.wa h.ws.length h.wcap, Value.slice h.da h.ds.length h.dcap] 27) (fun _ i _ => h.os.length - (intOf i).toNat)
  case atStart => exact ⟨0, F, l0, rfl, Nat.zero_le _, hv.below hB0 (Nat.le_refl _), hpl, HR.out, by omega, hh.below hB0 (Nat.le_refl _), hav, gb_of_below hB0 (Nat.le_refl _) _, Or.inl rfl, hK0⟩
  case round =>
    obtain ⟨k, f, l, rfl, hkn, hown, hpl2, htr, hkf, hin, hav2, hgr, hob, hblk⟩ := hrel
    clear hB0 hK0 hv hav hh hpl
    have HT : Hid (traceF (h.os.map Ob.p) h.ds f k l = R) := htr
    clear htr
    have hll := hpl2.len
    obtain ⟨va, vcap, rfl, hseg, -⟩ := hown.form
    by_cases hlt : k < l.length
    · obtain ⟨f', rfl⟩ : ∃ f', f = f' + 1 := ⟨f - 1, by omega⟩
      have hx := hpl2.rng l[k] (List.getElem_mem hlt)
      have HT2 : Hid (traceF (h.os.map Ob.p) h.ds f' (k + 1) (putAll l (nextP (h.os.map Ob.p) h.ds l[k])) = R) := by
        have := HT.out
        unfold traceF at this
        rw [if_pos hlt] at this
        have e : l.getD k 0 = l[k] := by simp [List.getD, List.getElem?_eq_getElem hlt]
        rw [e] at this
        exact this
      obtain ⟨b, off, rfl, hbw, c1⟩ := hseg.get hlt
      obtain ⟨x0, x1, x2, x3⟩ := cells4' hblk
      have hdr : Below wr.heap.size wr wr.drew := (Below.refl _ _).drew
      have c2 := l2Next_any h l[k] wr.drew (hin.below hdr (Nat.le_refl _)) hs hx.1 hx.2 ht.weak ht.cap
      simp only [Hp.v] at c2
      have hi1 : (k : Int) < (l.length : Int) := by omega
      have hnx := ht.nx l[k]
      have hnl := ht.nl l[k]
      generalize nextP (h.os.map Ob.p) h.ds l[k] = nx at c2 HT2 hnx hnl
      have hkn2 : k < h.os.length := by omega
      clear HT
      go_wp2_with fail
      go_region_with (go_at_call 84; refine c2.mono ?_; rintro e w1 ⟨nv, rfl, na, ncap, ⟨rfl, hnseg, hnb, hnav⟩⟩)
      all_goals
        have hst := hdr.trans hnb
        have hown1 := hown.below hst (Nat.le_refl _)
        have hin1 := hin.below hst (Nat.le_refl _)
        have hblk1 := hblk.below hst hblk.lt
        have hgr1 := gb_trans hgr (gb_of_below hst (Nat.le_refl _) _)
        have hav1 := hnav _ hav2 (fun g e => (hown.lt g e).2)
        have hws : w.heap.size ≤ w1.heap.size := hgr1.size
        clear hnav hst hnb hown hin hblk hgr hdr x0 x1 x2 x3 c1 c2 hseg
        go_wp2
        go_loopw [1, 7] (fun v i wi => ∃ (j : Nat), i = .int .i64 j ∧ j ≤ nx.length ∧ OwnL wi base v (putAll l (nx.take j)) ∧ Places h.os.length (putAll l (nx.take j)) ∧ HpIn wi h ∧ HpAv h v.ownBlock ∧ w.grownBy wi (Value.slice a0 l0.length cap0).ownBlock ∧ (v.ownBlock = (Value.slice a0 l0.length cap0).ownBlock ∨ ∃ g, v.ownBlock = some g ∧ w.heap.size ≤ g) ∧ Blk wi w.heap.size [Value.slice h.oa h.os.length h.ocap, Value.slice h.ra h.rs.length h.rcap, Value.slice h.wa h.ws.length h.wcap, Value.slice h.da h.ds.length h.dcap] 27 ∧ SegI wi na nx ∧ AvI na nx.length v.ownBlock) (fun _ i _ => nx.length - (intOf i).toNat)
        case atStart => exact ⟨0, rfl, Nat.zero_le _, hown1, hpl2, hin1, hav2, hgr1, hob, hblk1, hnseg, hav1⟩
        case round =>
          obtain ⟨j, rfl, hjn, hown, hplj, hin, hav3, hgr, hob2, hblk, hseg2, hav4⟩ := hrel
          clear hown1 hin1 hav2 hgr1 hob hblk1 hnseg hav1
          obtain ⟨va, vcap, rfl, -⟩ := hown.form
          by_cases hj : j < nx.length
          · obtain ⟨b6, off6, rfl, hb6, d1⟩ := hseg2.get hj
            have hpj := hplj.len
            have HP : Hid (putAll l (nx.take (j + 1)) = put (putAll l (nx.take j)) nx[j]) := putAll_snoc l nx j hj
            have hz := hnx nx[j] (List.getElem_mem hj)
            have c3 := l2Put_any base _ (putAll l (nx.take j)) nx[j] wr hown (by have := hgr.size; omega) (by omega)
            go_wp2_with fail
            refine c3.mono ?_
            rintro e w2 ⟨v', rfl, hown', hg', hat⟩
            have hob' := own_chain hob2 hat hgr.size
            have hgr' := gb_step hgr hg' hob2
            have hblk' := hblk.grown hg' (hown.ne hblk (by decide))
            have hin' := hin.grown hg' hav3
            have hseg' := hseg2.grown hg' hav4
            have hav3' : HpAv h v'.ownBlock := by
              rcases hat with e | ⟨g, e, hge⟩
              · rw [e]; exact hav3
              · rw [e]; exact hin.av hge
            have hav4' : AvI (some ⟨b6, off6, none⟩) nx.length v'.ownBlock := by
              rcases hat with e | ⟨g, e, hge⟩
              · rw [e]; exact hav4
              · rw [e]; exact hseg2.av hge
            have hpl' : Hid (Places h.os.length (putAll l (nx.take (j + 1)))) := by
              show Places _ _
              rw [HP.out]; exact hplj.put hz
            have hown2 : Hid (OwnL w2 base v' (putAll l (nx.take (j + 1)))) := by
              show OwnL _ _ _ _
              rw [HP.out]; exact hown'
            clear c3 hown hplj hin hav3 hgr hob2 hblk hseg2 hav4 hat hg' d1 hown'
            go_wp2
            go_roundw
            case rel => exact ⟨j + 1, by go_num, by omega, hown2.out, hpl'.out, hin', hav3', hgr', hob', hblk', hseg', hav4'⟩
            case measure => simp [intOf]; omega
          · have ej : nx.take j = nx := List.take_of_length_le (by omega)
            have hown2 : Hid (OwnL wr base (Value.slice va (putAll l (nx.take j)).length vcap) (putAll l nx)) := by
              show OwnL _ _ _ _
              rw [ej] at hown ⊢; exact hown
            rw [ej] at hplj
            have hjd : decide ((j : Int) < (nx.length : Int)) = false := by simp; omega
            clear ej hown
            go_wp2
            go_roundw
            case rel => exact ⟨k + 1, f', _, by go_num, by omega, hown2.out, hplj, HT2.out, by omega, hin, hav3, hgr, hob2, hblk⟩
            case measure => simp [intOf]; omega
    · have e : R = l := by
        have := HT.out
        rw [← this]
        cases f with
        | zero => rfl
        | succ f => unfold traceF; rw [if_neg hlt]
      have hnk : decide ((k : Int) < (l.length : Int)) = false := by simp; omega
      go_wp2
      go_ret
      exact ⟨_, rfl, by rw [e]; exact hown, by rw [e]; exact hpl2, hgr, hob⟩
end Go.Proofs.Ytcpnkpogebjieaa

namespace Go.Proofs.Ytcpnkpogebjieaa
open Go.RowKit

set_option maxHeartbeats 400000 in
set_option maxRecDepth 100000 in
theorem l1In_any (n lo hi : Int) (w : World) : Calls Try.prog 33 #[.int .i64 n, .int .i64 lo, .int .i64 hi] w fun e w' => e = .returned (.bool (inB n lo hi)) ∧ w' = w := by
  by_cases h1 : lo ≤ n
  · by_cases h2 : n ≤ hi
    · have e : inB n lo hi = true := by simp [inB, h1, h2]
      have E : Hid (inB n lo hi = true) := e
      clear e
      go_enter Try.func33, Try.ntmps33
      go_wp2
      go_ret
      exact ⟨by rw [E.out]; simp [*], rfl⟩
    · have e : inB n lo hi = false := by simp [inB, h2]
      have E : Hid (inB n lo hi = false) := e
      clear e
      go_enter Try.func33, Try.ntmps33
      go_wp2
      go_ret
      exact ⟨by rw [E.out]; simp [*], rfl⟩
  · have e : inB n lo hi = false := by simp [inB, h1]
    have E : Hid (inB n lo hi = false) := e
    clear e
    go_enter Try.func33, Try.ntmps33
    go_wp2
    go_ret
    exact ⟨by rw [E.out]; rfl, rfl⟩

set_option maxHeartbeats 400000 in
set_option maxRecDepth 100000 in
theorem l1TextOk_any (t : ByteArray) (w : World) (ht : t.size ≤ maxLen) : Calls Try.prog 68 #[.string t] w fun e w' => e = .returned (.bool (textOkB t)) ∧ w' = w := by
  unfold maxLen at ht
  go_enter Try.func68, Try.ntmps68
  go_wp2_with fail
  refine (l1In_any _ _ _ _).mono ?_
  rintro e w1 ⟨rfl, rfl⟩
  cases hin : inB (t.size : Int) 1 12 with
  | false =>
    go_wp2
    go_ret
    have e : textOkB t = false := by simp [inB] at hin; simp [textOkB]; omega
    exact ⟨by rw [e]; rfl, rfl⟩
  | true =>
    have hin1 : 1 ≤ t.size ∧ t.size ≤ 12 := by simp [inB] at hin; omega
    have HI : Hid (inB (t.size : Int) 1 12 = true) := hin
    clear hin
    go_wp2
    go_loop [3] (fun i => ∃ k : Nat, k ≤ t.size ∧ i = .int .i64 k ∧ ∀ j (hj : j < t.data.toList.length), j < k → byteOk t.data.toList[j] = true) (fun i => t.size - (intOf i).toNat)
    case atStart => exact ⟨0, Nat.zero_le _, rfl, fun j _ h => by omega⟩
    case round =>
      obtain ⟨k, hk, rfl, hall⟩ := hrel
      by_cases hlt : k < t.size
      · have hkl : k < t.data.toList.length := by simpa using hlt
        have hbe : t.data.toList[k] = t[k] := rfl
        have HB : Hid (byteOk t[k] = true → ∀ j (hj : j < t.data.toList.length), j < k + 1 → byteOk t.data.toList[j] = true) := fun h => all_succ hall hkl (by rw [hbe]; exact h)
        have HN : Hid (byteOk t[k] = false → textOkB t = false) := fun h => by
          have := not_all (f := byteOk) hkl (by rw [hbe]; exact h)
          simp only [textOkB, this, Bool.and_false]
        clear hall hbe
        rcases (show (97 ≤ (t[k].toNat : Int) ∧ (t[k].toNat : Int) ≤ 122) ∨ (48 ≤ (t[k].toNat : Int) ∧ (t[k].toNat : Int) ≤ 57) ∨ ((t[k].toNat : Int) < 48) ∨ (57 < (t[k].toNat : Int) ∧ (t[k].toNat : Int) < 97) ∨ 122 < (t[k].toNat : Int) from by omega) with ⟨h, h'⟩ | ⟨h, h'⟩ | h | ⟨h, h'⟩ | h
        · have hy : byteOk t[k] = true := by simp [byteOk]; omega
          have HR := HB.out hy
          clear hy HB HN
          go_wp2
          go_round
          case rel => exact ⟨k + 1, by omega, by go_num, HR⟩
          case measure => simp [intOf]; omega
        · have hy : byteOk t[k] = true := by simp [byteOk]; omega
          have HR := HB.out hy
          clear hy HB HN
          go_wp2
          go_round
          case rel => exact ⟨k + 1, by omega, by go_num, HR⟩
          case measure => simp [intOf]; omega
        · have hy : byteOk t[k] = false := by simp [byteOk]; omega
          have HR : Hid (textOkB t = false) := HN.out hy
          clear hy HB HN
          go_wp2
          go_ret
          exact ⟨by rw [HR.out]; rfl, rfl⟩
        · have hy : byteOk t[k] = false := by simp [byteOk]; omega
          have HR : Hid (textOkB t = false) := HN.out hy
          have hd1 : decide ((t[k].toNat : Int) ≤ 57) = false := by simp; omega
          clear hy HB HN
          go_wp2
          go_ret
          exact ⟨by rw [HR.out]; rfl, rfl⟩
        · have hy : byteOk t[k] = false := by simp [byteOk]; omega
          have HR : Hid (textOkB t = false) := HN.out hy
          have hd1 : decide ((t[k].toNat : Int) ≤ 57) = false := by simp; omega
          have hd2 : decide ((t[k].toNat : Int) ≤ 122) = false := by simp; omega
          clear hy HB HN
          go_wp2
          go_ret
          exact ⟨by rw [HR.out]; rfl, rfl⟩
      · go_wp2
        go_ret
        have e : textOkB t = true := by
          have := all_of (f := byteOk) (fun i hi => hall i hi (by simp at hi; omega))
          simp only [textOkB, this]; simp; omega
        exact ⟨by rw [e]; rfl, rfl⟩
end Go.Proofs.Ytcpnkpogebjieaa
