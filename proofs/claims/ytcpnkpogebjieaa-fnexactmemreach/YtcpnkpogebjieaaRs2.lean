/- The specification's own coming to: from one object. -/
import Derived.Test.YtcpnkpogebjieaaRs1
namespace Go.Proofs.Ytcpnkpogebjieaa
open Go.RowKit

theorem nextP_at {os : List Ob} {ds : List (Int × Int)} {x : Int} {i : Nat} (hx : x.toNat = i) (hi : i < os.length) :
    nextP (os.map Ob.p) ds x = if os[i].k = 3 then os[i].r.drop 1 else if os[i].k = 4 then (ds.filter fun p => p.1 == x).map fun p => p.2 else os[i].r := by
  subst hx
  simp [nextP, List.getElem?_map, List.getElem?_eq_getElem hi, Ob.p]

/-- What one comes to from an object, as it lies in memory. -/
structure NextIn (w w' : World) (h : Hp) (v : Value) (nx : List Int) (na : Option Addr) (ncap : Nat) : Prop where
  val : v = .slice na nx.length ncap
  seg : SegI w' na nx
  kept : Below w.heap.size w w'
  av : ∀ r, HpAv h r → (∀ g, r = some g → g < w.heap.size) → AvI na nx.length r

/-- What a guardian has been told of, among the first. -/
def flt (ds : List (Int × Int)) (x : Int) : List Int := (ds.filter fun p => p.1 == x).map fun p => p.2
theorem flt_succ (ds : List (Int × Int)) (x : Int) (k : Nat) (hk : k < ds.length) : flt (ds.take (k + 1)) x = if (ds[k].1 == x) = true then flt (ds.take k) x ++ [ds[k].2] else flt (ds.take k) x := by
  unfold flt
  rw [List.take_succ_eq_append_getElem hk, List.filter_append]
  by_cases h : (ds[k].1 == x) = true
  · simp only [List.filter_cons, h, if_true, List.filter_nil, List.map_append, List.map_cons, List.map_nil]
  · simp only [List.filter_cons, h, List.filter_nil]
    simp
theorem flt_le (ds : List (Int × Int)) (x : Int) (k : Nat) : (flt (ds.take k) x).length ≤ k := by
  unfold flt
  rw [List.length_map]
  exact Nat.le_trans (List.length_filter_le _ _) (List.length_take_le _ _)

set_option maxHeartbeats 1600000 in
set_option maxRecDepth 100000 in
theorem l2Next_any (h : Hp) (x : Int) (w : World) (hh : HpIn w h) (hs : Small h) (h0 : 0 ≤ x) (h1 : x < h.os.length) (h3 : ∀ (i : Nat) (hi : i < h.os.length), h.os[i].k = 3 → 1 ≤ h.os[i].r.length) (hcp : ∀ (i : Nat) (hi : i < h.os.length), h.os[i].r.length ≤ h.os[i].rcap) :
    Calls Try.prog 84 #[h.v, .int .i64 x] w fun e w' => ∃ v, e = .returned v ∧ ∃ na ncap, NextIn w w' h v (nextP (h.os.map Ob.p) h.ds x) na ncap := by
  have hav := fun (r : Option Nat) (q : HpAv h r) => q
  obtain ⟨oa, ocap, os, ra, rcap, rs, wa, wcap, ws, da, dcap, ds⟩ := h
  obtain ⟨ho, -, -, hd⟩ := hh
  obtain ⟨so, soo, -, -, sd⟩ := hs
  simp only [Hp.v] at *
  have hi : x.toNat < os.length := by omega
  have HN := nextP_at (os := os) (ds := ds) rfl hi
  have h3' := h3 _ hi
  have hcp' := hcp _ hi
  have soo' := soo _ hi
  obtain ⟨b, off, rfl, hbw, c1, c2, c3⟩ := ho.get hi
  have hsg := ho.2 _ hi
  have Hav : Hid (∀ r, HpAv (⟨some ⟨b, off, none⟩, ocap, os, ra, rcap, rs, wa, wcap, ws, da, dcap, ds⟩ : Hp) r → AvI os[x.toNat].ra os[x.toNat].r.length r) := fun r q => q.aoo _ hi
  clear hav h3 soo hcp
  generalize nextP (os.map Ob.p) ds x = NX at HN ⊢
  by_cases k3 : os[x.toNat].k = 3
  · rw [if_pos k3] at HN
    rw [k3] at c1
    have hl := h3' k3
    clear h3' k3
    obtain ⟨b2, off2, e2, hb2, hcs⟩ := hsg (by omega)
    rw [e2] at c3
    have HNX : Hid (NX = os[x.toNat].r.drop 1) := HN
    clear HN
    generalize hn : os[x.toNat].r.length = n at *
    have hl1 : (1 : Int) ≤ (n : Int) := by omega
    go_enter Try.func84, Try.ntmps84
    go_wp2
    · have hn0 : n - 1 = 0 := by omega
      have hlen : NX.length = 0 := by rw [HNX.out, List.length_drop, hn]; exact hn0
      go_ret
      refine ⟨_, rfl, some ⟨b2, off2, none⟩, 0, ⟨?_, fun hm => by omega, ((Below.refl _ _).alloc (Nat.le_refl _) _).alloc (by simp) _, fun r q _ hm => by omega⟩⟩
      rw [hlen, ← hn0]; rfl
    · have hlen : NX.length = n - 1 := by rw [HNX.out, List.length_drop, hn]
      go_ret
      refine ⟨_, rfl, some ⟨b2, off2 + 1, none⟩, os[x.toNat].rcap - 1, ⟨?_, fun hm => ⟨b2, off2 + 1, rfl, ?_, fun i hi2 => ?_⟩, ((Below.refl _ _).alloc (Nat.le_refl _) _).alloc (by simp) _, fun r q _ hm y hy => ?_⟩⟩
      · rw [hlen]; rfl
      · simp; omega
      · have hb3 : Below w.heap.size w _ := ((Below.refl _ w).alloc (Nat.le_refl _) (Obj.cells #[Value.slice (some { block := b, off := off }) os.length ocap, Value.slice ra rs.length rcap, Value.slice wa ws.length wcap, Value.slice da ds.length dcap] 27)).alloc (by simp) (Obj.cells #[Value.int .i64 3, Value.string os[x.toNat].t, Value.slice (some ⟨b2, off2, none⟩) n os[x.toNat].rcap] 52)
        refine (hb3.cell (p := ⟨b2, off2 + 1 + i, none⟩) hb2).trans ?_
        have := hcs (i + 1) (by omega)
        rw [show off2 + 1 + i = off2 + (i + 1) by omega, this, HNX.out]
        simp [List.getD]
        try rw [Nat.add_comm]
      · have := Hav.out r q (by omega) _ e2
        simp at hy
        subst hy
        exact this
  rw [if_neg k3] at HN
  have g3 : (os[x.toNat].k == 3) = false := by simpa using k3
  by_cases k4 : os[x.toNat].k = 4
  · rw [if_pos k4] at HN
    have HNX : Hid (NX = (ds.filter fun p => p.1 == x).map fun p => p.2) := HN
    clear HN h3' k3 g3
    rw [k4] at c1
    clear k4
    obtain ⟨i0, hi', hz0, hz1, hz2⟩ := info_parts info_int
    go_enter Try.func84, Try.ntmps84
    go_wp2
    have hB0 : Below w.heap.size w ((w.alloc (Obj.cells #[Value.slice (some { block := b, off := off }) os.length ocap, Value.slice ra rs.length rcap, Value.slice wa ws.length wcap, Value.slice da ds.length dcap] 27)).alloc (Obj.cells #[Value.int .i64 4, Value.string os[x.toNat].t, Value.slice os[x.toNat].ra os[x.toNat].r.length os[x.toNat].rcap] 52)) := ((Below.refl _ w).alloc (Nat.le_refl _) _).alloc (by simp) _
    have hK0 : Blk ((w.alloc (Obj.cells #[Value.slice (some { block := b, off := off }) os.length ocap, Value.slice ra rs.length rcap, Value.slice wa ws.length wcap, Value.slice da ds.length dcap] 27)).alloc (Obj.cells #[Value.int .i64 4, Value.string os[x.toNat].t, Value.slice os[x.toNat].ra os[x.toNat].r.length os[x.toNat].rcap] 52)) w.heap.size [Value.slice (some { block := b, off := off }) os.length ocap, Value.slice ra rs.length rcap, Value.slice wa ws.length wcap, Value.slice da ds.length dcap] 27 := (Blk.new w _ _).alloc _
    have hO0 := World.ownsRow_lit (e := 3) (size := 1) (base := w.heap.size + 2) ((w.alloc (Obj.cells #[Value.slice (some { block := b, off := off }) os.length ocap, Value.slice ra rs.length rcap, Value.slice wa ws.length wcap, Value.slice da ds.length dcap] 27)).alloc (Obj.cells #[Value.int .i64 4, Value.string os[x.toNat].t, Value.slice os[x.toNat].ra os[x.toNat].r.length os[x.toNat].rcap] 52)) #[] 0 (by simp) (Nat.zero_le _) rfl
    simp only [World.size_alloc] at hO0
    clear c1 c2 c3 hsg hcp' soo'
    go_loopw [6, 7] (fun v i wr => ∃ k : Nat, k ≤ ds.length ∧ i = .int .i64 k ∧ OwnL wr (w.heap.size + 2) v (flt (ds.take k) x) ∧ Below w.heap.size w wr ∧ Blk wr w.heap.size [Value.slice (some { block := b, off := off }) os.length ocap, Value.slice ra rs.length rcap, Value.slice wa ws.length wcap, Value.slice da ds.length dcap] 27 ∧ w.heap.size + 2 ≤ wr.heap.size) (fun _ i _ => ds.length - (intOf i).toNat)
    case atStart => exact ⟨0, Nat.zero_le _, rfl, hO0, hB0.alloc (by simp; omega) _, hK0.alloc _, by simp⟩
    case round =>
      obtain ⟨k, hk, rfl, hown, hb, hblk, hsz⟩ := hrel
      clear hB0 hK0 hO0
      have q3 := hblk.cell 3
      simp only [List.getElem?_cons_zero, List.getElem?_cons_succ] at q3
      by_cases hlt : k < ds.length
      · obtain ⟨b5, off5, rfl, hb5, e1, e2⟩ := hd.get hlt
        have d1 := (hb.cell (p := ⟨b5, off5 + k * 2, none⟩) hb5).trans e1
        have d2 := (hb.cell (p := ⟨b5, off5 + k * 2 + 1, none⟩) hb5).trans e2
        clear e1 e2
        have HF := flt_succ ds x k hlt
        have hfl := flt_le ds x k
        by_cases hm : (ds[k].1 == x) = true
        · rw [if_pos hm] at HF
          have HF' : Hid (flt (ds.take (k + 1)) x = flt (ds.take k) x ++ [ds[k].2]) := HF
          clear HF
          obtain ⟨va, vcap, rfl, -⟩ := hown.form
          have hvA : (wr.alloc (Obj.cells #[Value.int .i64 ds[k].2] 3)).ownsRow (w.heap.size + 2) 3 1 (.slice va (flt (ds.take k) x).length vcap) (flt (ds.take k) x).length ((flt (ds.take k) x).map (Value.int .i64)) := World.ownsRow.alloc hown _
          have hne := hown.ne hblk (by decide)
          have hrow := fun k' h' => (hown.lt k' h').1
          go_wp2_with (at_builtin; refine wpList_append_own_at _ rfl _ _ 24 rfl (w.heap.size + 2) 3 i0 (.int .i64 0) 1 8 Try.underlying24 hi' hz0 hz1 hz2 rfl (by decide) _ _ _ rfl hvA ⟨wr.heap.size, 0, none⟩ 1 1 [.int .i64 ds[k].2] rfl rfl (cell_one_new _ _ _) ?c2 ?c3 ?c4 ?c5 ?_)
          case c2 => intro u hu; simp at hu; subst hu; rfl
          case c3 => unfold maxLen; omega
          case c4 => omega
          case c5 => simp; omega
          intro v' w2 hown2 hgr _ _
          have hA : Below wr.heap.size wr (wr.alloc (Obj.cells #[Value.int .i64 ds[k].2] 3)) := (Below.refl _ _).alloc (Nat.le_refl _) _
          have hblk2 := (hblk.alloc (Obj.cells #[Value.int .i64 ds[k].2] 3)).grown hgr hne
          have hb2 : Below w.heap.size w w2 := (hb.trans (hA.mono hb.size)).trans (gb_below hgr (Nat.le_trans hb.size hA.size) (fun k' h' => by have := hrow k' h'; omega))
          have hsz2 : w.heap.size + 2 ≤ w2.heap.size := Nat.le_trans hsz (Nat.le_trans hA.size hgr.size)
          have hown3 : Hid (OwnL w2 (w.heap.size + 2) v' (flt (ds.take (k + 1)) x)) := by
            show OwnL _ _ _ _
            rw [HF'.out]
            unfold OwnL
            simpa using hown2
          clear hown2 hgr hA hvA hne hrow
          go_wp2
          go_roundw
          case rel => exact ⟨k + 1, by omega, by go_num, hown3.out, hb2, hblk2, hsz2⟩
          case measure => simp [intOf]; omega
        · rw [if_neg hm] at HF
          have hm' : (ds[k].1 == x) = false := by simpa using hm
          have HF' : Hid (OwnL wr (w.heap.size + 2) u6 (flt (ds.take (k + 1)) x)) := by
            show OwnL _ _ _ _
            rw [HF]; exact hown
          clear HF hm
          go_wp2
          go_roundw
          case rel => exact ⟨k + 1, by omega, by go_num, HF'.out, hb, hblk, hsz⟩
          case measure => simp [intOf]; omega
      · have hk2 : k = ds.length := by omega
        subst hk2
        rw [List.take_length] at hown
        have hNX : Hid (NX = flt ds x) := HNX.out
        clear HNX
        obtain ⟨va, vcap, rfl, hseg, -⟩ := hown.form
        have hrow := fun k' h' => (hown.lt k' h').1
        go_wp2
        go_ret
        refine ⟨_, rfl, va, vcap, ⟨?_, ?_, hb, fun r _ hr hm y hy => ?_⟩⟩
        · rw [hNX.out]; rfl
        · rw [hNX.out]; exact hseg
        · subst hy
          intro e
          have h1 := hrow y.block rfl
          have h2 := hr y.block e.symm
          omega
  · rw [if_neg k4] at HN
    have g4 : (os[x.toNat].k == 4) = false := by simpa using k4
    subst HN
    clear h3' k3 k4
    go_enter Try.func84, Try.ntmps84
    go_wp2
    go_ret
    have hb3 : Below w.heap.size w _ := ((Below.refl _ w).alloc (Nat.le_refl _) (Obj.cells #[Value.slice (some { block := b, off := off }) os.length ocap, Value.slice ra rs.length rcap, Value.slice wa ws.length wcap, Value.slice da ds.length dcap] 27)).alloc (by simp) (Obj.cells #[Value.int .i64 os[x.toNat].k, Value.string os[x.toNat].t, Value.slice os[x.toNat].ra os[x.toNat].r.length os[x.toNat].rcap] 52)
    exact ⟨_, rfl, os[x.toNat].ra, os[x.toNat].rcap, ⟨rfl, hsg.below hb3 (Nat.le_refl _), hb3, fun r q _ => Hav.out r q⟩⟩
end Go.Proofs.Ytcpnkpogebjieaa
