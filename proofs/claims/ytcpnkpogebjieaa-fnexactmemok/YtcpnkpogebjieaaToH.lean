/- The laws' own copy of a whole heap. -/
import Derived.Test.YtcpnkpogebjieaaTo
namespace Go.Proofs.Ytcpnkpogebjieaa
open Go.RowKit

/-- What of a heap is plain. -/
def Hp.p (h : Hp) : List (Int × ByteArray × List Int) × List Int × List (Int × Int) × List (Int × Int) := (h.os.map Ob.p, h.rs, h.ws, h.ds)

/-- A heap that lies in blocks of its own, from block B on. -/
structure OwnH (w : World) (B : Nat) (h : Hp) (go gr gw gd : Nat) : Prop where
  oa : h.oa = some ⟨go, 0, none⟩
  ocap : h.ocap = h.os.length
  ra : h.ra = some ⟨gr, 0, none⟩
  rcap : h.rcap = h.rs.length
  wa : h.wa = some ⟨gw, 0, none⟩
  wcap : h.wcap = h.ws.length
  da : h.da = some ⟨gd, 0, none⟩
  dcap : h.dcap = h.ds.length
  le : B ≤ go
  lt1 : go < gr
  lt2 : gr < gw
  lt3 : gw < gd
  bo : Blk w go (h.os.flatMap Ob.cs) 52
  own : OwnO w (go + 1) h.os
  olt : ∀ i (hi : i < h.os.length) (g : Nat), h.os[i].ra = some ⟨g, 0, none⟩ → g < gr
  br : Blk w gr (h.rs.map (Value.int .i64)) 3
  bw : Blk w gw (h.ws.flatMap wc) 77
  bd : Blk w gd (h.ds.flatMap wc) 77

theorem OwnH.isIn {w : World} {B go gr gw gd : Nat} {h : Hp} (hh : OwnH w B h go gr gw gd) : HpIn w h := by
  refine ⟨?_, ?_, ?_, ?_⟩
  · rw [hh.oa]; exact hh.bo.segO (fun i hi => hh.own.seg i hi)
  · rw [hh.ra]; exact hh.br.segI
  · rw [hh.wa]; exact hh.bw.segW
  · rw [hh.da]; exact hh.bd.segW

set_option maxHeartbeats 1000000 in
set_option maxRecDepth 100000 in
theorem toMemHeap_any (h : Hp) (w : World) (hh : HpIn w h) (hs : Small h) :
    Calls Try.prog 16 #[h.v] w fun e w' => ∃ (h' : Hp) (go gr gw gd : Nat), e = .returned h'.v ∧ h'.p = h.p ∧ Below w.heap.size w w' ∧ OwnH w' w.heap.size h' go gr gw gd := by
  obtain ⟨oa, ocap, os, ra, rcap, rs, wa, wcap, ws, da, dcap, ds⟩ := h
  obtain ⟨ho, hr, hw, hd⟩ := hh
  obtain ⟨so, soo, sr, sw, sd⟩ := hs
  simp only [Hp.v] at *
  go_enter Try.func16, Try.ntmps16
  go_wp2_with fail
  have hB0 : Below w.heap.size w (((w.alloc (Obj.cells #[Value.slice oa os.length ocap, Value.slice ra rs.length rcap, Value.slice wa ws.length wcap, Value.slice da ds.length dcap] 37)).alloc (Obj.cells #[Value.slice none 0 0, Value.slice none 0 0, Value.slice none 0 0, Value.slice none 0 0] 27)).alloc (Obj.cells #[Value.slice none 0 0, Value.slice none 0 0, Value.slice none 0 0, Value.slice none 0 0] 27)) := (((Below.refl _ _).alloc (Nat.le_refl _) _).alloc (by simp) _).alloc (by simp; omega) _
  refine (toMemObjS_any oa os.length ocap os _ rfl so soo (ho.below hB0 (Nat.le_refl _))).mono ?_
  rintro e w1 ⟨l, rfl, hl, hb1, hk1, ho1⟩
  have hbw := hb1.size
  obtain ⟨hc1, hf1⟩ := bcell hb1
  simp at hc1 hf1 hbw
  have q10 : w.heap.size < w1.heap.size := by omega
  have q11 : w.heap.size + 1 < w1.heap.size := by omega
  have q12 : w.heap.size + 1 + 1 < w1.heap.size := by omega
  have hB1 := hB0.trans (hb1.mono hB0.size)
  have hl' : l.length = os.length := by simpa using congrArg List.length hl
  have Hl : Hid (l.length = os.length) := hl'
  have Hm : Hid (l.map Ob.p = os.map Ob.p) := hl
  have hlt1 : ∀ i (hi : i < l.length) (g : Nat), l[i].ra = some ⟨g, 0, none⟩ → g < w1.heap.size := fun i hi g hg => by
    obtain ⟨g', e1, _, _, e4⟩ := ho1 i hi
    rw [hg] at e1
    simp at e1
    subst e1
    exact e4.lt
  clear hl hl' ho hb1 hB0
  simp at hk1 ho1
  have z1 := hk1.lt
  go_wp2_with fail
  have hX1 := hB1.setCell (p := ⟨w.heap.size + 1 + 1, 0, none⟩) (by dsimp only; omega) (Value.slice (some { block := w.heap.size + 1 + 1 + 1, off := 0 }) os.length os.length)
  have hk1x := hk1.other ⟨w.heap.size + 1 + 1, 0, none⟩ (Value.slice (some { block := w.heap.size + 1 + 1 + 1, off := 0 }) os.length os.length) (by dsimp only; omega)
  have ho1x := ho1.store ⟨w.heap.size + 1 + 1, 0, none⟩ (Value.slice (some { block := w.heap.size + 1 + 1 + 1, off := 0 }) os.length os.length) (by dsimp only; omega)
  refine (toIntS_any ra rs.length rcap rs _ rfl sr (hr.below hX1 (Nat.le_refl _))).mono ?_
  rintro e w2 ⟨rfl, hb2, hk2⟩
  have hbw2 := hb2.size
  obtain ⟨hc2, hf2⟩ := bcell hb2
  have hB2 := hX1.trans (hb2.mono hX1.size)
  have hk1y := hk1x.below hb2 hk1x.lt
  have ho1y := ho1x.below hb2 (Nat.le_refl _)
  simp at hc2 hf2 hbw2 hk2
  have z2 := hk2.lt
  have q20 : w.heap.size < w2.heap.size := by omega
  have q21 : w.heap.size + 1 < w2.heap.size := by omega
  have q22 : w.heap.size + 1 + 1 < w2.heap.size := by omega
  clear hX1 hk1x ho1x hb2 hB1 hk1 ho1 hr
  go_wp2_with fail
  have hX2 := hB2.setCell (p := ⟨w.heap.size + 1 + 1, 1, none⟩) (by dsimp only; omega) (Value.slice (some { block := w1.heap.size, off := 0 }) rs.length rs.length)
  have hk1z := hk1y.other ⟨w.heap.size + 1 + 1, 1, none⟩ (Value.slice (some { block := w1.heap.size, off := 0 }) rs.length rs.length) (by dsimp only; omega)
  have ho1z := ho1y.store ⟨w.heap.size + 1 + 1, 1, none⟩ (Value.slice (some { block := w1.heap.size, off := 0 }) rs.length rs.length) (by dsimp only; omega)
  have hk2z := hk2.other ⟨w.heap.size + 1 + 1, 1, none⟩ (Value.slice (some { block := w1.heap.size, off := 0 }) rs.length rs.length) (by dsimp only; omega)
  refine (toMemWatchS_any wa ws.length wcap ws _ rfl sw (hw.below hX2 (Nat.le_refl _))).mono ?_
  rintro e w3 ⟨rfl, hb3, hk3⟩
  have hbw3 := hb3.size
  obtain ⟨hc3, hf3⟩ := bcell hb3
  have hB3 := hX2.trans (hb3.mono hX2.size)
  have hk1a := hk1z.below hb3 hk1z.lt
  have ho1a := ho1z.below hb3 (Nat.le_refl _)
  have hk2a := hk2z.below hb3 hk2z.lt
  simp at hc3 hf3 hbw3 hk3
  have z3 := hk3.lt
  have q30 : w.heap.size < w3.heap.size := by omega
  have q31 : w.heap.size + 1 < w3.heap.size := by omega
  have q32 : w.heap.size + 1 + 1 < w3.heap.size := by omega
  clear hX2 hk1z ho1z hk2z hb3 hB2 hk1y ho1y hk2 hw
  go_wp2_with fail
  have hX3 := hB3.setCell (p := ⟨w.heap.size + 1 + 1, 2, none⟩) (by dsimp only; omega) (Value.slice (some { block := w2.heap.size, off := 0 }) ws.length ws.length)
  have hk1z := hk1a.other ⟨w.heap.size + 1 + 1, 2, none⟩ (Value.slice (some { block := w2.heap.size, off := 0 }) ws.length ws.length) (by dsimp only; omega)
  have ho1z := ho1a.store ⟨w.heap.size + 1 + 1, 2, none⟩ (Value.slice (some { block := w2.heap.size, off := 0 }) ws.length ws.length) (by dsimp only; omega)
  have hk2z := hk2a.other ⟨w.heap.size + 1 + 1, 2, none⟩ (Value.slice (some { block := w2.heap.size, off := 0 }) ws.length ws.length) (by dsimp only; omega)
  have hk3z := hk3.other ⟨w.heap.size + 1 + 1, 2, none⟩ (Value.slice (some { block := w2.heap.size, off := 0 }) ws.length ws.length) (by dsimp only; omega)
  refine (toMemWatchS_any da ds.length dcap ds _ rfl sd (hd.below hX3 (Nat.le_refl _))).mono ?_
  rintro e w4 ⟨rfl, hb4, hk4⟩
  have hbw4 := hb4.size
  obtain ⟨hc4, hf4⟩ := bcell hb4
  have hB4 := hX3.trans (hb4.mono hX3.size)
  have hk1a := hk1z.below hb4 hk1z.lt
  have ho1a := ho1z.below hb4 (Nat.le_refl _)
  have hk2a := hk2z.below hb4 hk2z.lt
  have hk3a := hk3z.below hb4 hk3z.lt
  simp at hc4 hf4 hbw4 hk4
  clear hX3 hk1z ho1z hk2z hk3z hb4 hB3 hk3 hd
  go_wp2
  have hll := Hl.out
  refine bodyPost_ret (v := .agg #[.slice (some ⟨w.heap.size + 1 + 1 + 1, 0, none⟩) os.length os.length, .slice (some ⟨w1.heap.size, 0, none⟩) rs.length rs.length, .slice (some ⟨w2.heap.size, 0, none⟩) ws.length ws.length, .slice (some ⟨w3.heap.size, 0, none⟩) ds.length ds.length]) ?_ rfl ⟨⟨some ⟨w.heap.size + 1 + 1 + 1, 0, none⟩, os.length, l, some ⟨w1.heap.size, 0, none⟩, rs.length, rs, some ⟨w2.heap.size, 0, none⟩, ws.length, ws, some ⟨w3.heap.size, 0, none⟩, ds.length, ds⟩, w.heap.size + 1 + 1 + 1, w1.heap.size, w2.heap.size, w3.heap.size, ?_, ?_, ?_, ?_⟩
  · simp [results, Try.results16, go_sem, hc4, hc3, hc2, hc1, q11, q21, q31]
  · simp only [hll]
  · simp only [Hp.p, Hm.out]
  · (repeat refine Below.setCell ?_ (by dsimp only; omega) _)
    exact hB4
  · refine ⟨rfl, hll.symm, rfl, rfl, rfl, rfl, rfl, rfl, by omega, z1, z2, z3, ?_, ?_, hlt1, ?_, ?_, ?_⟩
    · (repeat refine Blk.other ?_ _ _ (by dsimp only; omega))
      exact hk1a
    · (repeat refine OwnO.store ?_ _ _ (by dsimp only; omega))
      exact ho1a
    · (repeat refine Blk.other ?_ _ _ (by dsimp only; omega))
      exact hk2a
    · (repeat refine Blk.other ?_ _ _ (by dsimp only; omega))
      exact hk3a
    · (repeat refine Blk.other ?_ _ _ (by dsimp only; omega))
      exact hk4
end Go.Proofs.Ytcpnkpogebjieaa
