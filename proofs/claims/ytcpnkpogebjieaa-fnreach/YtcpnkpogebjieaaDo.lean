/- The specification's own collecting: what guardians are told of; what is watched but for that; where it has gone. -/
import Derived.Test.YtcpnkpogebjieaaDn
namespace Go.Proofs.Ytcpnkpogebjieaa
open Go.RowKit

/-- What guardians in the list watch that is not in it. -/
def toldL (ws : List (Int × Int)) (X : List Int) : List (Int × Int) := ws.filter fun p => decide (0 ≤ pos X p.1) && decide (pos X p.2 < 0)
theorem toldL_succ (ws : List (Int × Int)) (X : List Int) (k : Nat) (hk : k < ws.length) : toldL (ws.take (k + 1)) X = if decide (0 ≤ pos X ws[k].1) = true ∧ decide (pos X ws[k].2 < 0) = true then toldL (ws.take k) X ++ [ws[k]] else toldL (ws.take k) X := by
  unfold toldL
  rw [List.take_succ_eq_append_getElem hk, List.filter_append]
  by_cases h : decide (0 ≤ pos X ws[k].1) = true ∧ decide (pos X ws[k].2 < 0) = true
  · rw [if_pos h]
    simp only [List.filter_cons, h.1, h.2, Bool.and_self, if_true, List.filter_nil]
  · rw [if_neg h]
    have : (decide (0 ≤ pos X ws[k].1) && decide (pos X ws[k].2 < 0)) = false := by
      rw [Bool.eq_false_iff]
      intro e
      rw [Bool.and_eq_true] at e
      exact h e
    simp [this]
theorem toldL_le (ws : List (Int × Int)) (X : List Int) (k : Nat) : (toldL (ws.take k) X).length ≤ k := Nat.le_trans (List.length_filter_le _ _) (List.length_take_le _ _)

set_option maxHeartbeats 1600000 in
set_option maxRecDepth 100000 in
theorem l3Told_any (h : Hp) (xa : Option Addr) (xcap : Nat) (X : List Int) (w : World) (hw : SegW w h.wa h.ws) (hwl : h.ws.length ≤ 1048576) (hx : SegI w xa X) (hxl : X.length ≤ maxLen) :
    Calls Try.prog 105 #[h.v, .slice xa X.length xcap] w fun e w' => ∃ v', e = .returned v' ∧ OwnW w' w.heap.size v' (toldL h.ws X) ∧ Below w.heap.size w w' := by
  obtain ⟨i0, hi, hz0, hz1, hz2⟩ := info_parts info_watch
  have hB0 : Below w.heap.size w (w.alloc (Obj.cells #[Value.slice h.oa h.os.length h.ocap, Value.slice h.ra h.rs.length h.rcap, Value.slice h.wa h.ws.length h.wcap, Value.slice h.da h.ds.length h.dcap] 27)) := (Below.refl _ _).alloc (Nat.le_refl _) _
  have hK0 := Blk.new w [Value.slice h.oa h.os.length h.ocap, Value.slice h.ra h.rs.length h.rcap, Value.slice h.wa h.ws.length h.wcap, Value.slice h.da h.ds.length h.dcap] 27
  have hA0 : Below (w.alloc (Obj.cells #[Value.slice h.oa h.os.length h.ocap, Value.slice h.ra h.rs.length h.rcap, Value.slice h.wa h.ws.length h.wcap, Value.slice h.da h.ds.length h.dcap] 27)).heap.size (w.alloc (Obj.cells #[Value.slice h.oa h.os.length h.ocap, Value.slice h.ra h.rs.length h.rcap, Value.slice h.wa h.ws.length h.wcap, Value.slice h.da h.ds.length h.dcap] 27)) ((w.alloc (Obj.cells #[Value.slice h.oa h.os.length h.ocap, Value.slice h.ra h.rs.length h.rcap, Value.slice h.wa h.ws.length h.wcap, Value.slice h.da h.ds.length h.dcap] 27)).alloc (Obj.cells #[] 77)) := al_below _ _
  have hO0 := World.ownsRow_lit (e := 77) (size := 2) (base := w.heap.size) (w.alloc (Obj.cells #[Value.slice h.oa h.os.length h.ocap, Value.slice h.ra h.rs.length h.rcap, Value.slice h.wa h.ws.length h.wcap, Value.slice h.da h.ds.length h.dcap] 27)) #[] 0 hB0.size (Nat.zero_le _) rfl
  have hB1 := hB0.trans (hA0.mono hB0.size)
  have hK1 := hK0.step hA0
  simp only [World.size_alloc] at hO0
  obtain ⟨WA, hWA⟩ : ∃ WA, h.wa = WA := ⟨_, rfl⟩
  have HWA : Hid (h.wa = WA) := hWA
  clear hB0 hK0 hA0
  go_enter Try.func105, Try.ntmps105
  simp only [Hp.v]
  rw [hWA] at hB1 hK1 hO0 hw ⊢
  clear hWA
  go_wp2
  go_loopw [5, 6, 7] (fun v i _ wr => ∃ k : Nat, k ≤ h.ws.length ∧ i = .int .i64 k ∧ OwnW wr w.heap.size v (toldL (h.ws.take k) X) ∧ Blk wr w.heap.size [Value.slice h.oa h.os.length h.ocap, Value.slice h.ra h.rs.length h.rcap, Value.slice WA h.ws.length h.wcap, Value.slice h.da h.ds.length h.dcap] 27 ∧ Below w.heap.size w wr) (fun _ i _ _ => h.ws.length - (intOf i).toNat)
  case atStart => exact ⟨0, Nat.zero_le _, rfl, hO0, hK1, hB1⟩
  case round =>
    obtain ⟨k, hk, rfl, hown, hK, hb⟩ := hrel
    clear hO0 hB1 hK1
    obtain ⟨x0, x1, x2, x3⟩ : wr.cell? ⟨w.heap.size, 0, none⟩ = _ ∧ wr.cell? ⟨w.heap.size, 1, none⟩ = _ ∧ wr.cell? ⟨w.heap.size, 2, none⟩ = some (.slice WA h.ws.length h.wcap) ∧ wr.cell? ⟨w.heap.size, 3, none⟩ = _ := cells4'' hK
    by_cases hlt : k < h.ws.length
    · obtain ⟨b, off, rfl, hbw, e1, e2⟩ := hw.get hlt
      have d1 := (hb.cell (p := ⟨b, off + k * 2, none⟩) hbw).trans e1
      have d2 := (hb.cell (p := ⟨b, off + k * 2 + 1, none⟩) hbw).trans e2
      have HF := toldL_succ h.ws X k hlt
      have hfl := toldL_le h.ws X k
      have hi1 : (k : Int) < (h.ws.length : Int) := by omega
      have hA : Below wr.heap.size wr (wr.alloc (Obj.cells #[Value.int .i64 h.ws[k].1, Value.int .i64 h.ws[k].2] 77)) := al_below _ _
      have hbA := hb.trans (hA.mono hb.size)
      have sx := hx.below hbA (Nat.le_refl _)
      have hKA := hK.step hA
      have hownA := OwnW.below hown hA (Nat.le_refl _)
      have y0 : (wr.alloc (Obj.cells #[Value.int .i64 h.ws[k].1, Value.int .i64 h.ws[k].2] 77)).cell? ⟨wr.heap.size, 0, none⟩ = some (.int .i64 h.ws[k].1) := (Blk.new wr [Value.int .i64 h.ws[k].1, Value.int .i64 h.ws[k].2] 77).cell 0
      have y1 : (wr.alloc (Obj.cells #[Value.int .i64 h.ws[k].1, Value.int .i64 h.ws[k].2] 77)).cell? ⟨wr.heap.size, 1, none⟩ = some (.int .i64 h.ws[k].2) := (Blk.new wr [Value.int .i64 h.ws[k].1, Value.int .i64 h.ws[k].2] 77).cell 1
      obtain ⟨va, vcap, rfl, -⟩ := hown.form
      generalize hP : h.ws[k] = p at *
      clear hP
      obtain ⟨g1, g2⟩ := p
      dsimp only at *
      have HW1 : ∃ W1, W1 = wr.alloc (Obj.cells #[Value.int .i64 g1, Value.int .i64 g2] 77) := ⟨_, rfl⟩
      obtain ⟨W1, hW1⟩ := HW1
      clear hown hK hA e1 e2
      go_wp2_with fail
      rw [← hW1] at hbA sx hKA hownA y0 y1 ⊢
      clear hW1
      refine (l2At_pos xa _ xcap X g1 _ rfl hxl sx).mono ?_
      rintro e w1 ⟨rfl, rfl⟩
      by_cases hm1 : decide (0 ≤ pos X g1) = true
      · go_wp2_with fail
        refine (l2At_pos xa _ xcap X g2 _ rfl hxl sx).mono ?_
        rintro e w2 ⟨rfl, rfl⟩
        by_cases hm2 : decide (pos X g2 < 0) = true
        · rw [if_pos ⟨hm1, hm2⟩] at HF
          have HF' : Hid (toldL (h.ws.take (k + 1)) X = toldL (h.ws.take k) X ++ [(g1, g2)]) := HF
          clear HF
          generalize hL : toldL (h.ws.take k) X = L at *
          have HL : Hid (toldL (h.ws.take k) X = L) := hL
          clear hL
          have hA2 : Below w2.heap.size w2 (w2.alloc (Obj.cells #[Value.int .i64 g1, Value.int .i64 g2] 77)) := al_below _ _
          have hvA : (w2.alloc (Obj.cells #[Value.int .i64 g1, Value.int .i64 g2] 77)).ownsRow w.heap.size 77 2 (.slice va L.length vcap) L.length (L.flatMap wc) := hownA.below hA2 (Nat.le_refl _)
          have hKA2 := hKA.step hA2
          have hbA2 := hbA.trans (hA2.mono hbA.size)
          have HEND : Hid (∀ v' w3, w3.ownsRow w.heap.size 77 2 v' (L.length + 1) (L.flatMap wc ++ [.int .i64 g1, .int .i64 g2]) → (w2.alloc (Obj.cells #[Value.int .i64 g1, Value.int .i64 g2] 77)).grownBy w3 (Value.slice va L.length vcap).ownBlock → OwnW w3 w.heap.size v' (toldL (h.ws.take (k + 1)) X) ∧ Blk w3 w.heap.size _ 27 ∧ Below w.heap.size w w3) := fun v' w3 ho hg => by
            refine ⟨?_, hKA2.grown hg (row_ne_blk hvA hKA2 (by decide)), hbA2.trans (gb_below hg hbA2.size (fun q e => (hvA.lt q e).1))⟩
            rw [HF'.out]
            unfold OwnW
            simpa [wc] using ho
          have hl1 : L.length + 1 ≤ maxLen := by unfold maxLen; omega
          have hl2 : (L.length + 1) * 16 ≤ 140737488355328 := by omega
          have hbs := hbA2.size
          clear hA2 hKA2 hbA2 hKA hownA sx
          go_wp2_with (at_builtin; refine wpList_append_own_at _ rfl _ _ 25 rfl w.heap.size 77 i0 _ 2 16 Try.underlying25 hi hz0 hz1 hz2 rfl (by decide) _ _ _ rfl hvA ⟨w2.heap.size, 0, none⟩ 1 1 [.int .i64 g1, .int .i64 g2] rfl rfl (watch_new (g1, g2) _) (watch_one [(g1, g2)]) hl1 hl2 hbs ?_)
          intro v' w3 hown3 hgr _ _
          obtain ⟨ho3, hK3, hb3⟩ := HEND.out v' w3 hown3 hgr
          clear hown3 hgr HEND hvA
          go_wp2
          go_roundw
          case rel => exact ⟨k + 1, by omega, by go_num, ho3, hK3, hb3⟩
          case measure => simp [intOf]; omega
        · rw [if_neg (fun q => hm2 q.2)] at HF
          have hm2' : decide (pos X g2 < 0) = false := by simpa using hm2
          have HF' : Hid (OwnW w2 w.heap.size (Value.slice va (toldL (h.ws.take k) X).length vcap) (toldL (h.ws.take (k + 1)) X)) := by
            show OwnW _ _ _ _
            rw [HF]; exact hownA
          clear HF hm2 hownA
          go_wp2
          go_roundw
          case rel => exact ⟨k + 1, by omega, by go_num, HF'.out, hKA, hbA⟩
          case measure => simp [intOf]; omega
      · rw [if_neg (fun q => hm1 q.1)] at HF
        have hm1' : decide (0 ≤ pos X g1) = false := by simpa using hm1
        have HF' : Hid (OwnW w1 w.heap.size (Value.slice va (toldL (h.ws.take k) X).length vcap) (toldL (h.ws.take (k + 1)) X)) := by
          show OwnW _ _ _ _
          rw [HF]; exact hownA
        clear HF hm1 hownA
        go_wp2
        go_roundw
        case rel => exact ⟨k + 1, by omega, by go_num, HF'.out, hKA, hbA⟩
        case measure => simp [intOf]; omega
    · have ek : h.ws.take k = h.ws := List.take_of_length_le (by omega)
      rw [ek] at hown
      clear ek
      go_wp2
      go_ret
      exact ⟨_, rfl, hown, hb⟩
end Go.Proofs.Ytcpnkpogebjieaa
