/- The program's own looking the same: what guardians watch, by where it is. -/
import Derived.Test.YtcpnkpogebjieaaSi1
namespace Go.Proofs.Ytcpnkpogebjieaa
open Go.RowKit

set_option maxHeartbeats 1600000 in
set_option maxRecDepth 100000 in
theorem watchesBy_any (n : Nat) (X : List Int) (wa : Option Addr) (wcap : Nat) (ws : List (Int × Int)) (ya : Option Addr) (ycap : Nat) (w : World) (hw : SegW w wa ws) (hwl : ws.length ≤ 1048576) (hy : SegI w ya (whs X n)) (hr : ∀ p ∈ ws, (0 ≤ p.1 ∧ p.1 < n) ∧ (0 ≤ p.2 ∧ p.2 < n)) :
    Calls Try.prog 87 #[.slice wa ws.length wcap, .slice ya n ycap] w fun e w' => ∃ v', e = .returned v' ∧ OwnW w' w.heap.size v' (watL ws X) ∧ Below w.heap.size w w' := by
  obtain ⟨i0, hi, hz0, hz1, hz2⟩ := info_parts info_watch
  go_enter Try.func87, Try.ntmps87
  go_wp2
  go_loopw [5, 7, 10] (fun v _ i wr => ∃ k : Nat, k ≤ ws.length ∧ i = .int .i64 k ∧ OwnW wr w.heap.size v (watL (ws.take k) X) ∧ Below w.heap.size w wr) (fun _ _ i _ => ws.length - (intOf i).toNat)
  case atStart => exact ⟨0, Nat.zero_le _, rfl, World.ownsRow_nil _ _ _ _, Below.refl _ _⟩
  case round =>
    obtain ⟨k, hk, rfl, hown, hb⟩ := hrel
    by_cases hlt : k < ws.length
    · obtain ⟨b, off, rfl, hbw, e1, e2⟩ := hw.get hlt
      have d1 := (hb.cell (p := ⟨b, off + k * 2, none⟩) hbw).trans e1
      have d2 := (hb.cell (p := ⟨b, off + k * 2 + 1, none⟩) hbw).trans e2
      have HF := watL_succ ws X k hlt
      have hfl := watL_le ws X k
      obtain ⟨⟨h10, h11⟩, h20, h21⟩ := hr ws[k] (List.getElem_mem hlt)
      clear e1 e2
      generalize ws[k].1 = g1 at *
      generalize ws[k].2 = g2 at *
      have hl1 : g1.toNat < (whs X n).length := by rw [whs_len]; omega
      have hl2 : g2.toNat < (whs X n).length := by rw [whs_len]; omega
      obtain ⟨b6, off6, q6, hb6, f1⟩ := hy.get hl1
      obtain ⟨b7, off7, q7, hb7, f2⟩ := hy.get hl2
      rw [whs_at _ _ _ h10] at f1
      rw [whs_at _ _ _ h20] at f2
      rw [q6] at q7
      simp only [Option.some.injEq, Addr.mk.injEq, and_true] at q7
      obtain ⟨rfl, rfl⟩ := q7
      subst q6
      have hbs := hb.size
      have hA : Below wr.heap.size wr (wr.alloc (Obj.cells #[Value.int .i64 g1, Value.int .i64 g2] 77)) := (Below.refl _ _).alloc (Nat.le_refl _) _
      have hbA := hb.trans (hA.mono hb.size)
      have s1 := (hbA.cell (p := ⟨b6, off6 + g1.toNat, none⟩) hb6).trans f1
      have s2 := (hbA.cell (p := ⟨b6, off6 + g2.toNat, none⟩) hb6).trans f2
      have hownA := OwnW.below hown hA (Nat.le_refl _)
      have hq : wr.heap.size < (wr.alloc (Obj.cells #[Value.int .i64 g1, Value.int .i64 g2] 77)).heap.size := by simp
      have s3 : (wr.alloc (Obj.cells #[Value.int .i64 g1, Value.int .i64 g2] 77)).cell? ⟨wr.heap.size, 0, none⟩ = some (.int .i64 g1) := (Blk.new wr [Value.int .i64 g1, Value.int .i64 g2] 77).cell 0
      have s4 : (wr.alloc (Obj.cells #[Value.int .i64 g1, Value.int .i64 g2] 77)).cell? ⟨wr.heap.size, 1, none⟩ = some (.int .i64 g2) := (Blk.new wr [Value.int .i64 g1, Value.int .i64 g2] 77).cell 1
      obtain ⟨va, vcap, rfl, -⟩ := hown.form
      have hrow := fun k' h' => hown.lt k' h'
      clear f1 f2 hown hA
      by_cases hm : decide (0 ≤ pos X g1) = true
      · rw [if_pos hm] at HF
        have HF' : Hid (watL (ws.take (k + 1)) X = watL (ws.take k) X ++ [(pos X g1, pos X g2)]) := HF
        clear HF
        generalize hL : watL (ws.take k) X = L at *
        have HL : Hid (watL (ws.take k) X = L) := hL
        clear hL
        have HW1 : ∃ W1, W1 = wr.alloc (Obj.cells #[Value.int .i64 g1, Value.int .i64 g2] 77) := ⟨_, rfl⟩
        obtain ⟨W1, hW1⟩ := HW1
        have HWs : Hid (W1.heap.size = wr.heap.size + 1) := by show _ = _; rw [hW1]; simp
        go_wp2_with fail
        rw [← hW1] at s1 s2 s3 s4 hq hownA hbA ⊢
        clear hW1
        have hA2 : Below W1.heap.size W1 (W1.drew.alloc (Obj.cells #[.int .i64 (pos X g1), .int .i64 (pos X g2)] 77)) := (Below.refl _ _).drew.alloc (Nat.le_refl _) _
        have hvA : (W1.drew.alloc (Obj.cells #[.int .i64 (pos X g1), .int .i64 (pos X g2)] 77)).ownsRow w.heap.size 77 2 (.slice va L.length vcap) L.length (L.flatMap wc) := hownA.below hA2 (Nat.le_refl _)
        have hnw := watch_new (w := W1.drew) (pos X g1, pos X g2) 77
        have hone : ∀ u ∈ wc (pos X g1, pos X g2), u.oneCell' = true := fun u hu => by
          simp [wc] at hu
          rcases hu with rfl | rfl <;> rfl
        have hbs2 : w.heap.size ≤ (W1.drew.alloc (Obj.cells #[.int .i64 (pos X g1), .int .i64 (pos X g2)] 77)).heap.size := Nat.le_trans hbA.size hA2.size
        have HS : Hid (∀ w2, (W1.drew.alloc (Obj.cells #[.int .i64 (pos X g1), .int .i64 (pos X g2)] 77)).grownBy w2 (Value.slice va L.length vcap).ownBlock → (w2.cell? ⟨wr.heap.size, 0, none⟩ = some (.int .i64 g1) ∧ w2.cell? ⟨wr.heap.size, 1, none⟩ = some (.int .i64 g2) ∧ w2.cell? ⟨b6, off6 + g1.toNat, none⟩ = some (.int .i64 (pos X g1)) ∧ w2.cell? ⟨b6, off6 + g2.toNat, none⟩ = some (.int .i64 (pos X g2))) ∧ Below w.heap.size w w2) := fun w2 hg => by
          have hb1 : b6 < W1.heap.size := by omega
          have ne1 : some b6 ≠ (Value.slice va L.length vcap).ownBlock := fun e => by have := (hrow b6 e.symm).1; omega
          have ne2 : some wr.heap.size ≠ (Value.slice va L.length vcap).ownBlock := fun e => by have := (hrow _ e.symm).2; omega
          refine ⟨⟨(hg.cell_far ⟨wr.heap.size, 0, none⟩ (Nat.lt_of_lt_of_le hq hA2.size) ne2).trans ((hA2.cell (p := ⟨wr.heap.size, 0, none⟩) hq).trans s3), (hg.cell_far ⟨wr.heap.size, 1, none⟩ (Nat.lt_of_lt_of_le hq hA2.size) ne2).trans ((hA2.cell (p := ⟨wr.heap.size, 1, none⟩) hq).trans s4),
            (hg.cell_far ⟨b6, _, none⟩ (Nat.lt_of_lt_of_le hb1 hA2.size) ne1).trans ((hA2.cell (p := ⟨b6, _, none⟩) hb1).trans s1), (hg.cell_far ⟨b6, _, none⟩ (Nat.lt_of_lt_of_le hb1 hA2.size) ne1).trans ((hA2.cell (p := ⟨b6, _, none⟩) hb1).trans s2)⟩, ?_⟩
          exact (hbA.trans (hA2.mono hbA.size)).trans (gb_below hg hbs2 (fun k' h' => (hrow k' h').1))
        have hl3 : L.length + 1 ≤ maxLen := by unfold maxLen; omega
        have hl4 : (L.length + 1) * 16 ≤ 140737488355328 := by omega
        have hi1 : (k : Int) < (ws.length : Int) := by omega
        clear hA2 hrow
        go_region_held3 (fun w' => w'.cell? ⟨wr.heap.size, 0, none⟩ = some (.int .i64 g1) ∧ w'.cell? ⟨wr.heap.size, 1, none⟩ = some (.int .i64 g2) ∧ w'.cell? ⟨b6, off6 + g1.toNat, none⟩ = some (.int .i64 (pos X g1)) ∧ w'.cell? ⟨b6, off6 + g2.toNat, none⟩ = some (.int .i64 (pos X g2))) (go_keep)
          (first
            | (refine step_append_lies _ rfl _ _ 25 rfl w.heap.size 77 i0 _ 2 16 Try.underlying25 hi hz0 hz1 hz2 rfl (by decide) _ _ _ rfl hvA ⟨W1.heap.size, 0, none⟩ 1 1 (wc (pos X g1, pos X g2)) rfl rfl hnw hone (by decide) hl3 hl4 hbs2 _ rfl ?_; intro g cap w2 hown2 hgrow hat hlt2; obtain ⟨⟨hS1, hS2, hS3, hS4⟩, hb2⟩ := HS.out w2 hgrow))
        all_goals
          have hown3 : Hid (OwnW w2 w.heap.size (.slice (some ⟨g, 0, none⟩) (L.length + 1) cap) (watL (ws.take (k + 1)) X)) := by
            show OwnW _ _ _ _
            rw [HF'.out]
            unfold OwnW
            simpa using hown2
          clear hown2 hgrow hat hvA hnw hone HS
          go_wp2
          go_roundw
          case rel => exact ⟨k + 1, by omega, by go_num, hown3.out, hb2⟩
          case measure => simp [intOf]; omega
      · rw [if_neg hm] at HF
        have hm' : decide (0 ≤ pos X g1) = false := by simpa using hm
        have HF' : Hid (OwnW (wr.alloc (Obj.cells #[Value.int .i64 g1, Value.int .i64 g2] 77)) w.heap.size (Value.slice va (watL (ws.take k) X).length vcap) (watL (ws.take (k + 1)) X)) := by
          show OwnW _ _ _ _
          rw [HF]; exact hownA
        clear HF hm hownA
        go_wp2
        go_roundw
        case rel => exact ⟨k + 1, by omega, by go_num, HF'.out, hbA⟩
        case measure => simp [intOf]; omega
    · have ek : ws.take k = ws := List.take_of_length_le (by omega)
      rw [ek] at hown
      clear ek
      go_wp2
      go_ret
      exact ⟨_, rfl, hown, hb⟩
end Go.Proofs.Ytcpnkpogebjieaa
