/- The specification's own collecting: what is watched but for what was told. -/
import Derived.Test.YtcpnkpogebjieaaDo
namespace Go.Proofs.Ytcpnkpogebjieaa
open Go.RowKit

def withoutL (ws told : List (Int × Int)) : List (Int × Int) := ws.filter fun p => !decide (p ∈ told)
theorem withoutL_succ (ws told : List (Int × Int)) (k : Nat) (hk : k < ws.length) : withoutL (ws.take (k + 1)) told = if decide (ws[k] ∈ told) = true then withoutL (ws.take k) told else withoutL (ws.take k) told ++ [ws[k]] := by
  unfold withoutL
  rw [List.take_succ_eq_append_getElem hk, List.filter_append]
  cases h : decide (ws[k] ∈ told) <;> simp [h]
theorem withoutL_le (ws told : List (Int × Int)) (k : Nat) : (withoutL (ws.take k) told).length ≤ k := Nat.le_trans (List.length_filter_le _ _) (List.length_take_le _ _)
theorem mem_take_succ (p : Int × Int) (l : List (Int × Int)) (j : Nat) (hj : j < l.length) : decide (p ∈ l.take (j + 1)) = (decide (p ∈ l.take j) || decide (l[j] = p)) := by
  rw [List.take_succ_eq_append_getElem hj, Bool.eq_iff_iff]
  simp only [decide_eq_true_eq, Bool.or_eq_true, List.mem_append, List.mem_singleton]
  exact or_congr_right ⟨fun e => e.symm, fun e => e.symm⟩

set_option maxHeartbeats 1600000 in
set_option maxRecDepth 100000 in
theorem l3Without_any (wa : Option Addr) (wcap : Nat) (ws : List (Int × Int)) (ta : Option Addr) (tcap : Nat) (ts : List (Int × Int)) (w : World) (hw : SegW w wa ws) (hwl : ws.length ≤ 1048576) (ht : SegW w ta ts) (htl : ts.length ≤ 1048576) :
    Calls Try.prog 106 #[.slice wa ws.length wcap, .slice ta ts.length tcap] w fun e w' => ∃ v', e = .returned v' ∧ OwnW w' w.heap.size v' (withoutL ws ts) ∧ Below w.heap.size w w' := by
  obtain ⟨i0, hi, hz0, hz1, hz2⟩ := info_parts info_watch
  have hB0 : Below w.heap.size w (w.alloc (Obj.cells #[] 77)) := al_below _ _
  have hO0 := World.ownsRow_lit (e := 77) (size := 2) (base := w.heap.size) w #[] 0 (Nat.le_refl _) (Nat.zero_le _) rfl
  go_enter Try.func106, Try.ntmps106
  go_wp2
  go_loopw [5, 6, 7, 8] (fun v i _ _ wr => ∃ k : Nat, k ≤ ws.length ∧ i = .int .i64 k ∧ OwnW wr w.heap.size v (withoutL (ws.take k) ts) ∧ Below w.heap.size w wr) (fun _ i _ _ _ => ws.length - (intOf i).toNat)
  case atStart => exact ⟨0, Nat.zero_le _, rfl, hO0, hB0⟩
  case round =>
    obtain ⟨k, hk, rfl, hown, hb⟩ := hrel
    clear hO0 hB0
    by_cases hlt : k < ws.length
    · obtain ⟨b, off, rfl, hbw, e1, e2⟩ := hw.get hlt
      have d1 := (hb.cell (p := ⟨b, off + k * 2, none⟩) hbw).trans e1
      have d2 := (hb.cell (p := ⟨b, off + k * 2 + 1, none⟩) hbw).trans e2
      have HF := withoutL_succ ws ts k hlt
      have hfl := withoutL_le ws ts k
      have hi1 : (k : Int) < (ws.length : Int) := by omega
      generalize hP : ws[k] = p at *
      clear hP e1 e2
      obtain ⟨g1, g2⟩ := p
      dsimp only at *
      have HFF : Hid (withoutL (ws.take (k + 1)) ts = if decide ((g1, g2) ∈ ts) = true then withoutL (ws.take k) ts else withoutL (ws.take k) ts ++ [(g1, g2)]) := HF
      clear HF
      generalize hwo : wr = wo at *
      clear hwo
      go_wp2
      go_loopw [7, 8] (fun f i wq => ∃ j : Nat, j ≤ ts.length ∧ i = .int .i64 j ∧ f = .bool (decide ((g1, g2) ∈ ts.take j)) ∧ wq.heap = wo.heap ∧ Below wo.heap.size wo wq) (fun _ i _ => ts.length - (intOf i).toNat)
      case atStart => exact ⟨0, Nat.zero_le _, rfl, by simp, rfl, Below.refl _ _⟩
      case round =>
        obtain ⟨j, hj, rfl, rfl, hheap, hbq⟩ := hrel
        by_cases hjt : j < ts.length
        · obtain ⟨tb, toff, rfl, htb, t1', t2'⟩ := ht.get hjt
          have hbw2 := hb.trans (hbq.mono hb.size)
          have f1 := (hbw2.cell (p := ⟨tb, toff + j * 2, none⟩) htb).trans t1'
          have f2 := (hbw2.cell (p := ⟨tb, toff + j * 2 + 1, none⟩) htb).trans t2'
          have f3 := (hbq.cell (p := ⟨b, off + k * 2, none⟩) (Nat.lt_of_lt_of_le hbw hb.size)).trans d1
          have f4 := (hbq.cell (p := ⟨b, off + k * 2 + 1, none⟩) (Nat.lt_of_lt_of_le hbw hb.size)).trans d2
          have HM : Hid (decide ((g1, g2) ∈ ts.take (j + 1)) = (decide ((g1, g2) ∈ ts.take j) || decide (ts[j] = (g1, g2)))) := mem_take_succ _ _ _ hjt
          have hj1 : (j : Int) < (ts.length : Int) := by omega
          have hdq := hbq.drew
          have hhd : wr.drew.heap = wo.heap := hheap
          generalize hTT : ts[j] = tt at *
          clear hTT t1' t2'
          obtain ⟨t1, t2⟩ := tt
          dsimp only at *
          have hS : (fun (W' : World) => (W'.cell? ⟨tb, toff + j * 2, none⟩ = some (.int .i64 t1) ∧ W'.cell? ⟨tb, toff + j * 2 + 1, none⟩ = some (.int .i64 t2)) ∧ W'.cell? ⟨b, off + k * 2, none⟩ = some (.int .i64 g1) ∧ W'.cell? ⟨b, off + k * 2 + 1, none⟩ = some (.int .i64 g2)) wr.drew := ⟨⟨f1, f2⟩, f3, f4⟩
          cases hfd : decide ((g1, g2) ∈ ts.take j) with
          | true =>
            have HN : Hid (Value.bool true = .bool (decide ((g1, g2) ∈ ts.take (j + 1)))) := by
              show _ = _
              rw [HM.out, hfd]; rfl
            clear hfd
            go_wp2_with fail
            refine wp_region_held_drew (S := (fun (W' : World) => (W'.cell? ⟨tb, toff + j * 2, none⟩ = some (.int .i64 t1) ∧ W'.cell? ⟨tb, toff + j * 2 + 1, none⟩ = some (.int .i64 t2)) ∧ W'.cell? ⟨b, off + k * 2, none⟩ = some (.int .i64 g1) ∧ W'.cell? ⟨b, off + k * 2 + 1, none⟩ = some (.int .i64 g2))) (by kernel_rfl) hS (fun hHeld => ?_)
            clear hHeld
            refine take_if (i := 0) (v := ?_) 22 rfl rfl (by kernel_rfl) (by kernel_rfl) (by kernel_rfl) (fun _ _ _ h => h) (Or.inl ⟨by rfl, ?_⟩) hS ?_
            rotate_left
            · intro W hSw
              try dsimp only at hSw
              go_simp
              try with_reducible rfl
            simp only [List.setIfInBounds_toArray, List.set_cons_zero, List.set_cons_succ]
            refine take_if (i := 1) (v := ?_) 23 rfl rfl (by kernel_rfl) (by kernel_rfl) (by kernel_rfl) (fun _ _ _ h => h) (Or.inl ⟨by rfl, ?_⟩) hS ?_
            rotate_left
            · intro W hSw
              try dsimp only at hSw
              go_simp
              try with_reducible rfl
            simp only [List.setIfInBounds_toArray, List.set_cons_zero, List.set_cons_succ]
            refine take_if (i := 2) (v := undef) 24 rfl rfl (by kernel_rfl) (by kernel_rfl) (by kernel_rfl) (fun _ _ _ h => h) (Or.inr ⟨by rfl, rfl⟩) hS ?_
            simp only [List.setIfInBounds_toArray, List.set_cons_zero, List.set_cons_succ]
            refine take_if (i := 3) (v := undef) 25 rfl rfl (by kernel_rfl) (by kernel_rfl) (by kernel_rfl) (fun _ _ _ h => h) (Or.inr ⟨by rfl, rfl⟩) hS ?_
            simp only [List.setIfInBounds_toArray, List.set_cons_zero, List.set_cons_succ]
            refine take_if (i := 4) (v := undef) 26 rfl rfl (by kernel_rfl) (by kernel_rfl) (by kernel_rfl) (fun _ _ _ h => h) (Or.inr ⟨by rfl, rfl⟩) hS ?_
            simp only [List.setIfInBounds_toArray, List.set_cons_zero, List.set_cons_succ]
            refine take_if (i := 5) (v := undef) 27 rfl rfl (by kernel_rfl) (by kernel_rfl) (by kernel_rfl) (fun _ _ _ h => h) (Or.inr ⟨by rfl, rfl⟩) hS ?_
            simp only [List.setIfInBounds_toArray, List.set_cons_zero, List.set_cons_succ]
            refine take_if (i := 6) (v := undef) 28 rfl rfl (by kernel_rfl) (by kernel_rfl) (by kernel_rfl) (fun _ _ _ h => h) (Or.inr ⟨by rfl, rfl⟩) hS ?_
            simp only [List.setIfInBounds_toArray, List.set_cons_zero, List.set_cons_succ]
            refine take_if (i := 7) (v := undef) 29 rfl rfl (by kernel_rfl) (by kernel_rfl) (by kernel_rfl) (fun _ _ _ h => h) (Or.inr ⟨by rfl, rfl⟩) hS ?_
            simp only [List.setIfInBounds_toArray, List.set_cons_zero, List.set_cons_succ]
            refine take_if (i := 8) (v := undef) 30 rfl rfl (by kernel_rfl) (by kernel_rfl) (by kernel_rfl) (fun _ _ _ h => h) (Or.inr ⟨by rfl, rfl⟩) hS ?_
            simp only [List.setIfInBounds_toArray, List.set_cons_zero, List.set_cons_succ]
            refine take_if (i := 9) (v := undef) 31 rfl rfl (by kernel_rfl) (by kernel_rfl) (by kernel_rfl) (fun _ _ _ h => h) (Or.inr ⟨by rfl, rfl⟩) hS ?_
            simp only [List.setIfInBounds_toArray, List.set_cons_zero, List.set_cons_succ]
            refine take_if (i := 10) (v := undef) 32 rfl rfl (by kernel_rfl) (by kernel_rfl) (by kernel_rfl) (fun _ _ _ h => h) (Or.inr ⟨by rfl, rfl⟩) hS ?_
            simp only [List.setIfInBounds_toArray, List.set_cons_zero, List.set_cons_succ]
            refine take_if (i := 11) (v := ?_) 33 rfl rfl (by kernel_rfl) (by kernel_rfl) (by kernel_rfl) (fun _ _ _ h => h) (Or.inl ⟨by rfl, ?_⟩) hS ?_
            rotate_left
            · intro W hSw
              try dsimp only at hSw
              go_simp
              try with_reducible rfl
            simp only [List.setIfInBounds_toArray, List.set_cons_zero, List.set_cons_succ]
            refine take_if (i := 12) (v := ?_) 7 rfl rfl (by kernel_rfl) (by kernel_rfl) (by kernel_rfl) (fun _ _ _ h => h) (Or.inl ⟨by rfl, ?_⟩) hS ?_
            rotate_left
            · intro W hSw
              try dsimp only at hSw
              go_simp
              try with_reducible rfl
            simp only [List.setIfInBounds_toArray, List.set_cons_zero, List.set_cons_succ]
            refine wpAnyH_done (by kernel_rfl) ?_ _
            go_wp2
            go_roundw
            case rel => exact ⟨j + 1, by omega, by go_num, HN.out, hhd, hdq⟩
            case measure => simp [intOf]; omega
          | false =>
            by_cases hE : (t1, t2) = (g1, g2)
            · have HN : Hid (Value.bool true = .bool (decide ((g1, g2) ∈ ts.take (j + 1)))) := by
                show _ = _
                rw [HM.out, hfd]; simp [hE]
              simp only [Prod.mk.injEq] at hE
              obtain ⟨hE1, hE2⟩ := hE
              clear hfd
              go_wp2_with fail
              refine wp_region_held_drew (S := (fun (W' : World) => (W'.cell? ⟨tb, toff + j * 2, none⟩ = some (.int .i64 t1) ∧ W'.cell? ⟨tb, toff + j * 2 + 1, none⟩ = some (.int .i64 t2)) ∧ W'.cell? ⟨b, off + k * 2, none⟩ = some (.int .i64 g1) ∧ W'.cell? ⟨b, off + k * 2 + 1, none⟩ = some (.int .i64 g2))) (by kernel_rfl) hS (fun hHeld => ?_)
              clear hHeld
              refine take_if (i := 0) (v := ?_) 22 rfl rfl (by kernel_rfl) (by kernel_rfl) (by kernel_rfl) (fun _ _ _ h => h) (Or.inl ⟨by rfl, ?_⟩) hS ?_
              rotate_left
              · intro W hSw
                try dsimp only at hSw
                go_simp
                try with_reducible rfl
              simp only [List.setIfInBounds_toArray, List.set_cons_zero, List.set_cons_succ]
              refine take_if (i := 1) (v := ?_) 23 rfl rfl (by kernel_rfl) (by kernel_rfl) (by kernel_rfl) (fun _ _ _ h => h) (Or.inl ⟨by rfl, ?_⟩) hS ?_
              rotate_left
              · intro W hSw
                try dsimp only at hSw
                go_simp
                try with_reducible rfl
              simp only [List.setIfInBounds_toArray, List.set_cons_zero, List.set_cons_succ]
              refine take_if (i := 2) (v := ?_) 24 rfl rfl (by kernel_rfl) (by kernel_rfl) (by kernel_rfl) (fun _ _ _ h => h) (Or.inl ⟨by rfl, ?_⟩) hS ?_
              rotate_left
              · intro W hSw
                try dsimp only at hSw
                go_simp
                try with_reducible rfl
              simp only [List.setIfInBounds_toArray, List.set_cons_zero, List.set_cons_succ]
              refine take_if (i := 3) (v := ?_) 25 rfl rfl (by kernel_rfl) (by kernel_rfl) (by kernel_rfl) (fun _ _ _ h => h) (Or.inl ⟨by rfl, ?_⟩) hS ?_
              rotate_left
              · intro W hSw
                try dsimp only at hSw
                go_simp
                try with_reducible rfl
              simp only [List.setIfInBounds_toArray, List.set_cons_zero, List.set_cons_succ]
              refine take_if (i := 4) (v := ?_) 26 rfl rfl (by kernel_rfl) (by kernel_rfl) (by kernel_rfl) (fun _ _ _ h => h) (Or.inl ⟨by rfl, ?_⟩) hS ?_
              rotate_left
              · intro W hSw
                try dsimp only at hSw
                go_simp
                try with_reducible rfl
              simp only [List.setIfInBounds_toArray, List.set_cons_zero, List.set_cons_succ]
              refine take_if (i := 5) (v := ?_) 27 rfl rfl (by kernel_rfl) (by kernel_rfl) (by kernel_rfl) (fun _ _ _ h => h) (Or.inl ⟨by rfl, ?_⟩) hS ?_
              rotate_left
              · intro W hSw
                try dsimp only at hSw
                go_simp
                try with_reducible rfl
              simp only [List.setIfInBounds_toArray, List.set_cons_zero, List.set_cons_succ]
              refine take_if (i := 6) (v := ?_) 28 rfl rfl (by kernel_rfl) (by kernel_rfl) (by kernel_rfl) (fun _ _ _ h => h) (Or.inl ⟨by rfl, ?_⟩) hS ?_
              rotate_left
              · intro W hSw
                try dsimp only at hSw
                go_simp
                try with_reducible rfl
              simp only [List.setIfInBounds_toArray, List.set_cons_zero, List.set_cons_succ]
              refine take_if (i := 7) (v := ?_) 29 rfl rfl (by kernel_rfl) (by kernel_rfl) (by kernel_rfl) (fun _ _ _ h => h) (Or.inl ⟨by rfl, ?_⟩) hS ?_
              rotate_left
              · intro W hSw
                try dsimp only at hSw
                go_simp
                try with_reducible rfl
              simp only [List.setIfInBounds_toArray, List.set_cons_zero, List.set_cons_succ]
              refine take_if (i := 8) (v := ?_) 30 rfl rfl (by kernel_rfl) (by kernel_rfl) (by kernel_rfl) (fun _ _ _ h => h) (Or.inl ⟨by rfl, ?_⟩) hS ?_
              rotate_left
              · intro W hSw
                try dsimp only at hSw
                go_simp
                try with_reducible rfl
              simp only [List.setIfInBounds_toArray, List.set_cons_zero, List.set_cons_succ]
              refine take_if (i := 9) (v := ?_) 31 rfl rfl (by kernel_rfl) (by kernel_rfl) (by kernel_rfl) (fun _ _ _ h => h) (Or.inl ⟨by rfl, ?_⟩) hS ?_
              rotate_left
              · intro W hSw
                try dsimp only at hSw
                go_simp
                try with_reducible rfl
              simp only [List.setIfInBounds_toArray, List.set_cons_zero, List.set_cons_succ]
              refine take_if (i := 10) (v := ?_) 32 rfl rfl (by kernel_rfl) (by kernel_rfl) (by kernel_rfl) (fun _ _ _ h => h) (Or.inl ⟨by rfl, ?_⟩) hS ?_
              rotate_left
              · intro W hSw
                try dsimp only at hSw
                go_simp
                try with_reducible rfl
              simp only [List.setIfInBounds_toArray, List.set_cons_zero, List.set_cons_succ]
              refine take_if (i := 11) (v := ?_) 33 rfl rfl (by kernel_rfl) (by kernel_rfl) (by kernel_rfl) (fun _ _ _ h => h) (Or.inl ⟨by rfl, ?_⟩) hS ?_
              rotate_left
              · intro W hSw
                try dsimp only at hSw
                go_simp
                try with_reducible rfl
              simp only [List.setIfInBounds_toArray, List.set_cons_zero, List.set_cons_succ]
              refine take_if (i := 12) (v := ?_) 7 rfl rfl (by kernel_rfl) (by kernel_rfl) (by kernel_rfl) (fun _ _ _ h => h) (Or.inl ⟨by rfl, ?_⟩) hS ?_
              rotate_left
              · intro W hSw
                try dsimp only at hSw
                go_simp
                try with_reducible rfl
              simp only [List.setIfInBounds_toArray, List.set_cons_zero, List.set_cons_succ]
              refine wpAnyH_done (by kernel_rfl) ?_ _
              go_wp2
              go_roundw
              case rel => exact ⟨j + 1, by omega, by go_num, HN.out, hhd, hdq⟩
              case measure => simp [intOf]; omega
            · have HN : Hid (Value.bool false = .bool (decide ((g1, g2) ∈ ts.take (j + 1)))) := by
                show _ = _
                rw [HM.out, hfd]; simp [hE]
              have hpp : ¬ (t1 = g1 ∧ t2 = g2) := fun q => hE (by rw [q.1, q.2])
              clear hfd hE
              by_cases h1 : t1 = g1
              · have h2 : ¬ t2 = g2 := fun q => hpp ⟨h1, q⟩
                clear hpp
                go_wp2_with fail
                refine wp_region_held_drew (S := (fun (W' : World) => (W'.cell? ⟨tb, toff + j * 2, none⟩ = some (.int .i64 t1) ∧ W'.cell? ⟨tb, toff + j * 2 + 1, none⟩ = some (.int .i64 t2)) ∧ W'.cell? ⟨b, off + k * 2, none⟩ = some (.int .i64 g1) ∧ W'.cell? ⟨b, off + k * 2 + 1, none⟩ = some (.int .i64 g2))) (by kernel_rfl) hS (fun hHeld => ?_)
                clear hHeld
                refine take_if (i := 0) (v := ?_) 22 rfl rfl (by kernel_rfl) (by kernel_rfl) (by kernel_rfl) (fun _ _ _ h => h) (Or.inl ⟨by rfl, ?_⟩) hS ?_
                rotate_left
                · intro W hSw
                  try dsimp only at hSw
                  go_simp
                  try with_reducible rfl
                simp only [List.setIfInBounds_toArray, List.set_cons_zero, List.set_cons_succ]
                refine take_if (i := 1) (v := ?_) 23 rfl rfl (by kernel_rfl) (by kernel_rfl) (by kernel_rfl) (fun _ _ _ h => h) (Or.inl ⟨by rfl, ?_⟩) hS ?_
                rotate_left
                · intro W hSw
                  try dsimp only at hSw
                  go_simp
                  try with_reducible rfl
                simp only [List.setIfInBounds_toArray, List.set_cons_zero, List.set_cons_succ]
                refine take_if (i := 2) (v := ?_) 24 rfl rfl (by kernel_rfl) (by kernel_rfl) (by kernel_rfl) (fun _ _ _ h => h) (Or.inl ⟨by rfl, ?_⟩) hS ?_
                rotate_left
                · intro W hSw
                  try dsimp only at hSw
                  go_simp
                  try with_reducible rfl
                simp only [List.setIfInBounds_toArray, List.set_cons_zero, List.set_cons_succ]
                refine take_if (i := 3) (v := ?_) 25 rfl rfl (by kernel_rfl) (by kernel_rfl) (by kernel_rfl) (fun _ _ _ h => h) (Or.inl ⟨by rfl, ?_⟩) hS ?_
                rotate_left
                · intro W hSw
                  try dsimp only at hSw
                  go_simp
                  try with_reducible rfl
                simp only [List.setIfInBounds_toArray, List.set_cons_zero, List.set_cons_succ]
                refine take_if (i := 4) (v := ?_) 26 rfl rfl (by kernel_rfl) (by kernel_rfl) (by kernel_rfl) (fun _ _ _ h => h) (Or.inl ⟨by rfl, ?_⟩) hS ?_
                rotate_left
                · intro W hSw
                  try dsimp only at hSw
                  go_simp
                  try with_reducible rfl
                simp only [List.setIfInBounds_toArray, List.set_cons_zero, List.set_cons_succ]
                refine take_if (i := 5) (v := ?_) 27 rfl rfl (by kernel_rfl) (by kernel_rfl) (by kernel_rfl) (fun _ _ _ h => h) (Or.inl ⟨by rfl, ?_⟩) hS ?_
                rotate_left
                · intro W hSw
                  try dsimp only at hSw
                  go_simp
                  try with_reducible rfl
                simp only [List.setIfInBounds_toArray, List.set_cons_zero, List.set_cons_succ]
                refine take_if (i := 6) (v := ?_) 28 rfl rfl (by kernel_rfl) (by kernel_rfl) (by kernel_rfl) (fun _ _ _ h => h) (Or.inl ⟨by rfl, ?_⟩) hS ?_
                rotate_left
                · intro W hSw
                  try dsimp only at hSw
                  go_simp
                  try with_reducible rfl
                simp only [List.setIfInBounds_toArray, List.set_cons_zero, List.set_cons_succ]
                refine take_if (i := 7) (v := ?_) 29 rfl rfl (by kernel_rfl) (by kernel_rfl) (by kernel_rfl) (fun _ _ _ h => h) (Or.inl ⟨by rfl, ?_⟩) hS ?_
                rotate_left
                · intro W hSw
                  try dsimp only at hSw
                  go_simp
                  try with_reducible rfl
                simp only [List.setIfInBounds_toArray, List.set_cons_zero, List.set_cons_succ]
                refine take_if (i := 8) (v := ?_) 30 rfl rfl (by kernel_rfl) (by kernel_rfl) (by kernel_rfl) (fun _ _ _ h => h) (Or.inl ⟨by rfl, ?_⟩) hS ?_
                rotate_left
                · intro W hSw
                  try dsimp only at hSw
                  go_simp
                  try with_reducible rfl
                simp only [List.setIfInBounds_toArray, List.set_cons_zero, List.set_cons_succ]
                refine take_if (i := 9) (v := ?_) 31 rfl rfl (by kernel_rfl) (by kernel_rfl) (by kernel_rfl) (fun _ _ _ h => h) (Or.inl ⟨by rfl, ?_⟩) hS ?_
                rotate_left
                · intro W hSw
                  try dsimp only at hSw
                  go_simp
                  try with_reducible rfl
                simp only [List.setIfInBounds_toArray, List.set_cons_zero, List.set_cons_succ]
                refine take_if (i := 10) (v := ?_) 32 rfl rfl (by kernel_rfl) (by kernel_rfl) (by kernel_rfl) (fun _ _ _ h => h) (Or.inl ⟨by rfl, ?_⟩) hS ?_
                rotate_left
                · intro W hSw
                  try dsimp only at hSw
                  go_simp
                  try with_reducible rfl
                simp only [List.setIfInBounds_toArray, List.set_cons_zero, List.set_cons_succ]
                refine take_if (i := 11) (v := ?_) 33 rfl rfl (by kernel_rfl) (by kernel_rfl) (by kernel_rfl) (fun _ _ _ h => h) (Or.inl ⟨by rfl, ?_⟩) hS ?_
                rotate_left
                · intro W hSw
                  try dsimp only at hSw
                  go_simp
                  try with_reducible rfl
                simp only [List.setIfInBounds_toArray, List.set_cons_zero, List.set_cons_succ]
                refine take_if (i := 12) (v := ?_) 7 rfl rfl (by kernel_rfl) (by kernel_rfl) (by kernel_rfl) (fun _ _ _ h => h) (Or.inl ⟨by rfl, ?_⟩) hS ?_
                rotate_left
                · intro W hSw
                  try dsimp only at hSw
                  go_simp
                  try with_reducible rfl
                simp only [List.setIfInBounds_toArray, List.set_cons_zero, List.set_cons_succ]
                refine wpAnyH_done (by kernel_rfl) ?_ _
                go_wp2
                go_roundw
                case rel => exact ⟨j + 1, by omega, by go_num, HN.out, hhd, hdq⟩
                case measure => simp [intOf]; omega
              · clear hpp
                go_wp2_with fail
                refine wp_region_held_drew (S := (fun (W' : World) => (W'.cell? ⟨tb, toff + j * 2, none⟩ = some (.int .i64 t1) ∧ W'.cell? ⟨tb, toff + j * 2 + 1, none⟩ = some (.int .i64 t2)) ∧ W'.cell? ⟨b, off + k * 2, none⟩ = some (.int .i64 g1) ∧ W'.cell? ⟨b, off + k * 2 + 1, none⟩ = some (.int .i64 g2))) (by kernel_rfl) hS (fun hHeld => ?_)
                clear hHeld
                refine take_if (i := 0) (v := ?_) 22 rfl rfl (by kernel_rfl) (by kernel_rfl) (by kernel_rfl) (fun _ _ _ h => h) (Or.inl ⟨by rfl, ?_⟩) hS ?_
                rotate_left
                · intro W hSw
                  try dsimp only at hSw
                  go_simp
                  try with_reducible rfl
                simp only [List.setIfInBounds_toArray, List.set_cons_zero, List.set_cons_succ]
                refine take_if (i := 1) (v := ?_) 23 rfl rfl (by kernel_rfl) (by kernel_rfl) (by kernel_rfl) (fun _ _ _ h => h) (Or.inl ⟨by rfl, ?_⟩) hS ?_
                rotate_left
                · intro W hSw
                  try dsimp only at hSw
                  go_simp
                  try with_reducible rfl
                simp only [List.setIfInBounds_toArray, List.set_cons_zero, List.set_cons_succ]
                refine take_if (i := 2) (v := ?_) 24 rfl rfl (by kernel_rfl) (by kernel_rfl) (by kernel_rfl) (fun _ _ _ h => h) (Or.inl ⟨by rfl, ?_⟩) hS ?_
                rotate_left
                · intro W hSw
                  try dsimp only at hSw
                  go_simp
                  try with_reducible rfl
                simp only [List.setIfInBounds_toArray, List.set_cons_zero, List.set_cons_succ]
                refine take_if (i := 3) (v := ?_) 25 rfl rfl (by kernel_rfl) (by kernel_rfl) (by kernel_rfl) (fun _ _ _ h => h) (Or.inl ⟨by rfl, ?_⟩) hS ?_
                rotate_left
                · intro W hSw
                  try dsimp only at hSw
                  go_simp
                  try with_reducible rfl
                simp only [List.setIfInBounds_toArray, List.set_cons_zero, List.set_cons_succ]
                refine take_if (i := 4) (v := ?_) 26 rfl rfl (by kernel_rfl) (by kernel_rfl) (by kernel_rfl) (fun _ _ _ h => h) (Or.inl ⟨by rfl, ?_⟩) hS ?_
                rotate_left
                · intro W hSw
                  try dsimp only at hSw
                  go_simp
                  try with_reducible rfl
                simp only [List.setIfInBounds_toArray, List.set_cons_zero, List.set_cons_succ]
                refine take_if (i := 5) (v := ?_) 27 rfl rfl (by kernel_rfl) (by kernel_rfl) (by kernel_rfl) (fun _ _ _ h => h) (Or.inl ⟨by rfl, ?_⟩) hS ?_
                rotate_left
                · intro W hSw
                  try dsimp only at hSw
                  go_simp
                  try with_reducible rfl
                simp only [List.setIfInBounds_toArray, List.set_cons_zero, List.set_cons_succ]
                refine take_if (i := 6) (v := ?_) 28 rfl rfl (by kernel_rfl) (by kernel_rfl) (by kernel_rfl) (fun _ _ _ h => h) (Or.inl ⟨by rfl, ?_⟩) hS ?_
                rotate_left
                · intro W hSw
                  try dsimp only at hSw
                  go_simp
                  try with_reducible rfl
                simp only [List.setIfInBounds_toArray, List.set_cons_zero, List.set_cons_succ]
                refine take_if (i := 7) (v := ?_) 29 rfl rfl (by kernel_rfl) (by kernel_rfl) (by kernel_rfl) (fun _ _ _ h => h) (Or.inl ⟨by rfl, ?_⟩) hS ?_
                rotate_left
                · intro W hSw
                  try dsimp only at hSw
                  go_simp
                  try with_reducible rfl
                simp only [List.setIfInBounds_toArray, List.set_cons_zero, List.set_cons_succ]
                refine take_if (i := 8) (v := ?_) 30 rfl rfl (by kernel_rfl) (by kernel_rfl) (by kernel_rfl) (fun _ _ _ h => h) (Or.inl ⟨by rfl, ?_⟩) hS ?_
                rotate_left
                · intro W hSw
                  try dsimp only at hSw
                  go_simp
                  try with_reducible rfl
                simp only [List.setIfInBounds_toArray, List.set_cons_zero, List.set_cons_succ]
                refine take_if (i := 9) (v := ?_) 31 rfl rfl (by kernel_rfl) (by kernel_rfl) (by kernel_rfl) (fun _ _ _ h => h) (Or.inl ⟨by rfl, ?_⟩) hS ?_
                rotate_left
                · intro W hSw
                  try dsimp only at hSw
                  go_simp
                  try with_reducible rfl
                simp only [List.setIfInBounds_toArray, List.set_cons_zero, List.set_cons_succ]
                refine take_if (i := 10) (v := ?_) 32 rfl rfl (by kernel_rfl) (by kernel_rfl) (by kernel_rfl) (fun _ _ _ h => h) (Or.inl ⟨by rfl, ?_⟩) hS ?_
                rotate_left
                · intro W hSw
                  try dsimp only at hSw
                  go_simp
                  try with_reducible rfl
                simp only [List.setIfInBounds_toArray, List.set_cons_zero, List.set_cons_succ]
                refine take_if (i := 11) (v := ?_) 33 rfl rfl (by kernel_rfl) (by kernel_rfl) (by kernel_rfl) (fun _ _ _ h => h) (Or.inl ⟨by rfl, ?_⟩) hS ?_
                rotate_left
                · intro W hSw
                  try dsimp only at hSw
                  go_simp
                  try with_reducible rfl
                simp only [List.setIfInBounds_toArray, List.set_cons_zero, List.set_cons_succ]
                refine take_if (i := 12) (v := ?_) 7 rfl rfl (by kernel_rfl) (by kernel_rfl) (by kernel_rfl) (fun _ _ _ h => h) (Or.inl ⟨by rfl, ?_⟩) hS ?_
                rotate_left
                · intro W hSw
                  try dsimp only at hSw
                  go_simp
                  try with_reducible rfl
                simp only [List.setIfInBounds_toArray, List.set_cons_zero, List.set_cons_succ]
                refine wpAnyH_done (by kernel_rfl) ?_ _
                go_wp2
                go_roundw
                case rel => exact ⟨j + 1, by omega, by go_num, HN.out, hhd, hdq⟩
                case measure => simp [intOf]; omega
        · have ej : ts.take j = ts := List.take_of_length_le (by omega)
          rw [ej]
          have hown2 := OwnW.below hown hbq (Nat.le_refl _)
          have hb2 := hb.trans (hbq.mono hb.size)
          have f3 := (hbq.cell (p := ⟨b, off + k * 2, none⟩) (Nat.lt_of_lt_of_le hbw hb.size)).trans d1
          have f4 := (hbq.cell (p := ⟨b, off + k * 2 + 1, none⟩) (Nat.lt_of_lt_of_le hbw hb.size)).trans d2
          obtain ⟨va, vcap, rfl, -⟩ := hown.form
          clear ej hown hb hbq d1 d2 hheap
          cases hfd : decide ((g1, g2) ∈ ts) with
          | true =>
            have HN : Hid (OwnW wr w.heap.size (.slice va (withoutL (ws.take k) ts).length vcap) (withoutL (ws.take (k + 1)) ts)) := by
              show OwnW _ _ _ _
              rw [HFF.out, hfd, if_pos rfl]; exact hown2
            clear hfd
            go_wp2
            go_roundw
            case rel => exact ⟨k + 1, by omega, by go_num, HN.out, hb2⟩
            case measure => simp [intOf]; omega
          | false =>
            have HF' : Hid (withoutL (ws.take (k + 1)) ts = withoutL (ws.take k) ts ++ [(g1, g2)]) := by
              show _ = _
              rw [HFF.out, hfd]; rfl
            clear hfd
            generalize hL : withoutL (ws.take k) ts = L at *
            have HL : Hid (withoutL (ws.take k) ts = L) := hL
            clear hL
            have hA2 : Below wr.heap.size wr (wr.alloc (Obj.cells #[Value.int .i64 g1, Value.int .i64 g2] 77)) := al_below _ _
            have hvA : (wr.alloc (Obj.cells #[Value.int .i64 g1, Value.int .i64 g2] 77)).ownsRow w.heap.size 77 2 (.slice va L.length vcap) L.length (L.flatMap wc) := hown2.below hA2 (Nat.le_refl _)
            have hbA2 := hb2.trans (hA2.mono hb2.size)
            have HEND : Hid (∀ v' w3, w3.ownsRow w.heap.size 77 2 v' (L.length + 1) (L.flatMap wc ++ [.int .i64 g1, .int .i64 g2]) → (wr.alloc (Obj.cells #[Value.int .i64 g1, Value.int .i64 g2] 77)).grownBy w3 (Value.slice va L.length vcap).ownBlock → OwnW w3 w.heap.size v' (withoutL (ws.take (k + 1)) ts) ∧ Below w.heap.size w w3) := fun v' w3 ho hg => by
              refine ⟨?_, hbA2.trans (gb_below hg hbA2.size (fun q e => (hvA.lt q e).1))⟩
              rw [HF'.out]
              unfold OwnW
              simpa [wc] using ho
            have hl1 : L.length + 1 ≤ maxLen := by unfold maxLen; omega
            have hl2 : (L.length + 1) * 16 ≤ 140737488355328 := by omega
            have hbs := hbA2.size
            clear hA2 hbA2 hown2
            go_wp2_with (at_builtin; refine wpList_append_own_at _ rfl _ _ 25 rfl w.heap.size 77 i0 _ 2 16 Try.underlying25 hi hz0 hz1 hz2 rfl (by decide) _ _ _ rfl hvA ⟨wr.heap.size, 0, none⟩ 1 1 [.int .i64 g1, .int .i64 g2] rfl rfl (watch_new (g1, g2) _) (watch_one [(g1, g2)]) hl1 hl2 hbs ?_)
            intro v' w3 hown3 hgr _ _
            obtain ⟨ho3, hb3⟩ := HEND.out v' w3 hown3 hgr
            clear hown3 hgr HEND hvA
            go_wp2
            go_roundw
            case rel => exact ⟨k + 1, by omega, by go_num, ho3, hb3⟩
            case measure => simp [intOf]; omega
    · have ek : ws.take k = ws := List.take_of_length_le (by omega)
      rw [ek] at hown
      clear ek
      go_wp2
      go_ret
      exact ⟨_, rfl, hown, hb⟩
end Go.Proofs.Ytcpnkpogebjieaa
