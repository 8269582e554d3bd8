/- Lists of what is watched that a call owns; the specification's own list of what guardians watch that can be come to. -/
import Derived.Test.YtcpnkpogebjieaaSs2
import Derived.Deep.RegionHeld3
import Derived.Deep.AppendLies
namespace Go.Proofs.Ytcpnkpogebjieaa
open Go.RowKit

/-- The cells of a row that a call owns. -/
theorem own_get {w : World} {base e size n g cap : Nat} {xs : List Value} (h : w.ownsRow base e size (.slice (some ⟨g, 0, none⟩) n cap) n xs) (i : Nat) (hi : i < n * size) : w.cell? ⟨g, i, none⟩ = xs[i]? := by
  rcases h.2 with ⟨h1, _⟩ | ⟨g', cap', cur, h1, _, hh, _, _, _, htake⟩
  · simp at h1
  · simp only [Value.slice.injEq, Option.some.injEq, Addr.mk.injEq, and_true, true_and] at h1
    obtain ⟨rfl, rfl⟩ := h1
    rw [← htake, List.getElem?_take_of_lt hi]
    simp [World.cell?, hh]

/-- A list of what is watched that the call owns. -/
def OwnW (w : World) (base : Nat) (v : Value) (ws : List (Int × Int)) : Prop := w.ownsRow base 77 2 v ws.length (ws.flatMap wc)
theorem OwnW.form {w : World} {base : Nat} {v : Value} {ws : List (Int × Int)} (h : OwnW w base v ws) : ∃ a cap, v = .slice a ws.length cap ∧ SegW w a ws ∧ (ws.length ≤ cap ∧ cap ≤ maxLen) := by
  rcases h.2 with ⟨h1, h2⟩ | ⟨g, cap, cur, h1, hg, hh, hn, hc, hs, htake⟩
  · refine ⟨none, 0, by rw [h1, h2], fun hm => by omega, by omega, Nat.zero_le _⟩
  · refine ⟨some ⟨g, 0, none⟩, cap, h1, fun hm => ⟨g, 0, rfl, lt_of_block hh, fun i hi => ?_⟩, hn, hc⟩
    have h' : w.ownsRow base 77 2 (.slice (some ⟨g, 0, none⟩) ws.length cap) ws.length (ws.flatMap wc) := by rw [← h1]; exact h
    have g0 := flat_get wc 2 (fun _ => rfl) ws i 0 hi (by omega)
    have g1 := flat_get wc 2 (fun _ => rfl) ws i 1 hi (by omega)
    refine ⟨?_, ?_⟩
    · rw [Nat.zero_add, own_get h' _ (by omega)]; exact g0
    · rw [Nat.zero_add, own_get h' _ (by omega)]; exact g1
theorem OwnW.below {w w' : World} {base B : Nat} {v : Value} {ws : List (Int × Int)} (h : OwnW w base v ws) (hb : Below B w w') (hB : w.heap.size ≤ B) : OwnW w' base v ws := by
  refine World.ownsRow.kept h (gb_of_below hb hB none) ?_
  cases e : v.ownBlock with
  | none => exact Or.inl rfl
  | some k => exact Or.inr (by simp)
theorem OwnW.lt {w : World} {base : Nat} {v : Value} {ws : List (Int × Int)} (h : OwnW w base v ws) : ∀ k, v.ownBlock = some k → base ≤ k ∧ k < w.heap.size := World.ownsRow.lt h
theorem OwnW.base {w : World} {B C : Nat} {v : Value} {ws : List (Int × Int)} (h : OwnW w B v ws) (hC : C ≤ B) : OwnW w C v ws := by
  refine ⟨h.1, ?_⟩
  rcases h.2 with h1 | ⟨g, cap, cur, h1, hg, r⟩
  · exact Or.inl h1
  · exact Or.inr ⟨g, cap, cur, h1, Nat.le_trans hC hg, r⟩

theorem watch_new {w : World} (p : Int × Int) (t : TypeId) : ∀ j u, (wc p)[j]? = some u → (w.alloc (Obj.cells #[.int .i64 p.1, .int .i64 p.2] t)).cell? ((⟨w.heap.size, 0, none⟩ : Addr).add j) = some u :=
  World.news_of_block (cs := #[.int .i64 p.1, .int .i64 p.2]) (heap_alloc_new w _)

set_option maxHeartbeats 1600000 in
set_option maxRecDepth 100000 in
theorem l2Watches_any (wa : Option Addr) (wcap : Nat) (ws : List (Int × Int)) (xa : Option Addr) (xcap : Nat) (x : List Int) (w : World) (hw : SegW w wa ws) (hwl : ws.length ≤ 1048576) (hx : SegI w xa x) (hxl : x.length ≤ maxLen) :
    Calls Try.prog 49 #[.slice wa ws.length wcap, .slice xa x.length xcap] w fun e w' => ∃ v', e = .returned v' ∧ OwnW w' w.heap.size v' (watL ws x) ∧ Below w.heap.size w w' := by
  obtain ⟨i0, hi, hz0, hz1, hz2⟩ := info_parts info_watch
  go_enter Try.func49, Try.ntmps49
  go_wp2
  have hO0 := World.ownsRow_lit (e := 77) (size := 2) (base := w.heap.size) w #[] 0 (by simp) (Nat.zero_le _) rfl
  have hB0 : Below w.heap.size w (w.alloc (Obj.cells #[] 77)) := (Below.refl _ _).alloc (Nat.le_refl _) _
  go_loopw [5, 6] (fun v i wr => ∃ k : Nat, k ≤ ws.length ∧ i = .int .i64 k ∧ OwnW wr w.heap.size v (watL (ws.take k) x) ∧ Below w.heap.size w wr) (fun _ i _ => ws.length - (intOf i).toNat)
  case atStart => exact ⟨0, Nat.zero_le _, rfl, hO0, hB0⟩
  case round =>
    obtain ⟨k, hk, rfl, hown, hb⟩ := hrel
    clear hO0 hB0
    by_cases hlt : k < ws.length
    · obtain ⟨b, off, rfl, hbw, e1, e2⟩ := hw.get hlt
      have d1 := (hb.cell (p := ⟨b, off + k * 2, none⟩) hbw).trans e1
      have d2 := (hb.cell (p := ⟨b, off + k * 2 + 1, none⟩) hbw).trans e2
      have sx := hx.below hb (Nat.le_refl _)
      have sxd : SegI wr.drew xa x := hx.below hb.drew (Nat.le_refl _)
      have HF := watL_succ ws x k hlt
      have hfl := watL_le ws x k
      have hi1 : (k : Int) < (ws.length : Int) := by omega
      clear e1 e2
      generalize ws[k].1 = g1 at *
      generalize ws[k].2 = g2 at *
      go_wp2_with fail
      refine (l2At_pos xa _ xcap x g1 _ rfl hxl sx).mono ?_
      rintro e w1 ⟨rfl, rfl⟩
      by_cases hm : decide (0 ≤ pos x g1) = true
      · rw [if_pos hm] at HF
        have HF' : Hid (watL (ws.take (k + 1)) x = watL (ws.take k) x ++ [(pos x g1, pos x g2)]) := HF
        clear HF
        obtain ⟨va, vcap, rfl, -⟩ := hown.form
        have hbs := hb.size
        have hrow := fun k' h' => (hown.lt k' h').1
        have hne : some b ≠ (Value.slice va (watL (ws.take k) x).length vcap).ownBlock := fun e => by have := hrow b e.symm; omega
        generalize hL : watL (ws.take k) x = L at *
        have HL : Hid (watL (ws.take k) x = L) := hL
        clear hL
        have hA : Below w1.heap.size w1 (w1.drew.alloc (Obj.cells #[.int .i64 (pos x g1), .int .i64 (pos x g2)] 77)) := (Below.refl _ _).drew.alloc (Nat.le_refl _) _
        have hvA : (w1.drew.alloc (Obj.cells #[.int .i64 (pos x g1), .int .i64 (pos x g2)] 77)).ownsRow w.heap.size 77 2 (.slice va L.length vcap) L.length (L.flatMap wc) := hown.below hA (Nat.le_refl _)
        have hnw := watch_new (w := w1.drew) (pos x g1, pos x g2) 77
        have hone : ∀ u ∈ wc (pos x g1, pos x g2), u.oneCell' = true := fun u hu => by
          simp [wc] at hu
          rcases hu with rfl | rfl <;> rfl
        have hbs2 : w.heap.size ≤ (w1.drew.alloc (Obj.cells #[.int .i64 (pos x g1), .int .i64 (pos x g2)] 77)).heap.size := Nat.le_trans hbs hA.size
        have HS : Hid (∀ w2, (w1.drew.alloc (Obj.cells #[.int .i64 (pos x g1), .int .i64 (pos x g2)] 77)).grownBy w2 (Value.slice va L.length vcap).ownBlock → (w2.cell? ⟨b, off + k * 2, none⟩ = some (.int .i64 g1) ∧ w2.cell? ⟨b, off + k * 2 + 1, none⟩ = some (.int .i64 g2)) ∧ Below w.heap.size w w2) := fun w2 hg => by
          have hb1 : b < w1.heap.size := by omega
          refine ⟨⟨(hg.cell_far ⟨b, off + k * 2, none⟩ (Nat.lt_of_lt_of_le hb1 hA.size) hne).trans ((hA.cell (p := ⟨b, off + k * 2, none⟩) hb1).trans d1), (hg.cell_far ⟨b, off + k * 2 + 1, none⟩ (Nat.lt_of_lt_of_le hb1 hA.size) hne).trans ((hA.cell (p := ⟨b, off + k * 2 + 1, none⟩) hb1).trans d2)⟩, ?_⟩
          exact (hb.trans (hA.mono hb.size)).trans (gb_below hg hbs2 hrow)
        have hl1 : L.length + 1 ≤ maxLen := by unfold maxLen; omega
        have hl2 : (L.length + 1) * 16 ≤ 140737488355328 := by omega
        clear hA hne hrow
        go_wp2_with fail
        go_region_held3 (fun w' => w'.cell? ⟨b, off + k * 2, none⟩ = some (.int .i64 g1) ∧ w'.cell? ⟨b, off + k * 2 + 1, none⟩ = some (.int .i64 g2)) (go_keep)
          (first
            | (go_at_call_of 75 (Value.int .i64 g1); refine (l2At_pos xa _ xcap x g1 _ rfl hxl sxd).mono ?_; rintro e w1 ⟨rfl, rfl⟩)
            | (go_at_call_of 75 (Value.int .i64 g2); refine (l2At_pos xa _ xcap x g2 _ rfl hxl sxd).mono ?_; rintro e w1 ⟨rfl, rfl⟩)
            | (refine step_append_lies _ rfl _ _ 25 rfl w.heap.size 77 i0 _ 2 16 Try.underlying25 hi hz0 hz1 hz2 rfl (by decide) _ _ _ rfl hvA ⟨w1.heap.size, 0, none⟩ 1 1 (wc (pos x g1, pos x g2)) rfl rfl hnw hone (by decide) hl1 hl2 hbs2 _ rfl ?_; intro g cap w2 hown2 hgrow hat hlt2; obtain ⟨⟨hS1, hS2⟩, hb2⟩ := HS.out w2 hgrow))
        all_goals
          have hown3 : Hid (OwnW w2 w.heap.size (.slice (some ⟨g, 0, none⟩) (L.length + 1) cap) (watL (ws.take (k + 1)) x)) := by
            show OwnW _ _ _ _
            rw [HF'.out]
            unfold OwnW
            simpa using hown2
          clear hown2 hgrow hat hvA hnw hone HS
          go_wp2
          go_roundw
          case rel => exact ⟨k + 1, by omega, by go_num, hown3.out, hb2⟩
          case measure => simp [intOf]; omega
      · rw [if_neg hm] at HF
        have hm' : decide (0 ≤ pos x g1) = false := by simpa using hm
        have HF' : Hid (OwnW w1 w.heap.size u5 (watL (ws.take (k + 1)) x)) := by
          show OwnW _ _ _ _
          rw [HF]; exact hown
        clear HF hm
        go_wp2
        go_roundw
        case rel => exact ⟨k + 1, by omega, by go_num, HF'.out, hb⟩
        case measure => simp [intOf]; omega
    · have hk2 : k = ws.length := by omega
      subst hk2
      rw [List.take_length] at hown
      go_wp2
      go_ret
      exact ⟨_, rfl, hown, hb⟩
end Go.Proofs.Ytcpnkpogebjieaa
