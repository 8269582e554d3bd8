/- The specification's own coming to: a place in a list; putting one behind a list. -/
import Derived.Test.YtcpnkpogebjieaaRp
namespace Go.Proofs.Ytcpnkpogebjieaa
open Go.RowKit

/-- Where a number is in a list: -1 if it is not there, else its first place. -/
def AtP (zs : List Int) (x r : Int) : Prop := (r = -1 ∧ x ∉ zs) ∨ ∃ k : Nat, r = k ∧ zs[k]? = some x ∧ ∀ j, j < k → zs[j]? ≠ some x

theorem AtP.mem {zs : List Int} {x r : Int} (h : AtP zs x r) : 0 ≤ r ↔ x ∈ zs := by
  rcases h with ⟨rfl, hn⟩ | ⟨k, rfl, hk, _⟩
  · simp [hn]
  · simp only [Int.natCast_nonneg, true_iff]
    exact List.mem_of_getElem? hk

theorem ret_int {a b : Int} (h : a = b) : Ending.returned (.int .i64 a) = .returned (.int .i64 b) := by rw [h]

set_option maxHeartbeats 400000 in
set_option maxRecDepth 100000 in
theorem l2At_any (a : Option Addr) (n cap : Nat) (zs : List Int) (x : Int) (w : World) (hl : zs.length = n) (hn : n ≤ maxLen) (h : SegI w a zs) :
    Calls Try.prog 75 #[.slice a n cap, .int .i64 x] w fun e w' => ∃ r : Int, e = .returned (.int .i64 r) ∧ w' = w ∧ AtP zs x r := by
  unfold maxLen at hn
  go_enter Try.func75, Try.ntmps75
  go_wp2
  go_loop [5] (fun i => ∃ j : Nat, j ≤ n ∧ i = .int .i64 j ∧ ∀ y, y < j → zs[y]? ≠ some x) (fun i => n - (intOf i).toNat)
  case atStart => exact ⟨0, Nat.zero_le _, rfl, fun y hy => by omega⟩
  case round =>
    obtain ⟨j, hj, rfl, hall⟩ := hrel
    have HA : Hid (∀ y, y < j → zs[y]? ≠ some x) := hall
    clear hall
    by_cases hlt : j < n
    · have hjl : j < zs.length := by omega
      obtain ⟨b, off, rfl, hbw, c1⟩ := h.get hjl
      by_cases he : zs[j] = x
      · have hd : (zs[j] == x) = true := by simpa using he
        have HK : Hid (zs[j]? = some x) := by show _ = _; rw [List.getElem?_eq_getElem hjl, he]
        clear he
        go_wp2
        go_ret
        exact ⟨_, rfl, rfl, Or.inr ⟨j, rfl, HK.out, HA.out⟩⟩
      · have hd : (zs[j] == x) = false := by simpa using he
        have HK : Hid (∀ y, y < j + 1 → zs[y]? ≠ some x) := fun y hy => by
          by_cases e : y = j
          · subst e; rw [List.getElem?_eq_getElem hjl]; simpa using he
          · exact HA.out y (by omega)
        clear he
        go_wp2
        go_round
        case rel => exact ⟨j + 1, by omega, by go_num, HK.out⟩
        case measure => simp [intOf]; omega
    · go_wp2
      go_ret
      refine ⟨_, rfl, rfl, Or.inl ⟨rfl, fun hm => ?_⟩⟩
      obtain ⟨y, hy, e⟩ := List.getElem_of_mem hm
      exact HA.out y (by omega) (by rw [List.getElem?_eq_getElem hy, e])

set_option maxHeartbeats 400000 in
set_option maxRecDepth 100000 in
theorem l2Put_any (base : Nat) (v : Value) (zs : List Int) (x : Int) (w : World) (hv : OwnL w base v zs) (hb : base ≤ w.heap.size) (hl : zs.length ≤ 1000000) :
    Calls Try.prog 63 #[v, .int .i64 x] w fun e w' => ∃ v', e = .returned v' ∧ OwnL w' base v' (put zs x) ∧ w.grownBy w' v.ownBlock ∧ (v'.ownBlock = v.ownBlock ∨ ∃ g, v'.ownBlock = some g ∧ w.heap.size ≤ g) := by
  obtain ⟨a, cap, rfl, hs, hc1, hc2⟩ := hv.form
  by_cases hx : x < 0
  · have E : Hid (put zs x = zs) := by simp [Hid, put, hx]
    go_enter Try.func63, Try.ntmps63
    go_wp2
    go_ret
    exact ⟨_, rfl, by rw [E.out]; exact hv, gb_refl _ _, Or.inl rfl⟩
  · obtain ⟨i0, hi, hz0, hz1, hz2⟩ := info_parts info_int
    have hd : decide (x < 0) = false := by simpa using hx
    go_enter Try.func63, Try.ntmps63
    go_wp2_with fail
    refine (l2At_any a zs.length cap zs x _ rfl (by unfold maxLen; omega) hs).mono ?_
    rintro e w1 ⟨r, rfl, rfl, hr⟩
    have hm := hr.mem
    clear hr
    by_cases hr0 : 0 ≤ r
    · have E : Hid (put zs x = zs) := by simp [Hid, put, hm.1 hr0]
      clear hm
      go_wp2
      go_ret
      exact ⟨_, rfl, by rw [E.out]; exact hv, gb_refl _ _, Or.inl rfl⟩
    · have hx' : x ∉ zs := fun h => hr0 (hm.2 h)
      have E : Hid (put zs x = zs ++ [x]) := by simp [Hid, put, hx, hx']
      have hd2 : decide (0 ≤ r) = false := by simpa using hr0
      clear hm hx'
      have hvA : (w1.alloc (Obj.cells #[Value.int .i64 x] 3)).ownsRow base 3 1 (.slice a zs.length cap) zs.length (zs.map (Value.int .i64)) := World.ownsRow.alloc hv _
      go_wp2_with (at_builtin; refine wpList_append_own_at _ rfl _ _ 24 rfl base 3 i0 (.int .i64 0) 1 8 Try.underlying24 hi hz0 hz1 hz2 rfl (by decide) _ _ _ rfl hvA ⟨w1.heap.size, 0, none⟩ 1 1 [.int .i64 x] rfl rfl (cell_one_new _ _ _) ?c2 ?c3 ?c4 ?c5 ?_)
      case c2 => intro u hu; simp at hu; subst hu; rfl
      case c3 => unfold maxLen; omega
      case c4 => omega
      case c5 => simp; omega
      intro v' w2 hown hgr _ hat
      have hg0 : w1.grownBy w2 (Value.slice a zs.length cap).ownBlock := gb_trans (gb_of_below ((Below.refl w1.heap.size w1).alloc (Nat.le_refl _) _) (Nat.le_refl _) _) hgr
      have hat' : v'.ownBlock = (Value.slice a zs.length cap).ownBlock ∨ ∃ g, v'.ownBlock = some g ∧ w1.heap.size ≤ g := by
        rcases hat with h | h
        · exact Or.inl h
        · exact Or.inr ⟨_, h, by simp⟩
      have hown' : Hid (OwnL w2 base v' (zs ++ [x])) := by
        show OwnL _ _ _ _
        unfold OwnL
        simpa using hown
      clear hown hgr hat
      go_wp2
      go_ret
      exact ⟨_, rfl, by rw [E.out]; exact hown'.out, hg0, hat'⟩
end Go.Proofs.Ytcpnkpogebjieaa
