/- The specification's own looking the same: where one is, two lists of what is watched, two objects. The library's comparison of two lists. · The specification's own looking the same: two objects. · Lists of what is watched that a call owns; the specification's own list of what guardians watch that can be come to. -/
import Derived.Test.YtcpnkpogebjieaaRi5ToSp
import Derived.Deep.QuietTactic
import Derived.BigQuiet
import Derived.Deep.RegionWith
import Derived.Test.YtcpnkpogebjieaaSpecOk2ToEq
import Derived.Deep.RegionHeld3
import Derived.Deep.AppendLies
namespace Go.Proofs.Ytcpnkpogebjieaa
open Go.RowKit

set_option maxHeartbeats 400000 in
set_option maxRecDepth 100000 in
theorem l2At_pos (a : Option Addr) (n cap : Nat) (zs : List Int) (x : Int) (w : World) (hl : zs.length = n) (hn : n ≤ maxLen) (h : SegI w a zs) :
    Calls Try.prog 75 #[.slice a n cap, .int .i64 x] w fun e w' => e = .returned (.int .i64 (pos zs x)) ∧ w' = w := by
  refine (l2At_any a n cap zs x w hl hn h).mono ?_
  rintro e w' ⟨r, rfl, rfl, hr⟩
  exact ⟨by rw [hr.pos], rfl⟩

set_option maxHeartbeats 400000 in
set_option maxRecDepth 100000 in
theorem l2Where_any (a : Option Addr) (n cap : Nat) (zs : List Int) (x : Int) (w : World) (hl : zs.length = n) (hn : n ≤ maxLen) (h : SegI w a zs) :
    Calls Try.prog 46 #[.slice a n cap, .int .i64 x] w fun e w' => e = .returned (.int .i64 (wh zs x)) ∧ w' = w := by
  by_cases hx : x < 0
  · have E : Hid (wh zs x = -1) := by simp [Hid, wh, hx]
    go_enter Try.func46, Try.ntmps46
    go_wp2
    go_ret
    exact ⟨ret_int E.out.symm, rfl⟩
  · have E : Hid (wh zs x = pos zs x) := by simp [Hid, wh, hx]
    have hd : decide (x < 0) = false := by simpa using hx
    go_enter Try.func46, Try.ntmps46
    go_wp2_with fail
    refine (l2At_pos a n cap zs x _ hl hn h).mono ?_
    rintro e w1 ⟨rfl, rfl⟩
    go_wp2
    go_ret
    exact ⟨ret_int E.out.symm, rfl⟩

set_option maxHeartbeats 400000 in
set_option maxRecDepth 100000 in
theorem equalInts_any (a b : Option Addr) (n m ca cb : Nat) (xs ys : List Int) (w : World) (hn : xs.length = n) (hm : ys.length = m) (hx : SegI w a xs) (hy : SegI w b ys) (hn1 : n ≤ maxLen) (hm1 : m ≤ maxLen) :
    Calls Try.prog 51 #[.slice a n ca, .slice b m cb] w fun e w' => e = .returned (.bool (decide (xs = ys))) ∧ Below w.heap.size w w' := by
  unfold maxLen at hn1 hm1
  by_cases hl : n = m
  · subst hl
    go_enter Try.func51, Try.ntmps51
    go_wp2
    go_loopw [5, 13] (fun _ i wr => ∃ k : Nat, k ≤ n ∧ i = .int .i64 k ∧ xs.take k = ys.take k ∧ Below w.heap.size w wr) (fun _ i _ => n - (intOf i).toNat)
    case atStart => exact ⟨0, Nat.zero_le _, rfl, rfl, Below.refl _ _⟩
    case round =>
      obtain ⟨k, hk, rfl, htk, hb⟩ := hrel
      have HT : Hid (xs.take k = ys.take k) := htk
      clear htk
      by_cases hlt : k < n
      · have hkx : k < xs.length := by omega
        have hky : k < ys.length := by omega
        obtain ⟨b1, o1, rfl, hb1, c1⟩ := hx.get hkx
        obtain ⟨b2, o2, rfl, hb2, c2⟩ := hy.get hky
        have d1 := (hb.cell (p := ⟨b1, o1 + k, none⟩) hb1).trans c1
        have d2 := (hb.cell (p := ⟨b2, o2 + k, none⟩) hb2).trans c2
        have hi1 : (k : Int) < (n : Int) := by omega
        clear c1 c2
        go_wp2_with fail
        go_quiet (fail)
        by_cases he : xs[k] = ys[k]
        · have hne : (xs[k] != ys[k]) = false := by simp [he]
          have HE : Hid (xs[k] = ys[k]) := he
          clear he
          go_wp2
          go_roundw
          case rel => exact ⟨k + 1, by omega, by go_num, take_eq_succ HT.out hkx hky HE.out, bdrewN hb _⟩
          case measure => simp [intOf]; omega
        · have hne : (xs[k] != ys[k]) = true := by simp [he]
          go_wp2
          go_ret
          exact ⟨by simp [ne_at hkx hky he], bdrewN hb _⟩
      · go_wp2
        go_ret
        exact ⟨by simp [take_all HT.out (by omega) (by omega)], hb⟩
  · have hne : ((n : Int) != (m : Int)) = true := by simp; omega
    go_enter Try.func51, Try.ntmps51
    go_wp2
    go_ret
    have : xs ≠ ys := fun e => hl (by rw [← hn, ← hm, e])
    exact ⟨by simp [this], Below.refl _ _⟩

set_option maxHeartbeats 400000 in
set_option maxRecDepth 100000 in
theorem l2SameWatches_any (a b : Option Addr) (n m ca cb : Nat) (xs ys : List (Int × Int)) (w : World) (hn : xs.length = n) (hm : ys.length = m) (hx : SegW w a xs) (hy : SegW w b ys) (hn1 : n ≤ maxLen) (hm1 : m ≤ maxLen) :
    Calls Try.prog 48 #[.slice a n ca, .slice b m cb] w fun e w' => e = .returned (.bool (decide (xs = ys))) ∧ Below w.heap.size w w' := by
  unfold maxLen at hn1 hm1
  by_cases hl : n = m
  · subst hl
    go_enter Try.func48, Try.ntmps48
    go_wp2
    go_loopw [5] (fun i wr => ∃ k : Nat, k ≤ n ∧ i = .int .i64 k ∧ xs.take k = ys.take k ∧ Below w.heap.size w wr) (fun i _ => n - (intOf i).toNat)
    case atStart => exact ⟨0, Nat.zero_le _, rfl, rfl, Below.refl _ _⟩
    case round =>
      obtain ⟨k, hk, rfl, htk, hb⟩ := hrel
      have HT : Hid (xs.take k = ys.take k) := htk
      clear htk
      by_cases hlt : k < n
      · have hkx : k < xs.length := by omega
        have hky : k < ys.length := by omega
        obtain ⟨b1, o1, rfl, hb1, c1, c2⟩ := hx.get hkx
        obtain ⟨b2, o2, rfl, hb2, c3, c4⟩ := hy.get hky
        have d1 := (hb.cell (p := ⟨b1, o1 + k * 2, none⟩) hb1).trans c1
        have d2 := (hb.cell (p := ⟨b1, o1 + k * 2 + 1, none⟩) hb1).trans c2
        have d3 := (hb.cell (p := ⟨b2, o2 + k * 2, none⟩) hb2).trans c3
        have d4 := (hb.cell (p := ⟨b2, o2 + k * 2 + 1, none⟩) hb2).trans c4
        have hi1 : (k : Int) < (n : Int) := by omega
        clear c1 c2 c3 c4
        go_wp2_with fail
        by_cases he : xs[k] = ys[k]
        · rw [← he] at d3 d4
          have HE : Hid (xs[k] = ys[k]) := he
          clear he
          go_region
          all_goals
            go_wp2
            go_roundw
            case rel => exact ⟨k + 1, by omega, by go_num, take_eq_succ HT.out hkx hky HE.out, hb.drew⟩
            case measure => simp [intOf]; omega
        · have HE : Hid (xs ≠ ys) := ne_at hkx hky he
          have hpp : ¬ (xs[k].1 = ys[k].1 ∧ xs[k].2 = ys[k].2) := fun e => he (Prod.ext e.1 e.2)
          clear he
          by_cases h1 : xs[k].1 = ys[k].1
          · have h2 : ¬ xs[k].2 = ys[k].2 := fun e => hpp ⟨h1, e⟩
            clear hpp
            go_region
            all_goals
              go_wp2
              go_ret
              exact ⟨by simp [HE.out], hb.drew⟩
          · clear hpp
            go_region
            all_goals
              go_wp2
              go_ret
              exact ⟨by simp [HE.out], hb.drew⟩
      · go_wp2
        go_ret
        exact ⟨by simp [take_all HT.out (by omega) (by omega)], hb⟩
  · have hne : ((n : Int) != (m : Int)) = true := by simp; omega
    go_enter Try.func48, Try.ntmps48
    go_wp2
    go_ret
    have : xs ≠ ys := fun e => hl (by rw [← hn, ← hm, e])
    exact ⟨by simp [this], Below.refl _ _⟩

set_option maxHeartbeats 400000 in
set_option maxRecDepth 100000 in
theorem equalWatches_any (a b : Option Addr) (n m ca cb : Nat) (xs ys : List (Int × Int)) (w : World) (hn : xs.length = n) (hm : ys.length = m) (hx : SegW w a xs) (hy : SegW w b ys) (hn1 : n ≤ maxLen) (hm1 : m ≤ maxLen) :
    Calls Try.prog 54 #[.slice a n ca, .slice b m cb] w fun e w' => e = .returned (.bool (decide (xs = ys))) ∧ Below w.heap.size w w' := by
  unfold maxLen at hn1 hm1
  by_cases hl : n = m
  · subst hl
    go_enter Try.func54, Try.ntmps54
    go_wp2
    go_loopw [5, 13] (fun _ i wr => ∃ k : Nat, k ≤ n ∧ i = .int .i64 k ∧ xs.take k = ys.take k ∧ Below w.heap.size w wr) (fun _ i _ => n - (intOf i).toNat)
    case atStart => exact ⟨0, Nat.zero_le _, rfl, rfl, Below.refl _ _⟩
    case round =>
      obtain ⟨k, hk, rfl, htk, hb⟩ := hrel
      have HT : Hid (xs.take k = ys.take k) := htk
      clear htk
      by_cases hlt : k < n
      · have hkx : k < xs.length := by omega
        have hky : k < ys.length := by omega
        obtain ⟨b1, o1, rfl, hb1, c1, c2⟩ := hx.get hkx
        obtain ⟨b2, o2, rfl, hb2, c3, c4⟩ := hy.get hky
        have d1 := (hb.cell (p := ⟨b1, o1 + k * 2, none⟩) hb1).trans c1
        have d2 := (hb.cell (p := ⟨b1, o1 + k * 2 + 1, none⟩) hb1).trans c2
        have d3 := (hb.cell (p := ⟨b2, o2 + k * 2, none⟩) hb2).trans c3
        have d4 := (hb.cell (p := ⟨b2, o2 + k * 2 + 1, none⟩) hb2).trans c4
        have hi1 : (k : Int) < (n : Int) := by omega
        clear c1 c2 c3 c4
        go_wp2_with fail
        by_cases he : xs[k] = ys[k]
        · rw [← he] at d3 d4
          have HE : Hid (xs[k] = ys[k]) := he
          clear he
          go_region
          all_goals
            go_wp2
            go_roundw
            case rel => exact ⟨k + 1, by omega, by go_num, take_eq_succ HT.out hkx hky HE.out, hb.drew⟩
            case measure => simp [intOf]; omega
        · have HE : Hid (xs ≠ ys) := ne_at hkx hky he
          have hpp : ¬ (xs[k].1 = ys[k].1 ∧ xs[k].2 = ys[k].2) := fun e => he (Prod.ext e.1 e.2)
          clear he
          by_cases h1 : xs[k].1 = ys[k].1
          · have h2 : ¬ xs[k].2 = ys[k].2 := fun e => hpp ⟨h1, e⟩
            clear hpp
            go_region
            all_goals
              go_wp2
              go_ret
              exact ⟨by simp [HE.out], hb.drew⟩
          · clear hpp
            go_region
            all_goals
              go_wp2
              go_ret
              exact ⟨by simp [HE.out], hb.drew⟩
      · go_wp2
        go_ret
        exact ⟨by simp [take_all HT.out (by omega) (by omega)], hb⟩
  · have hne : ((n : Int) != (m : Int)) = true := by simp; omega
    go_enter Try.func54, Try.ntmps54
    go_wp2
    go_ret
    have : xs ≠ ys := fun e => hl (by rw [← hn, ← hm, e])
    exact ⟨by simp [this], Below.refl _ _⟩

end Go.Proofs.Ytcpnkpogebjieaa

namespace Go.Proofs.Ytcpnkpogebjieaa
open Go.RowKit

theorem bytes_inj {s t : ByteArray} (h : s.toList = t.toList) : s = t := by
  rw [ByteArray.toList_eq, ByteArray.toList_eq] at h
  obtain ⟨⟨s⟩⟩ := s
  obtain ⟨⟨t⟩⟩ := t
  simp at h
  rw [h]

theorem map_eq_len {α β : Type} {f g : α → β} {l m : List α} (h : l.map f = m.map g) : l.length = m.length := by
  simpa using congrArg List.length h

set_option maxHeartbeats 1600000 in
set_option maxRecDepth 100000 in
theorem l2Alike_any (a b : Ob) (xa ya : Option Addr) (xcap ycap : Nat) (x y : List Int) (w : World) (ha : SegI w a.ra a.r) (hb : SegI w b.ra b.r) (hx : SegI w xa x) (hy : SegI w ya y) (hxl : x.length ≤ maxLen) (hyl : y.length ≤ maxLen) (hal : a.r.length ≤ maxLen) (hbl : b.r.length ≤ maxLen) :
    Calls Try.prog 47 #[.agg #[.int .i64 a.k, .string a.t, .slice a.ra a.r.length a.rcap], .agg #[.int .i64 b.k, .string b.t, .slice b.ra b.r.length b.rcap], .slice xa x.length xcap, .slice ya y.length ycap] w fun e w' => ∃ r : Bool, e = .returned (.bool r) ∧ (r = true ↔ (a.k, a.t, a.r.map (wh x)) = (b.k, b.t, b.r.map (wh y))) ∧ Below w.heap.size w w' := by
  obtain ⟨k1, t1, ra1, c1, r1⟩ := a
  obtain ⟨k2, t2, ra2, c2, r2⟩ := b
  simp only at *
  have hal' := hal
  have hbl' := hbl
  unfold maxLen at hal' hbl'
  have hB0 : Below w.heap.size w ((w.alloc (Obj.cells #[Value.int .i64 k1, Value.string t1, Value.slice ra1 r1.length c1] 52)).alloc (Obj.cells #[Value.int .i64 k2, Value.string t2, Value.slice ra2 r2.length c2] 52)) := ((Below.refl _ w).alloc (Nat.le_refl _) _).alloc (by simp) _
  by_cases hk : k1 = k2
  · by_cases ht : t1 = t2
    · by_cases hl : r1.length = r2.length
      · subst hk
        subst ht
        have hK1 : Blk ((w.alloc (Obj.cells #[Value.int .i64 k1, Value.string t1, Value.slice ra1 r1.length c1] 52)).alloc (Obj.cells #[Value.int .i64 k1, Value.string t1, Value.slice ra2 r1.length c2] 52)) w.heap.size [Value.int .i64 k1, Value.string t1, Value.slice ra1 r1.length c1] 52 := (Blk.new w _ _).alloc _
        have hK2 : Blk ((w.alloc (Obj.cells #[Value.int .i64 k1, Value.string t1, Value.slice ra1 r1.length c1] 52)).alloc (Obj.cells #[Value.int .i64 k1, Value.string t1, Value.slice ra2 r1.length c2] 52)) (w.heap.size + 1) [Value.int .i64 k1, Value.string t1, Value.slice ra2 r1.length c2] 52 := by
          have := Blk.new (w.alloc (Obj.cells #[Value.int .i64 k1, Value.string t1, Value.slice ra1 r1.length c1] 52)) [Value.int .i64 k1, Value.string t1, Value.slice ra2 r1.length c2] 52
          simpa using this
        rw [← hl] at hB0 ⊢
        have HL : Hid (r1.length = r2.length) := hl
        clear hl
        generalize hn : r1.length = n at *
        have HN : Hid (r1.length = n) := hn
        clear hn
        go_enter Try.func47, Try.ntmps47
        go_wp2
        go_loopw [9] (fun i wr => ∃ k : Nat, k ≤ n ∧ i = .int .i64 k ∧ (r1.map (wh x)).take k = (r2.map (wh y)).take k ∧ Below w.heap.size w wr ∧ Blk wr w.heap.size [Value.int .i64 k1, Value.string t1, Value.slice ra1 n c1] 52 ∧ Blk wr (w.heap.size + 1) [Value.int .i64 k1, Value.string t1, Value.slice ra2 n c2] 52) (fun i _ => n - (intOf i).toNat)
        case atStart => exact ⟨0, Nat.zero_le _, rfl, rfl, hB0, hK1, hK2⟩
        case round =>
          obtain ⟨k, hk, rfl, htk, hbw, q1, q2⟩ := hrel
          have HT : Hid ((r1.map (wh x)).take k = (r2.map (wh y)).take k) := htk
          clear htk hB0 hK1 hK2
          have p1 := q1.cell 2
          have p2 := q2.cell 2
          simp only [List.getElem?_cons_zero, List.getElem?_cons_succ] at p1 p2
          by_cases hlt : k < n
          · have hk1 : k < r1.length := by have := HN.out; omega
            have hk2 : k < r2.length := by have := HN.out; have := HL.out; omega
            obtain ⟨b1, o1, rfl, hb1, e1⟩ := ha.get hk1
            obtain ⟨b2, o2, rfl, hb2, e2⟩ := hb.get hk2
            have d1 := (hbw.cell (p := ⟨b1, o1 + k, none⟩) hb1).trans e1
            have d2 := (hbw.cell (p := ⟨b2, o2 + k, none⟩) hb2).trans e2
            have hi1 : (k : Int) < (n : Int) := by omega
            have sx : ∀ m, SegI (wr.drewN m) xa x := fun m => hx.below (bdrewN hbw m) (Nat.le_refl _)
            have sy : ∀ m, SegI (wr.drewN m) ya y := fun m => hy.below (bdrewN hbw m) (Nat.le_refl _)
            clear e1 e2
            go_wp2_with fail
            go_quiet (first
              | (go_at_call_of 46 (Value.slice xa x.length xcap); refine Calls.quiet_of_same (l2Where_any xa _ xcap x r1[k] _ rfl hxl ?_); exact sx _)
              | (go_at_call_of 46 (Value.slice ya y.length ycap); refine Calls.quiet_of_same (l2Where_any ya _ ycap y r2[k] _ rfl hyl ?_); exact sy _))
            have hkm1 : k < (r1.map (wh x)).length := by simpa using hk1
            have hkm2 : k < (r2.map (wh y)).length := by simpa using hk2
            by_cases he : wh x r1[k] = wh y r2[k]
            · have hne : (wh x r1[k] != wh y r2[k]) = false := by simp [he]
              have HE : Hid (wh x r1[k] = wh y r2[k]) := he
              clear he
              go_wp2
              go_roundw
              case rel => exact ⟨k + 1, by omega, by go_num, take_eq_succ HT.out hkm1 hkm2 (by simpa using HE.out), bdrewN hbw _, q1, q2⟩
              case measure => simp [intOf]; omega
            · have hne : (wh x r1[k] != wh y r2[k]) = true := by simp [he]
              have HE : Hid (r1.map (wh x) ≠ r2.map (wh y)) := ne_at hkm1 hkm2 (by simpa using he)
              clear he
              go_wp2
              go_ret
              exact ⟨_, rfl, by simp [HE.out], bdrewN hbw _⟩
          · have HE : Hid (r1.map (wh x) = r2.map (wh y)) := take_all HT.out (by rw [List.length_map]; have := HN.out; omega) (by rw [List.length_map]; have := HN.out; have := HL.out; omega)
            go_wp2
            go_ret
            exact ⟨_, rfl, by simp [HE.out], hbw⟩
      · subst hk
        subst ht
        have hne : ((r1.length : Int) != (r2.length : Int)) = true := by simp; omega
        go_enter Try.func47, Try.ntmps47
        go_wp2
        go_ret
        exact ⟨_, rfl, by simp only [Bool.false_eq_true, false_iff]; intro e; simp only [Prod.mk.injEq] at e; exact hl (map_eq_len e.2.2), hB0⟩
    · subst hk
      have h1 : (t1.toList == t2.toList) = false := by
        rw [beq_eq_false_iff_ne]
        exact fun e => ht (bytes_inj e)
      go_enter Try.func47, Try.ntmps47
      go_wp2
      go_ret
      exact ⟨_, rfl, by simp [ht], hB0⟩
  · have hne : (k1 != k2) = true := by simp [hk]
    go_enter Try.func47, Try.ntmps47
    go_wp2
    go_ret
    exact ⟨_, rfl, by simp [hk], hB0⟩
end Go.Proofs.Ytcpnkpogebjieaa

namespace Go.Proofs.Ytcpnkpogebjieaa
open Go.RowKit

/-- The cells of a row that a call owns. -/
theorem own_get {w : World} {base e size n g cap : Nat} {xs : List Value} (h : w.ownsRow base e size (.slice (some ⟨g, 0, none⟩) n cap) n xs) (i : Nat) (hi : i < n * size) : w.cell? ⟨g, i, none⟩ = xs[i]? := by
  rcases h.2 with ⟨h1, _⟩ | ⟨g', cap', cur, h1, _, hh, _, _, _, htake⟩
  · simp at h1
  · simp only [Value.slice.injEq, Option.some.injEq, Addr.mk.injEq, and_true, true_and] at h1
    obtain ⟨rfl, rfl⟩ := h1
    rw [← htake, List.getElem?_take_of_lt hi]
    simp [World.cell?, hh]

/-- A list of what is watched that the call owns. -/
def OwnW (w : World) (base : Nat) (v : Value) (ws : List (Int × Int)) : Prop := w.ownsRow base 77 2 v ws.length (ws.flatMap wc)
theorem OwnW.form {w : World} {base : Nat} {v : Value} {ws : List (Int × Int)} (h : OwnW w base v ws) : ∃ a cap, v = .slice a ws.length cap ∧ SegW w a ws ∧ (ws.length ≤ cap ∧ cap ≤ maxLen) := by
  rcases h.2 with ⟨h1, h2⟩ | ⟨g, cap, cur, h1, hg, hh, hn, hc, hs, htake⟩
  · refine ⟨none, 0, by rw [h1, h2], fun hm => by omega, by omega, Nat.zero_le _⟩
  · refine ⟨some ⟨g, 0, none⟩, cap, h1, fun hm => ⟨g, 0, rfl, lt_of_block hh, fun i hi => ?_⟩, hn, hc⟩
    have h' : w.ownsRow base 77 2 (.slice (some ⟨g, 0, none⟩) ws.length cap) ws.length (ws.flatMap wc) := by rw [← h1]; exact h
    have g0 := flat_get wc 2 (fun _ => rfl) ws i 0 hi (by omega)
    have g1 := flat_get wc 2 (fun _ => rfl) ws i 1 hi (by omega)
    refine ⟨?_, ?_⟩
    · rw [Nat.zero_add, own_get h' _ (by omega)]; exact g0
    · rw [Nat.zero_add, own_get h' _ (by omega)]; exact g1
theorem OwnW.below {w w' : World} {base B : Nat} {v : Value} {ws : List (Int × Int)} (h : OwnW w base v ws) (hb : Below B w w') (hB : w.heap.size ≤ B) : OwnW w' base v ws := by
  refine World.ownsRow.kept h (gb_of_below hb hB none) ?_
  cases e : v.ownBlock with
  | none => exact Or.inl rfl
  | some k => exact Or.inr (by simp)
theorem OwnW.lt {w : World} {base : Nat} {v : Value} {ws : List (Int × Int)} (h : OwnW w base v ws) : ∀ k, v.ownBlock = some k → base ≤ k ∧ k < w.heap.size := World.ownsRow.lt h
theorem OwnW.base {w : World} {B C : Nat} {v : Value} {ws : List (Int × Int)} (h : OwnW w B v ws) (hC : C ≤ B) : OwnW w C v ws := by
  refine ⟨h.1, ?_⟩
  rcases h.2 with h1 | ⟨g, cap, cur, h1, hg, r⟩
  · exact Or.inl h1
  · exact Or.inr ⟨g, cap, cur, h1, Nat.le_trans hC hg, r⟩

theorem watch_new {w : World} (p : Int × Int) (t : TypeId) : ∀ j u, (wc p)[j]? = some u → (w.alloc (Obj.cells #[.int .i64 p.1, .int .i64 p.2] t)).cell? ((⟨w.heap.size, 0, none⟩ : Addr).add j) = some u :=
  World.news_of_block (cs := #[.int .i64 p.1, .int .i64 p.2]) (heap_alloc_new w _)

set_option maxHeartbeats 1600000 in
set_option maxRecDepth 100000 in
theorem l2Watches_any (wa : Option Addr) (wcap : Nat) (ws : List (Int × Int)) (xa : Option Addr) (xcap : Nat) (x : List Int) (w : World) (hw : SegW w wa ws) (hwl : ws.length ≤ 1048576) (hx : SegI w xa x) (hxl : x.length ≤ maxLen) :
    Calls Try.prog 49 #[.slice wa ws.length wcap, .slice xa x.length xcap] w fun e w' => ∃ v', e = .returned v' ∧ OwnW w' w.heap.size v' (watL ws x) ∧ Below w.heap.size w w' := by
  obtain ⟨i0, hi, hz0, hz1, hz2⟩ := info_parts info_watch
  go_enter Try.func49, Try.ntmps49
  go_wp2
  have hO0 := World.ownsRow_lit (e := 77) (size := 2) (base := w.heap.size) w #[] 0 (by simp) (Nat.zero_le _) rfl
  have hB0 : Below w.heap.size w (w.alloc (Obj.cells #[] 77)) := (Below.refl _ _).alloc (Nat.le_refl _) _
  go_loopw [5, 6] (fun v i wr => ∃ k : Nat, k ≤ ws.length ∧ i = .int .i64 k ∧ OwnW wr w.heap.size v (watL (ws.take k) x) ∧ Below w.heap.size w wr) (fun _ i _ => ws.length - (intOf i).toNat)
  case atStart => exact ⟨0, Nat.zero_le _, rfl, hO0, hB0⟩
  case round =>
    obtain ⟨k, hk, rfl, hown, hb⟩ := hrel
    clear hO0 hB0
    by_cases hlt : k < ws.length
    · obtain ⟨b, off, rfl, hbw, e1, e2⟩ := hw.get hlt
      have d1 := (hb.cell (p := ⟨b, off + k * 2, none⟩) hbw).trans e1
      have d2 := (hb.cell (p := ⟨b, off + k * 2 + 1, none⟩) hbw).trans e2
      have sx := hx.below hb (Nat.le_refl _)
      have sxd : SegI wr.drew xa x := hx.below hb.drew (Nat.le_refl _)
      have HF := watL_succ ws x k hlt
      have hfl := watL_le ws x k
      have hi1 : (k : Int) < (ws.length : Int) := by omega
      clear e1 e2
      generalize ws[k].1 = g1 at *
      generalize ws[k].2 = g2 at *
      go_wp2_with fail
      refine (l2At_pos xa _ xcap x g1 _ rfl hxl sx).mono ?_
      rintro e w1 ⟨rfl, rfl⟩
      by_cases hm : decide (0 ≤ pos x g1) = true
      · rw [if_pos hm] at HF
        have HF' : Hid (watL (ws.take (k + 1)) x = watL (ws.take k) x ++ [(pos x g1, pos x g2)]) := HF
        clear HF
        obtain ⟨va, vcap, rfl, -⟩ := hown.form
        have hbs := hb.size
        have hrow := fun k' h' => (hown.lt k' h').1
        have hne : some b ≠ (Value.slice va (watL (ws.take k) x).length vcap).ownBlock := fun e => by have := hrow b e.symm; omega
        generalize hL : watL (ws.take k) x = L at *
        have HL : Hid (watL (ws.take k) x = L) := hL
        clear hL
        have hA : Below w1.heap.size w1 (w1.drew.alloc (Obj.cells #[.int .i64 (pos x g1), .int .i64 (pos x g2)] 77)) := (Below.refl _ _).drew.alloc (Nat.le_refl _) _
        have hvA : (w1.drew.alloc (Obj.cells #[.int .i64 (pos x g1), .int .i64 (pos x g2)] 77)).ownsRow w.heap.size 77 2 (.slice va L.length vcap) L.length (L.flatMap wc) := hown.below hA (Nat.le_refl _)
        have hnw := watch_new (w := w1.drew) (pos x g1, pos x g2) 77
        have hone : ∀ u ∈ wc (pos x g1, pos x g2), u.oneCell' = true := fun u hu => by
          simp [wc] at hu
          rcases hu with rfl | rfl <;> rfl
        have hbs2 : w.heap.size ≤ (w1.drew.alloc (Obj.cells #[.int .i64 (pos x g1), .int .i64 (pos x g2)] 77)).heap.size := Nat.le_trans hbs hA.size
        have HS : Hid (∀ w2, (w1.drew.alloc (Obj.cells #[.int .i64 (pos x g1), .int .i64 (pos x g2)] 77)).grownBy w2 (Value.slice va L.length vcap).ownBlock → (w2.cell? ⟨b, off + k * 2, none⟩ = some (.int .i64 g1) ∧ w2.cell? ⟨b, off + k * 2 + 1, none⟩ = some (.int .i64 g2)) ∧ Below w.heap.size w w2) := fun w2 hg => by
          have hb1 : b < w1.heap.size := by omega
          refine ⟨⟨(hg.cell_far ⟨b, off + k * 2, none⟩ (Nat.lt_of_lt_of_le hb1 hA.size) hne).trans ((hA.cell (p := ⟨b, off + k * 2, none⟩) hb1).trans d1), (hg.cell_far ⟨b, off + k * 2 + 1, none⟩ (Nat.lt_of_lt_of_le hb1 hA.size) hne).trans ((hA.cell (p := ⟨b, off + k * 2 + 1, none⟩) hb1).trans d2)⟩, ?_⟩
          exact (hb.trans (hA.mono hb.size)).trans (gb_below hg hbs2 hrow)
        have hl1 : L.length + 1 ≤ maxLen := by unfold maxLen; omega
        have hl2 : (L.length + 1) * 16 ≤ 140737488355328 := by omega
        clear hA hne hrow
        go_wp2_with fail
        go_region_held3 (fun w' => w'.cell? ⟨b, off + k * 2, none⟩ = some (.int .i64 g1) ∧ w'.cell? ⟨b, off + k * 2 + 1, none⟩ = some (.int .i64 g2)) (go_keep)
          (first
            | (go_at_call_of 75 (Value.int .i64 g1); refine (l2At_pos xa _ xcap x g1 _ rfl hxl sxd).mono ?_; rintro e w1 ⟨rfl, rfl⟩)
            | (go_at_call_of 75 (Value.int .i64 g2); refine (l2At_pos xa _ xcap x g2 _ rfl hxl sxd).mono ?_; rintro e w1 ⟨rfl, rfl⟩)
            | (refine step_append_lies _ rfl _ _ 25 rfl w.heap.size 77 i0 _ 2 16 Try.underlying25 hi hz0 hz1 hz2 rfl (by decide) _ _ _ rfl hvA ⟨w1.heap.size, 0, none⟩ 1 1 (wc (pos x g1, pos x g2)) rfl rfl hnw hone (by decide) hl1 hl2 hbs2 _ rfl ?_; intro g cap w2 hown2 hgrow hat hlt2; obtain ⟨⟨hS1, hS2⟩, hb2⟩ := HS.out w2 hgrow))
        all_goals
          have hown3 : Hid (OwnW w2 w.heap.size (.slice (some ⟨g, 0, none⟩) (L.length + 1) cap) (watL (ws.take (k + 1)) x)) := by
            show OwnW _ _ _ _
            rw [HF'.out]
            unfold OwnW
            simpa using hown2
          clear hown2 hgrow hat hvA hnw hone HS
          go_wp2
          go_roundw
          case rel => exact ⟨k + 1, by omega, by go_num, hown3.out, hb2⟩
          case measure => simp [intOf]; omega
      · rw [if_neg hm] at HF
        have hm' : decide (0 ≤ pos x g1) = false := by simpa using hm
        have HF' : Hid (OwnW w1 w.heap.size u5 (watL (ws.take (k + 1)) x)) := by
          show OwnW _ _ _ _
          rw [HF]; exact hown
        clear HF hm
        go_wp2
        go_roundw
        case rel => exact ⟨k + 1, by omega, by go_num, HF'.out, hb⟩
        case measure => simp [intOf]; omega
    · have hk2 : k = ws.length := by omega
      subst hk2
      rw [List.take_length] at hown
      go_wp2
      go_ret
      exact ⟨_, rfl, hown, hb⟩
end Go.Proofs.Ytcpnkpogebjieaa
