/- The laws' own measure of a heap: it answers, and where it answers no number below 0 every list is short. -/
import Derived.Test.YtcpnkpogebjieaaBase
namespace Go.Proofs.Ytcpnkpogebjieaa
open Go.RowKit

set_option maxHeartbeats 400000 in
set_option maxRecDepth 100000 in
theorem szIntS_any (a : Option Addr) (n cap : Nat) (l : Int) (w : World) (hn : n ≤ maxLen) (h0 : 0 ≤ l) (h1 : l ≤ 1048576) :
    Calls Try.prog 37 #[.slice a n cap, .int .i64 l] w fun e w' => ∃ r : Int, e = .returned (.int .i64 r) ∧ w' = w ∧ -1 ≤ r ∧ r ≤ l ∧ (0 ≤ r → n ≤ 1048576) := by
  unfold maxLen at hn
  by_cases hlt : l - n < 0
  · go_enter Try.func37, Try.ntmps37
    go_wp2
    go_ret
    exact ⟨_, rfl, rfl, by omega, by omega, by omega⟩
  · go_enter Try.func37, Try.ntmps37
    go_wp2
    go_ret
    exact ⟨_, rfl, rfl, by omega, by omega, by omega⟩

set_option maxHeartbeats 400000 in
set_option maxRecDepth 100000 in
theorem szMemWatchS_any (a : Option Addr) (n cap : Nat) (l : Int) (w : World) (hn : n ≤ maxLen) (h0 : 0 ≤ l) (h1 : l ≤ 1048576) :
    Calls Try.prog 38 #[.slice a n cap, .int .i64 l] w fun e w' => ∃ r : Int, e = .returned (.int .i64 r) ∧ w' = w ∧ -1 ≤ r ∧ r ≤ l ∧ (0 ≤ r → n ≤ 1048576) := by
  unfold maxLen at hn
  by_cases hlt : l - n < 0
  · go_enter Try.func38, Try.ntmps38
    go_wp2
    go_ret
    exact ⟨_, rfl, rfl, by omega, by omega, by omega⟩
  · go_enter Try.func38, Try.ntmps38
    go_wp2
    go_ret
    exact ⟨_, rfl, rfl, by omega, by omega, by omega⟩

set_option maxHeartbeats 400000 in
set_option maxRecDepth 100000 in
theorem szMemObj_any (k : Int) (t : ByteArray) (a : Option Addr) (n cap : Nat) (l : Int) (w : World) (ht : t.size ≤ maxLen) (hn : n ≤ maxLen) (h0 : 0 ≤ l) (h1 : l ≤ 1048576) :
    Calls Try.prog 69 #[.agg #[.int .i64 k, .string t, .slice a n cap], .int .i64 l] w fun e w' => ∃ r : Int, e = .returned (.int .i64 r) ∧ Below w.heap.size w w' ∧ -1 ≤ r ∧ r ≤ l ∧ (0 ≤ r → n ≤ 1048576) := by
  have hn' := hn
  unfold maxLen at hn' ht
  by_cases hlt : l - t.size < 0
  · go_enter Try.func69, Try.ntmps69
    go_wp2
    go_ret
    exact ⟨_, rfl, (Below.refl _ _).alloc (Nat.le_refl _) _, by omega, by omega, by omega⟩
  · go_enter Try.func69, Try.ntmps69
    go_wp2_with fail
    refine (szIntS_any _ _ _ _ _ hn (by omega) (by omega)).mono ?_
    rintro e w1 ⟨r, rfl, rfl, r1, r2, r3⟩
    by_cases hr : r < 0
    · go_wp2
      go_ret
      exact ⟨_, rfl, (Below.refl _ _).alloc (Nat.le_refl _) _, by omega, by omega, by omega⟩
    · go_wp2
      go_ret
      exact ⟨_, rfl, (Below.refl _ _).alloc (Nat.le_refl _) _, by omega, by omega, by omega⟩

set_option maxHeartbeats 400000 in
set_option maxRecDepth 100000 in
theorem szMemObjS_any (a : Option Addr) (n cap : Nat) (os : List Ob) (l : Int) (w : World) (hs : SegO w a os) (hl : os.length = n) (hn : n ≤ maxLen) (ho : ∀ i (hi : i < os.length), os[i].r.length ≤ maxLen ∧ os[i].t.size ≤ maxLen) (h0 : 0 ≤ l) (h1 : l ≤ 1048576) :
    Calls Try.prog 36 #[.slice a n cap, .int .i64 l] w fun e w' => ∃ r : Int, e = .returned (.int .i64 r) ∧ Below w.heap.size w w' ∧ -1 ≤ r ∧ r ≤ l ∧ (0 ≤ r → n ≤ 1048576 ∧ ∀ i (hi : i < os.length), os[i].r.length ≤ 1048576) := by
  have hn' := hn
  unfold maxLen at hn'
  by_cases hlt : l - n < 0
  · go_enter Try.func36, Try.ntmps36
    go_wp2
    go_ret
    exact ⟨_, rfl, Below.refl _ _, by omega, by omega, by omega⟩
  · have hd : decide (l - (n : Int) < 0) = false := by simp; omega
    go_enter Try.func36, Try.ntmps36
    go_wp2
    go_loopw [1, 5] (fun c i wr => ∃ (k : Nat) (r : Int), k ≤ n ∧ i = .int .i64 k ∧ c = .int .i64 r ∧ 0 ≤ r ∧ r ≤ l ∧ Below w.heap.size w wr ∧ ∀ j (hj : j < os.length), j < k → os[j].r.length ≤ 1048576) (fun _ i _ => n - (intOf i).toNat)
    case atStart => exact ⟨0, _, Nat.zero_le _, rfl, rfl, by omega, by omega, Below.refl _ _, fun j _ h => by omega⟩
    case round =>
      obtain ⟨k, r, hk, rfl, rfl, hr0, hr1, hb, hall⟩ := hrel
      by_cases hkn : k < n
      · have hkl : k < os.length := by omega
        obtain ⟨b, off, rfl, hbw, c1, c2, c3⟩ := hs.get hkl
        obtain ⟨ho1, ho2⟩ := ho k hkl
        have d1 := (hb.cell (p := ⟨b, off + k * 3, none⟩) hbw).trans c1
        have d2 := (hb.cell (p := ⟨b, off + k * 3 + 1, none⟩) hbw).trans c2
        have d3 := (hb.cell (p := ⟨b, off + k * 3 + 2, none⟩) hbw).trans c3
        clear c1 c2 c3
        go_wp2_with fail
        refine (szMemObj_any _ _ _ _ _ _ _ ho2 ho1 (by omega) (by omega)).mono ?_
        rintro e w1 ⟨r', rfl, hb1, r1, r2, r3⟩
        have hbb := hb.trans (hb1.mono hb.size)
        have HA : Hid (0 ≤ r' → ∀ j (hj : j < os.length), j < k + 1 → os[j].r.length ≤ 1048576) := fun h j hj hjk => by
          by_cases e : j = k
          · subst e; exact r3 h
          · exact hall j hj (by omega)
        clear hall r3 d1 d2 d3
        by_cases hr : r' < 0
        · go_wp2
          go_ret
          exact ⟨_, rfl, hbb, by omega, by omega, by omega⟩
        · go_wp2
          go_roundw
          case rel => exact ⟨k + 1, r', by omega, by go_num, rfl, by omega, by omega, hbb, HA.out (by omega)⟩
          case measure => simp [intOf]; omega
      · go_wp2
        go_ret
        exact ⟨_, rfl, hb, by omega, by omega, fun _ => ⟨by omega, fun i hi => hall i hi (by omega)⟩⟩

set_option maxHeartbeats 400000 in
set_option maxRecDepth 100000 in
theorem szMemHeap_any (h : Hp) (l : Int) (w : World) (hh : HpIn w h) (hf : Fits h) (h0 : 0 ≤ l) (h1 : l ≤ 1048576) :
    Calls Try.prog 15 #[h.v, .int .i64 l] w fun e w' => ∃ r : Int, e = .returned (.int .i64 r) ∧ Below w.heap.size w w' ∧ (0 ≤ r → Small h) := by
  obtain ⟨oa, ocap, os, ra, rcap, rs, wa, wcap, ws, da, dcap, ds⟩ := h
  obtain ⟨ho, hr, hw, hd⟩ := hh
  obtain ⟨fo, foo, fr, fw, fd⟩ := hf
  simp only [Hp.v] at *
  go_enter Try.func15, Try.ntmps15
  go_wp2_with fail
  have hB0 : Below w.heap.size w (w.alloc (Obj.cells #[Value.slice oa os.length ocap, Value.slice ra rs.length rcap, Value.slice wa ws.length wcap, Value.slice da ds.length dcap] 37)) := (Below.refl _ _).alloc (Nat.le_refl _) _
  refine (szMemObjS_any _ _ _ os _ _ (ho.below hB0 (Nat.le_refl _)) rfl fo foo h0 h1).mono ?_
  rintro e w1 ⟨r, rfl, hb, r1, r2, r3⟩
  obtain ⟨hc, _⟩ := bcell hb
  simp at hc
  have hbb := hB0.trans (hb.mono hB0.size)
  clear hb
  by_cases hr0 : r < 0
  · go_wp2
    go_ret
    exact ⟨_, rfl, hbb, by omega⟩
  · go_wp2_with fail
    refine (szIntS_any _ _ _ _ _ fr (by omega) (by omega)).mono ?_
    rintro e w2 ⟨r', rfl, rfl, q1, q2, q3⟩
    by_cases hr1 : r' < 0
    · go_wp2
      go_ret
      exact ⟨_, rfl, hbb, by omega⟩
    · go_wp2_with fail
      refine (szMemWatchS_any _ _ _ _ _ fw (by omega) (by omega)).mono ?_
      rintro e w3 ⟨r'', rfl, rfl, p1, p2, p3⟩
      by_cases hr2 : r'' < 0
      · go_wp2
        go_ret
        exact ⟨_, rfl, hbb, by omega⟩
      · go_wp2_with fail
        refine (szMemWatchS_any _ _ _ _ _ fd (by omega) (by omega)).mono ?_
        rintro e w4 ⟨r3', rfl, rfl, s1, s2, s3⟩
        by_cases hr3 : r3' < 0
        · go_wp2
          go_ret
          exact ⟨_, rfl, hbb, by omega⟩
        · go_wp2
          go_ret
          exact ⟨_, rfl, hbb, fun _ => ⟨(r3 (by omega)).1, (r3 (by omega)).2, q3 (by omega), p3 (by omega), s3 (by omega)⟩⟩
end Go.Proofs.Ytcpnkpogebjieaa
