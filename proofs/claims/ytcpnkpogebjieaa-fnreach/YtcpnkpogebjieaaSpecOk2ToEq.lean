/- The specification's own MemOk, object by object. · The specification's own MemOk: what is watched; the whole. · The laws' own comparisons of lists and heaps: they answer whether what is plain of both is the same. -/
import Derived.Test.YtcpnkpogebjieaaRs2ToSpecOk
import Derived.Test.YtcpnkpogebjieaaToToOk
import Derived.Deep.QuietTactic
import Derived.BigQuiet
import Derived.Deep.RegionWith
namespace Go.Proofs.Ytcpnkpogebjieaa
open Go.RowKit

set_option maxHeartbeats 800000 in
set_option maxRecDepth 100000 in
theorem l1ObjOk_any (k : Int) (t : ByteArray) (a : Option Addr) (n cap : Nat) (r : List Int) (most : Int) (w : World) (hl : r.length = n) (hn : n ≤ maxLen) (ht : t.size ≤ maxLen) (h : SegI w a r) (m0 : 0 ≤ most) (m1 : most ≤ 1048576) :
    Calls Try.prog 32 #[.agg #[.int .i64 k, .string t, .slice a n cap], .int .i64 most] w fun e w' => e = .returned (.bool (objOk most (k, t, r))) ∧ Below w.heap.size w w' := by
  have hn1 := hn
  unfold maxLen at hn1
  go_enter Try.func32, Try.ntmps32
  go_wp2
  go_loop [5] (fun i => ∃ j : Nat, j ≤ n ∧ i = .int .i64 j ∧ ∀ x (hx : x < r.length), x < j → inB r[x] (-1) (most - 1) = true) (fun i => n - (intOf i).toNat)
  case atStart => exact ⟨0, Nat.zero_le _, rfl, fun j _ h => by omega⟩
  case round =>
    obtain ⟨j, hj, rfl, hall⟩ := hrel
    by_cases hlt : j < n
    · have hjl : j < r.length := by omega
      obtain ⟨b, off, rfl, hbw, c1⟩ := h.get hjl
      have HA : Hid (∀ x (hx : x < r.length), x < j → inB r[x] (-1) (most - 1) = true) := hall
      clear hall
      go_wp2_with fail
      refine (l1In_any _ _ _ _).mono ?_
      rintro e w1 ⟨rfl, rfl⟩
      cases hin : inB r[j] (-1) (most - 1) with
      | false =>
        have HF : Hid (objOk most (k, t, r) = false) := by
          show objOk most (k, t, r) = false
          simp only [objOk, refsOk]
          rw [not_all (f := fun z => inB z (-1) (most - 1)) hjl hin]; rfl
        clear hin
        go_wp2
        go_ret
        exact ⟨by rw [HF.out]; rfl, (Below.refl _ _).alloc (Nat.le_refl _) _⟩
      | true =>
        have HR : Hid (∀ x (hx : x < r.length), x < j + 1 → inB r[x] (-1) (most - 1) = true) := all_succ (f := fun z => inB z (-1) (most - 1)) HA.out hjl hin
        clear hin
        go_wp2
        go_round
        case rel => exact ⟨j + 1, by omega, by go_num, HR.out⟩
        case measure => simp [intOf]; omega
    · have hr : refsOk most r = true := all_of (fun i hi => hall i hi (by omega))
      have HO : Hid (objOk most (k, t, r) = kindOk k t n) := by
        show _ = _
        simp only [objOk, hr, hl, Bool.true_and]
      have hnl : decide ((j : Int) < (n : Int)) = false := by simp; omega
      clear hall hr
      by_cases h1 : k = 1
      · subst h1
        go_wp2_with fail
        refine (l1TextOk_any _ _ ht).mono ?_
        rintro e w1 ⟨rfl, rfl⟩
        cases htx : textOkB t with
        | false =>
          have HK : Hid (kindOk 1 t n = false) := by simp [Hid, kindOk, htx]
          clear htx
          go_wp2
          go_ret
          exact ⟨by rw [HO.out, HK.out]; rfl, (Below.refl _ _).alloc (Nat.le_refl _) _⟩
        | true =>
          have HK : Hid (kindOk 1 t n = decide (n = 0)) := by simp [Hid, kindOk, htx]
          clear htx
          go_wp2
          go_ret
          exact ⟨ret_bool (by rw [HO.out, HK.out, beq_zero]), (Below.refl _ _).alloc (Nat.le_refl _) _⟩
      · by_cases h2 : k = 2
        · subst h2
          go_wp2
          · have hz := nil_size (t := t) (by assumption)
            have HK : kindOk 2 t n = decide (n ≤ 6) := by simp [kindOk, hz]
            go_ret
            exact ⟨ret_bool (by rw [HO.out, HK, le_six]), (Below.refl _ _).alloc (Nat.le_refl _) _⟩
          · have hz : t.size ≠ 0 := fun e => absurd (size_nil e) (by assumption)
            have HK : kindOk 2 t n = false := by simp [kindOk, hz]
            go_ret
            exact ⟨ret_bool (by rw [HO.out, HK]), (Below.refl _ _).alloc (Nat.le_refl _) _⟩
        · by_cases h3 : k = 3
          · subst h3
            go_wp2
            · have hz := nil_size (t := t) (by assumption)
              have HK : kindOk 3 t n = decide (n = 2) := by simp [kindOk, hz]
              go_ret
              exact ⟨ret_bool (by rw [HO.out, HK, beq_two]), (Below.refl _ _).alloc (Nat.le_refl _) _⟩
            · have hz : t.size ≠ 0 := fun e => absurd (size_nil e) (by assumption)
              have HK : kindOk 3 t n = false := by simp [kindOk, hz]
              go_ret
              exact ⟨ret_bool (by rw [HO.out, HK]), (Below.refl _ _).alloc (Nat.le_refl _) _⟩
          · by_cases h4 : k = 4
            · subst h4
              go_wp2
              · have hz := nil_size (t := t) (by assumption)
                have HK : kindOk 4 t n = decide (n = 0) := by simp [kindOk, hz]
                go_ret
                exact ⟨ret_bool (by rw [HO.out, HK, beq_zero]), (Below.refl _ _).alloc (Nat.le_refl _) _⟩
              · have hz : t.size ≠ 0 := fun e => absurd (size_nil e) (by assumption)
                have HK : kindOk 4 t n = false := by simp [kindOk, hz]
                go_ret
                exact ⟨ret_bool (by rw [HO.out, HK]), (Below.refl _ _).alloc (Nat.le_refl _) _⟩
            · have g1 : (k == 1) = false := by simpa using h1
              have g2 : (k == 2) = false := by simpa using h2
              have g3 : (k == 3) = false := by simpa using h3
              have g4 : (k == 4) = false := by simpa using h4
              have HK : Hid (kindOk k t n = false) := by simp [Hid, kindOk, h1, h2, h3, h4]
              clear h1 h2 h3 h4
              go_wp2
              go_ret
              exact ⟨ret_bool (by rw [HO.out, HK.out]), (Below.refl _ _).alloc (Nat.le_refl _) _⟩
end Go.Proofs.Ytcpnkpogebjieaa

namespace Go.Proofs.Ytcpnkpogebjieaa
open Go.RowKit

theorem inB_bd {n lo hi : Int} (h : inB n lo hi = true) : lo ≤ n ∧ n ≤ hi := by simpa [inB] using h

set_option maxHeartbeats 800000 in
set_option maxRecDepth 100000 in
theorem l1WatchOk_any (h : Hp) (a : Option Addr) (n cap : Nat) (ws : List (Int × Int)) (w : World) (hl : ws.length = n) (hn : n ≤ maxLen) (hh : HpIn w h) (hs : h.os.length ≤ 1048576) (hw : SegW w a ws) :
    Calls Try.prog 34 #[h.v, .slice a n cap] w fun e w' => e = .returned (.bool (ws.all (watchOk (h.os.map Ob.p)))) ∧ Below w.heap.size w w' := by
  have hn1 := hn
  unfold maxLen at hn1
  obtain ⟨oa, ocap, os, ra, rcap, rs, wa, wcap, ws0, da, dcap, ds⟩ := h
  obtain ⟨ho, -, -, -⟩ := hh
  simp only [Hp.v] at *
  go_enter Try.func34, Try.ntmps34
  go_wp2
  have hB0 : Below w.heap.size w (w.alloc (Obj.cells #[Value.slice oa os.length ocap, Value.slice ra rs.length rcap, Value.slice wa ws0.length wcap, Value.slice da ds.length dcap] 27)) := (Below.refl _ _).alloc (Nat.le_refl _) _
  go_loopw [5] (fun i wr => ∃ k : Nat, k ≤ n ∧ i = .int .i64 k ∧ Below w.heap.size w wr ∧ wr.cell? ⟨w.heap.size, 0, none⟩ = some (.slice oa os.length ocap) ∧ w.heap.size < wr.heap.size ∧ ∀ j (hj : j < ws.length), j < k → watchOk (os.map Ob.p) ws[j] = true) (fun i _ => n - (intOf i).toNat)
  case atStart => exact ⟨0, Nat.zero_le _, rfl, hB0, by simp, by simp, fun j _ h => by omega⟩
  case round =>
    obtain ⟨k, hk, rfl, hb, hbox, hsz, hall⟩ := hrel
    by_cases hlt : k < n
    · have hkl : k < ws.length := by omega
      obtain ⟨b, off, rfl, hbw, c1, c2⟩ := hw.get hkl
      have d1 := (hb.cell (p := ⟨b, off + k * 2, none⟩) hbw).trans c1
      have d2 := (hb.cell (p := ⟨b, off + k * 2 + 1, none⟩) hbw).trans c2
      have hbA := hb.alloc (Nat.le_of_lt hsz) (Obj.cells #[Value.int .i64 ws[k].1, Value.int .i64 ws[k].2] 77)
      have hboxA := (((Below.refl wr.heap.size wr).alloc (Nat.le_refl _) (Obj.cells #[Value.int .i64 ws[k].1, Value.int .i64 ws[k].2] 77)).cell (p := ⟨w.heap.size, 0, none⟩) hsz).trans hbox
      have hszA : w.heap.size < (wr.alloc (Obj.cells #[Value.int .i64 ws[k].1, Value.int .i64 ws[k].2] 77)).heap.size := Nat.lt_of_lt_of_le hsz (by simp)
      have HA : Hid (∀ j (hj : j < ws.length), j < k → watchOk (os.map Ob.p) ws[j] = true) := hall
      clear hall c1 c2 hB0
      go_wp2_with fail
      refine (l1In_any _ _ _ _).mono ?_
      rintro e w1 ⟨rfl, rfl⟩
      cases h1 : inB ws[k].1 0 ((os.length : Int) - 1) with
      | false =>
        have HF : Hid (ws.all (watchOk (os.map Ob.p)) = false) := not_all hkl (by simp [watchOk, h1])
        clear h1
        go_wp2
        go_ret
        exact ⟨ret_bool HF.out.symm, hbA⟩
      | true =>
        have hx := inB_bd h1
        obtain ⟨hx0, hx1⟩ := hx
        have H1 : Hid (inB ws[k].1 0 ((os.length : Int) - 1) = true) := h1
        clear h1
        go_wp2_with fail
        refine (l1In_any _ _ _ _).mono ?_
        rintro e w1 ⟨rfl, rfl⟩
        cases h2 : inB ws[k].2 0 ((os.length : Int) - 1) with
        | false =>
          have HF : Hid (ws.all (watchOk (os.map Ob.p)) = false) := not_all hkl (by simp [watchOk, h2])
          clear h2
          go_wp2
          go_ret
          exact ⟨ret_bool HF.out.symm, hbA⟩
        | true =>
          have hgl : ws[k].1.toNat < os.length := by omega
          obtain ⟨b2, off2, rfl, hbw2, e1, _, _⟩ := ho.get hgl
          have f1 := (hbA.cell (p := ⟨b2, off2 + ws[k].1.toNat * 3, none⟩) hbw2).trans e1
          have hix : ws[k].1 < (os.length : Int) := by omega
          have HW : Hid (watchOk (os.map Ob.p) ws[k] = decide (os[ws[k].1.toNat].k = 4)) := by
            show _ = _
            have h1 := H1.out
            simp [watchOk, h1, h2, hgl, Ob.p]
          clear h2 e1
          by_cases h4 : os[ws[k].1.toNat].k = 4
          · have hb4 : (os[ws[k].1.toNat].k != 4) = false := by simp [h4]
            have HR : Hid (∀ j (hj : j < ws.length), j < k + 1 → watchOk (os.map Ob.p) ws[j] = true) := all_succ HA.out hkl (by rw [HW.out]; simp [h4])
            clear h4
            go_wp2
            go_roundw
            case rel => exact ⟨k + 1, by omega, by go_num, hbA, hboxA, hszA, HR.out⟩
            case measure => simp [intOf]; omega
          · have hb4 : (os[ws[k].1.toNat].k != 4) = true := by simp [h4]
            have HF : Hid (ws.all (watchOk (os.map Ob.p)) = false) := not_all hkl (by rw [HW.out]; simp [h4])
            clear h4
            go_wp2
            go_ret
            exact ⟨ret_bool HF.out.symm, hbA⟩
    · have HF : Hid (ws.all (watchOk (os.map Ob.p)) = true) := all_of (fun i hi => hall i hi (by omega))
      clear hall
      go_wp2
      go_ret
      exact ⟨ret_bool HF.out.symm, hb⟩
end Go.Proofs.Ytcpnkpogebjieaa

namespace Go.Proofs.Ytcpnkpogebjieaa
open Go.RowKit

theorem take_eq_succ {α : Type} {xs ys : List α} {k : Nat} (h : xs.take k = ys.take k) (hx : k < xs.length) (hy : k < ys.length) (he : xs[k] = ys[k]) : xs.take (k + 1) = ys.take (k + 1) := by
  rw [List.take_succ_eq_append_getElem hx, List.take_succ_eq_append_getElem hy, h, he]

theorem take_all {α : Type} {xs ys : List α} {k : Nat} (h : xs.take k = ys.take k) (hx : xs.length ≤ k) (hy : ys.length ≤ k) : xs = ys := by
  rwa [List.take_of_length_le hx, List.take_of_length_le hy] at h

theorem ne_at {α : Type} {xs ys : List α} {k : Nat} (hx : k < xs.length) (hy : k < ys.length) (h : xs[k] ≠ ys[k]) : xs ≠ ys := fun e => by subst e; exact h rfl

set_option maxHeartbeats 400000 in
set_option maxRecDepth 100000 in
theorem eqIntS_any (a b : Option Addr) (n m ca cb : Nat) (xs ys : List Int) (w : World) (hn : xs.length = n) (hm : ys.length = m) (hx : SegI w a xs) (hy : SegI w b ys) (hn1 : n ≤ maxLen) (hm1 : m ≤ maxLen) :
    Calls Try.prog 18 #[.slice a n ca, .slice b m cb] w fun e w' => e = .returned (.bool (decide (xs = ys))) ∧ Below w.heap.size w w' := by
  unfold maxLen at hn1 hm1
  by_cases hl : n = m
  · subst hl
    go_enter Try.func18, Try.ntmps18
    go_wp2
    go_loopw [5] (fun i wr => ∃ k : Nat, k ≤ n ∧ i = .int .i64 k ∧ xs.take k = ys.take k ∧ Below w.heap.size w wr) (fun i _ => n - (intOf i).toNat)
    case atStart => exact ⟨0, Nat.zero_le _, rfl, rfl, Below.refl _ _⟩
    case round =>
      obtain ⟨k, hk, rfl, htk, hb⟩ := hrel
      have HT : Hid (xs.take k = ys.take k) := htk
      clear htk
      by_cases hlt : k < n
      · have hkx : k < xs.length := by omega
        have hky : k < ys.length := by omega
        obtain ⟨b1, o1, rfl, hb1, c1⟩ := hx.get hkx
        obtain ⟨b2, o2, rfl, hb2, c2⟩ := hy.get hky
        have d1 := (hb.cell (p := ⟨b1, o1 + k, none⟩) hb1).trans c1
        have d2 := (hb.cell (p := ⟨b2, o2 + k, none⟩) hb2).trans c2
        have hi1 : (k : Int) < (n : Int) := by omega
        clear c1 c2
        go_wp2_with fail
        go_quiet (fail)
        by_cases he : xs[k] = ys[k]
        · have hne : (xs[k] != ys[k]) = false := by simp [he]
          have HE : Hid (xs[k] = ys[k]) := he
          clear he
          go_wp2
          go_roundw
          case rel => exact ⟨k + 1, by omega, by go_num, take_eq_succ HT.out hkx hky HE.out, bdrewN hb _⟩
          case measure => simp [intOf]; omega
        · have hne : (xs[k] != ys[k]) = true := by simp [he]
          go_wp2
          go_ret
          exact ⟨by simp [ne_at hkx hky he], bdrewN hb _⟩
      · go_wp2
        go_ret
        exact ⟨by simp [take_all HT.out (by omega) (by omega)], hb⟩
  · have hne : ((n : Int) != (m : Int)) = true := by simp; omega
    go_enter Try.func18, Try.ntmps18
    go_wp2
    go_ret
    have : xs ≠ ys := fun e => hl (by rw [← hn, ← hm, e])
    exact ⟨by simp [this], Below.refl _ _⟩

set_option maxHeartbeats 400000 in
set_option maxRecDepth 100000 in
theorem eqMemObj_eq (k : Int) (t : ByteArray) (a b : Option Addr) (n ca cb : Nat) (xs : List Int) (w : World) (hn : xs.length = n) (hx : SegI w a xs) (hy : SegI w b xs) (hn1 : n ≤ maxLen) :
    Calls Try.prog 72 #[.agg #[.int .i64 k, .string t, .slice a n ca], .agg #[.int .i64 k, .string t, .slice b n cb]] w fun e w' => e = .returned (.bool true) ∧ Below w.heap.size w w' := by
  go_enter Try.func72, Try.ntmps72
  go_wp2_with fail
  have hB0 : Below w.heap.size w ((w.alloc (Obj.cells #[Value.int IntKind.i64 k, Value.string t, Value.slice a n ca] 52)).alloc (Obj.cells #[Value.int IntKind.i64 k, Value.string t, Value.slice b n cb] 52)) := ((Below.refl _ _).alloc (Nat.le_refl _) _).alloc (by simp) _
  refine (eqIntS_any a b n n ca cb xs xs _ hn hn (hx.below hB0 (Nat.le_refl _)) (hy.below hB0 (Nat.le_refl _)) hn1 hn1).mono ?_
  rintro e w1 ⟨rfl, hb⟩
  have hbb := hB0.trans (hb.mono hB0.size)
  simp only [decide_true]
  clear hb hB0
  go_wp2
  go_ret
  exact ⟨rfl, hbb⟩

set_option maxHeartbeats 400000 in
set_option maxRecDepth 100000 in
theorem eqMemWatch_eq (x y : Int) (w : World) :
    Calls Try.prog 73 #[.agg #[.int .i64 x, .int .i64 y], .agg #[.int .i64 x, .int .i64 y]] w fun e w' => e = .returned (.bool true) ∧ Below w.heap.size w w' := by
  go_enter Try.func73, Try.ntmps73
  go_wp2
  go_ret
  exact ⟨rfl, ((Below.refl _ _).alloc (Nat.le_refl _) _).alloc (by simp) _⟩

set_option maxHeartbeats 400000 in
set_option maxRecDepth 100000 in
theorem eqMemWatchS_eq (a b : Option Addr) (n ca cb : Nat) (ws : List (Int × Int)) (w : World) (hn : ws.length = n) (hx : SegW w a ws) (hy : SegW w b ws) (hn1 : n ≤ maxLen) :
    Calls Try.prog 43 #[.slice a n ca, .slice b n cb] w fun e w' => e = .returned (.bool true) ∧ Below w.heap.size w w' := by
  unfold maxLen at hn1
  go_enter Try.func43, Try.ntmps43
  go_wp2
  go_loopw [5] (fun i wr => ∃ k : Nat, k ≤ n ∧ i = .int .i64 k ∧ Below w.heap.size w wr) (fun i _ => n - (intOf i).toNat)
  case atStart => exact ⟨0, Nat.zero_le _, rfl, Below.refl _ _⟩
  case round =>
    obtain ⟨k, hk, rfl, hb⟩ := hrel
    by_cases hlt : k < n
    · have hkx : k < ws.length := by omega
      obtain ⟨b1, o1, rfl, hb1, c1, c2⟩ := hx.get hkx
      obtain ⟨b2, o2, rfl, hb2, c3, c4⟩ := hy.get hkx
      have d1 := (hb.cell (p := ⟨b1, o1 + k * 2, none⟩) hb1).trans c1
      have d2 := (hb.cell (p := ⟨b1, o1 + k * 2 + 1, none⟩) hb1).trans c2
      have d3 := (hb.cell (p := ⟨b2, o2 + k * 2, none⟩) hb2).trans c3
      have d4 := (hb.cell (p := ⟨b2, o2 + k * 2 + 1, none⟩) hb2).trans c4
      have hi1 : (k : Int) < (n : Int) := by omega
      clear c1 c2 c3 c4
      go_wp2_with fail
      go_region_with (go_at_call 73; refine (eqMemWatch_eq _ _ _).mono ?_; rintro e w' ⟨rfl, hbx⟩)
      all_goals
        have hbb := hb.drew.trans (hbx.mono hb.drew.size)
        go_wp2
        go_roundw
        case rel => exact ⟨k + 1, by omega, by go_num, hbb⟩
        case measure => simp [intOf]; omega
    · go_wp2
      go_ret
      exact ⟨rfl, hb⟩
end Go.Proofs.Ytcpnkpogebjieaa
