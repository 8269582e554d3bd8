/- The library's product of two numbers, where it is small; the library's list of one number many times. -/
import Derived.Test.YtcpnkpogebjieaaSi2
import Derived.Shelf.Bits.Mul64
import Derived.Laws.CopyOwn
import Derived.Deep.RegionLaw
namespace Go.Proofs.Ytcpnkpogebjieaa
open Go.RowKit

set_option maxHeartbeats 1000000 in
set_option maxRecDepth 100000 in
theorem mul64_one (c : Nat) (hc : c ≤ 60) (w : World) : Calls Try.prog 95 #[.int .u64 1, .int .u64 c] w fun e w' => e = .returned (.tuple #[.int .u64 0, .int .u64 c]) ∧ w' = w := by
  have hm : bits .and .u64 (c : Int) 4294967295 = (c : Int) := by
    rw [Mul64.maskN c (by omega)]; omega
  have hm1 : bits .and .u64 (1 : Int) 4294967295 = (1 : Int) := by
    have := Mul64.maskN 1 (by omega)
    simpa using this
  have hm0 : bits .and .u64 (0 : Int) 4294967295 = (0 : Int) := by
    have := Mul64.maskN 0 (by omega)
    simpa using this
  have hd : (c : Int) / 4294967296 = 0 := by omega
  go_enter Try.func95, Try.ntmps95
  go_wp2
  go_ret2
  exact ⟨rfl, rfl⟩

set_option maxHeartbeats 1000000 in
set_option maxRecDepth 100000 in
theorem mul_one (c : Nat) (hc : c ≤ 60) (w : World) : Calls Try.prog 92 #[.int .u64 1, .int .u64 c] w fun e w' => e = .returned (.tuple #[.int .u64 0, .int .u64 c]) ∧ w' = w := by
  have c1 := mul64_one c hc w
  go_enter Try.func92, Try.ntmps92
  go_wp2_with fail
  refine c1.mono ?_
  rintro e w1 ⟨rfl, rfl⟩
  go_wp2
  go_ret2
  exact ⟨rfl, rfl⟩
/-- The first m of n are z, the others are zero. -/
def mixC (m n : Nat) (z : Int) : List Value := List.replicate m (Value.int .i64 z) ++ List.replicate (n - m) (Value.int .i64 0)
theorem mixC_len {m n : Nat} {z : Int} (h : m ≤ n) : (mixC m n z).length = n := by simp [mixC]; omega
theorem mixC_splice {m n j : Nat} {z : Int} (h : m + j ≤ n) : splice (mixC m n z) m (List.replicate j (Value.int .i64 z)) = mixC (m + j) n z := by
  unfold splice mixC
  rw [List.take_append_of_le_length (by simp), List.take_of_length_le (by simp)]
  rw [List.drop_append, List.drop_of_length_le (by simp)]
  simp only [List.length_replicate, List.nil_append, List.drop_replicate]
  rw [← List.append_assoc, List.replicate_append_replicate]
  congr 2
  omega
theorem mixC_get {m n : Nat} {z : Int} (k : Nat) (hk : k < m) : (mixC m n z)[k]? = some (Value.int .i64 z) := by
  unfold mixC
  rw [List.getElem?_append_left (by simpa using hk)]
  simp [hk]
theorem rep_one (j : Nat) (z : Int) : ∀ v ∈ List.replicate j (Value.int .i64 z), v.oneCell' = true := fun v hv => by
  rw [List.eq_of_mem_replicate hv]; rfl

set_option maxHeartbeats 1600000 in
set_option maxRecDepth 100000 in
theorem repeat_any (z : Int) (b o n : Nat) (w : World) (hn : n ≤ 60) (hc : w.cell? ⟨b, o, none⟩ = some (.int .i64 z)) (hb : b < w.heap.size) :
    Calls Try.prog 88 #[.slice (some ⟨b, o, none⟩) 1 1, .int .i64 n] w fun e w' => ∃ g, e = .returned (.slice (some ⟨g, 0, none⟩) n n) ∧ Blk w' g (List.replicate n (Value.int .i64 z)) 3 ∧ w.heap.size ≤ g ∧ Below w.heap.size w w' := by
  obtain ⟨i0, hi', hz0, hz1, hz2⟩ := info_parts info_int
  have c1 := mul_one n hn w
  go_enter Try.func88, Try.ntmps88
  go_wp2_with fail
  refine c1.mono ?_
  rintro e w1 ⟨rfl, rfl⟩
  clear c1
  go_wp2_with (at_make; refine wpList_make_full _ rfl _ _ 24 rfl w1.heap.size 3 i0 (.int .i64 0) 1 Try.underlying24 hi' hz0 hz1 .i64 .i64 _ _ n rfl rfl rfl rfl ?c1 ?c2 (Nat.le_refl _) ?_)
  case c1 => rw [hz2]; omega
  case c2 => unfold maxLen; omega
  intro w2 hown hgr
  have hb1 := below_made hgr
  have hk1 := blk_made hown
  rw [toList_madeCells_one] at hk1
  clear hown hgr
  have hk2 : w2.heap[w1.heap.size]? = some (.cells (mixC 0 n z).toArray 3 (0, 0)) := by
    have := hk1
    unfold Blk at this
    rw [this]; simp [mixC]
  have hc2 := (hb1.cell (p := ⟨b, o, none⟩) hb).trans hc
  have hsz1 : (Try.prog.info? 3).map (·.size) = some 1 := by rw [hi']; simp [hz1]
  clear hk1
  have hq1 : Nat.min 1 n ≤ 1 := Nat.min_le_left 1 n
  have hq2 : Nat.min 1 n ≤ n := Nat.min_le_right 1 n
  have HC : ∃ cs : List Value, cs = List.replicate (Nat.min 1 n) (Value.int .i64 z) := ⟨_, rfl⟩
  obtain ⟨cs, hcs⟩ := HC
  have hcl : cs.length = Nat.min 1 n := by rw [hcs]; simp
  have hcp : 0 < cs.length → ((some ⟨w1.heap.size, 0, none⟩ : Option Addr) = some ⟨w1.heap.size, 0, none⟩ ∧ ∃ ad, (some ⟨b, o, none⟩ : Option Addr) = some ad ∧ ∀ j v, cs[j]? = some v → w2.cell? (ad.add j) = some v) := fun _ => ⟨rfl, ⟨b, o, none⟩, rfl, fun j v hj => by
    have hj1 : j < cs.length := by
      rcases Nat.lt_or_ge j cs.length with h | h
      · exact h
      · rw [List.getElem?_eq_none h] at hj; cases hj
    have h0 : j = 0 := by rw [hcl] at hj1; omega
    subst h0
    rw [hcs, List.getElem?_replicate] at hj
    split at hj
    · simp at hj; subst hj; simpa [Addr.add] using hc2
    · cases hj⟩
  have hcf : 0 + cs.length ≤ (mixC 0 n z).length := by rw [mixC_len (Nat.zero_le _), hcl]; omega
  have hc1 : ∀ v ∈ cs, v.oneCell' = true := by rw [hcs]; exact rep_one _ _
  have HM : Hid (splice (mixC 0 n z) 0 cs = mixC (Nat.min 1 n) n z) := by
    show _ = _
    have := mixC_splice (m := 0) (n := n) (j := Nat.min 1 n) (z := z) (by omega)
    rw [hcs, this, Nat.zero_add]
  have HCL : Hid (cs.length = Nat.min 1 n) := hcl
  clear hcs
  go_wp2_with (refine wpList_copy_splice rfl _ _ 24 24 rfl 3 Try.underlying24 hsz1 _ _ n n 1 1 rfl rfl w1.heap.size 0 (mixC 0 n z) 3 hk2 cs hcl hcp hcf hc1 w1.heap.size w1 hb1 (Nat.le_refl _) ?_)
  intro w3 HK3 hb3
  have hK3 : Blk w3 w1.heap.size (mixC (Nat.min 1 n) n z) 3 := by
    have := HK3.out
    rw [HM.out] at this
    exact this
  have hq3 : 0 < n → 0 < Nat.min 1 n := fun h => by
    have : Nat.min 1 n = 1 := Nat.min_eq_left h
    omega
  have hlen := HCL.out
  generalize Nat.min 1 n = q at *
  generalize cs.length = q' at *
  subst hlen
  clear hcp hcf hc1 HK3 HM HCL hk2 hc2
  go_wp2
  go_loopw [8] (fun i wr => ∃ m : Nat, i = .int .i64 m ∧ m ≤ n ∧ (0 < n → 0 < m) ∧ Blk wr w1.heap.size (mixC m n z) 3 ∧ Below w1.heap.size w1 wr) (fun i _ => n - (intOf i).toNat)
  case atStart => exact ⟨_, rfl, by omega, hq3, hK3, hb3⟩
  case round =>
    obtain ⟨m, rfl, hmn, hm0, hK, hbm⟩ := hrel
    clear hK3 hb3 hb1 hq3
    by_cases hlt : m < n
    · have hmp := hm0 (by omega)
      have hj1 : Nat.min m (n - m) ≤ n - m := Nat.min_le_right m (n - m)
      have hj2 : 0 < Nat.min m (n - m) := Nat.lt_min.2 ⟨hmp, by omega⟩
      have hKd : wr.drew.heap[w1.heap.size]? = some (.cells (mixC m n z).toArray 3 (0, 0)) := hK
      have HC : ∃ cs : List Value, cs = List.replicate (Nat.min m (n - m)) (Value.int .i64 z) := ⟨_, rfl⟩
      obtain ⟨cs2, hcs2⟩ := HC
      have hcl2 : cs2.length = Nat.min m (n - m) := by rw [hcs2]; simp
      have hcp2 : 0 < cs2.length → ((some ⟨w1.heap.size, m, none⟩ : Option Addr) = some ⟨w1.heap.size, m, none⟩ ∧ ∃ ad, (some ⟨w1.heap.size, 0, none⟩ : Option Addr) = some ad ∧ ∀ j v, cs2[j]? = some v → wr.drew.cell? (ad.add j) = some v) := fun _ => ⟨rfl, ⟨w1.heap.size, 0, none⟩, rfl, fun j v hj => by
        have hj3 : j < cs2.length := by
          rcases Nat.lt_or_ge j cs2.length with h | h
          · exact h
          · rw [List.getElem?_eq_none h] at hj; cases hj
        have hjm : j < m := by have : Nat.min m (n - m) ≤ m := Nat.min_le_left _ _; omega
        rw [hcs2, List.getElem?_replicate] at hj
        split at hj
        · simp at hj; subst hj
          have h1 := (hK.cell j).trans (mixC_get j hjm)
          have hadd : (⟨w1.heap.size, 0, none⟩ : Addr).add j = ⟨w1.heap.size, j, none⟩ := by unfold Addr.add; split <;> simp_all
          rw [hadd]
          exact h1
        · cases hj⟩
      have hcf2 : m + cs2.length ≤ (mixC m n z).length := by rw [mixC_len hmn, hcl2]; omega
      have hc12 : ∀ v ∈ cs2, v.oneCell' = true := by rw [hcs2]; exact rep_one _ _
      have HM2 : Hid (splice (mixC m n z) m cs2 = mixC (m + Nat.min m (n - m)) n z) := by
        show _ = _
        rw [hcs2]
        exact mixC_splice (by omega)
      have HCL2 : Hid (cs2.length = Nat.min m (n - m)) := hcl2
      have HCP2 : Hid (0 < cs2.length → (∃ ad, (some ⟨w1.heap.size, 0, none⟩ : Option Addr) = some ad ∧ ∀ j v, cs2[j]? = some v → wr.drew.cell? (ad.add j) = some v)) := fun h => (hcp2 h).2
      rw [← hcl2] at hj1 hj2 HM2
      obtain ⟨q2, hq2⟩ : ∃ q, q = cs2.length := ⟨_, rfl⟩
      rw [← hq2] at hj1 hj2 HM2
      have HQ : Hid (q2 = cs2.length) := hq2
      clear hcl2 hcp2 hq2
      have hi1 : (m : Int) < (n : Int) := by omega
      have hi2 : (m : Int) ≤ (n : Int) := by omega
      have hnm : ¬ n = m := by omega
      have hnm2 : ¬ m = n := by omega
      clear hcs2
      go_wp2_with fail
      go_region_held3 (fun _ => True) (trivial)
        (first
          | (refine step_copy_splice rfl _ _ 24 24 rfl 3 Try.underlying24 hsz1 (some ⟨w1.heap.size, m, none⟩) (some ⟨w1.heap.size, 0, none⟩) (n - m) (n - m) m n rfl rfl w1.heap.size m (mixC m n z) 3 hKd cs2 HCL2.out (fun h => ⟨rfl, HCP2.out h⟩) hcf2 hc12 w1.heap.size w1 hbm.drew (Nat.le_refl _) ?_; intro w4 HK4 hb4))
      all_goals
        have hK5 : Hid (Blk w4 w1.heap.size (mixC (m + q2) n z) 3) := by
          show Blk _ _ _ _
          have := HK4.out
          rw [HM2.out] at this
          exact this
        have hl5 := HQ.out
        clear hcf2 hc12 HK4 HM2 HCL2 hKd HCP2 HQ
        generalize cs2.length = q3 at *
        subst hl5
        have hwr : IntKind.i64.wrap ((m : Int) + (q2 : Int)) = ((m + q2 : Nat) : Int) := by rw [IntKind.wrap_i64]; omega
        go_wp2
        go_roundw
        case rel => exact ⟨m + q2, by first | go_num | rw [hwr], by omega, fun _ => by omega, hK5.out, hb4⟩
        case measure => simp [intOf]; omega
    · have em : m = n := by omega
      have hKn : Blk wr w1.heap.size (List.replicate n (Value.int .i64 z)) 3 := by
        have := hK
        rw [em] at this
        simpa [mixC] using this
      clear em hK
      go_wp2
      go_ret
      exact ⟨_, rfl, hKn, Nat.le_refl _, hbm⟩
end Go.Proofs.Ytcpnkpogebjieaa
