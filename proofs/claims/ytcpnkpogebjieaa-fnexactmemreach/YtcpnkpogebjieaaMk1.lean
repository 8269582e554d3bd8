/- The laws' own marks: a number's text; numbers in a list. -/
import Derived.Test.YtcpnkpogebjieaaRs1
namespace Go.Proofs.Ytcpnkpogebjieaa
open Go.RowKit

theorem gb_set (w : World) (g j : Nat) (v : Value) : w.grownBy (w.setCell ⟨g, j, none⟩ v) (some g) := ⟨rfl, rfl, rfl, by simp [World.setCell], fun k _ hk => Below.heap_setCell _ _ _ _ (fun e => hk (by rw [e]))⟩

/-- A digit's text. -/
def dig (d : Int) : ByteArray := ByteArray.empty.push (UInt8.ofNat d.toNat)

theorem conv1 (d : Int) (w : World) : (convert 22 9 (.slice (some ⟨w.heap.size, 0, none⟩) 1 1)).run Try.prog (w.alloc (Obj.cells #[Value.int .u8 d] 5)) = .ok (.string (dig d)) (w.alloc (Obj.cells #[Value.int .u8 d] 5)) := by
  rw [run_convert_bytes_string _ _ _ 5 _ _ _ Try.underlying22 Try.underlying5 Try.underlying9]
  rw [run_bytesToString _ _ _ _ [d] ?_]
  · rfl
  · simp [loadCells, loadCellsFrom, go_sem]

/-- A number's figures, ahead of a text. -/
def txF : Nat → Nat → ByteArray → ByteArray
  | 0, _, s => s
  | f + 1, m, s => if 0 < m then txF f (m / 10) (dig (48 + (m : Int) % 10) ++ s) else s
/-- The mark's text. -/
def mt (k : Int) : ByteArray := if k ≤ 0 then ⟨#[109, 48]⟩ else ⟨#[109]⟩ ++ txF (k.toNat + 1) k.toNat ⟨#[]⟩

theorem ret_str {a b : ByteArray} (h : a = b) : Ending.returned (.string a) = .returned (.string b) := by rw [h]

set_option maxHeartbeats 400000 in
set_option maxRecDepth 100000 in
theorem markText_any (k : Int) (w : World) (h0 : 0 ≤ k) (h1 : k ≤ 1000000000000000) :
    Calls Try.prog 74 #[.int .i64 k] w fun e w' => e = .returned (.string (mt k)) ∧ Below w.heap.size w w' := by
  by_cases hk : k ≤ 0
  · have E : Hid (mt k = ⟨#[109, 48]⟩) := by simp [Hid, mt, hk]
    go_enter Try.func74, Try.ntmps74
    go_wp2
    go_ret
    exact ⟨ret_str E.out.symm, Below.refl _ _⟩
  · have hd : decide (k ≤ 0) = false := by simpa using hk
    have E : Hid (mt k = ⟨#[109]⟩ ++ txF (k.toNat + 1) k.toNat ⟨#[]⟩) := by simp [Hid, mt, hk]
    generalize hR : txF (k.toNat + 1) k.toNat ⟨#[]⟩ = R at E
    have HR : Hid (txF (k.toNat + 1) k.toNat ⟨#[]⟩ = R) := hR
    clear hR
    go_enter Try.func74, Try.ntmps74
    go_wp2
    go_loopw [0, 3] (fun q o wr => ∃ (m f : Nat) (s : ByteArray), q = .int .i64 m ∧ m ≤ 1000000000000000 ∧ o = .string s ∧ s.size + m ≤ 1000000000000000 ∧ m ≤ f ∧ txF f m s = R ∧ Below w.heap.size w wr) (fun q _ _ => (intOf q).toNat)
    case atStart => exact ⟨k.toNat, k.toNat + 1, ⟨#[]⟩, by go_num, by omega, rfl, by show 0 + _ ≤ _; omega, by omega, HR.out, Below.refl _ _⟩
    case round =>
      obtain ⟨m, f, s, rfl, hm, rfl, hsz, hmf, htx, hb⟩ := hrel
      by_cases hp : 0 < m
      · obtain ⟨f', rfl⟩ : ∃ f', f = f' + 1 := ⟨f - 1, by omega⟩
        have HT : Hid (txF f' (m / 10) (dig (48 + (m : Int) % 10) ++ s) = R) := by
          have := htx
          unfold txF at this
          rw [if_pos hp] at this
          exact this
        have hcv := conv1 (48 + (m : Int) % 10) wr
        have hds : (dig (48 + (m : Int) % 10)).size = 1 := rfl
        have hds2 : (dig (48 + (m : Int) % 10) ++ s).size = 1 + s.size := by rw [ByteArray.size_append, hds]
        have HD : Hid ((dig (48 + (m : Int) % 10) ++ s).size = 1 + s.size) := hds2
        clear htx hds2
        go_wp2
        go_roundw
        case rel => exact ⟨m / 10, f', _, by go_num, by omega, rfl, by rw [HD.out]; omega, by omega, HT.out, hb.alloc hb.size _⟩
        case measure => simp [intOf]; omega
      · have e : R = s := by
          rw [← htx]
          cases f with
          | zero => rfl
          | succ f => unfold txF; rw [if_neg hp]
        clear htx
        go_wp2
        go_ret
        exact ⟨ret_str (by rw [E.out, e]), hb⟩
/-- Marks: n numbers from k on. -/
def marks (k : Int) (n : Nat) : List Int := (List.range n).map fun (i : Nat) => k + i

theorem marks_len (k : Int) (n : Nat) : (marks k n).length = n := by simp [marks]
theorem marks_get (k : Int) (n i : Nat) (h : i < (marks k n).length) : (marks k n)[i] = k + i := by simp [marks]

/-- Marking under way: j of them done. -/
theorem marks_set (k : Int) (xs : List Value) (j : Nat) (hj : j < xs.length) :
    ((marks k j).map (Value.int .i64) ++ xs.drop j).set j (.int .i64 (k + j)) = (marks k (j + 1)).map (Value.int .i64) ++ xs.drop (j + 1) := by
  have h1 : ((marks k j).map (Value.int .i64)).length = j := by simp [marks]
  rw [List.set_append, if_neg (by omega), h1, Nat.sub_self]
  have h2 : xs.drop j = xs[j] :: xs.drop (j + 1) := (List.getElem_cons_drop hj).symm
  rw [h2, List.set_cons_zero]
  simp [marks, List.range_succ]

set_option maxHeartbeats 400000 in
set_option maxRecDepth 100000 in
theorem markIntS_row (base g n cap : Nat) (xs : List Value) (k : Int) (w : World) (hn : n ≤ 1048576) (h0 : 0 ≤ k) (h1 : k ≤ 100000000000000) (hv : w.ownsRow base 3 1 (.slice (some ⟨g, 0, none⟩) n cap) n xs) :
    Calls Try.prog 20 #[.slice (some ⟨g, 0, none⟩) n cap, .int .i64 k] w fun e w' => e = .returned (.int .i64 (k + n)) ∧ w'.ownsRow base 3 1 (.slice (some ⟨g, 0, none⟩) n cap) n ((marks k n).map (Value.int .i64)) ∧ w.grownBy w' (some g) := by
  have hlen : xs.length = n := by have := hv.1; simpa using this
  go_enter Try.func20, Try.ntmps20
  go_wp2
  go_loopw [1, 5] (fun q i wr => ∃ j : Nat, j ≤ n ∧ i = .int .i64 j ∧ q = .int .i64 (k + j) ∧ wr.ownsRow base 3 1 (.slice (some ⟨g, 0, none⟩) n cap) n ((marks k j).map (Value.int .i64) ++ xs.drop j) ∧ w.grownBy wr (some g)) (fun _ i _ => n - (intOf i).toNat)
  case atStart => exact ⟨0, Nat.zero_le _, rfl, by go_num, by simpa [marks] using hv, gb_refl _ _⟩
  case round =>
    obtain ⟨j, hj, rfl, rfl, hown, hgr⟩ := hrel
    by_cases hlt : j < n
    · have hf := hown.frozenAt j
      obtain ⟨v, hc⟩ : ∃ v, wr.cell? ⟨g, j, none⟩ = some v := ⟨_, (hown.cellAt j (by omega)).trans (List.getElem?_eq_getElem (by simp [marks]; omega))⟩
      obtain ⟨hst, hg2⟩ := hown.stored j (.int .i64 (k + j))
      rw [marks_set k xs j (by omega)] at hst
      have hg3 := gb_trans hgr hg2
      clear hown hgr hg2
      go_wp2
      go_roundw
      case rel => exact ⟨j + 1, by omega, by go_num, by go_num, hst, hg3⟩
      case measure => simp [intOf]; omega
    · have ej : j = n := by omega
      subst ej
      have e2 : xs.drop j = [] := List.drop_of_length_le (by omega)
      rw [e2, List.append_nil] at hown
      go_wp2
      go_ret
      exact ⟨rfl, hown, hgr⟩

set_option maxHeartbeats 400000 in
set_option maxRecDepth 100000 in
theorem markIntS_none (k : Int) (w : World) :
    Calls Try.prog 20 #[.slice none 0 0, .int .i64 k] w fun e w' => e = .returned (.int .i64 k) ∧ w' = w := by
  go_enter Try.func20, Try.ntmps20
  go_wp2
  refine wp_loop_rounds 1 ?_
  rw [rounds_succ]
  go_wp2
  go_ret
  exact ⟨rfl, rfl⟩

/-- A list of the call's own, marked. -/
theorem markIntS_own (base : Nat) (v : Value) (zs : List Int) (k : Int) (w : World) (hn : zs.length ≤ 1048576) (h0 : 0 ≤ k) (h1 : k ≤ 100000000000000) (hv : OwnL w base v zs) :
    Calls Try.prog 20 #[v, .int .i64 k] w fun e w' => e = .returned (.int .i64 (k + zs.length)) ∧ OwnL w' base v (marks k zs.length) ∧ w.grownBy w' v.ownBlock := by
  have hcase := hv.2
  rcases hcase with ⟨rfl, h2⟩ | ⟨g, cap, cur, rfl, _⟩
  · refine (markIntS_none k w).mono ?_
    rintro e w' ⟨rfl, rfl⟩
    refine ⟨by rw [h2]; simp, ?_, gb_refl _ _⟩
    have : zs = [] := List.eq_nil_of_length_eq_zero h2
    subst this
    exact hv
  · refine (markIntS_row base g zs.length cap _ k w hn h0 h1 hv).mono ?_
    rintro e w' ⟨rfl, h3, h4⟩
    refine ⟨rfl, ?_, h4⟩
    unfold OwnL
    rw [marks_len]
    exact h3

/-- A block of numbers, marked: what it holds is of no matter here. -/
theorem markIntS_blk (g n : Nat) (cs : List Value) (k : Int) (w : World) (hc : cs.length = n) (hn : n ≤ 1048576) (h0 : 0 ≤ k) (h1 : k ≤ 100000000000000) (hv : Blk w g cs 3) :
    Calls Try.prog 20 #[.slice (some ⟨g, 0, none⟩) n n, .int .i64 k] w fun e w' => e = .returned (.int .i64 (k + n)) ∧ Blk w' g ((marks k n).map (Value.int .i64)) 3 ∧ w.grownBy w' (some g) := by
  have ho : w.ownsRow g 3 1 (.slice (some ⟨g, 0, none⟩) n n) n cs := ⟨by omega, .inr ⟨g, n, cs.toArray, rfl, Nat.le_refl _, hv, Nat.le_refl _, by unfold maxLen; omega, by simp [hc], by simp [← hc]⟩⟩
  refine (markIntS_row g g n n cs k w hn h0 h1 ho).mono ?_
  rintro e w' ⟨rfl, h3, h4⟩
  exact ⟨rfl, blk_made h3, h4⟩

set_option maxHeartbeats 400000 in
set_option maxRecDepth 100000 in
theorem heldIntS_any (a : Option Addr) (n cap : Nat) (k : Int) (w : World) (hn : n ≤ 1048576) (h0 : 0 ≤ k) (h1 : k ≤ 100000000000000) (h : SegI w a (marks k n)) :
    Calls Try.prog 21 #[.slice a n cap, .int .i64 k] w fun e w' => e = .returned (.int .i64 (k + n)) ∧ w' = w := by
  go_enter Try.func21, Try.ntmps21
  go_wp2
  go_loop [1, 5] (fun q i => ∃ j : Nat, j ≤ n ∧ i = .int .i64 j ∧ q = .int .i64 (k + j)) (fun _ i => n - (intOf i).toNat)
  case atStart => exact ⟨0, Nat.zero_le _, rfl, by go_num⟩
  case round =>
    obtain ⟨j, hj, rfl, rfl⟩ := hrel
    by_cases hlt : j < n
    · have hjl : j < (marks k n).length := by rw [marks_len]; exact hlt
      obtain ⟨b, off, rfl, hbw, c1⟩ := h.get hjl
      rw [marks_get] at c1
      have hd : ((k + (j : Int)) != (k + (j : Int))) = false := by simp
      go_wp2
      go_round
      case rel => exact ⟨j + 1, by omega, by go_num, by go_num⟩
      case measure => simp [intOf]; omega
    · have ej : j = n := by omega
      subst ej
      go_wp2
      go_ret
      exact ⟨rfl, rfl⟩

set_option maxHeartbeats 400000 in
set_option maxRecDepth 100000 in
theorem markMemWatchS_any (g n cap : Nat) (cs : List Value) (k : Int) (w : World) (t : TypeId) (hc : cs.length = n * 2) (hn : n ≤ 1048576) (h0 : 0 ≤ k) (h1 : k ≤ 100000000000000) (hv : Blk w g cs t) :
    Calls Try.prog 45 #[.slice (some ⟨g, 0, none⟩) n cap, .int .i64 k] w fun e w' => e = .returned (.int .i64 (k + 2 * n)) ∧ w.grownBy w' (some g) := by
  go_enter Try.func45, Try.ntmps45
  go_wp2
  go_loopw [1, 5] (fun q i wr => ∃ (j : Nat) (cs : List Value), j ≤ n ∧ i = .int .i64 j ∧ q = .int .i64 (k + 2 * j) ∧ cs.length = n * 2 ∧ Blk wr g cs t ∧ w.grownBy wr (some g)) (fun _ i _ => n - (intOf i).toNat)
  case atStart => exact ⟨0, cs, Nat.zero_le _, rfl, by go_num, hc, hv, gb_refl _ _⟩
  case round =>
    obtain ⟨j, cs, hj, rfl, rfl, hc, hblk, hgr⟩ := hrel
    by_cases hlt : j < n
    · have f1 := hblk.free (j * 2)
      have f2 := hblk.free (j * 2 + 1)
      obtain ⟨v1, q1⟩ : ∃ v, wr.cell? ⟨g, j * 2, none⟩ = some v := ⟨_, (hblk.cell _).trans (List.getElem?_eq_getElem (by omega))⟩
      obtain ⟨v2, q2⟩ : ∃ v, wr.cell? ⟨g, j * 2 + 1, none⟩ = some v := ⟨_, (hblk.cell _).trans (List.getElem?_eq_getElem (by omega))⟩
      have hst := (hblk.store (j * 2) (.int .i64 (k + 2 * j))).store (j * 2 + 1) (.int .i64 (k + 2 * j + 1))
      have hg2 : w.grownBy ((wr.setCell ⟨g, j * 2, none⟩ (.int .i64 (k + 2 * j))).setCell ⟨g, j * 2 + 1, none⟩ (.int .i64 (k + 2 * j + 1))) (some g) := gb_trans (gb_trans hgr (gb_set _ _ _ _)) (gb_set _ _ _ _)
      clear hblk hgr
      go_wp2
      go_roundw
      case rel => exact ⟨j + 1, _, by omega, by go_num, by go_num, by simpa using hc, hst, hg2⟩
      case measure => simp [intOf]; omega
    · have ej : j = n := by omega
      subst ej
      go_wp2
      go_ret
      exact ⟨rfl, hgr⟩
end Go.Proofs.Ytcpnkpogebjieaa
