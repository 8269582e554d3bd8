/- The laws' own marks: a number's text; numbers in a list. · The specification's own events: what is known at a place, what is seen of an object, where a part is. · The specification's own events: what an ok heap is, limb by limb; where a part is; what is watched. -/
import Derived.Test.YtcpnkpogebjieaaRi2ToRs1
import Derived.Test.YtcpnkpogebjieaaDg
namespace Go.Proofs.Ytcpnkpogebjieaa
open Go.RowKit

theorem gb_set (w : World) (g j : Nat) (v : Value) : w.grownBy (w.setCell ⟨g, j, none⟩ v) (some g) := ⟨rfl, rfl, rfl, by simp [World.setCell], fun k _ hk => Below.heap_setCell _ _ _ _ (fun e => hk (by rw [e]))⟩

/-- A digit's text. -/
def dig (d : Int) : ByteArray := ByteArray.empty.push (UInt8.ofNat d.toNat)

theorem conv1 (d : Int) (w : World) : (convert 22 9 (.slice (some ⟨w.heap.size, 0, none⟩) 1 1)).run Try.prog (w.alloc (Obj.cells #[Value.int .u8 d] 5)) = .ok (.string (dig d)) (w.alloc (Obj.cells #[Value.int .u8 d] 5)) := by
  rw [run_convert_bytes_string _ _ _ 5 _ _ _ Try.underlying22 Try.underlying5 Try.underlying9]
  rw [run_bytesToString _ _ _ _ [d] ?_]
  · rfl
  · simp [loadCells, loadCellsFrom, go_sem]

/-- A number's figures, ahead of a text. -/
def txF : Nat → Nat → ByteArray → ByteArray
  | 0, _, s => s
  | f + 1, m, s => if 0 < m then txF f (m / 10) (dig (48 + (m : Int) % 10) ++ s) else s
/-- The mark's text. -/
def mt (k : Int) : ByteArray := if k ≤ 0 then ⟨#[109, 48]⟩ else ⟨#[109]⟩ ++ txF (k.toNat + 1) k.toNat ⟨#[]⟩

theorem ret_str {a b : ByteArray} (h : a = b) : Ending.returned (.string a) = .returned (.string b) := by rw [h]

set_option maxHeartbeats 400000 in
set_option maxRecDepth 100000 in
theorem markText_any (k : Int) (w : World) (h0 : 0 ≤ k) (h1 : k ≤ 1000000000000000) :
    Calls Try.prog 74 #[.int .i64 k] w fun e w' => e = .returned (.string (mt k)) ∧ Below w.heap.size w w' := by
  by_cases hk : k ≤ 0
  · have E : Hid (mt k = ⟨#[109, 48]⟩) := by simp [Hid, mt, hk]
    go_enter Try.func74, Try.ntmps74
    go_wp2
    go_ret
    exact ⟨ret_str E.out.symm, Below.refl _ _⟩
  · have hd : decide (k ≤ 0) = false := by simpa using hk
    have E : Hid (mt k = ⟨#[109]⟩ ++ txF (k.toNat + 1) k.toNat ⟨#[]⟩) := by simp [Hid, mt, hk]
    generalize hR : txF (k.toNat + 1) k.toNat ⟨#[]⟩ = R at E
    have HR : Hid (txF (k.toNat + 1) k.toNat ⟨#[]⟩ = R) := hR
    clear hR
    go_enter Try.func74, Try.ntmps74
    go_wp2
    go_loopw [0, 3] (fun q o wr => ∃ (m f : Nat) (s : ByteArray), q = .int .i64 m ∧ m ≤ 1000000000000000 ∧ o = .string s ∧ s.size + m ≤ 1000000000000000 ∧ m ≤ f ∧ txF f m s = R ∧ Below w.heap.size w wr) (fun q _ _ => (intOf q).toNat)
    case atStart => exact ⟨k.toNat, k.toNat + 1, ⟨#[]⟩, by go_num, by omega, rfl, by show 0 + _ ≤ _; omega, by omega, HR.out, Below.refl _ _⟩
    case round =>
      obtain ⟨m, f, s, rfl, hm, rfl, hsz, hmf, htx, hb⟩ := hrel
      by_cases hp : 0 < m
      · obtain ⟨f', rfl⟩ : ∃ f', f = f' + 1 := ⟨f - 1, by omega⟩
        have HT : Hid (txF f' (m / 10) (dig (48 + (m : Int) % 10) ++ s) = R) := by
          have := htx
          unfold txF at this
          rw [if_pos hp] at this
          exact this
        have hcv := conv1 (48 + (m : Int) % 10) wr
        have hds : (dig (48 + (m : Int) % 10)).size = 1 := rfl
        have hds2 : (dig (48 + (m : Int) % 10) ++ s).size = 1 + s.size := by rw [ByteArray.size_append, hds]
        have HD : Hid ((dig (48 + (m : Int) % 10) ++ s).size = 1 + s.size) := hds2
        clear htx hds2
        go_wp2
        go_roundw
        case rel => exact ⟨m / 10, f', _, by go_num, by omega, rfl, by rw [HD.out]; omega, by omega, HT.out, hb.alloc hb.size _⟩
        case measure => simp [intOf]; omega
      · have e : R = s := by
          rw [← htx]
          cases f with
          | zero => rfl
          | succ f => unfold txF; rw [if_neg hp]
        clear htx
        go_wp2
        go_ret
        exact ⟨ret_str (by rw [E.out, e]), hb⟩
/-- Marks: n numbers from k on. -/
def marks (k : Int) (n : Nat) : List Int := (List.range n).map fun (i : Nat) => k + i

theorem marks_len (k : Int) (n : Nat) : (marks k n).length = n := by simp [marks]
theorem marks_get (k : Int) (n i : Nat) (h : i < (marks k n).length) : (marks k n)[i] = k + i := by simp [marks]

/-- Marking under way: j of them done. -/
theorem marks_set (k : Int) (xs : List Value) (j : Nat) (hj : j < xs.length) :
    ((marks k j).map (Value.int .i64) ++ xs.drop j).set j (.int .i64 (k + j)) = (marks k (j + 1)).map (Value.int .i64) ++ xs.drop (j + 1) := by
  have h1 : ((marks k j).map (Value.int .i64)).length = j := by simp [marks]
  rw [List.set_append, if_neg (by omega), h1, Nat.sub_self]
  have h2 : xs.drop j = xs[j] :: xs.drop (j + 1) := (List.getElem_cons_drop hj).symm
  rw [h2, List.set_cons_zero]
  simp [marks, List.range_succ]

set_option maxHeartbeats 400000 in
set_option maxRecDepth 100000 in
theorem markIntS_row (base g n cap : Nat) (xs : List Value) (k : Int) (w : World) (hn : n ≤ 1048576) (h0 : 0 ≤ k) (h1 : k ≤ 100000000000000) (hv : w.ownsRow base 3 1 (.slice (some ⟨g, 0, none⟩) n cap) n xs) :
    Calls Try.prog 20 #[.slice (some ⟨g, 0, none⟩) n cap, .int .i64 k] w fun e w' => e = .returned (.int .i64 (k + n)) ∧ w'.ownsRow base 3 1 (.slice (some ⟨g, 0, none⟩) n cap) n ((marks k n).map (Value.int .i64)) ∧ w.grownBy w' (some g) := by
  have hlen : xs.length = n := by have := hv.1; simpa using this
  go_enter Try.func20, Try.ntmps20
  go_wp2
  go_loopw [1, 5] (fun q i wr => ∃ j : Nat, j ≤ n ∧ i = .int .i64 j ∧ q = .int .i64 (k + j) ∧ wr.ownsRow base 3 1 (.slice (some ⟨g, 0, none⟩) n cap) n ((marks k j).map (Value.int .i64) ++ xs.drop j) ∧ w.grownBy wr (some g)) (fun _ i _ => n - (intOf i).toNat)
  case atStart => exact ⟨0, Nat.zero_le _, rfl, by go_num, by simpa [marks] using hv, gb_refl _ _⟩
  case round =>
    obtain ⟨j, hj, rfl, rfl, hown, hgr⟩ := hrel
    by_cases hlt : j < n
    · have hf := hown.frozenAt j
      obtain ⟨v, hc⟩ : ∃ v, wr.cell? ⟨g, j, none⟩ = some v := ⟨_, (hown.cellAt j (by omega)).trans (List.getElem?_eq_getElem (by simp [marks]; omega))⟩
      obtain ⟨hst, hg2⟩ := hown.stored j (.int .i64 (k + j))
      rw [marks_set k xs j (by omega)] at hst
      have hg3 := gb_trans hgr hg2
      clear hown hgr hg2
      go_wp2
      go_roundw
      case rel => exact ⟨j + 1, by omega, by go_num, by go_num, hst, hg3⟩
      case measure => simp [intOf]; omega
    · have ej : j = n := by omega
      subst ej
      have e2 : xs.drop j = [] := List.drop_of_length_le (by omega)
      rw [e2, List.append_nil] at hown
      go_wp2
      go_ret
      exact ⟨rfl, hown, hgr⟩

set_option maxHeartbeats 400000 in
set_option maxRecDepth 100000 in
theorem markIntS_none (k : Int) (w : World) :
    Calls Try.prog 20 #[.slice none 0 0, .int .i64 k] w fun e w' => e = .returned (.int .i64 k) ∧ w' = w := by
  go_enter Try.func20, Try.ntmps20
  go_wp2
  refine wp_loop_rounds 1 ?_
  rw [rounds_succ]
  go_wp2
  go_ret
  exact ⟨rfl, rfl⟩

/-- A list of the call's own, marked. -/
theorem markIntS_own (base : Nat) (v : Value) (zs : List Int) (k : Int) (w : World) (hn : zs.length ≤ 1048576) (h0 : 0 ≤ k) (h1 : k ≤ 100000000000000) (hv : OwnL w base v zs) :
    Calls Try.prog 20 #[v, .int .i64 k] w fun e w' => e = .returned (.int .i64 (k + zs.length)) ∧ OwnL w' base v (marks k zs.length) ∧ w.grownBy w' v.ownBlock := by
  have hcase := hv.2
  rcases hcase with ⟨rfl, h2⟩ | ⟨g, cap, cur, rfl, _⟩
  · refine (markIntS_none k w).mono ?_
    rintro e w' ⟨rfl, rfl⟩
    refine ⟨by rw [h2]; simp, ?_, gb_refl _ _⟩
    have : zs = [] := List.eq_nil_of_length_eq_zero h2
    subst this
    exact hv
  · refine (markIntS_row base g zs.length cap _ k w hn h0 h1 hv).mono ?_
    rintro e w' ⟨rfl, h3, h4⟩
    refine ⟨rfl, ?_, h4⟩
    unfold OwnL
    rw [marks_len]
    exact h3

/-- A block of numbers, marked: what it holds is of no matter here. -/
theorem markIntS_blk (g n : Nat) (cs : List Value) (k : Int) (w : World) (hc : cs.length = n) (hn : n ≤ 1048576) (h0 : 0 ≤ k) (h1 : k ≤ 100000000000000) (hv : Blk w g cs 3) :
    Calls Try.prog 20 #[.slice (some ⟨g, 0, none⟩) n n, .int .i64 k] w fun e w' => e = .returned (.int .i64 (k + n)) ∧ Blk w' g ((marks k n).map (Value.int .i64)) 3 ∧ w.grownBy w' (some g) := by
  have ho : w.ownsRow g 3 1 (.slice (some ⟨g, 0, none⟩) n n) n cs := ⟨by omega, .inr ⟨g, n, cs.toArray, rfl, Nat.le_refl _, hv, Nat.le_refl _, by unfold maxLen; omega, by simp [hc], by simp [← hc]⟩⟩
  refine (markIntS_row g g n n cs k w hn h0 h1 ho).mono ?_
  rintro e w' ⟨rfl, h3, h4⟩
  exact ⟨rfl, blk_made h3, h4⟩

set_option maxHeartbeats 400000 in
set_option maxRecDepth 100000 in
theorem heldIntS_any (a : Option Addr) (n cap : Nat) (k : Int) (w : World) (hn : n ≤ 1048576) (h0 : 0 ≤ k) (h1 : k ≤ 100000000000000) (h : SegI w a (marks k n)) :
    Calls Try.prog 21 #[.slice a n cap, .int .i64 k] w fun e w' => e = .returned (.int .i64 (k + n)) ∧ w' = w := by
  go_enter Try.func21, Try.ntmps21
  go_wp2
  go_loop [1, 5] (fun q i => ∃ j : Nat, j ≤ n ∧ i = .int .i64 j ∧ q = .int .i64 (k + j)) (fun _ i => n - (intOf i).toNat)
  case atStart => exact ⟨0, Nat.zero_le _, rfl, by go_num⟩
  case round =>
    obtain ⟨j, hj, rfl, rfl⟩ := hrel
    by_cases hlt : j < n
    · have hjl : j < (marks k n).length := by rw [marks_len]; exact hlt
      obtain ⟨b, off, rfl, hbw, c1⟩ := h.get hjl
      rw [marks_get] at c1
      have hd : ((k + (j : Int)) != (k + (j : Int))) = false := by simp
      go_wp2
      go_round
      case rel => exact ⟨j + 1, by omega, by go_num, by go_num⟩
      case measure => simp [intOf]; omega
    · have ej : j = n := by omega
      subst ej
      go_wp2
      go_ret
      exact ⟨rfl, rfl⟩

set_option maxHeartbeats 400000 in
set_option maxRecDepth 100000 in
theorem markMemWatchS_any (g n cap : Nat) (cs : List Value) (k : Int) (w : World) (t : TypeId) (hc : cs.length = n * 2) (hn : n ≤ 1048576) (h0 : 0 ≤ k) (h1 : k ≤ 100000000000000) (hv : Blk w g cs t) :
    Calls Try.prog 45 #[.slice (some ⟨g, 0, none⟩) n cap, .int .i64 k] w fun e w' => e = .returned (.int .i64 (k + 2 * n)) ∧ w.grownBy w' (some g) := by
  go_enter Try.func45, Try.ntmps45
  go_wp2
  go_loopw [1, 5] (fun q i wr => ∃ (j : Nat) (cs : List Value), j ≤ n ∧ i = .int .i64 j ∧ q = .int .i64 (k + 2 * j) ∧ cs.length = n * 2 ∧ Blk wr g cs t ∧ w.grownBy wr (some g)) (fun _ i _ => n - (intOf i).toNat)
  case atStart => exact ⟨0, cs, Nat.zero_le _, rfl, by go_num, hc, hv, gb_refl _ _⟩
  case round =>
    obtain ⟨j, cs, hj, rfl, rfl, hc, hblk, hgr⟩ := hrel
    by_cases hlt : j < n
    · have f1 := hblk.free (j * 2)
      have f2 := hblk.free (j * 2 + 1)
      obtain ⟨v1, q1⟩ : ∃ v, wr.cell? ⟨g, j * 2, none⟩ = some v := ⟨_, (hblk.cell _).trans (List.getElem?_eq_getElem (by omega))⟩
      obtain ⟨v2, q2⟩ : ∃ v, wr.cell? ⟨g, j * 2 + 1, none⟩ = some v := ⟨_, (hblk.cell _).trans (List.getElem?_eq_getElem (by omega))⟩
      have hst := (hblk.store (j * 2) (.int .i64 (k + 2 * j))).store (j * 2 + 1) (.int .i64 (k + 2 * j + 1))
      have hg2 : w.grownBy ((wr.setCell ⟨g, j * 2, none⟩ (.int .i64 (k + 2 * j))).setCell ⟨g, j * 2 + 1, none⟩ (.int .i64 (k + 2 * j + 1))) (some g) := gb_trans (gb_trans hgr (gb_set _ _ _ _)) (gb_set _ _ _ _)
      clear hblk hgr
      go_wp2
      go_roundw
      case rel => exact ⟨j + 1, _, by omega, by go_num, by go_num, by simpa using hc, hst, hg2⟩
      case measure => simp [intOf]; omega
    · have ej : j = n := by omega
      subst ej
      go_wp2
      go_ret
      exact ⟨rfl, hgr⟩
end Go.Proofs.Ytcpnkpogebjieaa

namespace Go.Proofs.Ytcpnkpogebjieaa
open Go.RowKit

/-- What is known at a place. -/
def rootP (rs : List Int) (k : Int) : Int := if 0 ≤ k then (rs[k.toNat]?).getD (-1) else -1
theorem rootP_in {rs : List Int} {k : Int} (h0 : 0 ≤ k) (h1 : k.toNat < rs.length) : rootP rs k = rs[k.toNat] := by
  simp [rootP, h0, List.getElem?_eq_getElem h1]
theorem rootP_out {rs : List Int} {k : Int} (h : ¬ (0 ≤ k ∧ k < rs.length)) : rootP rs k = -1 := by
  unfold rootP
  split
  · rw [List.getElem?_eq_none (by omega)]; rfl
  · rfl
theorem rootP_bd {rs : List Int} {n : Int} (h : ∀ z ∈ rs, -1 ≤ z ∧ z < n) (hn : 0 ≤ n) (k : Int) : -1 ≤ rootP rs k ∧ rootP rs k < n := by
  by_cases hk : 0 ≤ k ∧ k < rs.length
  · rw [rootP_in hk.1 (by omega)]
    exact h _ (List.getElem_mem _)
  · rw [rootP_out hk]; omega

set_option maxHeartbeats 400000 in
set_option maxRecDepth 100000 in
theorem l4Root_any (h : Hp) (k : Int) (w : World) (hr : SegI w h.ra h.rs) (hl : h.rs.length ≤ 1048576) :
    Calls Try.prog 99 #[h.v, .int .i64 k] w fun e w' => e = .returned (.int .i64 (rootP h.rs k)) ∧ Below w.heap.size w w' := by
  have hB0 : Below w.heap.size w (w.alloc (Obj.cells #[Value.slice h.oa h.os.length h.ocap, Value.slice h.ra h.rs.length h.rcap, Value.slice h.wa h.ws.length h.wcap, Value.slice h.da h.ds.length h.dcap] 27)) := (Below.refl _ _).alloc (Nat.le_refl _) _
  by_cases hk : 0 ≤ k ∧ k < h.rs.length
  · have hin : inB k 0 ((h.rs.length : Int) - 1) = true := by simp [inB]; omega
    have hlt : k.toNat < h.rs.length := by omega
    obtain ⟨b, off, eo, hb, e1⟩ := hr.get hlt
    have d1 := (hB0.cell (p := ⟨b, off + k.toNat, none⟩) hb).trans e1
    have HR : Hid (rootP h.rs k = h.rs[k.toNat]) := rootP_in hk.1 hlt
    have hk0 := hk.1
    have hk1 := hk.2
    clear hk
    go_enter Try.func99, Try.ntmps99
    simp only [Hp.v]
    generalize h.ra = RA at eo d1 hB0 ⊢
    subst eo
    go_wp2_with fail
    refine (l1In_any _ _ _ _).mono ?_
    rintro e w1 ⟨rfl, rfl⟩
    go_wp2
    go_ret
    exact ⟨ret_int HR.out.symm, hB0⟩
  · have hin : inB k 0 ((h.rs.length : Int) - 1) = false := by
      rw [Bool.eq_false_iff]
      intro e
      simp [inB] at e
      omega
    have HR : Hid (rootP h.rs k = -1) := rootP_out hk
    clear hk
    go_enter Try.func99, Try.ntmps99
    simp only [Hp.v]
    go_wp2_with fail
    refine (l1In_any _ _ _ _).mono ?_
    rintro e w1 ⟨rfl, rfl⟩
    go_wp2
    go_ret
    exact ⟨ret_int HR.out.symm, hB0⟩

set_option maxHeartbeats 800000 in
set_option maxRecDepth 100000 in
theorem l4Sees_any (h : Hp) (x : Int) (w : World) (hh : SegO w h.oa h.os) (hl : ∀ i (hi : i < h.os.length), h.os[i].r.length ≤ 1048576) (hx : x < h.os.length) :
    Calls Try.prog 98 #[h.v, .int .i64 x] w fun e w' => ∃ s : ByteArray, e = .returned (.string s) ∧ Below w.heap.size w w' := by
  have hB0 : Below w.heap.size w (w.alloc (Obj.cells #[Value.slice h.oa h.os.length h.ocap, Value.slice h.ra h.rs.length h.rcap, Value.slice h.wa h.ws.length h.wcap, Value.slice h.da h.ds.length h.dcap] 27)) := (Below.refl _ _).alloc (Nat.le_refl _) _
  by_cases h0 : x < 0
  · go_enter Try.func98, Try.ntmps98
    simp only [Hp.v]
    go_wp2
    go_ret
    exact ⟨_, rfl, hB0⟩
  · have hx0 : 0 ≤ x := by omega
    have hlt : x.toNat < h.os.length := by omega
    obtain ⟨b, off, eo, hb, e1, e2, e3⟩ := hh.get hlt
    have d1 := (hB0.cell (p := ⟨b, off + x.toNat * 3, none⟩) hb).trans e1
    have d2 := (hB0.cell (p := ⟨b, off + x.toNat * 3 + 1, none⟩) hb).trans e2
    have d3 := (hB0.cell (p := ⟨b, off + x.toNat * 3 + 2, none⟩) hb).trans e3
    have hr1 := hl _ hlt
    have hA := hB0.alloc hB0.size (Obj.cells #[Value.int .i64 h.os[x.toNat].k, Value.string h.os[x.toNat].t, Value.slice h.os[x.toNat].ra h.os[x.toNat].r.length h.os[x.toNat].rcap] 52)
    clear e1 e2 e3 h0
    go_enter Try.func98, Try.ntmps98
    simp only [Hp.v]
    generalize h.oa = OA at eo d1 d2 d3 hB0 hA ⊢
    subst eo
    generalize h.os[x.toNat] = o at *
    obtain ⟨k0, t0, ra0, rc0, r0⟩ := o
    dsimp only at *
    by_cases k1 : k0 = 1
    · subst k1
      go_wp2
      go_ret
      exact ⟨_, rfl, hA⟩
    have n1 : (k0 == 1) = false := by simp [k1]
    by_cases k2 : k0 = 2
    · subst k2
      have hcv := conv1 ((48 + (r0.length : Int)) % 256) ((w.alloc (Obj.cells #[Value.slice (some ⟨b, off, none⟩) h.os.length h.ocap, Value.slice h.ra h.rs.length h.rcap, Value.slice h.wa h.ws.length h.wcap, Value.slice h.da h.ds.length h.dcap] 27)).alloc (Obj.cells #[Value.int .i64 2, Value.string t0, Value.slice ra0 r0.length rc0] 52))
      simp only [World.size_alloc] at hcv
      go_wp2
      go_ret
      exact ⟨_, rfl, hA.alloc hA.size _⟩
    have n2 : (k0 == 2) = false := by simp [k2]
    by_cases k3 : k0 = 3
    · subst k3
      go_wp2
      go_ret
      exact ⟨_, rfl, hA⟩
    have n3 : (k0 == 3) = false := by simp [k3]
    clear k1 k2 k3
    go_wp2
    go_ret
    exact ⟨_, rfl, hA⟩
end Go.Proofs.Ytcpnkpogebjieaa

namespace Go.Proofs.Ytcpnkpogebjieaa
open Go.RowKit

structure OkC (h : Hp) : Prop where
  n60 : h.os.length ≤ 60
  r8 : h.rs.length ≤ 8
  w20 : h.ws.length + h.ds.length ≤ 20
  ob : ∀ i (hi : i < h.os.length), objOk h.os.length h.os[i].p = true
  ro : ∀ z ∈ h.rs, -1 ≤ z ∧ z < h.os.length
  wo : ∀ p ∈ h.ws, watchOk (h.os.map Ob.p) p = true
  dd : ∀ p ∈ h.ds, watchOk (h.os.map Ob.p) p = true
theorem okC_of {h : Hp} (hok : okP h.p = true) : OkC h := by
  obtain ⟨h1, h2, h3, h4, h5, h6, h7⟩ := okP_parts hok
  exact ⟨h1, h2, h3, h4, refs_lt h5, h6, h7⟩
theorem okC_ok {h : Hp} (c : OkC h) : okP h.p = true := by
  rw [okP_small c.n60 c.r8 c.w20]
  simp only [Bool.and_eq_true]
  refine ⟨?_, ?_, ?_, ?_⟩
  · rw [List.all_eq_true]
    intro x hx
    obtain ⟨i, hi, rfl⟩ := List.getElem_of_mem hx
    exact c.ob i hi
  · unfold refsOk
    rw [List.all_eq_true]
    intro z hz
    have := c.ro z hz
    simp [inB]; omega
  · rw [List.all_eq_true]; exact c.wo
  · rw [List.all_eq_true]; exact c.dd
theorem OkC.kind {h : Hp} (c : OkC h) (i : Nat) (hi : i < h.os.length) : h.os[i].r.length ≤ 6 ∧ h.os[i].t.size ≤ 12 := by
  have h1 := c.ob i hi
  simp only [objOk, Ob.p, Bool.and_eq_true] at h1
  have h2 := h1.2
  unfold kindOk at h2
  split at h2
  · simp only [textOkB, Bool.and_eq_true, decide_eq_true_eq] at h2; omega
  split at h2
  · simp only [Bool.and_eq_true, decide_eq_true_eq] at h2; omega
  split at h2
  · simp only [Bool.and_eq_true, decide_eq_true_eq] at h2; omega
  split at h2
  · simp only [Bool.and_eq_true, decide_eq_true_eq] at h2; omega
  · simp at h2
theorem OkC.refs {h : Hp} (c : OkC h) (i : Nat) (hi : i < h.os.length) : ∀ z ∈ h.os[i].r, -1 ≤ z ∧ z < h.os.length := by
  have h1 := c.ob i hi
  simp only [objOk, Ob.p, Bool.and_eq_true] at h1
  exact refs_lt h1.1
theorem OkC.small {h : Hp} (c : OkC h) : Small h := ⟨by have := c.n60; omega, fun i hi => by have := (c.kind i hi).1; omega, by have := c.r8; omega, by have := c.w20; omega, by have := c.w20; omega⟩
theorem OkC.fit {w : World} {h : Hp} (c : OkC h) (hin : HpIn w h) (hcap : ∀ (i : Nat) (hi : i < h.os.length), h.os[i].r.length ≤ h.os[i].rcap) : Fit w h :=
  ⟨hin, c.small, fun i hi => by have := (c.kind i hi).2; unfold maxLen; omega, hcap⟩
theorem OwnQ.cap {w : World} {B : Nat} {h : Hp} (hh : OwnQ w B h) (i : Nat) (hi : i < h.os.length) : h.os[i].r.length ≤ h.os[i].rcap := by
  obtain ⟨a, cap, e, _, h1, _⟩ := (hh.rs i hi).form
  simp only [Ob.rv, Value.slice.injEq] at e
  omega
theorem OkC.fitQ {w : World} {B : Nat} {h : Hp} (c : OkC h) (hq : OwnQ w B h) : Fit w h := c.fit hq.isIn hq.cap

/-- An event. -/
structure Ev where
  k : Int
  to : Int
  fr : Int
  pt : Int
  o : Ob
def Ev.cs (e : Ev) : List Value := [.int .i64 e.k, .int .i64 e.to, .int .i64 e.fr, .int .i64 e.pt, .int .i64 e.o.k, .string e.o.t, .slice e.o.ra e.o.r.length e.o.rcap]
def Ev.v (e : Ev) : Value := .agg e.cs.toArray

set_option maxHeartbeats 800000 in
set_option maxRecDepth 100000 in
theorem l4Part_any (h : Hp) (f p : Int) (w : World) (hh : HpIn w h) (c : OkC h) :
    Calls Try.prog 97 #[h.v, .int .i64 f, .int .i64 p] w fun e w' => ∃ r : Int, e = .returned (.int .i64 r) ∧ (r < 0 ∨ ∃ hr : r.toNat < h.os.length, 0 ≤ r ∧ r = rootP h.rs f ∧ 0 ≤ p ∧ p < h.os[r.toNat].r.length) ∧ Below w.heap.size w w' := by
  have hB0 : Below w.heap.size w (w.alloc (Obj.cells #[Value.slice h.oa h.os.length h.ocap, Value.slice h.ra h.rs.length h.rcap, Value.slice h.wa h.ws.length h.wcap, Value.slice h.da h.ds.length h.dcap] 27)) := (Below.refl _ _).alloc (Nat.le_refl _) _
  have hK0 := Blk.new w [Value.slice h.oa h.os.length h.ocap, Value.slice h.ra h.rs.length h.rcap, Value.slice h.wa h.ws.length h.wcap, Value.slice h.da h.ds.length h.dcap] 27
  have c1 := l4Root_any h f _ (hh.sr.below hB0 (Nat.le_refl _)) c.small.r
  have hbd := rootP_bd c.ro (by omega) f
  go_enter Try.func97, Try.ntmps97
  simp only [Hp.v] at c1 ⊢
  go_wp2_with fail
  refine c1.mono ?_
  rintro e w1 ⟨rfl, hb1⟩
  have hB1 := hB0.trans (hb1.mono hB0.size)
  have hK1 := hK0.step hb1
  obtain ⟨x0, x1, x2, x3⟩ := cells4' hK1
  clear c1 hB0 hK0 hb1
  generalize hR : rootP h.rs f = R at *
  have HR : Hid (rootP h.rs f = R) := hR
  clear hR
  by_cases hneg : R < 0
  · go_wp2
    go_ret
    exact ⟨_, rfl, Or.inl (by omega), hB1⟩
  · have h0 : 0 ≤ R := by omega
    have hlt : R.toNat < h.os.length := by omega
    have hR1 : R < (h.os.length : Int) := hbd.2
    obtain ⟨b, off, eo, hb, e1, e2, e3⟩ := hh.so.get hlt
    have d3 := (hB1.cell (p := ⟨b, off + R.toNat * 3 + 2, none⟩) hb).trans e3
    have hkr := (c.kind _ hlt).1
    have hdn : decide (R < 0) = false := by simpa using h0
    generalize hOA : h.oa = OA at eo x0 ⊢
    clear hOA
    subst eo
    clear e1 e2 e3 hneg
    have HX : Hid (h.os[R.toNat].r.length = h.os[R.toNat].r.length) := rfl
    generalize hN : h.os[R.toNat].r.length = N at *
    have HN : Hid (h.os[R.toNat].r.length = N) := hN
    clear hN
    go_wp2_with fail
    refine (l1In_any _ _ _ _).mono ?_
    rintro e w2 ⟨rfl, rfl⟩
    cases hin : inB p 0 ((N : Int) - 1) with
    | false =>
      go_wp2
      go_ret
      exact ⟨_, rfl, Or.inl (by omega), hB1⟩
    | true =>
      have HP : Hid (0 ≤ p ∧ p < (N : Int)) := by
        show _ ∧ _
        simp [inB] at hin
        omega
      go_wp2
      go_ret
      exact ⟨_, rfl, Or.inr ⟨hlt, h0, HR.out.symm, HP.out.1, by rw [HN.out]; exact HP.out.2⟩, hB1⟩
end Go.Proofs.Ytcpnkpogebjieaa
