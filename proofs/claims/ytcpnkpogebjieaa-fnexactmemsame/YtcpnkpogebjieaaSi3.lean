/- The program's own looking the same: of each object, where it is in a list. -/
import Derived.Test.YtcpnkpogebjieaaSr1
namespace Go.Proofs.Ytcpnkpogebjieaa
open Go.RowKit

set_option maxHeartbeats 800000 in
set_option maxRecDepth 100000 in
theorem wheres_any (n : Nat) (X : List Int) (xa : Option Addr) (xcap : Nat) (w : World) (hn : n ≤ 60) (hx : SegI w xa X) (hp : Places n X) :
    Calls Try.prog 77 #[.slice xa X.length xcap, .int .i64 n] w fun e w' => ∃ g, e = .returned (.slice (some ⟨g, 0, none⟩) n n) ∧ Blk w' g ((whs X n).map (Value.int .i64)) 3 ∧ w.heap.size ≤ g ∧ Below w.heap.size w w' := by
  have hA : Below w.heap.size w (w.alloc (Obj.cells #[Value.int .i64 (-1)] 3)) := (Below.refl _ _).alloc (Nat.le_refl _) _
  have c1 := repeat_any (-1) w.heap.size 0 n (w.alloc (Obj.cells #[Value.int .i64 (-1)] 3)) hn ((Blk.new w [Value.int .i64 (-1)] 3).cell 0) (by simp)
  have hXl := hp.len
  go_enter Try.func77, Try.ntmps77
  go_wp2_with fail
  refine c1.mono ?_
  rintro e w1 ⟨g, rfl, hK1, hg1, hb1⟩
  have hgw : w.heap.size ≤ g := Nat.le_trans (by simp) hg1
  have hB1 := hA.trans (hb1.mono hA.size)
  have hK2 : Blk w1 g ((whs (X.take 0) n).map (Value.int .i64)) 3 := by
    have : (whs (X.take 0) n).map (Value.int .i64) = List.replicate n (Value.int .i64 (-1)) := by
      rw [List.take_zero, whs_nil]; simp
    rw [this]; exact hK1
  clear c1 hA hb1 hK1 hg1
  go_wp2
  go_loopw [6, 7, 13] (fun _ _ i wr => ∃ k : Nat, k ≤ X.length ∧ i = .int .i64 k ∧ Blk wr g ((whs (X.take k) n).map (Value.int .i64)) 3 ∧ Below w.heap.size w wr) (fun _ _ i _ => X.length - (intOf i).toNat)
  case atStart => exact ⟨0, Nat.zero_le _, rfl, hK2, hB1⟩
  case round =>
    obtain ⟨k, hk, rfl, hK, hb⟩ := hrel
    clear hK2 hB1
    by_cases hlt : k < X.length
    · obtain ⟨b, off, rfl, hbw, e1⟩ := hx.get hlt
      have d1 := (hb.cell (p := ⟨b, off + k, none⟩) hbw).trans e1
      have hz := hp.rng X[k] (List.getElem_mem hlt)
      have hnd := nodup_take hp.nd hlt
      have HK : Hid (Blk (wr.setCell ⟨g, X[k].toNat, none⟩ (.int .i64 k)) g ((whs (X.take (k + 1)) n).map (Value.int .i64)) 3) := by
        show Blk _ _ _ _
        have h1 := hK.store X[k].toNat (.int .i64 k)
        have h2 : (whs (X.take (k + 1)) n).map (Value.int .i64) = ((whs (X.take k) n).map (Value.int .i64)).set X[k].toNat (.int .i64 k) := by
          rw [List.take_succ_eq_append_getElem hlt, whs_snoc _ _ _ hnd hz.1, List.map_set, List.length_take, Nat.min_eq_left (by omega)]
        rw [h2]; exact h1
      have hfz := hK.free X[k].toNat
      have hzl : X[k].toNat < ((whs (X.take k) n).map (Value.int .i64)).length := by rw [List.length_map, whs_len]; omega
      obtain ⟨v, hv⟩ : ∃ v, wr.cell? ⟨g, X[k].toNat, none⟩ = some v := ⟨_, (hK.cell _).trans (List.getElem?_eq_getElem hzl)⟩
      have hsb := hb.setCell (p := ⟨g, X[k].toNat, none⟩) hgw (.int .i64 k)
      obtain ⟨hz0, hz1⟩ := hz
      clear e1 hnd hK hzl
      go_wp2
      go_roundw
      case rel => exact ⟨k + 1, by omega, by go_num, HK.out, hsb⟩
      case measure => simp [intOf]; omega
    · have ek : X.take k = X := List.take_of_length_le (by omega)
      rw [ek] at hK
      clear ek
      go_wp2
      go_ret
      exact ⟨_, rfl, hK, hgw, hb⟩
end Go.Proofs.Ytcpnkpogebjieaa
