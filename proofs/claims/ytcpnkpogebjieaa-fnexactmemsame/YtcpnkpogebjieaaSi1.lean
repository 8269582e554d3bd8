/- The program's own looking the same: places and what is watched told by where they are. -/
import Derived.Test.YtcpnkpogebjieaaSs3
namespace Go.Proofs.Ytcpnkpogebjieaa
open Go.RowKit

theorem wh_neg {l : List Int} {z : Int} (h : z < 0) : wh l z = -1 := by simp [wh, h]
theorem wh_pos {l : List Int} {z : Int} (h : ¬ z < 0) : wh l z = pos l z := by simp [wh, h]

set_option maxHeartbeats 800000 in
set_option maxRecDepth 100000 in
theorem wheresOf_any (n : Nat) (X : List Int) (pa : Option Addr) (pcap : Nat) (ps : List Int) (ya : Option Addr) (ycap : Nat) (w : World) (hp : SegI w pa ps) (hpl : ps.length ≤ 1048576) (hy : SegI w ya (whs X n)) (hr : ∀ z ∈ ps, -1 ≤ z ∧ z < n) :
    Calls Try.prog 86 #[.slice pa ps.length pcap, .slice ya n ycap] w fun e w' => ∃ v', e = .returned v' ∧ OwnL w' w.heap.size v' (ps.map (wh X)) ∧ Below w.heap.size w w' := by
  obtain ⟨i0, hi', hz0, hz1, hz2⟩ := info_parts info_int
  go_enter Try.func86, Try.ntmps86
  go_wp2_with (at_make; refine wpList_make_own _ rfl _ _ 24 rfl w.heap.size 3 i0 (.int .i64 0) 1 Try.underlying24 hi' hz0 hz1 .i64 .i64 _ ps.length rfl rfl rfl ?c1 ?c2 (Nat.le_refl _) ?_)
  case c1 => rw [hz2]; omega
  case c2 => unfold maxLen; omega
  intro w0 hown0 hg0
  have hB0 := below_made hg0
  have hO0 : OwnL w0 w.heap.size (.slice (some ⟨w.heap.size, 0, none⟩) 0 ps.length) [] := hown0
  clear hown0 hg0
  go_wp2
  go_loopw [5, 7, 13] (fun v _ i wr => ∃ k : Nat, k ≤ ps.length ∧ i = .int .i64 k ∧ OwnL wr w.heap.size v ((ps.take k).map (wh X)) ∧ Below w.heap.size w wr) (fun _ _ i _ => ps.length - (intOf i).toNat)
  case atStart => exact ⟨0, Nat.zero_le _, rfl, hO0, hB0⟩
  case round =>
    obtain ⟨k, hk, rfl, hown, hb⟩ := hrel
    clear hO0 hB0
    by_cases hlt : k < ps.length
    · obtain ⟨b5, off5, rfl, hb5, e1⟩ := hp.get hlt
      have d1 := (hb.cell (p := ⟨b5, off5 + k, none⟩) hb5).trans e1
      clear e1
      have HF : Hid ((ps.take (k + 1)).map (wh X) = (ps.take k).map (wh X) ++ [wh X ps[k]]) := by
        show _ = _
        rw [List.take_succ_eq_append_getElem hlt, List.map_append]; rfl
      have hfl : ((ps.take k).map (wh X)).length ≤ k := by rw [List.length_map]; exact List.length_take_le _ _
      have hz := hr ps[k] (List.getElem_mem hlt)
      generalize ps[k] = z at *
      generalize hL : (ps.take k).map (wh X) = L at *
      have HL : Hid ((ps.take k).map (wh X) = L) := hL
      clear hL
      obtain ⟨va, vcap, rfl, -⟩ := hown.form
      have hrow := fun k' h' => (hown.lt k' h').1
      have hbs := hb.size
      have HEND : Hid (∀ v' w2, w2.ownsRow w.heap.size 3 1 v' (L.length + 1) (L.map (Value.int .i64) ++ [.int .i64 (wh X z)]) → (wr.alloc (Obj.cells #[Value.int .i64 (wh X z)] 3)).grownBy w2 (Value.slice va L.length vcap).ownBlock → OwnL w2 w.heap.size v' ((ps.take (k + 1)).map (wh X)) ∧ Below w.heap.size w w2) := fun v' w2 ho hg => by
        have hA : Below wr.heap.size wr (wr.alloc (Obj.cells #[Value.int .i64 (wh X z)] 3)) := (Below.refl _ _).alloc (Nat.le_refl _) _
        refine ⟨?_, (hb.trans (hA.mono hb.size)).trans (gb_below hg (Nat.le_trans hb.size hA.size) hrow)⟩
        rw [HF.out]
        unfold OwnL
        simpa using ho
      have hvA : (wr.alloc (Obj.cells #[Value.int .i64 (wh X z)] 3)).ownsRow w.heap.size 3 1 (.slice va L.length vcap) L.length (L.map (Value.int .i64)) := World.ownsRow.alloc hown _
      by_cases hneg : z < 0
      · have hz1' : z = -1 := by omega
        have hw1 : wh X z = -1 := wh_neg hneg
        rw [hw1] at hvA HEND
        subst hz1'
        clear hw1 hneg hz
        go_wp2_with (at_builtin; refine wpList_append_own_at _ rfl _ _ 24 rfl w.heap.size 3 i0 (.int .i64 0) 1 8 Try.underlying24 hi' hz0 hz1 hz2 rfl (by decide) _ _ _ rfl hvA ⟨wr.heap.size, 0, none⟩ 1 1 [.int .i64 (-1)] rfl rfl (cell_one_new _ _ _) ?c2 ?c3 ?c4 ?c5 ?_)
        case c2 => intro u hu; simp at hu; subst hu; rfl
        case c3 => unfold maxLen; omega
        case c4 => omega
        case c5 => simp; omega
        intro v' w2 hown2 hgr _ _
        obtain ⟨ho3, hb3⟩ := HEND.out v' w2 hown2 hgr
        clear hown2 hgr hvA HEND
        go_wp2
        go_roundw
        case rel => exact ⟨k + 1, by omega, by go_num, ho3, hb3⟩
        case measure => simp [intOf]; omega
      · have hzl : z.toNat < (whs X n).length := by rw [whs_len]; omega
        obtain ⟨b6, off6, rfl, hb6, f1⟩ := hy.get hzl
        rw [whs_at _ _ _ (by omega)] at f1
        have d2 := (hb.cell (p := ⟨b6, off6 + z.toNat, none⟩) hb6).trans f1
        clear f1
        have hw1 : wh X z = pos X z := wh_pos hneg
        rw [hw1] at hvA HEND
        have hz0' : 0 ≤ z := by omega
        have hzn : z < (n : Int) := by omega
        have hdz : decide (0 ≤ z) = true := by simpa using hz0'
        clear hw1 hneg hz
        go_wp2_with (at_builtin; refine wpList_append_own_at _ rfl _ _ 24 rfl w.heap.size 3 i0 (.int .i64 0) 1 8 Try.underlying24 hi' hz0 hz1 hz2 rfl (by decide) _ _ _ rfl hvA ⟨wr.heap.size, 0, none⟩ 1 1 [.int .i64 (pos X z)] rfl rfl (cell_one_new _ _ _) ?c2 ?c3 ?c4 ?c5 ?_)
        case c2 => intro u hu; simp at hu; subst hu; rfl
        case c3 => unfold maxLen; omega
        case c4 => omega
        case c5 => simp; omega
        intro v' w2 hown2 hgr _ _
        obtain ⟨ho3, hb3⟩ := HEND.out v' w2 hown2 hgr
        clear hown2 hgr hvA HEND
        go_wp2
        go_roundw
        case rel => exact ⟨k + 1, by omega, by go_num, ho3, hb3⟩
        case measure => simp [intOf]; omega
    · have ek : ps.take k = ps := List.take_of_length_le (by omega)
      rw [ek] at hown
      clear ek
      go_wp2
      go_ret
      exact ⟨_, rfl, hown, hb⟩
end Go.Proofs.Ytcpnkpogebjieaa
