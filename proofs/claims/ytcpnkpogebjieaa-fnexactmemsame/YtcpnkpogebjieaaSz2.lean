/- The laws' own measure of a heap once more: what is left is no more than what there was. -/
import Derived.Test.YtcpnkpogebjieaaSz
namespace Go.Proofs.Ytcpnkpogebjieaa
open Go.RowKit

set_option maxHeartbeats 400000 in
set_option maxRecDepth 100000 in
theorem szMemHeap_le (h : Hp) (l : Int) (w : World) (hh : HpIn w h) (hf : Fits h) (h0 : 0 ≤ l) (h1 : l ≤ 1048576) :
    Calls Try.prog 15 #[h.v, .int .i64 l] w fun e w' => ∃ r : Int, e = .returned (.int .i64 r) ∧ Below w.heap.size w w' ∧ (0 ≤ r → Small h ∧ r ≤ l) := by
  obtain ⟨oa, ocap, os, ra, rcap, rs, wa, wcap, ws, da, dcap, ds⟩ := h
  obtain ⟨ho, hr, hw, hd⟩ := hh
  obtain ⟨fo, foo, fr, fw, fd⟩ := hf
  simp only [Hp.v] at *
  go_enter Try.func15, Try.ntmps15
  go_wp2_with fail
  have hB0 : Below w.heap.size w (w.alloc (Obj.cells #[Value.slice oa os.length ocap, Value.slice ra rs.length rcap, Value.slice wa ws.length wcap, Value.slice da ds.length dcap] 37)) := (Below.refl _ _).alloc (Nat.le_refl _) _
  refine (szMemObjS_any _ _ _ os _ _ (ho.below hB0 (Nat.le_refl _)) rfl fo foo h0 h1).mono ?_
  rintro e w1 ⟨r, rfl, hb, r1, r2, r3⟩
  obtain ⟨hc, _⟩ := bcell hb
  simp at hc
  have hbb := hB0.trans (hb.mono hB0.size)
  clear hb
  by_cases hr0 : r < 0
  · go_wp2
    go_ret
    exact ⟨_, rfl, hbb, by omega⟩
  · go_wp2_with fail
    refine (szIntS_any _ _ _ _ _ fr (by omega) (by omega)).mono ?_
    rintro e w2 ⟨r', rfl, rfl, q1, q2, q3⟩
    by_cases hr1 : r' < 0
    · go_wp2
      go_ret
      exact ⟨_, rfl, hbb, by omega⟩
    · go_wp2_with fail
      refine (szMemWatchS_any _ _ _ _ _ fw (by omega) (by omega)).mono ?_
      rintro e w3 ⟨r'', rfl, rfl, p1, p2, p3⟩
      by_cases hr2 : r'' < 0
      · go_wp2
        go_ret
        exact ⟨_, rfl, hbb, by omega⟩
      · go_wp2_with fail
        refine (szMemWatchS_any _ _ _ _ _ fd (by omega) (by omega)).mono ?_
        rintro e w4 ⟨r3', rfl, rfl, s1, s2, s3⟩
        by_cases hr3 : r3' < 0
        · go_wp2
          go_ret
          exact ⟨_, rfl, hbb, by omega⟩
        · go_wp2
          go_ret
          exact ⟨_, rfl, hbb, fun _ => ⟨⟨(r3 (by omega)).1, (r3 (by omega)).2, q3 (by omega), p3 (by omega), s3 (by omega)⟩, by omega⟩⟩
end Go.Proofs.Ytcpnkpogebjieaa
