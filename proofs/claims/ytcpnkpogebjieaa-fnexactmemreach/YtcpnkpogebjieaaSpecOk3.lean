/- The specification's own MemOk: what is watched; the whole. -/
import Derived.Test.YtcpnkpogebjieaaSpecOk2
namespace Go.Proofs.Ytcpnkpogebjieaa
open Go.RowKit

theorem inB_bd {n lo hi : Int} (h : inB n lo hi = true) : lo ≤ n ∧ n ≤ hi := by simpa [inB] using h

set_option maxHeartbeats 800000 in
set_option maxRecDepth 100000 in
theorem l1WatchOk_any (h : Hp) (a : Option Addr) (n cap : Nat) (ws : List (Int × Int)) (w : World) (hl : ws.length = n) (hn : n ≤ maxLen) (hh : HpIn w h) (hs : h.os.length ≤ 1048576) (hw : SegW w a ws) :
    Calls Try.prog 34 #[h.v, .slice a n cap] w fun e w' => e = .returned (.bool (ws.all (watchOk (h.os.map Ob.p)))) ∧ Below w.heap.size w w' := by
  have hn1 := hn
  unfold maxLen at hn1
  obtain ⟨oa, ocap, os, ra, rcap, rs, wa, wcap, ws0, da, dcap, ds⟩ := h
  obtain ⟨ho, -, -, -⟩ := hh
  simp only [Hp.v] at *
  go_enter Try.func34, Try.ntmps34
  go_wp2
  have hB0 : Below w.heap.size w (w.alloc (Obj.cells #[Value.slice oa os.length ocap, Value.slice ra rs.length rcap, Value.slice wa ws0.length wcap, Value.slice da ds.length dcap] 27)) := (Below.refl _ _).alloc (Nat.le_refl _) _
  go_loopw [5] (fun i wr => ∃ k : Nat, k ≤ n ∧ i = .int .i64 k ∧ Below w.heap.size w wr ∧ wr.cell? ⟨w.heap.size, 0, none⟩ = some (.slice oa os.length ocap) ∧ w.heap.size < wr.heap.size ∧ ∀ j (hj : j < ws.length), j < k → watchOk (os.map Ob.p) ws[j] = true) (fun i _ => n - (intOf i).toNat)
  case atStart => exact ⟨0, Nat.zero_le _, rfl, hB0, by simp, by simp, fun j _ h => by omega⟩
  case round =>
    obtain ⟨k, hk, rfl, hb, hbox, hsz, hall⟩ := hrel
    by_cases hlt : k < n
    · have hkl : k < ws.length := by omega
      obtain ⟨b, off, rfl, hbw, c1, c2⟩ := hw.get hkl
      have d1 := (hb.cell (p := ⟨b, off + k * 2, none⟩) hbw).trans c1
      have d2 := (hb.cell (p := ⟨b, off + k * 2 + 1, none⟩) hbw).trans c2
      have hbA := hb.alloc (Nat.le_of_lt hsz) (Obj.cells #[Value.int .i64 ws[k].1, Value.int .i64 ws[k].2] 77)
      have hboxA := (((Below.refl wr.heap.size wr).alloc (Nat.le_refl _) (Obj.cells #[Value.int .i64 ws[k].1, Value.int .i64 ws[k].2] 77)).cell (p := ⟨w.heap.size, 0, none⟩) hsz).trans hbox
      have hszA : w.heap.size < (wr.alloc (Obj.cells #[Value.int .i64 ws[k].1, Value.int .i64 ws[k].2] 77)).heap.size := Nat.lt_of_lt_of_le hsz (by simp)
      have HA : Hid (∀ j (hj : j < ws.length), j < k → watchOk (os.map Ob.p) ws[j] = true) := hall
      clear hall c1 c2 hB0
      go_wp2_with fail
      refine (l1In_any _ _ _ _).mono ?_
      rintro e w1 ⟨rfl, rfl⟩
      cases h1 : inB ws[k].1 0 ((os.length : Int) - 1) with
      | false =>
        have HF : Hid (ws.all (watchOk (os.map Ob.p)) = false) := not_all hkl (by simp [watchOk, h1])
        clear h1
        go_wp2
        go_ret
        exact ⟨ret_bool HF.out.symm, hbA⟩
      | true =>
        have hx := inB_bd h1
        obtain ⟨hx0, hx1⟩ := hx
        have H1 : Hid (inB ws[k].1 0 ((os.length : Int) - 1) = true) := h1
        clear h1
        go_wp2_with fail
        refine (l1In_any _ _ _ _).mono ?_
        rintro e w1 ⟨rfl, rfl⟩
        cases h2 : inB ws[k].2 0 ((os.length : Int) - 1) with
        | false =>
          have HF : Hid (ws.all (watchOk (os.map Ob.p)) = false) := not_all hkl (by simp [watchOk, h2])
          clear h2
          go_wp2
          go_ret
          exact ⟨ret_bool HF.out.symm, hbA⟩
        | true =>
          have hgl : ws[k].1.toNat < os.length := by omega
          obtain ⟨b2, off2, rfl, hbw2, e1, _, _⟩ := ho.get hgl
          have f1 := (hbA.cell (p := ⟨b2, off2 + ws[k].1.toNat * 3, none⟩) hbw2).trans e1
          have hix : ws[k].1 < (os.length : Int) := by omega
          have HW : Hid (watchOk (os.map Ob.p) ws[k] = decide (os[ws[k].1.toNat].k = 4)) := by
            show _ = _
            have h1 := H1.out
            simp [watchOk, h1, h2, hgl, Ob.p]
          clear h2 e1
          by_cases h4 : os[ws[k].1.toNat].k = 4
          · have hb4 : (os[ws[k].1.toNat].k != 4) = false := by simp [h4]
            have HR : Hid (∀ j (hj : j < ws.length), j < k + 1 → watchOk (os.map Ob.p) ws[j] = true) := all_succ HA.out hkl (by rw [HW.out]; simp [h4])
            clear h4
            go_wp2
            go_roundw
            case rel => exact ⟨k + 1, by omega, by go_num, hbA, hboxA, hszA, HR.out⟩
            case measure => simp [intOf]; omega
          · have hb4 : (os[ws[k].1.toNat].k != 4) = true := by simp [h4]
            have HF : Hid (ws.all (watchOk (os.map Ob.p)) = false) := not_all hkl (by rw [HW.out]; simp [h4])
            clear h4
            go_wp2
            go_ret
            exact ⟨ret_bool HF.out.symm, hbA⟩
    · have HF : Hid (ws.all (watchOk (os.map Ob.p)) = true) := all_of (fun i hi => hall i hi (by omega))
      clear hall
      go_wp2
      go_ret
      exact ⟨ret_bool HF.out.symm, hb⟩
end Go.Proofs.Ytcpnkpogebjieaa
