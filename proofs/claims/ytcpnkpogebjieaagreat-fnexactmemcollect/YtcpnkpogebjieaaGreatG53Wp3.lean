/- The law on MemCollect in company: its end. -/
import Derived.Test.YtcpnkpogebjieaaGreatG48Wo0
namespace Go.Proofs.YtcpnkpogebjieaaGreat.Co
open Go.Conc Go.ConcN Go.RowKit Go.Conc.Lib Go.ConcR.Gen
open Go.ConcR (DC0)
set_option linter.unusedSimpArgs false

section
variable {h : Hp} {X0 X X' : Nat → Bool} {Ch : Nat}

set_option maxRecDepth 100000 in
set_option maxHeartbeats 4000000 in
theorem lw_last {w0 : World} {g' : Goroutine} {w : World} (hD : LwF h X0 w0 X g' w) : WayC Tryz.prog X Ch (LwEnd X0 w0 X) g' w := by
  obtain ⟨T, b1, b4, b7, b12, y, va, vcap, ms, m3, m4, m6, M, g, g2, ga, gcap, zs, ha, hcap, hT, t4, t5, t7, t8, t10, t12, t13, ez, hzl, ep, rfl, hI⟩ := hD
  obtain ⟨f, rfl⟩ := fun112 T hT
  simp only [List.getElem?_toArray, List.getElem?_cons_zero, List.getElem?_cons_succ, Option.some.injEq] at t4 t5 t7 t8 t10 t12 t13
  rw [t4, t5, t7, t8, t10, t12, t13]
  clear t4 t5 t7 t8 t10 t12 t13 hT
  have hok : okCode Tryz.progTables lwF = true := by kernel_rfl
  have hbig := hI.la.big
  refine code_way hI.la.sn (fok_code rfl hok) (R := fun _ _ => False) (Rr := fun a w2 => ∃ u : World, (u.heap = (emW X w).heap ∧ OO u w) ∧ (a.defers = [] ∧ a.tmps.size = 112 ∧ a.tmps[2]? = some (.bool true) ∧ Below w0.heap.size u w2)) (fun t d => ?_) (fun a w2 w2' hE hS hK hFO hR => hR.elim) (fun a todo w2 w2' hE hS hK hFO hR => ?_)
  · have hu : On (emW X w) { emW X w with tape := t, drawn := d } := on_tape t d
    have hz : w0.heap.size ≤ ({ emW X w with tape := t, drawn := d } : World).heap.size := by show w0.heap.size ≤ (emW X w).heap.size; rw [emW_size]; exact hbig
    obtain ⟨La, k12, hg2, hsg⟩ := hI.p
    have hms : ms.length ≤ maxLen := by rw [← ez]; unfold maxLen; omega
    refine wp_mono (law_p3 (h := h) (N := w0.heap.size) (b1 := b1) (b4 := b4) (b7 := b7) (b12 := b12) (y := y) (va := va) (vcap := vcap) (ms := ms) (m3 := m3) (m4 := m4) (m6 := m6) (M := M) (g := g) (g2 := g2) (ga := ga) (gcap := gcap) (zs := zs) (ha := ha) (hcap := hcap) _ _ _ _ _ _ _ _ _ _ _ _ _ _ _ _ _ _ _ _ _ _ _ _ _ _ _ _ _ _ _ _ _ _ _ _ _ _ _ _ _ _ _ _ _ _ _ _ _ _ _ _ _ _ _ _ _ _ _ _ _ _ _ _ _ _ _ _ _ _ _ _ _ _ _ _ _ _ _ _ _ _ _ _ _ _ _ _ _ _ _ _ _ _ _ _ _ _ _ _ _ _ _ _ _ { emW X w with tape := t, drawn := d } (La.on hu) hzl hms (blk_on k12 hu) (HpIn.heap hg2 hu.1 hu.2) ep (segI_on hsg hu)) fun e a w1 hq => ?_
    cases e with
    | normal => exact hq.elim
    | ret => exact ⟨{ emW X w with tape := t, drawn := d }, ⟨rfl, rfl, rfl⟩, hq.1, hq.2.1, hq.2.2.1, hq.2.2.2.mono hz⟩
    | _ => exact hq
  · obtain ⟨u, ⟨hu, huo⟩, r1, r2, r3, hB⟩ := hR
    exact .stop ⟨_, rfl, rfl, r1, rfl, rfl, by
      show a.tmps.getD 2 undef = _
      rw [Array.getD_eq_getD_getElem?, r3]
      rfl, hI.la.piece rfl hu huo hE hS hK hB⟩
end
end Go.Proofs.YtcpnkpogebjieaaGreat.Co
