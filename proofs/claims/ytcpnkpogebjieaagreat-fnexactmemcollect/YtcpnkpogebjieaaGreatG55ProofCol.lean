/- At every heap the law FnExactMemCollect answers true and leaves the heap as it was, whatever memory the heap shares, and in whatever order the goroutines run that the call starts. No condition. -/
import Derived.Test.YtcpnkpogebjieaaGreatRows
import Derived.Conc.LeavingOf
import Derived.ProofKit
import Derived.Test.YtcpnkpogebjieaaGreatG54Oz
namespace Go.Proofs.YtcpnkpogebjieaaGreat
open Go.ChangeShapes Go.WideShapes Go.ChangeAt Go.RowKit Go.Conc
theorem fnExactMemCollect_own : ownKnob Tryz.prog.godebug = none := by kernel_rfl
theorem fnExactMemCollect_laidOut : laidOutB Tryz.prog = true := by kernel_rfl
set_option maxRecDepth 100000 in
theorem fnExactMemCollect_lifted (os : Os) (started : os.Started) (H : Type) (enc : TypeId × Value → H) :
   ReturnsInLeavingWide {} Tryz.checked os 6 .any (Rows.fnExactMemCollectSpec.pre6 enc Tryz.prog Tryz.f6 Rows.fnExactMemCollectRow.domain false) (Rows.fnExactMemCollectSpec.post enc Tryz.prog Tryz.f6 false true false false) := by
 refine returnsInLeavingWide_of_change_sized (C := Tryz.checked) fnExactMemCollect_own started Tryz.func6
   (ChangeSpec.witness6 (enc := enc) (C := Tryz.checked) false ⟨#[], #[.agg #[.slice none 0 0, .slice none 0 0, .slice none 0 0, .slice none 0 0]], []⟩ 8 (by kernel_rfl) (by kernel_rfl) (by kernel_rfl) (by kernel_rfl)) ?_
 intro W base args ds gs before hval0 hW _ _ _
 have hval : ∀ (j : Nat) t v, Tryz.f6.params[j]? = some t → args[j]? = some v → Value.okWide Tryz.prog W .any base t v := hval0
 have hW' := hW
 obtain ⟨p, q, hA0, hV, rfl, _, _⟩ := hW
 have hA : DataW.TrodAll enc Tryz.prog W 0 (fun _ => true) true Tryz.f6.params.toList args.toList ds p := hA0
 rw [Tryz.params6] at hA hval
 obtain ⟨v0, d0, rfl, rfl, h0⟩ := trodAll_one hA
 obtain ⟨rfl, rfl⟩ := trodVars_none hV
 clear hA0 hval0
 simp only [List.append_nil] at hW'
 have hlt : ∀ x ∈ p, x.block < W.heap.size := fun x hx => by simpa using hW'.lt x hx
 have hargs : ∀ (W' : World), Below W.heap.size W W' → DataW.Trod enc Tryz.prog W' 0 (fun b => decide (b < W.heap.size)) true 48 v0 d0 p :=
   fun W' hn => Below.trod fnExactMemCollect_laidOut (by kernel_rfl) (of_decide_eq_true (by kernel_rfl)) h0 hn hlt
 obtain ⟨h, hv, hin, hfit⟩ := Co.open_heap (hval 0 48 v0 rfl rfl) h0
 obtain ⟨M, last, o, w', t', r1, r2, r3, r4⟩ := Co.law_runs h W hin hfit
 rw [← hv] at r1 r2
 refine ⟨M, last, o, w', t', r1, r2, r3, r4.mono fun v hF => ?_⟩
 obtain ⟨rfl, k1, k2, k3, k4⟩ := hF
 have hb : Below W.heap.size W { w' with tape := W.tape } := ⟨k1, rfl, k2, k3, k4⟩
 have hfr := hb.frame (fun x => x ∈ p ∧ (x ∈ ([] : List MemPlace) ∨ x ∈ p ∨ x ∈ ([] : List MemPlace)))
 refine ⟨_, _, _, [], p, [], hW', ?_, ?_, rfl, hfr, fun h => by cases h⟩
 · exact trodAll_mk1 (shut_bool Tryz.underlying4 true)
 · exact trodAll_mk1 ((hargs _ hb).of_heap (by rfl))
theorem fnExactMemCollect_holds : Rows.FnExactMemCollectSaid :=
 OpenClaim.holds_of_wide_leaving 6 Tryz.f6 rfl rfl rfl rfl rfl rfl rfl ⟨rfl, rfl, rfl, rfl, rfl⟩ rfl rfl rfl rfl rfl (by kernel_rfl) Tryz.func6 (by kernel_rfl)
   (of_decide_eq_true (by kernel_rfl)) (by unfold Func.isWrapper; rw [if_neg (of_decide_eq_false (by kernel_rfl))]; exact ⟨rfl, rfl⟩)
   (fun os started H enc _ => fnExactMemCollect_lifted os started H enc)
#print axioms fnExactMemCollect_holds
end Go.Proofs.YtcpnkpogebjieaaGreat
