/-
  No cell of these rows narrows 'for every input' (looked for: loops, veiled, ifaces, maps, wideKeys, modest, calm, conditions, laid).
  DERIVED. THE GIVEN ROWS OF THIS SEAT. 4 by the template 'for every input the law returns true; each argument reads behind the call as it read before'; 0 by the template 'total and deterministic' (their statements: YtcpnkpogebjieaaTotals.lean).
  GIVEN WITH THE SEED: the statements are not yours to turn. If you find one false, say at which input.
  Laid BY PROGRAM, IN A SANDBOX (cutbox-rows.mjs): the forced cells as the released guide's own fill.sh prints them over the translation e5f378d325957956… (all of the seat's roots in one cut). By AI agents, Wed Nov 11 2026. No macro, syntax, notation, axiom, sorry.
-/
import Derived.Test.YtcpnkpogebjieaaChecked
import GoSem.Claim
import GoSem.ClaimJoined
import GoSem.ClaimMapViews
import Derived.JoinedTies
import Derived.KernelRfl
namespace Go.Proofs.Ytcpnkpogebjieaa
/- THE CELL 'sum', in the pinned program and in every row, IS THE sha256 OF THE DUMP (.gsa) THAT YtcpnkpogebjieaaProg.lean LOADS. Nothing in Lean hashes anything: it is a label: what it is worth is what the hold of that sum in a sandbox is worth. -/
noncomputable def Try.pinned : Pinned := { name := "ytcpnkpogebjieaa", sum := "e5f378d3259579561517561510e002d257055bf1ffaa5d36e16b9ebc1d5bab72", checked := Try.checked }
namespace Rows
def none {H : Type} : Left H := { results := [], args := [] }

/-- 'laws.FnReach': WHATEVER THE INPUT: true; the input reads as it did. -/
def fnReachSpec : ChangeSpec := { name := "fnReach", fn := fun _ => fun
  | [d] => { results := [.lit (.bool true)], args := [d] }
  | _ => none }
def fnReachRow : OpenClaim := { program := "ytcpnkpogebjieaa", sum := "e5f378d3259579561517561510e002d257055bf1ffaa5d36e16b9ebc1d5bab72", func := "loop.example/sismem/laws.FnReach", spec := "fnReach", unfollowed := true, recurses := true, apart := false }
def FnReachSaid : Prop := fnReachRow.holds Try.pinned (OpenSpec.ofChange fnReachSpec)

/-- ITS FALSE NEIGHBOUR: 'it returns false'. Refute it at one input. -/
def fnReachWrong : ChangeSpec := { name := "fnReach", fn := fun _ => fun
  | [d] => { results := [.lit (.bool false)], args := [d] }
  | _ => none }
def FnReachWrongFalsely : Prop := fnReachRow.holds Try.pinned (OpenSpec.ofChange fnReachWrong)

/-- 'laws.FnExactMemOk': WHATEVER THE INPUT: true; the input reads as it did. -/
def fnExactMemOkSpec : ChangeSpec := { name := "fnExactMemOk", fn := fun _ => fun
  | [d] => { results := [.lit (.bool true)], args := [d] }
  | _ => none }
def fnExactMemOkRow : OpenClaim := { program := "ytcpnkpogebjieaa", sum := "e5f378d3259579561517561510e002d257055bf1ffaa5d36e16b9ebc1d5bab72", func := "loop.example/sismem/laws.FnExactMemOk", spec := "fnExactMemOk", unfollowed := true, recurses := true, apart := false }
def FnExactMemOkSaid : Prop := fnExactMemOkRow.holds Try.pinned (OpenSpec.ofChange fnExactMemOkSpec)

/-- ITS FALSE NEIGHBOUR: 'it returns false'. Refute it at one input. -/
def fnExactMemOkWrong : ChangeSpec := { name := "fnExactMemOk", fn := fun _ => fun
  | [d] => { results := [.lit (.bool false)], args := [d] }
  | _ => none }
def FnExactMemOkWrongFalsely : Prop := fnExactMemOkRow.holds Try.pinned (OpenSpec.ofChange fnExactMemOkWrong)

/-- 'laws.FnExactMemReach': WHATEVER THE INPUT: true; the input reads as it did. -/
def fnExactMemReachSpec : ChangeSpec := { name := "fnExactMemReach", fn := fun _ => fun
  | [d] => { results := [.lit (.bool true)], args := [d] }
  | _ => none }
def fnExactMemReachRow : OpenClaim := { program := "ytcpnkpogebjieaa", sum := "e5f378d3259579561517561510e002d257055bf1ffaa5d36e16b9ebc1d5bab72", func := "loop.example/sismem/laws.FnExactMemReach", spec := "fnExactMemReach", unfollowed := true, recurses := true, apart := false }
def FnExactMemReachSaid : Prop := fnExactMemReachRow.holds Try.pinned (OpenSpec.ofChange fnExactMemReachSpec)

/-- ITS FALSE NEIGHBOUR: 'it returns false'. Refute it at one input. -/
def fnExactMemReachWrong : ChangeSpec := { name := "fnExactMemReach", fn := fun _ => fun
  | [d] => { results := [.lit (.bool false)], args := [d] }
  | _ => none }
def FnExactMemReachWrongFalsely : Prop := fnExactMemReachRow.holds Try.pinned (OpenSpec.ofChange fnExactMemReachWrong)

/-- 'laws.FnExactMemSame': WHATEVER THE INPUT: true; the input reads as it did. -/
def fnExactMemSameSpec : ChangeSpec := { name := "fnExactMemSame", fn := fun _ => fun
  | [d1, d2] => { results := [.lit (.bool true)], args := [d1, d2] }
  | _ => none }
def fnExactMemSameRow : OpenClaim := { program := "ytcpnkpogebjieaa", sum := "e5f378d3259579561517561510e002d257055bf1ffaa5d36e16b9ebc1d5bab72", func := "loop.example/sismem/laws.FnExactMemSame", spec := "fnExactMemSame", unfollowed := true, recurses := true, apart := false }
def FnExactMemSameSaid : Prop := fnExactMemSameRow.holds Try.pinned (OpenSpec.ofChange fnExactMemSameSpec)

/-- ITS FALSE NEIGHBOUR: 'it returns false'. Refute it at one input. -/
def fnExactMemSameWrong : ChangeSpec := { name := "fnExactMemSame", fn := fun _ => fun
  | [d1, d2] => { results := [.lit (.bool false)], args := [d1, d2] }
  | _ => none }
def FnExactMemSameWrongFalsely : Prop := fnExactMemSameRow.holds Try.pinned (OpenSpec.ofChange fnExactMemSameWrong)

/- THE SECOND FORM. 'bulk': how many values and letters a reading holds, each counted each time it is reached (what is shared counts as often as it is met; a slice's spare places count too). A statement '..UptoSaid' is the law's where the arguments, and the package variables that the reading takes, are together of bulk at most 1048576: NARROWER than '..Said'. Prove '..Said' where nothing that the law and all that it calls make is longer than what came in: it says more and counts as full. Else prove '..UptoSaid'. A law counts once. -/
mutual
def uptoBulk {H : Type} : DataW H → Nat
  | .lit (.string bytes) => bytes.length + 1
  | .lit _ => 1
  | .nil => 1
  | .ptr d => uptoBulk d + 1
  | .slice elems spare => uptoBulkAll elems + uptoBulkAll spare + 1
  | .agg parts => uptoBulkAll parts + 1
  | .iface _ d => uptoBulk d + 1
  | .map entries => uptoBulkEntries entries + 1
  | .held _ => 1
def uptoBulkAll {H : Type} : List (DataW H) → Nat
  | [] => 0
  | d :: r => uptoBulk d + uptoBulkAll r
def uptoBulkEntries {H : Type} : List (Lit × DataW H) → Nat
  | [] => 0
  | x :: r => uptoBulkEntry x + uptoBulkEntries r
def uptoBulkEntry {H : Type} : Lit × DataW H → Nat
  | (.string bytes, d) => bytes.length + uptoBulk d + 1
  | (_, d) => uptoBulk d + 1
 end
def uptoSmall : (H : Type) → List (DataW H) → Bool := fun _ ds => decide (uptoBulkAll ds ≤ 1048576)
def OpenSpec.upto (s : _root_.Go.ChangeSpec) : _root_.Go.OpenSpec := { _root_.Go.OpenSpec.ofChange s with cond := some uptoSmall }

/-- 'laws.FnReach', WHERE WHAT IT READS IS OF BULK AT MOST 1048576: true; the input reads as it did. -/
def fnReachUptoRow : OpenClaim := { program := "ytcpnkpogebjieaa", sum := "e5f378d3259579561517561510e002d257055bf1ffaa5d36e16b9ebc1d5bab72", func := "loop.example/sismem/laws.FnReach", spec := "fnReach", unfollowed := true, recurses := true, apart := false, narrowed := true }
def FnReachUptoSaid : Prop := fnReachUptoRow.holds Try.pinned (OpenSpec.upto fnReachSpec)

/-- 'laws.FnExactMemOk', WHERE WHAT IT READS IS OF BULK AT MOST 1048576: true; the input reads as it did. -/
def fnExactMemOkUptoRow : OpenClaim := { program := "ytcpnkpogebjieaa", sum := "e5f378d3259579561517561510e002d257055bf1ffaa5d36e16b9ebc1d5bab72", func := "loop.example/sismem/laws.FnExactMemOk", spec := "fnExactMemOk", unfollowed := true, recurses := true, apart := false, narrowed := true }
def FnExactMemOkUptoSaid : Prop := fnExactMemOkUptoRow.holds Try.pinned (OpenSpec.upto fnExactMemOkSpec)

/-- 'laws.FnExactMemReach', WHERE WHAT IT READS IS OF BULK AT MOST 1048576: true; the input reads as it did. -/
def fnExactMemReachUptoRow : OpenClaim := { program := "ytcpnkpogebjieaa", sum := "e5f378d3259579561517561510e002d257055bf1ffaa5d36e16b9ebc1d5bab72", func := "loop.example/sismem/laws.FnExactMemReach", spec := "fnExactMemReach", unfollowed := true, recurses := true, apart := false, narrowed := true }
def FnExactMemReachUptoSaid : Prop := fnExactMemReachUptoRow.holds Try.pinned (OpenSpec.upto fnExactMemReachSpec)

/-- 'laws.FnExactMemSame', WHERE WHAT IT READS IS OF BULK AT MOST 1048576: true; the input reads as it did. -/
def fnExactMemSameUptoRow : OpenClaim := { program := "ytcpnkpogebjieaa", sum := "e5f378d3259579561517561510e002d257055bf1ffaa5d36e16b9ebc1d5bab72", func := "loop.example/sismem/laws.FnExactMemSame", spec := "fnExactMemSame", unfollowed := true, recurses := true, apart := false, narrowed := true }
def FnExactMemSameUptoSaid : Prop := fnExactMemSameUptoRow.holds Try.pinned (OpenSpec.upto fnExactMemSameSpec)

end Rows
end Go.Proofs.Ytcpnkpogebjieaa
