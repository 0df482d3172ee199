/-
  No cell of these rows narrows 'for every input' (looked for: loops, veiled, ifaces, maps, wideKeys, modest, calm, conditions, laid).
  DERIVED. THE GIVEN ROWS OF THIS SEAT. 5 by the template 'for every input the law returns true; each argument reads behind the call as it read before'; 0 by the template 'total and deterministic' (their statements: YtijgkpkakkjkgabTotals.lean).
  GIVEN WITH THE SEED: the statements are not yours to turn. If you find one false, say at which input.
  Laid BY PROGRAM, IN A SANDBOX (cutbox-rows.mjs): the forced cells as the released guide's own fill.sh prints them over the translation 11f35755cab9840d… (all of the seat's roots in one cut). By AI agents, Wed Nov 11 2026. No macro, syntax, notation, axiom, sorry.
-/
import Derived.Test.YtijgkpkakkjkgabChecked
import GoSem.Claim
import GoSem.ClaimJoined
import GoSem.ClaimMapViews
import Derived.JoinedTies
import Derived.KernelRfl
namespace Go.Proofs.Ytijgkpkakkjkgab
/- THE CELL 'sum', in the pinned program and in every row, IS THE sha256 OF THE DUMP (.gsa) THAT YtijgkpkakkjkgabProg.lean LOADS. Nothing in Lean hashes anything: it is a label: what it is worth is what the hold of that sum in a sandbox is worth. -/
noncomputable def Try.pinned : Pinned := { name := "ytijgkpkakkjkgab", sum := "11f35755cab9840dec0898daa2596bdc1ff2837f0098a4a45df5c35efa83efbe", checked := Try.checked }
namespace Rows
def none {H : Type} : Left H := { results := [], args := [] }

/-- 'laws.FnExactEntsOk': WHATEVER THE INPUT: true; the input reads as it did. -/
def fnExactEntsOkSpec : ChangeSpec := { name := "fnExactEntsOk", fn := fun _ => fun
  | [d] => { results := [.lit (.bool true)], args := [d] }
  | _ => none }
def fnExactEntsOkRow : OpenClaim := { program := "ytijgkpkakkjkgab", sum := "11f35755cab9840dec0898daa2596bdc1ff2837f0098a4a45df5c35efa83efbe", func := "loop.example/g00070/laws.FnExactEntsOk", spec := "fnExactEntsOk", apart := false }
def FnExactEntsOkSaid : Prop := fnExactEntsOkRow.holds Try.pinned (OpenSpec.ofChange fnExactEntsOkSpec)

/-- ITS FALSE NEIGHBOUR: 'it returns false'. Refute it at one input. -/
def fnExactEntsOkWrong : ChangeSpec := { name := "fnExactEntsOk", fn := fun _ => fun
  | [d] => { results := [.lit (.bool false)], args := [d] }
  | _ => none }
def FnExactEntsOkWrongFalsely : Prop := fnExactEntsOkRow.holds Try.pinned (OpenSpec.ofChange fnExactEntsOkWrong)

/-- 'laws.FnExactEntLive': WHATEVER THE INPUT: true; the input reads as it did. -/
def fnExactEntLiveSpec : ChangeSpec := { name := "fnExactEntLive", fn := fun _ => fun
  | [d1, d2] => { results := [.lit (.bool true)], args := [d1, d2] }
  | _ => none }
def fnExactEntLiveRow : OpenClaim := { program := "ytijgkpkakkjkgab", sum := "11f35755cab9840dec0898daa2596bdc1ff2837f0098a4a45df5c35efa83efbe", func := "loop.example/g00070/laws.FnExactEntLive", spec := "fnExactEntLive", apart := false }
def FnExactEntLiveSaid : Prop := fnExactEntLiveRow.holds Try.pinned (OpenSpec.ofChange fnExactEntLiveSpec)

/-- ITS FALSE NEIGHBOUR: 'it returns false'. Refute it at one input. -/
def fnExactEntLiveWrong : ChangeSpec := { name := "fnExactEntLive", fn := fun _ => fun
  | [d1, d2] => { results := [.lit (.bool false)], args := [d1, d2] }
  | _ => none }
def FnExactEntLiveWrongFalsely : Prop := fnExactEntLiveRow.holds Try.pinned (OpenSpec.ofChange fnExactEntLiveWrong)

/-- 'laws.FnExactEntTake': WHATEVER THE INPUT: true; the input reads as it did. -/
def fnExactEntTakeSpec : ChangeSpec := { name := "fnExactEntTake", fn := fun _ => fun
  | [d] => { results := [.lit (.bool true)], args := [d] }
  | _ => none }
def fnExactEntTakeRow : OpenClaim := { program := "ytijgkpkakkjkgab", sum := "11f35755cab9840dec0898daa2596bdc1ff2837f0098a4a45df5c35efa83efbe", func := "loop.example/g00070/laws.FnExactEntTake", spec := "fnExactEntTake", apart := false }
def FnExactEntTakeSaid : Prop := fnExactEntTakeRow.holds Try.pinned (OpenSpec.ofChange fnExactEntTakeSpec)

/-- ITS FALSE NEIGHBOUR: 'it returns false'. Refute it at one input. -/
def fnExactEntTakeWrong : ChangeSpec := { name := "fnExactEntTake", fn := fun _ => fun
  | [d] => { results := [.lit (.bool false)], args := [d] }
  | _ => none }
def FnExactEntTakeWrongFalsely : Prop := fnExactEntTakeRow.holds Try.pinned (OpenSpec.ofChange fnExactEntTakeWrong)

/-- 'laws.FnExactEntGive': WHATEVER THE INPUT: true; the input reads as it did. -/
def fnExactEntGiveSpec : ChangeSpec := { name := "fnExactEntGive", fn := fun _ => fun
  | [d1, d2] => { results := [.lit (.bool true)], args := [d1, d2] }
  | _ => none }
def fnExactEntGiveRow : OpenClaim := { program := "ytijgkpkakkjkgab", sum := "11f35755cab9840dec0898daa2596bdc1ff2837f0098a4a45df5c35efa83efbe", func := "loop.example/g00070/laws.FnExactEntGive", spec := "fnExactEntGive", apart := false }
def FnExactEntGiveSaid : Prop := fnExactEntGiveRow.holds Try.pinned (OpenSpec.ofChange fnExactEntGiveSpec)

/-- ITS FALSE NEIGHBOUR: 'it returns false'. Refute it at one input. -/
def fnExactEntGiveWrong : ChangeSpec := { name := "fnExactEntGive", fn := fun _ => fun
  | [d1, d2] => { results := [.lit (.bool false)], args := [d1, d2] }
  | _ => none }
def FnExactEntGiveWrongFalsely : Prop := fnExactEntGiveRow.holds Try.pinned (OpenSpec.ofChange fnExactEntGiveWrong)

/-- 'laws.FnExactEntAhead': WHATEVER THE INPUT: true; the input reads as it did. -/
def fnExactEntAheadSpec : ChangeSpec := { name := "fnExactEntAhead", fn := fun _ => fun
  | [d1, d2] => { results := [.lit (.bool true)], args := [d1, d2] }
  | _ => none }
def fnExactEntAheadRow : OpenClaim := { program := "ytijgkpkakkjkgab", sum := "11f35755cab9840dec0898daa2596bdc1ff2837f0098a4a45df5c35efa83efbe", func := "loop.example/g00070/laws.FnExactEntAhead", spec := "fnExactEntAhead", apart := false }
def FnExactEntAheadSaid : Prop := fnExactEntAheadRow.holds Try.pinned (OpenSpec.ofChange fnExactEntAheadSpec)

/-- ITS FALSE NEIGHBOUR: 'it returns false'. Refute it at one input. -/
def fnExactEntAheadWrong : ChangeSpec := { name := "fnExactEntAhead", fn := fun _ => fun
  | [d1, d2] => { results := [.lit (.bool false)], args := [d1, d2] }
  | _ => none }
def FnExactEntAheadWrongFalsely : Prop := fnExactEntAheadRow.holds Try.pinned (OpenSpec.ofChange fnExactEntAheadWrong)

/- THE SECOND FORM. 'bulk': how many values and letters a reading holds, each counted each time it is reached (what is shared counts as often as it is met; a slice's spare places count too). A statement '..UptoSaid' is the law's where the arguments, and the package variables that the reading takes, are together of bulk at most 1048576: NARROWER than '..Said'. Prove '..Said' where nothing that the law and all that it calls make is longer than what came in: it says more and counts as full. Else prove '..UptoSaid'. A law counts once. -/
mutual
def uptoBulk {H : Type} : DataW H → Nat
  | .lit (.string bytes) => bytes.length + 1
  | .lit _ => 1
  | .nil => 1
  | .ptr d => uptoBulk d + 1
  | .slice elems spare => uptoBulkAll elems + uptoBulkAll spare + 1
  | .agg parts => uptoBulkAll parts + 1
  | .iface _ d => uptoBulk d + 1
  | .map entries => uptoBulkEntries entries + 1
  | .held _ => 1
def uptoBulkAll {H : Type} : List (DataW H) → Nat
  | [] => 0
  | d :: r => uptoBulk d + uptoBulkAll r
def uptoBulkEntries {H : Type} : List (Lit × DataW H) → Nat
  | [] => 0
  | x :: r => uptoBulkEntry x + uptoBulkEntries r
def uptoBulkEntry {H : Type} : Lit × DataW H → Nat
  | (.string bytes, d) => bytes.length + uptoBulk d + 1
  | (_, d) => uptoBulk d + 1
 end
def uptoSmall : (H : Type) → List (DataW H) → Bool := fun _ ds => decide (uptoBulkAll ds ≤ 1048576)
def OpenSpec.upto (s : _root_.Go.ChangeSpec) : _root_.Go.OpenSpec := { _root_.Go.OpenSpec.ofChange s with cond := some uptoSmall }

/-- 'laws.FnExactEntsOk', WHERE WHAT IT READS IS OF BULK AT MOST 1048576: true; the input reads as it did. -/
def fnExactEntsOkUptoRow : OpenClaim := { program := "ytijgkpkakkjkgab", sum := "11f35755cab9840dec0898daa2596bdc1ff2837f0098a4a45df5c35efa83efbe", func := "loop.example/g00070/laws.FnExactEntsOk", spec := "fnExactEntsOk", apart := false, narrowed := true }
def FnExactEntsOkUptoSaid : Prop := fnExactEntsOkUptoRow.holds Try.pinned (OpenSpec.upto fnExactEntsOkSpec)

/-- 'laws.FnExactEntLive', WHERE WHAT IT READS IS OF BULK AT MOST 1048576: true; the input reads as it did. -/
def fnExactEntLiveUptoRow : OpenClaim := { program := "ytijgkpkakkjkgab", sum := "11f35755cab9840dec0898daa2596bdc1ff2837f0098a4a45df5c35efa83efbe", func := "loop.example/g00070/laws.FnExactEntLive", spec := "fnExactEntLive", apart := false, narrowed := true }
def FnExactEntLiveUptoSaid : Prop := fnExactEntLiveUptoRow.holds Try.pinned (OpenSpec.upto fnExactEntLiveSpec)

/-- 'laws.FnExactEntTake', WHERE WHAT IT READS IS OF BULK AT MOST 1048576: true; the input reads as it did. -/
def fnExactEntTakeUptoRow : OpenClaim := { program := "ytijgkpkakkjkgab", sum := "11f35755cab9840dec0898daa2596bdc1ff2837f0098a4a45df5c35efa83efbe", func := "loop.example/g00070/laws.FnExactEntTake", spec := "fnExactEntTake", apart := false, narrowed := true }
def FnExactEntTakeUptoSaid : Prop := fnExactEntTakeUptoRow.holds Try.pinned (OpenSpec.upto fnExactEntTakeSpec)

/-- 'laws.FnExactEntGive', WHERE WHAT IT READS IS OF BULK AT MOST 1048576: true; the input reads as it did. -/
def fnExactEntGiveUptoRow : OpenClaim := { program := "ytijgkpkakkjkgab", sum := "11f35755cab9840dec0898daa2596bdc1ff2837f0098a4a45df5c35efa83efbe", func := "loop.example/g00070/laws.FnExactEntGive", spec := "fnExactEntGive", apart := false, narrowed := true }
def FnExactEntGiveUptoSaid : Prop := fnExactEntGiveUptoRow.holds Try.pinned (OpenSpec.upto fnExactEntGiveSpec)

/-- 'laws.FnExactEntAhead', WHERE WHAT IT READS IS OF BULK AT MOST 1048576: true; the input reads as it did. -/
def fnExactEntAheadUptoRow : OpenClaim := { program := "ytijgkpkakkjkgab", sum := "11f35755cab9840dec0898daa2596bdc1ff2837f0098a4a45df5c35efa83efbe", func := "loop.example/g00070/laws.FnExactEntAhead", spec := "fnExactEntAhead", apart := false, narrowed := true }
def FnExactEntAheadUptoSaid : Prop := fnExactEntAheadUptoRow.holds Try.pinned (OpenSpec.upto fnExactEntAheadSpec)

end Rows
end Go.Proofs.Ytijgkpkakkjkgab
