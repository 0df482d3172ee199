/-
  No cell of these rows narrows 'for every input' (looked for: loops, veiled, ifaces, maps, wideKeys, modest, calm, conditions, laid).
  DERIVED. THE GIVEN ROWS OF THIS SEAT. 4 by the template 'for every input the law returns true; each argument reads behind the call as it read before'; 0 by the template 'total and deterministic' (their statements: YtcllkmdlheggkaaTotals.lean).
  GIVEN WITH THE SEED: the statements are not yours to turn. If you find one false, say at which input.
  Laid BY PROGRAM, IN A SANDBOX (cutbox-rows.mjs): the forced cells as the released guide's own fill.sh prints them over the translation 833f31d8b350925a… (all of the seat's roots in one cut). By AI agents, Wed Nov 11 2026. No macro, syntax, notation, axiom, sorry.
-/
import Derived.Test.YtcllkmdlheggkaaChecked
import GoSem.Claim
import GoSem.ClaimJoined
import GoSem.ClaimMapViews
import Derived.JoinedTies
import Derived.KernelRfl
namespace Go.Proofs.Ytcllkmdlheggkaa
/- THE CELL 'sum', in the pinned program and in every row, IS THE sha256 OF THE DUMP (.gsa) THAT YtcllkmdlheggkaaProg.lean LOADS. Nothing in Lean hashes anything: it is a label: what it is worth is what the hold of that sum in a sandbox is worth. -/
noncomputable def Try.pinned : Pinned := { name := "ytcllkmdlheggkaa", sum := "833f31d8b350925a97cc5ede0a3056c8fd4e88cc3b738ab4367a1688294da91a", checked := Try.checked }
namespace Rows
def none {H : Type} : Left H := { results := [], args := [] }

/-- 'laws.FnThings': WHATEVER THE INPUT: true; the input reads as it did. -/
def fnThingsSpec : ChangeSpec := { name := "fnThings", fn := fun _ => fun
  | [d] => { results := [.lit (.bool true)], args := [d] }
  | _ => none }
def fnThingsRow : OpenClaim := { program := "ytcllkmdlheggkaa", sum := "833f31d8b350925a97cc5ede0a3056c8fd4e88cc3b738ab4367a1688294da91a", func := "loop.example/g00070/laws.FnThings", spec := "fnThings", apart := false }
def FnThingsSaid : Prop := fnThingsRow.holds Try.pinned (OpenSpec.ofChange fnThingsSpec)

/-- ITS FALSE NEIGHBOUR: 'it returns false'. Refute it at one input. -/
def fnThingsWrong : ChangeSpec := { name := "fnThings", fn := fun _ => fun
  | [d] => { results := [.lit (.bool false)], args := [d] }
  | _ => none }
def FnThingsWrongFalsely : Prop := fnThingsRow.holds Try.pinned (OpenSpec.ofChange fnThingsWrong)

/-- 'laws.FnAheadOf': WHATEVER THE INPUT: true; the input reads as it did. -/
def fnAheadOfSpec : ChangeSpec := { name := "fnAheadOf", fn := fun _ => fun
  | [d] => { results := [.lit (.bool true)], args := [d] }
  | _ => none }
def fnAheadOfRow : OpenClaim := { program := "ytcllkmdlheggkaa", sum := "833f31d8b350925a97cc5ede0a3056c8fd4e88cc3b738ab4367a1688294da91a", func := "loop.example/g00070/laws.FnAheadOf", spec := "fnAheadOf", apart := false }
def FnAheadOfSaid : Prop := fnAheadOfRow.holds Try.pinned (OpenSpec.ofChange fnAheadOfSpec)

/-- ITS FALSE NEIGHBOUR: 'it returns false'. Refute it at one input. -/
def fnAheadOfWrong : ChangeSpec := { name := "fnAheadOf", fn := fun _ => fun
  | [d] => { results := [.lit (.bool false)], args := [d] }
  | _ => none }
def FnAheadOfWrongFalsely : Prop := fnAheadOfRow.holds Try.pinned (OpenSpec.ofChange fnAheadOfWrong)

/-- 'laws.FnNames': WHATEVER THE INPUT: true; the input reads as it did. -/
def fnNamesSpec : ChangeSpec := { name := "fnNames", fn := fun _ => fun
  | [d] => { results := [.lit (.bool true)], args := [d] }
  | _ => none }
def fnNamesRow : OpenClaim := { program := "ytcllkmdlheggkaa", sum := "833f31d8b350925a97cc5ede0a3056c8fd4e88cc3b738ab4367a1688294da91a", func := "loop.example/g00070/laws.FnNames", spec := "fnNames", apart := false }
def FnNamesSaid : Prop := fnNamesRow.holds Try.pinned (OpenSpec.ofChange fnNamesSpec)

/-- ITS FALSE NEIGHBOUR: 'it returns false'. Refute it at one input. -/
def fnNamesWrong : ChangeSpec := { name := "fnNames", fn := fun _ => fun
  | [d] => { results := [.lit (.bool false)], args := [d] }
  | _ => none }
def FnNamesWrongFalsely : Prop := fnNamesRow.holds Try.pinned (OpenSpec.ofChange fnNamesWrong)

/-- 'laws.FnExactValZero': WHATEVER THE INPUT: true; the input reads as it did. -/
def fnExactValZeroSpec : ChangeSpec := { name := "fnExactValZero", fn := fun _ => fun
  | [d] => { results := [.lit (.bool true)], args := [d] }
  | _ => none }
def fnExactValZeroRow : OpenClaim := { program := "ytcllkmdlheggkaa", sum := "833f31d8b350925a97cc5ede0a3056c8fd4e88cc3b738ab4367a1688294da91a", func := "loop.example/g00070/laws.FnExactValZero", spec := "fnExactValZero", apart := false }
def FnExactValZeroSaid : Prop := fnExactValZeroRow.holds Try.pinned (OpenSpec.ofChange fnExactValZeroSpec)

/-- ITS FALSE NEIGHBOUR: 'it returns false'. Refute it at one input. -/
def fnExactValZeroWrong : ChangeSpec := { name := "fnExactValZero", fn := fun _ => fun
  | [d] => { results := [.lit (.bool false)], args := [d] }
  | _ => none }
def FnExactValZeroWrongFalsely : Prop := fnExactValZeroRow.holds Try.pinned (OpenSpec.ofChange fnExactValZeroWrong)

/- THE SECOND FORM. 'bulk': how many values and letters a reading holds, each counted each time it is reached (what is shared counts as often as it is met; a slice's spare places count too). A statement '..UptoSaid' is the law's where the arguments, and the package variables that the reading takes, are together of bulk at most 1048576: NARROWER than '..Said'. Prove '..Said' where nothing that the law and all that it calls make is longer than what came in: it says more and counts as full. Else prove '..UptoSaid'. A law counts once. -/
mutual
def uptoBulk {H : Type} : DataW H → Nat
  | .lit (.string bytes) => bytes.length + 1
  | .lit _ => 1
  | .nil => 1
  | .ptr d => uptoBulk d + 1
  | .slice elems spare => uptoBulkAll elems + uptoBulkAll spare + 1
  | .agg parts => uptoBulkAll parts + 1
  | .iface _ d => uptoBulk d + 1
  | .map entries => uptoBulkEntries entries + 1
  | .held _ => 1
def uptoBulkAll {H : Type} : List (DataW H) → Nat
  | [] => 0
  | d :: r => uptoBulk d + uptoBulkAll r
def uptoBulkEntries {H : Type} : List (Lit × DataW H) → Nat
  | [] => 0
  | x :: r => uptoBulkEntry x + uptoBulkEntries r
def uptoBulkEntry {H : Type} : Lit × DataW H → Nat
  | (.string bytes, d) => bytes.length + uptoBulk d + 1
  | (_, d) => uptoBulk d + 1
 end
def uptoSmall : (H : Type) → List (DataW H) → Bool := fun _ ds => decide (uptoBulkAll ds ≤ 1048576)
def OpenSpec.upto (s : _root_.Go.ChangeSpec) : _root_.Go.OpenSpec := { _root_.Go.OpenSpec.ofChange s with cond := some uptoSmall }

/-- 'laws.FnThings', WHERE WHAT IT READS IS OF BULK AT MOST 1048576: true; the input reads as it did. -/
def fnThingsUptoRow : OpenClaim := { program := "ytcllkmdlheggkaa", sum := "833f31d8b350925a97cc5ede0a3056c8fd4e88cc3b738ab4367a1688294da91a", func := "loop.example/g00070/laws.FnThings", spec := "fnThings", apart := false, narrowed := true }
def FnThingsUptoSaid : Prop := fnThingsUptoRow.holds Try.pinned (OpenSpec.upto fnThingsSpec)

/-- 'laws.FnAheadOf', WHERE WHAT IT READS IS OF BULK AT MOST 1048576: true; the input reads as it did. -/
def fnAheadOfUptoRow : OpenClaim := { program := "ytcllkmdlheggkaa", sum := "833f31d8b350925a97cc5ede0a3056c8fd4e88cc3b738ab4367a1688294da91a", func := "loop.example/g00070/laws.FnAheadOf", spec := "fnAheadOf", apart := false, narrowed := true }
def FnAheadOfUptoSaid : Prop := fnAheadOfUptoRow.holds Try.pinned (OpenSpec.upto fnAheadOfSpec)

/-- 'laws.FnNames', WHERE WHAT IT READS IS OF BULK AT MOST 1048576: true; the input reads as it did. -/
def fnNamesUptoRow : OpenClaim := { program := "ytcllkmdlheggkaa", sum := "833f31d8b350925a97cc5ede0a3056c8fd4e88cc3b738ab4367a1688294da91a", func := "loop.example/g00070/laws.FnNames", spec := "fnNames", apart := false, narrowed := true }
def FnNamesUptoSaid : Prop := fnNamesUptoRow.holds Try.pinned (OpenSpec.upto fnNamesSpec)

/-- 'laws.FnExactValZero', WHERE WHAT IT READS IS OF BULK AT MOST 1048576: true; the input reads as it did. -/
def fnExactValZeroUptoRow : OpenClaim := { program := "ytcllkmdlheggkaa", sum := "833f31d8b350925a97cc5ede0a3056c8fd4e88cc3b738ab4367a1688294da91a", func := "loop.example/g00070/laws.FnExactValZero", spec := "fnExactValZero", apart := false, narrowed := true }
def FnExactValZeroUptoSaid : Prop := fnExactValZeroUptoRow.holds Try.pinned (OpenSpec.upto fnExactValZeroSpec)

end Rows
end Go.Proofs.Ytcllkmdlheggkaa
