/-
  No cell of these rows narrows 'for every input' (looked for: loops, veiled, ifaces, maps, wideKeys, modest, calm, conditions, laid).
  DERIVED. THE GIVEN ROWS OF THIS SEAT. 5 by the template 'for every input the law returns true; each argument reads behind the call as it read before'; 0 by the template 'total and deterministic' (their statements: YtmafipngpbmgdaaTotals.lean).
  GIVEN WITH THE SEED: the statements are not yours to turn. If you find one false, say at which input.
  Laid BY PROGRAM, IN A SANDBOX (cutbox-rows.mjs): the forced cells as the released guide's own fill.sh prints them over the translation fa379633dceafd67… (all of the seat's roots in one cut). By AI agents, Wed Nov 11 2026. No macro, syntax, notation, axiom, sorry.
-/
import Derived.Test.YtmafipngpbmgdaaChecked
import GoSem.Claim
import GoSem.ClaimJoined
import GoSem.ClaimMapViews
import Derived.JoinedTies
import Derived.KernelRfl
namespace Go.Proofs.Ytmafipngpbmgdaa
/- THE CELL 'sum', in the pinned program and in every row, IS THE sha256 OF THE DUMP (.gsa) THAT YtmafipngpbmgdaaProg.lean LOADS. Nothing in Lean hashes anything: it is a label: what it is worth is what the hold of that sum in a sandbox is worth. -/
noncomputable def Try.pinned : Pinned := { name := "ytmafipngpbmgdaa", sum := "fa379633dceafd679ed363986e0529ee6d3fb4c9b4e1573ea6fb40a92271a9fe", checked := Try.checked }
namespace Rows
def none {H : Type} : Left H := { results := [], args := [] }

/-- 'laws.FnSigValid': WHATEVER THE INPUT: true; the input reads as it did. -/
def fnSigValidSpec : ChangeSpec := { name := "fnSigValid", fn := fun _ => fun
  | [d] => { results := [.lit (.bool true)], args := [d] }
  | _ => none }
def fnSigValidRow : OpenClaim := { program := "ytmafipngpbmgdaa", sum := "fa379633dceafd679ed363986e0529ee6d3fb4c9b4e1573ea6fb40a92271a9fe", func := "loop.example/theorymodules/laws.FnSigValid", spec := "fnSigValid", apart := false }
def FnSigValidSaid : Prop := fnSigValidRow.holds Try.pinned (OpenSpec.ofChange fnSigValidSpec)

/-- ITS FALSE NEIGHBOUR: 'it returns false'. Refute it at one input. -/
def fnSigValidWrong : ChangeSpec := { name := "fnSigValid", fn := fun _ => fun
  | [d] => { results := [.lit (.bool false)], args := [d] }
  | _ => none }
def FnSigValidWrongFalsely : Prop := fnSigValidRow.holds Try.pinned (OpenSpec.ofChange fnSigValidWrong)

/-- 'laws.FnOpTakes': WHATEVER THE INPUT: true; the input reads as it did. -/
def fnOpTakesSpec : ChangeSpec := { name := "fnOpTakes", fn := fun _ => fun
  | [d] => { results := [.lit (.bool true)], args := [d] }
  | _ => none }
def fnOpTakesRow : OpenClaim := { program := "ytmafipngpbmgdaa", sum := "fa379633dceafd679ed363986e0529ee6d3fb4c9b4e1573ea6fb40a92271a9fe", func := "loop.example/theorymodules/laws.FnOpTakes", spec := "fnOpTakes", apart := false }
def FnOpTakesSaid : Prop := fnOpTakesRow.holds Try.pinned (OpenSpec.ofChange fnOpTakesSpec)

/-- ITS FALSE NEIGHBOUR: 'it returns false'. Refute it at one input. -/
def fnOpTakesWrong : ChangeSpec := { name := "fnOpTakes", fn := fun _ => fun
  | [d] => { results := [.lit (.bool false)], args := [d] }
  | _ => none }
def FnOpTakesWrongFalsely : Prop := fnOpTakesRow.holds Try.pinned (OpenSpec.ofChange fnOpTakesWrong)

/-- 'laws.FnOpLeaves': WHATEVER THE INPUT: true; the input reads as it did. -/
def fnOpLeavesSpec : ChangeSpec := { name := "fnOpLeaves", fn := fun _ => fun
  | [d] => { results := [.lit (.bool true)], args := [d] }
  | _ => none }
def fnOpLeavesRow : OpenClaim := { program := "ytmafipngpbmgdaa", sum := "fa379633dceafd679ed363986e0529ee6d3fb4c9b4e1573ea6fb40a92271a9fe", func := "loop.example/theorymodules/laws.FnOpLeaves", spec := "fnOpLeaves", apart := false }
def FnOpLeavesSaid : Prop := fnOpLeavesRow.holds Try.pinned (OpenSpec.ofChange fnOpLeavesSpec)

/-- ITS FALSE NEIGHBOUR: 'it returns false'. Refute it at one input. -/
def fnOpLeavesWrong : ChangeSpec := { name := "fnOpLeaves", fn := fun _ => fun
  | [d] => { results := [.lit (.bool false)], args := [d] }
  | _ => none }
def FnOpLeavesWrongFalsely : Prop := fnOpLeavesRow.holds Try.pinned (OpenSpec.ofChange fnOpLeavesWrong)

/-- 'laws.FnSigSum': WHATEVER THE INPUT: true; the input reads as it did. -/
def fnSigSumSpec : ChangeSpec := { name := "fnSigSum", fn := fun _ => fun
  | [d] => { results := [.lit (.bool true)], args := [d] }
  | _ => none }
def fnSigSumRow : OpenClaim := { program := "ytmafipngpbmgdaa", sum := "fa379633dceafd679ed363986e0529ee6d3fb4c9b4e1573ea6fb40a92271a9fe", func := "loop.example/theorymodules/laws.FnSigSum", spec := "fnSigSum", apart := false }
def FnSigSumSaid : Prop := fnSigSumRow.holds Try.pinned (OpenSpec.ofChange fnSigSumSpec)

/-- ITS FALSE NEIGHBOUR: 'it returns false'. Refute it at one input. -/
def fnSigSumWrong : ChangeSpec := { name := "fnSigSum", fn := fun _ => fun
  | [d] => { results := [.lit (.bool false)], args := [d] }
  | _ => none }
def FnSigSumWrongFalsely : Prop := fnSigSumRow.holds Try.pinned (OpenSpec.ofChange fnSigSumWrong)

/-- 'laws.FnSigPart': WHATEVER THE INPUT: true; the input reads as it did. -/
def fnSigPartSpec : ChangeSpec := { name := "fnSigPart", fn := fun _ => fun
  | [d] => { results := [.lit (.bool true)], args := [d] }
  | _ => none }
def fnSigPartRow : OpenClaim := { program := "ytmafipngpbmgdaa", sum := "fa379633dceafd679ed363986e0529ee6d3fb4c9b4e1573ea6fb40a92271a9fe", func := "loop.example/theorymodules/laws.FnSigPart", spec := "fnSigPart", apart := false }
def FnSigPartSaid : Prop := fnSigPartRow.holds Try.pinned (OpenSpec.ofChange fnSigPartSpec)

/-- ITS FALSE NEIGHBOUR: 'it returns false'. Refute it at one input. -/
def fnSigPartWrong : ChangeSpec := { name := "fnSigPart", fn := fun _ => fun
  | [d] => { results := [.lit (.bool false)], args := [d] }
  | _ => none }
def FnSigPartWrongFalsely : Prop := fnSigPartRow.holds Try.pinned (OpenSpec.ofChange fnSigPartWrong)

/- THE SECOND FORM. 'bulk': how many values and letters a reading holds, each counted each time it is reached (what is shared counts as often as it is met; a slice's spare places count too). A statement '..UptoSaid' is the law's where the arguments, and the package variables that the reading takes, are together of bulk at most 1048576: NARROWER than '..Said'. Prove '..Said' where nothing that the law and all that it calls make is longer than what came in: it says more and counts as full. Else prove '..UptoSaid'. A law counts once. -/
mutual
def uptoBulk {H : Type} : DataW H → Nat
  | .lit (.string bytes) => bytes.length + 1
  | .lit _ => 1
  | .nil => 1
  | .ptr d => uptoBulk d + 1
  | .slice elems spare => uptoBulkAll elems + uptoBulkAll spare + 1
  | .agg parts => uptoBulkAll parts + 1
  | .iface _ d => uptoBulk d + 1
  | .map entries => uptoBulkEntries entries + 1
  | .held _ => 1
def uptoBulkAll {H : Type} : List (DataW H) → Nat
  | [] => 0
  | d :: r => uptoBulk d + uptoBulkAll r
def uptoBulkEntries {H : Type} : List (Lit × DataW H) → Nat
  | [] => 0
  | x :: r => uptoBulkEntry x + uptoBulkEntries r
def uptoBulkEntry {H : Type} : Lit × DataW H → Nat
  | (.string bytes, d) => bytes.length + uptoBulk d + 1
  | (_, d) => uptoBulk d + 1
 end
def uptoSmall : (H : Type) → List (DataW H) → Bool := fun _ ds => decide (uptoBulkAll ds ≤ 1048576)
def OpenSpec.upto (s : _root_.Go.ChangeSpec) : _root_.Go.OpenSpec := { _root_.Go.OpenSpec.ofChange s with cond := some uptoSmall }

/-- 'laws.FnSigValid', WHERE WHAT IT READS IS OF BULK AT MOST 1048576: true; the input reads as it did. -/
def fnSigValidUptoRow : OpenClaim := { program := "ytmafipngpbmgdaa", sum := "fa379633dceafd679ed363986e0529ee6d3fb4c9b4e1573ea6fb40a92271a9fe", func := "loop.example/theorymodules/laws.FnSigValid", spec := "fnSigValid", apart := false, narrowed := true }
def FnSigValidUptoSaid : Prop := fnSigValidUptoRow.holds Try.pinned (OpenSpec.upto fnSigValidSpec)

/-- 'laws.FnOpTakes', WHERE WHAT IT READS IS OF BULK AT MOST 1048576: true; the input reads as it did. -/
def fnOpTakesUptoRow : OpenClaim := { program := "ytmafipngpbmgdaa", sum := "fa379633dceafd679ed363986e0529ee6d3fb4c9b4e1573ea6fb40a92271a9fe", func := "loop.example/theorymodules/laws.FnOpTakes", spec := "fnOpTakes", apart := false, narrowed := true }
def FnOpTakesUptoSaid : Prop := fnOpTakesUptoRow.holds Try.pinned (OpenSpec.upto fnOpTakesSpec)

/-- 'laws.FnOpLeaves', WHERE WHAT IT READS IS OF BULK AT MOST 1048576: true; the input reads as it did. -/
def fnOpLeavesUptoRow : OpenClaim := { program := "ytmafipngpbmgdaa", sum := "fa379633dceafd679ed363986e0529ee6d3fb4c9b4e1573ea6fb40a92271a9fe", func := "loop.example/theorymodules/laws.FnOpLeaves", spec := "fnOpLeaves", apart := false, narrowed := true }
def FnOpLeavesUptoSaid : Prop := fnOpLeavesUptoRow.holds Try.pinned (OpenSpec.upto fnOpLeavesSpec)

/-- 'laws.FnSigSum', WHERE WHAT IT READS IS OF BULK AT MOST 1048576: true; the input reads as it did. -/
def fnSigSumUptoRow : OpenClaim := { program := "ytmafipngpbmgdaa", sum := "fa379633dceafd679ed363986e0529ee6d3fb4c9b4e1573ea6fb40a92271a9fe", func := "loop.example/theorymodules/laws.FnSigSum", spec := "fnSigSum", apart := false, narrowed := true }
def FnSigSumUptoSaid : Prop := fnSigSumUptoRow.holds Try.pinned (OpenSpec.upto fnSigSumSpec)

/-- 'laws.FnSigPart', WHERE WHAT IT READS IS OF BULK AT MOST 1048576: true; the input reads as it did. -/
def fnSigPartUptoRow : OpenClaim := { program := "ytmafipngpbmgdaa", sum := "fa379633dceafd679ed363986e0529ee6d3fb4c9b4e1573ea6fb40a92271a9fe", func := "loop.example/theorymodules/laws.FnSigPart", spec := "fnSigPart", apart := false, narrowed := true }
def FnSigPartUptoSaid : Prop := fnSigPartUptoRow.holds Try.pinned (OpenSpec.upto fnSigPartSpec)

end Rows
end Go.Proofs.Ytmafipngpbmgdaa
