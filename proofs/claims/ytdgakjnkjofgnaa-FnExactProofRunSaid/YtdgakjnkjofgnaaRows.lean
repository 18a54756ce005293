/-
  No cell of these rows narrows 'for every input' (looked for: loops, veiled, ifaces, maps, wideKeys, modest, calm, conditions, laid).
  DERIVED. THE GIVEN ROWS OF THIS SEAT. 6 by the template 'for every input the law returns true; each argument reads behind the call as it read before'; 0 by the template 'total and deterministic' (their statements: YtdgakjnkjofgnaaTotals.lean).
  GIVEN WITH THE SEED: the statements are not yours to turn. If you find one false, say at which input.
  Laid BY PROGRAM, IN A SANDBOX (cutbox-rows.mjs): the forced cells as the released guide's own fill.sh prints them over the translation c4d7f3211bf3e77e… (all of the seat's roots in one cut). By AI agents, Wed Nov 11 2026. No macro, syntax, notation, axiom, sorry.
-/
import Derived.Test.YtdgakjnkjofgnaaChecked
import GoSem.Claim
import GoSem.ClaimJoined
import GoSem.ClaimMapViews
import Derived.JoinedTies
import Derived.KernelRfl
namespace Go.Proofs.Ytdgakjnkjofgnaa
/- THE CELL 'sum', in the pinned program and in every row, IS THE sha256 OF THE DUMP (.gsa) THAT YtdgakjnkjofgnaaProg.lean LOADS. Nothing in Lean hashes anything: it is a label: what it is worth is what the hold of that sum in a sandbox is worth. -/
noncomputable def Try.pinned : Pinned := { name := "ytdgakjnkjofgnaa", sum := "c4d7f3211bf3e77ea2dfa66fbc29d6af5ce29ef4aaa50c9d78119a286c68ff5f", checked := Try.checked }
namespace Rows
def none {H : Type} : Left H := { results := [], args := [] }

/-- 'laws.FnExactEqOk': WHATEVER THE INPUT: true; the input reads as it did. -/
def fnExactEqOkSpec : ChangeSpec := { name := "fnExactEqOk", fn := fun _ => fun
  | [d1, d2] => { results := [.lit (.bool true)], args := [d1, d2] }
  | _ => none }
def fnExactEqOkRow : OpenClaim := { program := "ytdgakjnkjofgnaa", sum := "c4d7f3211bf3e77ea2dfa66fbc29d6af5ce29ef4aaa50c9d78119a286c68ff5f", func := "loop.example/theorymodules/laws.FnExactEqOk", spec := "fnExactEqOk", unfollowed := true, recurses := true, apart := false }
def FnExactEqOkSaid : Prop := fnExactEqOkRow.holds Try.pinned (OpenSpec.ofChange fnExactEqOkSpec)

/-- ITS FALSE NEIGHBOUR: 'it returns false'. Refute it at one input. -/
def fnExactEqOkWrong : ChangeSpec := { name := "fnExactEqOk", fn := fun _ => fun
  | [d1, d2] => { results := [.lit (.bool false)], args := [d1, d2] }
  | _ => none }
def FnExactEqOkWrongFalsely : Prop := fnExactEqOkRow.holds Try.pinned (OpenSpec.ofChange fnExactEqOkWrong)

/-- 'laws.FnExactTheoryOk': WHATEVER THE INPUT: true; the input reads as it did. -/
def fnExactTheoryOkSpec : ChangeSpec := { name := "fnExactTheoryOk", fn := fun _ => fun
  | [d] => { results := [.lit (.bool true)], args := [d] }
  | _ => none }
def fnExactTheoryOkRow : OpenClaim := { program := "ytdgakjnkjofgnaa", sum := "c4d7f3211bf3e77ea2dfa66fbc29d6af5ce29ef4aaa50c9d78119a286c68ff5f", func := "loop.example/theorymodules/laws.FnExactTheoryOk", spec := "fnExactTheoryOk", unfollowed := true, recurses := true, apart := false }
def FnExactTheoryOkSaid : Prop := fnExactTheoryOkRow.holds Try.pinned (OpenSpec.ofChange fnExactTheoryOkSpec)

/-- ITS FALSE NEIGHBOUR: 'it returns false'. Refute it at one input. -/
def fnExactTheoryOkWrong : ChangeSpec := { name := "fnExactTheoryOk", fn := fun _ => fun
  | [d] => { results := [.lit (.bool false)], args := [d] }
  | _ => none }
def FnExactTheoryOkWrongFalsely : Prop := fnExactTheoryOkRow.holds Try.pinned (OpenSpec.ofChange fnExactTheoryOkWrong)

/-- 'laws.FnExactStepDo': WHATEVER THE INPUT: true; the input reads as it did. -/
def fnExactStepDoSpec : ChangeSpec := { name := "fnExactStepDo", fn := fun _ => fun
  | [d1, d2, d3, d4] => { results := [.lit (.bool true)], args := [d1, d2, d3, d4] }
  | _ => none }
def fnExactStepDoRow : OpenClaim := { program := "ytdgakjnkjofgnaa", sum := "c4d7f3211bf3e77ea2dfa66fbc29d6af5ce29ef4aaa50c9d78119a286c68ff5f", func := "loop.example/theorymodules/laws.FnExactStepDo", spec := "fnExactStepDo", unfollowed := true, recurses := true, apart := false }
def FnExactStepDoSaid : Prop := fnExactStepDoRow.holds Try.pinned (OpenSpec.ofChange fnExactStepDoSpec)

/-- ITS FALSE NEIGHBOUR: 'it returns false'. Refute it at one input. -/
def fnExactStepDoWrong : ChangeSpec := { name := "fnExactStepDo", fn := fun _ => fun
  | [d1, d2, d3, d4] => { results := [.lit (.bool false)], args := [d1, d2, d3, d4] }
  | _ => none }
def FnExactStepDoWrongFalsely : Prop := fnExactStepDoRow.holds Try.pinned (OpenSpec.ofChange fnExactStepDoWrong)

/-- 'laws.FnExactProofRun': WHATEVER THE INPUT: true; the input reads as it did. -/
def fnExactProofRunSpec : ChangeSpec := { name := "fnExactProofRun", fn := fun _ => fun
  | [d1, d2, d3, d4] => { results := [.lit (.bool true)], args := [d1, d2, d3, d4] }
  | _ => none }
def fnExactProofRunRow : OpenClaim := { program := "ytdgakjnkjofgnaa", sum := "c4d7f3211bf3e77ea2dfa66fbc29d6af5ce29ef4aaa50c9d78119a286c68ff5f", func := "loop.example/theorymodules/laws.FnExactProofRun", spec := "fnExactProofRun", unfollowed := true, recurses := true, apart := false }
def FnExactProofRunSaid : Prop := fnExactProofRunRow.holds Try.pinned (OpenSpec.ofChange fnExactProofRunSpec)

/-- ITS FALSE NEIGHBOUR: 'it returns false'. Refute it at one input. -/
def fnExactProofRunWrong : ChangeSpec := { name := "fnExactProofRun", fn := fun _ => fun
  | [d1, d2, d3, d4] => { results := [.lit (.bool false)], args := [d1, d2, d3, d4] }
  | _ => none }
def FnExactProofRunWrongFalsely : Prop := fnExactProofRunRow.holds Try.pinned (OpenSpec.ofChange fnExactProofRunWrong)

/-- 'laws.FnExactProofOk': WHATEVER THE INPUT: true; the input reads as it did. -/
def fnExactProofOkSpec : ChangeSpec := { name := "fnExactProofOk", fn := fun _ => fun
  | [d1, d2, d3] => { results := [.lit (.bool true)], args := [d1, d2, d3] }
  | _ => none }
def fnExactProofOkRow : OpenClaim := { program := "ytdgakjnkjofgnaa", sum := "c4d7f3211bf3e77ea2dfa66fbc29d6af5ce29ef4aaa50c9d78119a286c68ff5f", func := "loop.example/theorymodules/laws.FnExactProofOk", spec := "fnExactProofOk", unfollowed := true, recurses := true, apart := false }
def FnExactProofOkSaid : Prop := fnExactProofOkRow.holds Try.pinned (OpenSpec.ofChange fnExactProofOkSpec)

/-- ITS FALSE NEIGHBOUR: 'it returns false'. Refute it at one input. -/
def fnExactProofOkWrong : ChangeSpec := { name := "fnExactProofOk", fn := fun _ => fun
  | [d1, d2, d3] => { results := [.lit (.bool false)], args := [d1, d2, d3] }
  | _ => none }
def FnExactProofOkWrongFalsely : Prop := fnExactProofOkRow.holds Try.pinned (OpenSpec.ofChange fnExactProofOkWrong)

/-- 'laws.FnExactProofBack': WHATEVER THE INPUT: true; the input reads as it did. -/
def fnExactProofBackSpec : ChangeSpec := { name := "fnExactProofBack", fn := fun _ => fun
  | [d] => { results := [.lit (.bool true)], args := [d] }
  | _ => none }
def fnExactProofBackRow : OpenClaim := { program := "ytdgakjnkjofgnaa", sum := "c4d7f3211bf3e77ea2dfa66fbc29d6af5ce29ef4aaa50c9d78119a286c68ff5f", func := "loop.example/theorymodules/laws.FnExactProofBack", spec := "fnExactProofBack", apart := false }
def FnExactProofBackSaid : Prop := fnExactProofBackRow.holds Try.pinned (OpenSpec.ofChange fnExactProofBackSpec)

/-- ITS FALSE NEIGHBOUR: 'it returns false'. Refute it at one input. -/
def fnExactProofBackWrong : ChangeSpec := { name := "fnExactProofBack", fn := fun _ => fun
  | [d] => { results := [.lit (.bool false)], args := [d] }
  | _ => none }
def FnExactProofBackWrongFalsely : Prop := fnExactProofBackRow.holds Try.pinned (OpenSpec.ofChange fnExactProofBackWrong)

/- THE SECOND FORM. 'bulk': how many values and letters a reading holds, each counted each time it is reached (what is shared counts as often as it is met; a slice's spare places count too). A statement '..UptoSaid' is the law's where the arguments, and the package variables that the reading takes, are together of bulk at most 1048576: NARROWER than '..Said'. Prove '..Said' where nothing that the law and all that it calls make is longer than what came in: it says more and counts as full. Else prove '..UptoSaid'. A law counts once. -/
mutual
def uptoBulk {H : Type} : DataW H → Nat
  | .lit (.string bytes) => bytes.length + 1
  | .lit _ => 1
  | .nil => 1
  | .ptr d => uptoBulk d + 1
  | .slice elems spare => uptoBulkAll elems + uptoBulkAll spare + 1
  | .agg parts => uptoBulkAll parts + 1
  | .iface _ d => uptoBulk d + 1
  | .map entries => uptoBulkEntries entries + 1
  | .held _ => 1
def uptoBulkAll {H : Type} : List (DataW H) → Nat
  | [] => 0
  | d :: r => uptoBulk d + uptoBulkAll r
def uptoBulkEntries {H : Type} : List (Lit × DataW H) → Nat
  | [] => 0
  | x :: r => uptoBulkEntry x + uptoBulkEntries r
def uptoBulkEntry {H : Type} : Lit × DataW H → Nat
  | (.string bytes, d) => bytes.length + uptoBulk d + 1
  | (_, d) => uptoBulk d + 1
 end
def uptoSmall : (H : Type) → List (DataW H) → Bool := fun _ ds => decide (uptoBulkAll ds ≤ 1048576)
def OpenSpec.upto (s : _root_.Go.ChangeSpec) : _root_.Go.OpenSpec := { _root_.Go.OpenSpec.ofChange s with cond := some uptoSmall }

/-- 'laws.FnExactEqOk', WHERE WHAT IT READS IS OF BULK AT MOST 1048576: true; the input reads as it did. -/
def fnExactEqOkUptoRow : OpenClaim := { program := "ytdgakjnkjofgnaa", sum := "c4d7f3211bf3e77ea2dfa66fbc29d6af5ce29ef4aaa50c9d78119a286c68ff5f", func := "loop.example/theorymodules/laws.FnExactEqOk", spec := "fnExactEqOk", unfollowed := true, recurses := true, apart := false, narrowed := true }
def FnExactEqOkUptoSaid : Prop := fnExactEqOkUptoRow.holds Try.pinned (OpenSpec.upto fnExactEqOkSpec)

/-- 'laws.FnExactTheoryOk', WHERE WHAT IT READS IS OF BULK AT MOST 1048576: true; the input reads as it did. -/
def fnExactTheoryOkUptoRow : OpenClaim := { program := "ytdgakjnkjofgnaa", sum := "c4d7f3211bf3e77ea2dfa66fbc29d6af5ce29ef4aaa50c9d78119a286c68ff5f", func := "loop.example/theorymodules/laws.FnExactTheoryOk", spec := "fnExactTheoryOk", unfollowed := true, recurses := true, apart := false, narrowed := true }
def FnExactTheoryOkUptoSaid : Prop := fnExactTheoryOkUptoRow.holds Try.pinned (OpenSpec.upto fnExactTheoryOkSpec)

/-- 'laws.FnExactStepDo', WHERE WHAT IT READS IS OF BULK AT MOST 1048576: true; the input reads as it did. -/
def fnExactStepDoUptoRow : OpenClaim := { program := "ytdgakjnkjofgnaa", sum := "c4d7f3211bf3e77ea2dfa66fbc29d6af5ce29ef4aaa50c9d78119a286c68ff5f", func := "loop.example/theorymodules/laws.FnExactStepDo", spec := "fnExactStepDo", unfollowed := true, recurses := true, apart := false, narrowed := true }
def FnExactStepDoUptoSaid : Prop := fnExactStepDoUptoRow.holds Try.pinned (OpenSpec.upto fnExactStepDoSpec)

/-- 'laws.FnExactProofRun', WHERE WHAT IT READS IS OF BULK AT MOST 1048576: true; the input reads as it did. -/
def fnExactProofRunUptoRow : OpenClaim := { program := "ytdgakjnkjofgnaa", sum := "c4d7f3211bf3e77ea2dfa66fbc29d6af5ce29ef4aaa50c9d78119a286c68ff5f", func := "loop.example/theorymodules/laws.FnExactProofRun", spec := "fnExactProofRun", unfollowed := true, recurses := true, apart := false, narrowed := true }
def FnExactProofRunUptoSaid : Prop := fnExactProofRunUptoRow.holds Try.pinned (OpenSpec.upto fnExactProofRunSpec)

/-- 'laws.FnExactProofOk', WHERE WHAT IT READS IS OF BULK AT MOST 1048576: true; the input reads as it did. -/
def fnExactProofOkUptoRow : OpenClaim := { program := "ytdgakjnkjofgnaa", sum := "c4d7f3211bf3e77ea2dfa66fbc29d6af5ce29ef4aaa50c9d78119a286c68ff5f", func := "loop.example/theorymodules/laws.FnExactProofOk", spec := "fnExactProofOk", unfollowed := true, recurses := true, apart := false, narrowed := true }
def FnExactProofOkUptoSaid : Prop := fnExactProofOkUptoRow.holds Try.pinned (OpenSpec.upto fnExactProofOkSpec)

/-- 'laws.FnExactProofBack', WHERE WHAT IT READS IS OF BULK AT MOST 1048576: true; the input reads as it did. -/
def fnExactProofBackUptoRow : OpenClaim := { program := "ytdgakjnkjofgnaa", sum := "c4d7f3211bf3e77ea2dfa66fbc29d6af5ce29ef4aaa50c9d78119a286c68ff5f", func := "loop.example/theorymodules/laws.FnExactProofBack", spec := "fnExactProofBack", apart := false, narrowed := true }
def FnExactProofBackUptoSaid : Prop := fnExactProofBackUptoRow.holds Try.pinned (OpenSpec.upto fnExactProofBackSpec)

end Rows
end Go.Proofs.Ytdgakjnkjofgnaa
