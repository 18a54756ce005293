/-
  No cell of these rows narrows 'for every input' (looked for: loops, veiled, ifaces, maps, wideKeys, modest, calm, conditions, laid).
  DERIVED. THE GIVEN ROWS OF THIS SEAT. 6 by the template 'for every input the law returns true; each argument reads behind the call as it read before'; 0 by the template 'total and deterministic' (their statements: YticldaddbljleaaTotals.lean).
  GIVEN WITH THE SEED: the statements are not yours to turn. If you find one false, say at which input.
  Laid BY PROGRAM, IN A SANDBOX (cutbox-rows.mjs): the forced cells as the released guide's own fill.sh prints them over the translation 69b0dc67db3315e9… (all of the seat's roots in one cut). By AI agents, Wed Nov 11 2026. No macro, syntax, notation, axiom, sorry.
-/
import Derived.Test.YticldaddbljleaaChecked
import GoSem.Claim
import GoSem.ClaimJoined
import GoSem.ClaimMapViews
import Derived.JoinedTies
import Derived.KernelRfl
namespace Go.Proofs.Yticldaddbljleaa
/- THE CELL 'sum', in the pinned program and in every row, IS THE sha256 OF THE DUMP (.gsa) THAT YticldaddbljleaaProg.lean LOADS. Nothing in Lean hashes anything: it is a label: what it is worth is what the hold of that sum in a sandbox is worth. -/
noncomputable def Try.pinned : Pinned := { name := "yticldaddbljleaa", sum := "69b0dc67db3315e99e81e19eb3f7e44e9be44586dfe3addaade6dcba86e7d208", checked := Try.checked }
namespace Rows
def none {H : Type} : Left H := { results := [], args := [] }

/-- 'laws.FnValueOf': WHATEVER THE INPUT: true; the input reads as it did. -/
def fnValueOfSpec : ChangeSpec := { name := "fnValueOf", fn := fun _ => fun
  | [d] => { results := [.lit (.bool true)], args := [d] }
  | _ => none }
def fnValueOfRow : OpenClaim := { program := "yticldaddbljleaa", sum := "69b0dc67db3315e99e81e19eb3f7e44e9be44586dfe3addaade6dcba86e7d208", func := "loop.example/theorymodules/laws.FnValueOf", spec := "fnValueOf", unfollowed := true, recurses := true, apart := false }
def FnValueOfSaid : Prop := fnValueOfRow.holds Try.pinned (OpenSpec.ofChange fnValueOfSpec)

/-- ITS FALSE NEIGHBOUR: 'it returns false'. Refute it at one input. -/
def fnValueOfWrong : ChangeSpec := { name := "fnValueOf", fn := fun _ => fun
  | [d] => { results := [.lit (.bool false)], args := [d] }
  | _ => none }
def FnValueOfWrongFalsely : Prop := fnValueOfRow.holds Try.pinned (OpenSpec.ofChange fnValueOfWrong)

/-- 'laws.FnMapEq': WHATEVER THE INPUT: true; the input reads as it did. -/
def fnMapEqSpec : ChangeSpec := { name := "fnMapEq", fn := fun _ => fun
  | [d1, d2] => { results := [.lit (.bool true)], args := [d1, d2] }
  | _ => none }
def fnMapEqRow : OpenClaim := { program := "yticldaddbljleaa", sum := "69b0dc67db3315e99e81e19eb3f7e44e9be44586dfe3addaade6dcba86e7d208", func := "loop.example/theorymodules/laws.FnMapEq", spec := "fnMapEq", unfollowed := true, recurses := true, apart := false }
def FnMapEqSaid : Prop := fnMapEqRow.holds Try.pinned (OpenSpec.ofChange fnMapEqSpec)

/-- ITS FALSE NEIGHBOUR: 'it returns false'. Refute it at one input. -/
def fnMapEqWrong : ChangeSpec := { name := "fnMapEq", fn := fun _ => fun
  | [d1, d2] => { results := [.lit (.bool false)], args := [d1, d2] }
  | _ => none }
def FnMapEqWrongFalsely : Prop := fnMapEqRow.holds Try.pinned (OpenSpec.ofChange fnMapEqWrong)

/-- 'laws.FnExactSameMade': WHATEVER THE INPUT: true; the input reads as it did. -/
def fnExactSameMadeSpec : ChangeSpec := { name := "fnExactSameMade", fn := fun _ => fun
  | [d1, d2, d3, d4, d5] => { results := [.lit (.bool true)], args := [d1, d2, d3, d4, d5] }
  | _ => none }
def fnExactSameMadeRow : OpenClaim := { program := "yticldaddbljleaa", sum := "69b0dc67db3315e99e81e19eb3f7e44e9be44586dfe3addaade6dcba86e7d208", func := "loop.example/theorymodules/laws.FnExactSameMade", spec := "fnExactSameMade", unfollowed := true, recurses := true, apart := false }
def FnExactSameMadeSaid : Prop := fnExactSameMadeRow.holds Try.pinned (OpenSpec.ofChange fnExactSameMadeSpec)

/-- ITS FALSE NEIGHBOUR: 'it returns false'. Refute it at one input. -/
def fnExactSameMadeWrong : ChangeSpec := { name := "fnExactSameMade", fn := fun _ => fun
  | [d1, d2, d3, d4, d5] => { results := [.lit (.bool false)], args := [d1, d2, d3, d4, d5] }
  | _ => none }
def FnExactSameMadeWrongFalsely : Prop := fnExactSameMadeRow.holds Try.pinned (OpenSpec.ofChange fnExactSameMadeWrong)

/-- 'laws.FnExactProofPut': WHATEVER THE INPUT: true; the input reads as it did. -/
def fnExactProofPutSpec : ChangeSpec := { name := "fnExactProofPut", fn := fun _ => fun
  | [d1, d2, d3, d4, d5] => { results := [.lit (.bool true)], args := [d1, d2, d3, d4, d5] }
  | _ => none }
def fnExactProofPutRow : OpenClaim := { program := "yticldaddbljleaa", sum := "69b0dc67db3315e99e81e19eb3f7e44e9be44586dfe3addaade6dcba86e7d208", func := "loop.example/theorymodules/laws.FnExactProofPut", spec := "fnExactProofPut", unfollowed := true, recurses := true, apart := false }
def FnExactProofPutSaid : Prop := fnExactProofPutRow.holds Try.pinned (OpenSpec.ofChange fnExactProofPutSpec)

/-- ITS FALSE NEIGHBOUR: 'it returns false'. Refute it at one input. -/
def fnExactProofPutWrong : ChangeSpec := { name := "fnExactProofPut", fn := fun _ => fun
  | [d1, d2, d3, d4, d5] => { results := [.lit (.bool false)], args := [d1, d2, d3, d4, d5] }
  | _ => none }
def FnExactProofPutWrongFalsely : Prop := fnExactProofPutRow.holds Try.pinned (OpenSpec.ofChange fnExactProofPutWrong)

/-- 'laws.FnExactMatchOf': WHATEVER THE INPUT: true; the input reads as it did. -/
def fnExactMatchOfSpec : ChangeSpec := { name := "fnExactMatchOf", fn := fun _ => fun
  | [d1, d2, d3, d4, d5] => { results := [.lit (.bool true)], args := [d1, d2, d3, d4, d5] }
  | _ => none }
def fnExactMatchOfRow : OpenClaim := { program := "yticldaddbljleaa", sum := "69b0dc67db3315e99e81e19eb3f7e44e9be44586dfe3addaade6dcba86e7d208", func := "loop.example/theorymodules/laws.FnExactMatchOf", spec := "fnExactMatchOf", unfollowed := true, recurses := true, apart := false }
def FnExactMatchOfSaid : Prop := fnExactMatchOfRow.holds Try.pinned (OpenSpec.ofChange fnExactMatchOfSpec)

/-- ITS FALSE NEIGHBOUR: 'it returns false'. Refute it at one input. -/
def fnExactMatchOfWrong : ChangeSpec := { name := "fnExactMatchOf", fn := fun _ => fun
  | [d1, d2, d3, d4, d5] => { results := [.lit (.bool false)], args := [d1, d2, d3, d4, d5] }
  | _ => none }
def FnExactMatchOfWrongFalsely : Prop := fnExactMatchOfRow.holds Try.pinned (OpenSpec.ofChange fnExactMatchOfWrong)

/-- 'laws.FnMatchOf': WHATEVER THE INPUT: true; the input reads as it did. -/
def fnMatchOfSpec : ChangeSpec := { name := "fnMatchOf", fn := fun _ => fun
  | [d] => { results := [.lit (.bool true)], args := [d] }
  | _ => none }
def fnMatchOfRow : OpenClaim := { program := "yticldaddbljleaa", sum := "69b0dc67db3315e99e81e19eb3f7e44e9be44586dfe3addaade6dcba86e7d208", func := "loop.example/theorymodules/laws.FnMatchOf", spec := "fnMatchOf", unfollowed := true, recurses := true, apart := false }
def FnMatchOfSaid : Prop := fnMatchOfRow.holds Try.pinned (OpenSpec.ofChange fnMatchOfSpec)

/-- ITS FALSE NEIGHBOUR: 'it returns false'. Refute it at one input. -/
def fnMatchOfWrong : ChangeSpec := { name := "fnMatchOf", fn := fun _ => fun
  | [d] => { results := [.lit (.bool false)], args := [d] }
  | _ => none }
def FnMatchOfWrongFalsely : Prop := fnMatchOfRow.holds Try.pinned (OpenSpec.ofChange fnMatchOfWrong)

/- THE SECOND FORM. 'bulk': how many values and letters a reading holds, each counted each time it is reached (what is shared counts as often as it is met; a slice's spare places count too). A statement '..UptoSaid' is the law's where the arguments, and the package variables that the reading takes, are together of bulk at most 1048576: NARROWER than '..Said'. Prove '..Said' where nothing that the law and all that it calls make is longer than what came in: it says more and counts as full. Else prove '..UptoSaid'. A law counts once. -/
mutual
def uptoBulk {H : Type} : DataW H → Nat
  | .lit (.string bytes) => bytes.length + 1
  | .lit _ => 1
  | .nil => 1
  | .ptr d => uptoBulk d + 1
  | .slice elems spare => uptoBulkAll elems + uptoBulkAll spare + 1
  | .agg parts => uptoBulkAll parts + 1
  | .iface _ d => uptoBulk d + 1
  | .map entries => uptoBulkEntries entries + 1
  | .held _ => 1
def uptoBulkAll {H : Type} : List (DataW H) → Nat
  | [] => 0
  | d :: r => uptoBulk d + uptoBulkAll r
def uptoBulkEntries {H : Type} : List (Lit × DataW H) → Nat
  | [] => 0
  | x :: r => uptoBulkEntry x + uptoBulkEntries r
def uptoBulkEntry {H : Type} : Lit × DataW H → Nat
  | (.string bytes, d) => bytes.length + uptoBulk d + 1
  | (_, d) => uptoBulk d + 1
 end
def uptoSmall : (H : Type) → List (DataW H) → Bool := fun _ ds => decide (uptoBulkAll ds ≤ 1048576)
def OpenSpec.upto (s : _root_.Go.ChangeSpec) : _root_.Go.OpenSpec := { _root_.Go.OpenSpec.ofChange s with cond := some uptoSmall }

/-- 'laws.FnValueOf', WHERE WHAT IT READS IS OF BULK AT MOST 1048576: true; the input reads as it did. -/
def fnValueOfUptoRow : OpenClaim := { program := "yticldaddbljleaa", sum := "69b0dc67db3315e99e81e19eb3f7e44e9be44586dfe3addaade6dcba86e7d208", func := "loop.example/theorymodules/laws.FnValueOf", spec := "fnValueOf", unfollowed := true, recurses := true, apart := false, narrowed := true }
def FnValueOfUptoSaid : Prop := fnValueOfUptoRow.holds Try.pinned (OpenSpec.upto fnValueOfSpec)

/-- 'laws.FnMapEq', WHERE WHAT IT READS IS OF BULK AT MOST 1048576: true; the input reads as it did. -/
def fnMapEqUptoRow : OpenClaim := { program := "yticldaddbljleaa", sum := "69b0dc67db3315e99e81e19eb3f7e44e9be44586dfe3addaade6dcba86e7d208", func := "loop.example/theorymodules/laws.FnMapEq", spec := "fnMapEq", unfollowed := true, recurses := true, apart := false, narrowed := true }
def FnMapEqUptoSaid : Prop := fnMapEqUptoRow.holds Try.pinned (OpenSpec.upto fnMapEqSpec)

/-- 'laws.FnExactSameMade', WHERE WHAT IT READS IS OF BULK AT MOST 1048576: true; the input reads as it did. -/
def fnExactSameMadeUptoRow : OpenClaim := { program := "yticldaddbljleaa", sum := "69b0dc67db3315e99e81e19eb3f7e44e9be44586dfe3addaade6dcba86e7d208", func := "loop.example/theorymodules/laws.FnExactSameMade", spec := "fnExactSameMade", unfollowed := true, recurses := true, apart := false, narrowed := true }
def FnExactSameMadeUptoSaid : Prop := fnExactSameMadeUptoRow.holds Try.pinned (OpenSpec.upto fnExactSameMadeSpec)

/-- 'laws.FnExactProofPut', WHERE WHAT IT READS IS OF BULK AT MOST 1048576: true; the input reads as it did. -/
def fnExactProofPutUptoRow : OpenClaim := { program := "yticldaddbljleaa", sum := "69b0dc67db3315e99e81e19eb3f7e44e9be44586dfe3addaade6dcba86e7d208", func := "loop.example/theorymodules/laws.FnExactProofPut", spec := "fnExactProofPut", unfollowed := true, recurses := true, apart := false, narrowed := true }
def FnExactProofPutUptoSaid : Prop := fnExactProofPutUptoRow.holds Try.pinned (OpenSpec.upto fnExactProofPutSpec)

/-- 'laws.FnExactMatchOf', WHERE WHAT IT READS IS OF BULK AT MOST 1048576: true; the input reads as it did. -/
def fnExactMatchOfUptoRow : OpenClaim := { program := "yticldaddbljleaa", sum := "69b0dc67db3315e99e81e19eb3f7e44e9be44586dfe3addaade6dcba86e7d208", func := "loop.example/theorymodules/laws.FnExactMatchOf", spec := "fnExactMatchOf", unfollowed := true, recurses := true, apart := false, narrowed := true }
def FnExactMatchOfUptoSaid : Prop := fnExactMatchOfUptoRow.holds Try.pinned (OpenSpec.upto fnExactMatchOfSpec)

/-- 'laws.FnMatchOf', WHERE WHAT IT READS IS OF BULK AT MOST 1048576: true; the input reads as it did. -/
def fnMatchOfUptoRow : OpenClaim := { program := "yticldaddbljleaa", sum := "69b0dc67db3315e99e81e19eb3f7e44e9be44586dfe3addaade6dcba86e7d208", func := "loop.example/theorymodules/laws.FnMatchOf", spec := "fnMatchOf", unfollowed := true, recurses := true, apart := false, narrowed := true }
def FnMatchOfUptoSaid : Prop := fnMatchOfUptoRow.holds Try.pinned (OpenSpec.upto fnMatchOfSpec)

end Rows
end Go.Proofs.Yticldaddbljleaa
