/-
  No cell of these rows narrows 'for every input' (looked for: loops, veiled, ifaces, maps, wideKeys, modest, calm, conditions, laid).
  DERIVED. THE GIVEN ROWS OF THIS SEAT. 5 by the template 'for every input the law returns true; each argument reads behind the call as it read before'; 0 by the template 'total and deterministic' (their statements: YtonainidjkcoeacTotals.lean).
  GIVEN WITH THE SEED: the statements are not yours to turn. If you find one false, say at which input.
  Laid BY PROGRAM, IN A SANDBOX (cutbox-rows.mjs): the forced cells as the released guide's own fill.sh prints them over the translation 09095e7c58885ee0… (all of the seat's roots in one cut). By AI agents, Wed Nov 11 2026. No macro, syntax, notation, axiom, sorry.
-/
import Derived.Test.YtonainidjkcoeacChecked
import GoSem.Claim
import GoSem.ClaimJoined
import GoSem.ClaimMapViews
import Derived.JoinedTies
import Derived.KernelRfl
namespace Go.Proofs.Ytonainidjkcoeac
/- THE CELL 'sum', in the pinned program and in every row, IS THE sha256 OF THE DUMP (.gsa) THAT YtonainidjkcoeacProg.lean LOADS. Nothing in Lean hashes anything: it is a label: what it is worth is what the hold of that sum in a sandbox is worth. -/
noncomputable def Try.pinned : Pinned := { name := "ytonainidjkcoeac", sum := "09095e7c58885ee0428a2f90d6f30d16958dbdb44cd3a72c26b0240d93102342", checked := Try.checked }
namespace Rows
def none {H : Type} : Left H := { results := [], args := [] }

/-- 'laws.FnExactProofBack': WHATEVER THE INPUT: true; the input reads as it did. -/
def fnExactProofBackSpec : ChangeSpec := { name := "fnExactProofBack", fn := fun _ => fun
  | [d] => { results := [.lit (.bool true)], args := [d] }
  | _ => none }
def fnExactProofBackRow : OpenClaim := { program := "ytonainidjkcoeac", sum := "09095e7c58885ee0428a2f90d6f30d16958dbdb44cd3a72c26b0240d93102342", func := "loop.example/theorymodules/laws.FnExactProofBack", spec := "fnExactProofBack", apart := false }
def FnExactProofBackSaid : Prop := fnExactProofBackRow.holds Try.pinned (OpenSpec.ofChange fnExactProofBackSpec)

/-- ITS FALSE NEIGHBOUR: 'it returns false'. Refute it at one input. -/
def fnExactProofBackWrong : ChangeSpec := { name := "fnExactProofBack", fn := fun _ => fun
  | [d] => { results := [.lit (.bool false)], args := [d] }
  | _ => none }
def FnExactProofBackWrongFalsely : Prop := fnExactProofBackRow.holds Try.pinned (OpenSpec.ofChange fnExactProofBackWrong)

/-- 'laws.FnExactProofPut': WHATEVER THE INPUT: true; the input reads as it did. -/
def fnExactProofPutSpec : ChangeSpec := { name := "fnExactProofPut", fn := fun _ => fun
  | [d1, d2, d3, d4, d5] => { results := [.lit (.bool true)], args := [d1, d2, d3, d4, d5] }
  | _ => none }
def fnExactProofPutRow : OpenClaim := { program := "ytonainidjkcoeac", sum := "09095e7c58885ee0428a2f90d6f30d16958dbdb44cd3a72c26b0240d93102342", func := "loop.example/theorymodules/laws.FnExactProofPut", spec := "fnExactProofPut", unfollowed := true, recurses := true, apart := false }
def FnExactProofPutSaid : Prop := fnExactProofPutRow.holds Try.pinned (OpenSpec.ofChange fnExactProofPutSpec)

/-- ITS FALSE NEIGHBOUR: 'it returns false'. Refute it at one input. -/
def fnExactProofPutWrong : ChangeSpec := { name := "fnExactProofPut", fn := fun _ => fun
  | [d1, d2, d3, d4, d5] => { results := [.lit (.bool false)], args := [d1, d2, d3, d4, d5] }
  | _ => none }
def FnExactProofPutWrongFalsely : Prop := fnExactProofPutRow.holds Try.pinned (OpenSpec.ofChange fnExactProofPutWrong)

/-- 'laws.FnExactProofUnder': WHATEVER THE INPUT: true; the input reads as it did. -/
def fnExactProofUnderSpec : ChangeSpec := { name := "fnExactProofUnder", fn := fun _ => fun
  | [d1, d2, d3, d4, d5] => { results := [.lit (.bool true)], args := [d1, d2, d3, d4, d5] }
  | _ => none }
def fnExactProofUnderRow : OpenClaim := { program := "ytonainidjkcoeac", sum := "09095e7c58885ee0428a2f90d6f30d16958dbdb44cd3a72c26b0240d93102342", func := "loop.example/theorymodules/laws.FnExactProofUnder", spec := "fnExactProofUnder", unfollowed := true, recurses := true, apart := false }
def FnExactProofUnderSaid : Prop := fnExactProofUnderRow.holds Try.pinned (OpenSpec.ofChange fnExactProofUnderSpec)

/-- ITS FALSE NEIGHBOUR: 'it returns false'. Refute it at one input. -/
def fnExactProofUnderWrong : ChangeSpec := { name := "fnExactProofUnder", fn := fun _ => fun
  | [d1, d2, d3, d4, d5] => { results := [.lit (.bool false)], args := [d1, d2, d3, d4, d5] }
  | _ => none }
def FnExactProofUnderWrongFalsely : Prop := fnExactProofUnderRow.holds Try.pinned (OpenSpec.ofChange fnExactProofUnderWrong)

/-- 'laws.FnExactMapsOf': WHATEVER THE INPUT: true; the input reads as it did. -/
def fnExactMapsOfSpec : ChangeSpec := { name := "fnExactMapsOf", fn := fun _ => fun
  | [d1, d2] => { results := [.lit (.bool true)], args := [d1, d2] }
  | _ => none }
def fnExactMapsOfRow : OpenClaim := { program := "ytonainidjkcoeac", sum := "09095e7c58885ee0428a2f90d6f30d16958dbdb44cd3a72c26b0240d93102342", func := "loop.example/theorymodules/laws.FnExactMapsOf", spec := "fnExactMapsOf", apart := false }
def FnExactMapsOfSaid : Prop := fnExactMapsOfRow.holds Try.pinned (OpenSpec.ofChange fnExactMapsOfSpec)

/-- ITS FALSE NEIGHBOUR: 'it returns false'. Refute it at one input. -/
def fnExactMapsOfWrong : ChangeSpec := { name := "fnExactMapsOf", fn := fun _ => fun
  | [d1, d2] => { results := [.lit (.bool false)], args := [d1, d2] }
  | _ => none }
def FnExactMapsOfWrongFalsely : Prop := fnExactMapsOfRow.holds Try.pinned (OpenSpec.ofChange fnExactMapsOfWrong)

/-- 'laws.FnEqOk': WHATEVER THE INPUT: true; the input reads as it did. -/
def fnEqOkSpec : ChangeSpec := { name := "fnEqOk", fn := fun _ => fun
  | [d] => { results := [.lit (.bool true)], args := [d] }
  | _ => none }
def fnEqOkRow : OpenClaim := { program := "ytonainidjkcoeac", sum := "09095e7c58885ee0428a2f90d6f30d16958dbdb44cd3a72c26b0240d93102342", func := "loop.example/theorymodules/laws.FnEqOk", spec := "fnEqOk", unfollowed := true, recurses := true, apart := false }
def FnEqOkSaid : Prop := fnEqOkRow.holds Try.pinned (OpenSpec.ofChange fnEqOkSpec)

/-- ITS FALSE NEIGHBOUR: 'it returns false'. Refute it at one input. -/
def fnEqOkWrong : ChangeSpec := { name := "fnEqOk", fn := fun _ => fun
  | [d] => { results := [.lit (.bool false)], args := [d] }
  | _ => none }
def FnEqOkWrongFalsely : Prop := fnEqOkRow.holds Try.pinned (OpenSpec.ofChange fnEqOkWrong)

/- THE SECOND FORM. 'bulk': how many values and letters a reading holds, each counted each time it is reached (what is shared counts as often as it is met; a slice's spare places count too). A statement '..UptoSaid' is the law's where the arguments, and the package variables that the reading takes, are together of bulk at most 1048576: NARROWER than '..Said'. Prove '..Said' where nothing that the law and all that it calls make is longer than what came in: it says more and counts as full. Else prove '..UptoSaid'. A law counts once. -/
mutual
def uptoBulk {H : Type} : DataW H → Nat
  | .lit (.string bytes) => bytes.length + 1
  | .lit _ => 1
  | .nil => 1
  | .ptr d => uptoBulk d + 1
  | .slice elems spare => uptoBulkAll elems + uptoBulkAll spare + 1
  | .agg parts => uptoBulkAll parts + 1
  | .iface _ d => uptoBulk d + 1
  | .map entries => uptoBulkEntries entries + 1
  | .held _ => 1
def uptoBulkAll {H : Type} : List (DataW H) → Nat
  | [] => 0
  | d :: r => uptoBulk d + uptoBulkAll r
def uptoBulkEntries {H : Type} : List (Lit × DataW H) → Nat
  | [] => 0
  | x :: r => uptoBulkEntry x + uptoBulkEntries r
def uptoBulkEntry {H : Type} : Lit × DataW H → Nat
  | (.string bytes, d) => bytes.length + uptoBulk d + 1
  | (_, d) => uptoBulk d + 1
 end
def uptoSmall : (H : Type) → List (DataW H) → Bool := fun _ ds => decide (uptoBulkAll ds ≤ 1048576)
def OpenSpec.upto (s : _root_.Go.ChangeSpec) : _root_.Go.OpenSpec := { _root_.Go.OpenSpec.ofChange s with cond := some uptoSmall }

/-- 'laws.FnExactProofBack', WHERE WHAT IT READS IS OF BULK AT MOST 1048576: true; the input reads as it did. -/
def fnExactProofBackUptoRow : OpenClaim := { program := "ytonainidjkcoeac", sum := "09095e7c58885ee0428a2f90d6f30d16958dbdb44cd3a72c26b0240d93102342", func := "loop.example/theorymodules/laws.FnExactProofBack", spec := "fnExactProofBack", apart := false, narrowed := true }
def FnExactProofBackUptoSaid : Prop := fnExactProofBackUptoRow.holds Try.pinned (OpenSpec.upto fnExactProofBackSpec)

/-- 'laws.FnExactProofPut', WHERE WHAT IT READS IS OF BULK AT MOST 1048576: true; the input reads as it did. -/
def fnExactProofPutUptoRow : OpenClaim := { program := "ytonainidjkcoeac", sum := "09095e7c58885ee0428a2f90d6f30d16958dbdb44cd3a72c26b0240d93102342", func := "loop.example/theorymodules/laws.FnExactProofPut", spec := "fnExactProofPut", unfollowed := true, recurses := true, apart := false, narrowed := true }
def FnExactProofPutUptoSaid : Prop := fnExactProofPutUptoRow.holds Try.pinned (OpenSpec.upto fnExactProofPutSpec)

/-- 'laws.FnExactProofUnder', WHERE WHAT IT READS IS OF BULK AT MOST 1048576: true; the input reads as it did. -/
def fnExactProofUnderUptoRow : OpenClaim := { program := "ytonainidjkcoeac", sum := "09095e7c58885ee0428a2f90d6f30d16958dbdb44cd3a72c26b0240d93102342", func := "loop.example/theorymodules/laws.FnExactProofUnder", spec := "fnExactProofUnder", unfollowed := true, recurses := true, apart := false, narrowed := true }
def FnExactProofUnderUptoSaid : Prop := fnExactProofUnderUptoRow.holds Try.pinned (OpenSpec.upto fnExactProofUnderSpec)

/-- 'laws.FnExactMapsOf', WHERE WHAT IT READS IS OF BULK AT MOST 1048576: true; the input reads as it did. -/
def fnExactMapsOfUptoRow : OpenClaim := { program := "ytonainidjkcoeac", sum := "09095e7c58885ee0428a2f90d6f30d16958dbdb44cd3a72c26b0240d93102342", func := "loop.example/theorymodules/laws.FnExactMapsOf", spec := "fnExactMapsOf", apart := false, narrowed := true }
def FnExactMapsOfUptoSaid : Prop := fnExactMapsOfUptoRow.holds Try.pinned (OpenSpec.upto fnExactMapsOfSpec)

/-- 'laws.FnEqOk', WHERE WHAT IT READS IS OF BULK AT MOST 1048576: true; the input reads as it did. -/
def fnEqOkUptoRow : OpenClaim := { program := "ytonainidjkcoeac", sum := "09095e7c58885ee0428a2f90d6f30d16958dbdb44cd3a72c26b0240d93102342", func := "loop.example/theorymodules/laws.FnEqOk", spec := "fnEqOk", unfollowed := true, recurses := true, apart := false, narrowed := true }
def FnEqOkUptoSaid : Prop := fnEqOkUptoRow.holds Try.pinned (OpenSpec.upto fnEqOkSpec)

end Rows
end Go.Proofs.Ytonainidjkcoeac
