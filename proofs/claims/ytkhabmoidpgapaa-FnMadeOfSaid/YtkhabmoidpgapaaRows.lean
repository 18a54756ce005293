/-
  No cell of these rows narrows 'for every input' (looked for: loops, veiled, ifaces, maps, wideKeys, modest, calm, conditions, laid).
  DERIVED. THE GIVEN ROWS OF THIS SEAT. 6 by the template 'for every input the law returns true; each argument reads behind the call as it read before'; 0 by the template 'total and deterministic' (their statements: YtkhabmoidpgapaaTotals.lean).
  GIVEN WITH THE SEED: the statements are not yours to turn. If you find one false, say at which input.
  Laid BY PROGRAM, IN A SANDBOX (cutbox-rows.mjs): the forced cells as the released guide's own fill.sh prints them over the translation e1564dfc6ddd48a2… (all of the seat's roots in one cut). By AI agents, Wed Nov 11 2026. No macro, syntax, notation, axiom, sorry.
-/
import Derived.Test.YtkhabmoidpgapaaChecked
import GoSem.Claim
import GoSem.ClaimJoined
import GoSem.ClaimMapViews
import Derived.JoinedTies
import Derived.KernelRfl
namespace Go.Proofs.Ytkhabmoidpgapaa
/- THE CELL 'sum', in the pinned program and in every row, IS THE sha256 OF THE DUMP (.gsa) THAT YtkhabmoidpgapaaProg.lean LOADS. Nothing in Lean hashes anything: it is a label: what it is worth is what the hold of that sum in a sandbox is worth. -/
noncomputable def Try.pinned : Pinned := { name := "ytkhabmoidpgapaa", sum := "e1564dfc6ddd48a236cce77fef1a8a95cf6b2fa8d3cb24b8219bc373fff2bd14", checked := Try.checked }
namespace Rows
def none {H : Type} : Left H := { results := [], args := [] }

/-- 'laws.FnModelOk': WHATEVER THE INPUT: true; the input reads as it did. -/
def fnModelOkSpec : ChangeSpec := { name := "fnModelOk", fn := fun _ => fun
  | [d] => { results := [.lit (.bool true)], args := [d] }
  | _ => none }
def fnModelOkRow : OpenClaim := { program := "ytkhabmoidpgapaa", sum := "e1564dfc6ddd48a236cce77fef1a8a95cf6b2fa8d3cb24b8219bc373fff2bd14", func := "loop.example/theorymodules/laws.FnModelOk", spec := "fnModelOk", apart := false }
def FnModelOkSaid : Prop := fnModelOkRow.holds Try.pinned (OpenSpec.ofChange fnModelOkSpec)

/-- ITS FALSE NEIGHBOUR: 'it returns false'. Refute it at one input. -/
def fnModelOkWrong : ChangeSpec := { name := "fnModelOk", fn := fun _ => fun
  | [d] => { results := [.lit (.bool false)], args := [d] }
  | _ => none }
def FnModelOkWrongFalsely : Prop := fnModelOkRow.holds Try.pinned (OpenSpec.ofChange fnModelOkWrong)

/-- 'laws.FnValuesOk': WHATEVER THE INPUT: true; the input reads as it did. -/
def fnValuesOkSpec : ChangeSpec := { name := "fnValuesOk", fn := fun _ => fun
  | [d] => { results := [.lit (.bool true)], args := [d] }
  | _ => none }
def fnValuesOkRow : OpenClaim := { program := "ytkhabmoidpgapaa", sum := "e1564dfc6ddd48a236cce77fef1a8a95cf6b2fa8d3cb24b8219bc373fff2bd14", func := "loop.example/theorymodules/laws.FnValuesOk", spec := "fnValuesOk", recurses := true, apart := false }
def FnValuesOkSaid : Prop := fnValuesOkRow.holds Try.pinned (OpenSpec.ofChange fnValuesOkSpec)

/-- ITS FALSE NEIGHBOUR: 'it returns false'. Refute it at one input. -/
def fnValuesOkWrong : ChangeSpec := { name := "fnValuesOk", fn := fun _ => fun
  | [d] => { results := [.lit (.bool false)], args := [d] }
  | _ => none }
def FnValuesOkWrongFalsely : Prop := fnValuesOkRow.holds Try.pinned (OpenSpec.ofChange fnValuesOkWrong)

/-- 'laws.FnFailsAt': WHATEVER THE INPUT: true; the input reads as it did. -/
def fnFailsAtSpec : ChangeSpec := { name := "fnFailsAt", fn := fun _ => fun
  | [d] => { results := [.lit (.bool true)], args := [d] }
  | _ => none }
def fnFailsAtRow : OpenClaim := { program := "ytkhabmoidpgapaa", sum := "e1564dfc6ddd48a236cce77fef1a8a95cf6b2fa8d3cb24b8219bc373fff2bd14", func := "loop.example/theorymodules/laws.FnFailsAt", spec := "fnFailsAt", unfollowed := true, recurses := true, apart := false }
def FnFailsAtSaid : Prop := fnFailsAtRow.holds Try.pinned (OpenSpec.ofChange fnFailsAtSpec)

/-- ITS FALSE NEIGHBOUR: 'it returns false'. Refute it at one input. -/
def fnFailsAtWrong : ChangeSpec := { name := "fnFailsAt", fn := fun _ => fun
  | [d] => { results := [.lit (.bool false)], args := [d] }
  | _ => none }
def FnFailsAtWrongFalsely : Prop := fnFailsAtRow.holds Try.pinned (OpenSpec.ofChange fnFailsAtWrong)

/-- 'laws.FnHolds': WHATEVER THE INPUT: true; the input reads as it did. -/
def fnHoldsSpec : ChangeSpec := { name := "fnHolds", fn := fun _ => fun
  | [d] => { results := [.lit (.bool true)], args := [d] }
  | _ => none }
def fnHoldsRow : OpenClaim := { program := "ytkhabmoidpgapaa", sum := "e1564dfc6ddd48a236cce77fef1a8a95cf6b2fa8d3cb24b8219bc373fff2bd14", func := "loop.example/theorymodules/laws.FnHolds", spec := "fnHolds", unfollowed := true, recurses := true, apart := false }
def FnHoldsSaid : Prop := fnHoldsRow.holds Try.pinned (OpenSpec.ofChange fnHoldsSpec)

/-- ITS FALSE NEIGHBOUR: 'it returns false'. Refute it at one input. -/
def fnHoldsWrong : ChangeSpec := { name := "fnHolds", fn := fun _ => fun
  | [d] => { results := [.lit (.bool false)], args := [d] }
  | _ => none }
def FnHoldsWrongFalsely : Prop := fnHoldsRow.holds Try.pinned (OpenSpec.ofChange fnHoldsWrong)

/-- 'laws.FnMadeOf': WHATEVER THE INPUT: true; the input reads as it did. -/
def fnMadeOfSpec : ChangeSpec := { name := "fnMadeOf", fn := fun _ => fun
  | [d] => { results := [.lit (.bool true)], args := [d] }
  | _ => none }
def fnMadeOfRow : OpenClaim := { program := "ytkhabmoidpgapaa", sum := "e1564dfc6ddd48a236cce77fef1a8a95cf6b2fa8d3cb24b8219bc373fff2bd14", func := "loop.example/theorymodules/laws.FnMadeOf", spec := "fnMadeOf", unfollowed := true, recurses := true, apart := false }
def FnMadeOfSaid : Prop := fnMadeOfRow.holds Try.pinned (OpenSpec.ofChange fnMadeOfSpec)

/-- ITS FALSE NEIGHBOUR: 'it returns false'. Refute it at one input. -/
def fnMadeOfWrong : ChangeSpec := { name := "fnMadeOf", fn := fun _ => fun
  | [d] => { results := [.lit (.bool false)], args := [d] }
  | _ => none }
def FnMadeOfWrongFalsely : Prop := fnMadeOfRow.holds Try.pinned (OpenSpec.ofChange fnMadeOfWrong)

/-- 'laws.FnExactSameMade': WHATEVER THE INPUT: true; the input reads as it did. -/
def fnExactSameMadeSpec : ChangeSpec := { name := "fnExactSameMade", fn := fun _ => fun
  | [d1, d2, d3, d4, d5] => { results := [.lit (.bool true)], args := [d1, d2, d3, d4, d5] }
  | _ => none }
def fnExactSameMadeRow : OpenClaim := { program := "ytkhabmoidpgapaa", sum := "e1564dfc6ddd48a236cce77fef1a8a95cf6b2fa8d3cb24b8219bc373fff2bd14", func := "loop.example/theorymodules/laws.FnExactSameMade", spec := "fnExactSameMade", unfollowed := true, recurses := true, apart := false }
def FnExactSameMadeSaid : Prop := fnExactSameMadeRow.holds Try.pinned (OpenSpec.ofChange fnExactSameMadeSpec)

/-- ITS FALSE NEIGHBOUR: 'it returns false'. Refute it at one input. -/
def fnExactSameMadeWrong : ChangeSpec := { name := "fnExactSameMade", fn := fun _ => fun
  | [d1, d2, d3, d4, d5] => { results := [.lit (.bool false)], args := [d1, d2, d3, d4, d5] }
  | _ => none }
def FnExactSameMadeWrongFalsely : Prop := fnExactSameMadeRow.holds Try.pinned (OpenSpec.ofChange fnExactSameMadeWrong)

/- THE SECOND FORM. 'bulk': how many values and letters a reading holds, each counted each time it is reached (what is shared counts as often as it is met; a slice's spare places count too). A statement '..UptoSaid' is the law's where the arguments, and the package variables that the reading takes, are together of bulk at most 1048576: NARROWER than '..Said'. Prove '..Said' where nothing that the law and all that it calls make is longer than what came in: it says more and counts as full. Else prove '..UptoSaid'. A law counts once. -/
mutual
def uptoBulk {H : Type} : DataW H → Nat
  | .lit (.string bytes) => bytes.length + 1
  | .lit _ => 1
  | .nil => 1
  | .ptr d => uptoBulk d + 1
  | .slice elems spare => uptoBulkAll elems + uptoBulkAll spare + 1
  | .agg parts => uptoBulkAll parts + 1
  | .iface _ d => uptoBulk d + 1
  | .map entries => uptoBulkEntries entries + 1
  | .held _ => 1
def uptoBulkAll {H : Type} : List (DataW H) → Nat
  | [] => 0
  | d :: r => uptoBulk d + uptoBulkAll r
def uptoBulkEntries {H : Type} : List (Lit × DataW H) → Nat
  | [] => 0
  | x :: r => uptoBulkEntry x + uptoBulkEntries r
def uptoBulkEntry {H : Type} : Lit × DataW H → Nat
  | (.string bytes, d) => bytes.length + uptoBulk d + 1
  | (_, d) => uptoBulk d + 1
 end
def uptoSmall : (H : Type) → List (DataW H) → Bool := fun _ ds => decide (uptoBulkAll ds ≤ 1048576)
def OpenSpec.upto (s : _root_.Go.ChangeSpec) : _root_.Go.OpenSpec := { _root_.Go.OpenSpec.ofChange s with cond := some uptoSmall }

/-- 'laws.FnModelOk', WHERE WHAT IT READS IS OF BULK AT MOST 1048576: true; the input reads as it did. -/
def fnModelOkUptoRow : OpenClaim := { program := "ytkhabmoidpgapaa", sum := "e1564dfc6ddd48a236cce77fef1a8a95cf6b2fa8d3cb24b8219bc373fff2bd14", func := "loop.example/theorymodules/laws.FnModelOk", spec := "fnModelOk", apart := false, narrowed := true }
def FnModelOkUptoSaid : Prop := fnModelOkUptoRow.holds Try.pinned (OpenSpec.upto fnModelOkSpec)

/-- 'laws.FnValuesOk', WHERE WHAT IT READS IS OF BULK AT MOST 1048576: true; the input reads as it did. -/
def fnValuesOkUptoRow : OpenClaim := { program := "ytkhabmoidpgapaa", sum := "e1564dfc6ddd48a236cce77fef1a8a95cf6b2fa8d3cb24b8219bc373fff2bd14", func := "loop.example/theorymodules/laws.FnValuesOk", spec := "fnValuesOk", recurses := true, apart := false, narrowed := true }
def FnValuesOkUptoSaid : Prop := fnValuesOkUptoRow.holds Try.pinned (OpenSpec.upto fnValuesOkSpec)

/-- 'laws.FnFailsAt', WHERE WHAT IT READS IS OF BULK AT MOST 1048576: true; the input reads as it did. -/
def fnFailsAtUptoRow : OpenClaim := { program := "ytkhabmoidpgapaa", sum := "e1564dfc6ddd48a236cce77fef1a8a95cf6b2fa8d3cb24b8219bc373fff2bd14", func := "loop.example/theorymodules/laws.FnFailsAt", spec := "fnFailsAt", unfollowed := true, recurses := true, apart := false, narrowed := true }
def FnFailsAtUptoSaid : Prop := fnFailsAtUptoRow.holds Try.pinned (OpenSpec.upto fnFailsAtSpec)

/-- 'laws.FnHolds', WHERE WHAT IT READS IS OF BULK AT MOST 1048576: true; the input reads as it did. -/
def fnHoldsUptoRow : OpenClaim := { program := "ytkhabmoidpgapaa", sum := "e1564dfc6ddd48a236cce77fef1a8a95cf6b2fa8d3cb24b8219bc373fff2bd14", func := "loop.example/theorymodules/laws.FnHolds", spec := "fnHolds", unfollowed := true, recurses := true, apart := false, narrowed := true }
def FnHoldsUptoSaid : Prop := fnHoldsUptoRow.holds Try.pinned (OpenSpec.upto fnHoldsSpec)

/-- 'laws.FnMadeOf', WHERE WHAT IT READS IS OF BULK AT MOST 1048576: true; the input reads as it did. -/
def fnMadeOfUptoRow : OpenClaim := { program := "ytkhabmoidpgapaa", sum := "e1564dfc6ddd48a236cce77fef1a8a95cf6b2fa8d3cb24b8219bc373fff2bd14", func := "loop.example/theorymodules/laws.FnMadeOf", spec := "fnMadeOf", unfollowed := true, recurses := true, apart := false, narrowed := true }
def FnMadeOfUptoSaid : Prop := fnMadeOfUptoRow.holds Try.pinned (OpenSpec.upto fnMadeOfSpec)

/-- 'laws.FnExactSameMade', WHERE WHAT IT READS IS OF BULK AT MOST 1048576: true; the input reads as it did. -/
def fnExactSameMadeUptoRow : OpenClaim := { program := "ytkhabmoidpgapaa", sum := "e1564dfc6ddd48a236cce77fef1a8a95cf6b2fa8d3cb24b8219bc373fff2bd14", func := "loop.example/theorymodules/laws.FnExactSameMade", spec := "fnExactSameMade", unfollowed := true, recurses := true, apart := false, narrowed := true }
def FnExactSameMadeUptoSaid : Prop := fnExactSameMadeUptoRow.holds Try.pinned (OpenSpec.upto fnExactSameMadeSpec)

end Rows
end Go.Proofs.Ytkhabmoidpgapaa
