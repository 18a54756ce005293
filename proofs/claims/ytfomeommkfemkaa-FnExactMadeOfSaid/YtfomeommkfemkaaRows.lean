/-
  No cell of these rows narrows 'for every input' (looked for: loops, veiled, ifaces, maps, wideKeys, modest, calm, conditions, laid).
  DERIVED. THE GIVEN ROWS OF THIS SEAT. 6 by the template 'for every input the law returns true; each argument reads behind the call as it read before'; 0 by the template 'total and deterministic' (their statements: YtfomeommkfemkaaTotals.lean).
  GIVEN WITH THE SEED: the statements are not yours to turn. If you find one false, say at which input.
  Laid BY PROGRAM, IN A SANDBOX (cutbox-rows.mjs): the forced cells as the released guide's own fill.sh prints them over the translation 7d12b3df09bd613c… (all of the seat's roots in one cut). By AI agents, Wed Nov 11 2026. No macro, syntax, notation, axiom, sorry.
-/
import Derived.Test.YtfomeommkfemkaaChecked
import GoSem.Claim
import GoSem.ClaimJoined
import GoSem.ClaimMapViews
import Derived.JoinedTies
import Derived.KernelRfl
namespace Go.Proofs.Ytfomeommkfemkaa
/- THE CELL 'sum', in the pinned program and in every row, IS THE sha256 OF THE DUMP (.gsa) THAT YtfomeommkfemkaaProg.lean LOADS. Nothing in Lean hashes anything: it is a label: what it is worth is what the hold of that sum in a sandbox is worth. -/
noncomputable def Try.pinned : Pinned := { name := "ytfomeommkfemkaa", sum := "7d12b3df09bd613cfeb50c5ea018db6d81c1c4776c4fa33604ebd1c6cba2c335", checked := Try.checked }
namespace Rows
def none {H : Type} : Left H := { results := [], args := [] }

/-- 'laws.FnExactHomOk': WHATEVER THE INPUT: true; the input reads as it did. -/
def fnExactHomOkSpec : ChangeSpec := { name := "fnExactHomOk", fn := fun _ => fun
  | [d1, d2, d3, d4] => { results := [.lit (.bool true)], args := [d1, d2, d3, d4] }
  | _ => none }
def fnExactHomOkRow : OpenClaim := { program := "ytfomeommkfemkaa", sum := "7d12b3df09bd613cfeb50c5ea018db6d81c1c4776c4fa33604ebd1c6cba2c335", func := "loop.example/theorymodules/laws.FnExactHomOk", spec := "fnExactHomOk", unfollowed := true, recurses := true, apart := false }
def FnExactHomOkSaid : Prop := fnExactHomOkRow.holds Try.pinned (OpenSpec.ofChange fnExactHomOkSpec)

/-- ITS FALSE NEIGHBOUR: 'it returns false'. Refute it at one input. -/
def fnExactHomOkWrong : ChangeSpec := { name := "fnExactHomOk", fn := fun _ => fun
  | [d1, d2, d3, d4] => { results := [.lit (.bool false)], args := [d1, d2, d3, d4] }
  | _ => none }
def FnExactHomOkWrongFalsely : Prop := fnExactHomOkRow.holds Try.pinned (OpenSpec.ofChange fnExactHomOkWrong)

/-- 'laws.FnExactKernelOf': WHATEVER THE INPUT: true; the input reads as it did. -/
def fnExactKernelOfSpec : ChangeSpec := { name := "fnExactKernelOf", fn := fun _ => fun
  | [d1, d2, d3, d4] => { results := [.lit (.bool true)], args := [d1, d2, d3, d4] }
  | _ => none }
def fnExactKernelOfRow : OpenClaim := { program := "ytfomeommkfemkaa", sum := "7d12b3df09bd613cfeb50c5ea018db6d81c1c4776c4fa33604ebd1c6cba2c335", func := "loop.example/theorymodules/laws.FnExactKernelOf", spec := "fnExactKernelOf", unfollowed := true, recurses := true, apart := false }
def FnExactKernelOfSaid : Prop := fnExactKernelOfRow.holds Try.pinned (OpenSpec.ofChange fnExactKernelOfSpec)

/-- ITS FALSE NEIGHBOUR: 'it returns false'. Refute it at one input. -/
def fnExactKernelOfWrong : ChangeSpec := { name := "fnExactKernelOf", fn := fun _ => fun
  | [d1, d2, d3, d4] => { results := [.lit (.bool false)], args := [d1, d2, d3, d4] }
  | _ => none }
def FnExactKernelOfWrongFalsely : Prop := fnExactKernelOfRow.holds Try.pinned (OpenSpec.ofChange fnExactKernelOfWrong)

/-- 'laws.FnExactImageOf': WHATEVER THE INPUT: true; the input reads as it did. -/
def fnExactImageOfSpec : ChangeSpec := { name := "fnExactImageOf", fn := fun _ => fun
  | [d1, d2, d3, d4] => { results := [.lit (.bool true)], args := [d1, d2, d3, d4] }
  | _ => none }
def fnExactImageOfRow : OpenClaim := { program := "ytfomeommkfemkaa", sum := "7d12b3df09bd613cfeb50c5ea018db6d81c1c4776c4fa33604ebd1c6cba2c335", func := "loop.example/theorymodules/laws.FnExactImageOf", spec := "fnExactImageOf", unfollowed := true, recurses := true, apart := false }
def FnExactImageOfSaid : Prop := fnExactImageOfRow.holds Try.pinned (OpenSpec.ofChange fnExactImageOfSpec)

/-- ITS FALSE NEIGHBOUR: 'it returns false'. Refute it at one input. -/
def fnExactImageOfWrong : ChangeSpec := { name := "fnExactImageOf", fn := fun _ => fun
  | [d1, d2, d3, d4] => { results := [.lit (.bool false)], args := [d1, d2, d3, d4] }
  | _ => none }
def FnExactImageOfWrongFalsely : Prop := fnExactImageOfRow.holds Try.pinned (OpenSpec.ofChange fnExactImageOfWrong)

/-- 'laws.FnExactMadeOf': WHATEVER THE INPUT: true; the input reads as it did. -/
def fnExactMadeOfSpec : ChangeSpec := { name := "fnExactMadeOf", fn := fun _ => fun
  | [d1, d2, d3] => { results := [.lit (.bool true)], args := [d1, d2, d3] }
  | _ => none }
def fnExactMadeOfRow : OpenClaim := { program := "ytfomeommkfemkaa", sum := "7d12b3df09bd613cfeb50c5ea018db6d81c1c4776c4fa33604ebd1c6cba2c335", func := "loop.example/theorymodules/laws.FnExactMadeOf", spec := "fnExactMadeOf", unfollowed := true, recurses := true, apart := false }
def FnExactMadeOfSaid : Prop := fnExactMadeOfRow.holds Try.pinned (OpenSpec.ofChange fnExactMadeOfSpec)

/-- ITS FALSE NEIGHBOUR: 'it returns false'. Refute it at one input. -/
def fnExactMadeOfWrong : ChangeSpec := { name := "fnExactMadeOf", fn := fun _ => fun
  | [d1, d2, d3] => { results := [.lit (.bool false)], args := [d1, d2, d3] }
  | _ => none }
def FnExactMadeOfWrongFalsely : Prop := fnExactMadeOfRow.holds Try.pinned (OpenSpec.ofChange fnExactMadeOfWrong)

/-- 'laws.FnExactSameMade': WHATEVER THE INPUT: true; the input reads as it did. -/
def fnExactSameMadeSpec : ChangeSpec := { name := "fnExactSameMade", fn := fun _ => fun
  | [d1, d2, d3, d4, d5] => { results := [.lit (.bool true)], args := [d1, d2, d3, d4, d5] }
  | _ => none }
def fnExactSameMadeRow : OpenClaim := { program := "ytfomeommkfemkaa", sum := "7d12b3df09bd613cfeb50c5ea018db6d81c1c4776c4fa33604ebd1c6cba2c335", func := "loop.example/theorymodules/laws.FnExactSameMade", spec := "fnExactSameMade", unfollowed := true, recurses := true, apart := false }
def FnExactSameMadeSaid : Prop := fnExactSameMadeRow.holds Try.pinned (OpenSpec.ofChange fnExactSameMadeSpec)

/-- ITS FALSE NEIGHBOUR: 'it returns false'. Refute it at one input. -/
def fnExactSameMadeWrong : ChangeSpec := { name := "fnExactSameMade", fn := fun _ => fun
  | [d1, d2, d3, d4, d5] => { results := [.lit (.bool false)], args := [d1, d2, d3, d4, d5] }
  | _ => none }
def FnExactSameMadeWrongFalsely : Prop := fnExactSameMadeRow.holds Try.pinned (OpenSpec.ofChange fnExactSameMadeWrong)

/-- 'laws.FnExactModelPair': WHATEVER THE INPUT: true; the input reads as it did. -/
def fnExactModelPairSpec : ChangeSpec := { name := "fnExactModelPair", fn := fun _ => fun
  | [d1, d2, d3] => { results := [.lit (.bool true)], args := [d1, d2, d3] }
  | _ => none }
def fnExactModelPairRow : OpenClaim := { program := "ytfomeommkfemkaa", sum := "7d12b3df09bd613cfeb50c5ea018db6d81c1c4776c4fa33604ebd1c6cba2c335", func := "loop.example/theorymodules/laws.FnExactModelPair", spec := "fnExactModelPair", unfollowed := true, recurses := true, apart := false }
def FnExactModelPairSaid : Prop := fnExactModelPairRow.holds Try.pinned (OpenSpec.ofChange fnExactModelPairSpec)

/-- ITS FALSE NEIGHBOUR: 'it returns false'. Refute it at one input. -/
def fnExactModelPairWrong : ChangeSpec := { name := "fnExactModelPair", fn := fun _ => fun
  | [d1, d2, d3] => { results := [.lit (.bool false)], args := [d1, d2, d3] }
  | _ => none }
def FnExactModelPairWrongFalsely : Prop := fnExactModelPairRow.holds Try.pinned (OpenSpec.ofChange fnExactModelPairWrong)

/- THE SECOND FORM. 'bulk': how many values and letters a reading holds, each counted each time it is reached (what is shared counts as often as it is met; a slice's spare places count too). A statement '..UptoSaid' is the law's where the arguments, and the package variables that the reading takes, are together of bulk at most 1048576: NARROWER than '..Said'. Prove '..Said' where nothing that the law and all that it calls make is longer than what came in: it says more and counts as full. Else prove '..UptoSaid'. A law counts once. -/
mutual
def uptoBulk {H : Type} : DataW H → Nat
  | .lit (.string bytes) => bytes.length + 1
  | .lit _ => 1
  | .nil => 1
  | .ptr d => uptoBulk d + 1
  | .slice elems spare => uptoBulkAll elems + uptoBulkAll spare + 1
  | .agg parts => uptoBulkAll parts + 1
  | .iface _ d => uptoBulk d + 1
  | .map entries => uptoBulkEntries entries + 1
  | .held _ => 1
def uptoBulkAll {H : Type} : List (DataW H) → Nat
  | [] => 0
  | d :: r => uptoBulk d + uptoBulkAll r
def uptoBulkEntries {H : Type} : List (Lit × DataW H) → Nat
  | [] => 0
  | x :: r => uptoBulkEntry x + uptoBulkEntries r
def uptoBulkEntry {H : Type} : Lit × DataW H → Nat
  | (.string bytes, d) => bytes.length + uptoBulk d + 1
  | (_, d) => uptoBulk d + 1
 end
def uptoSmall : (H : Type) → List (DataW H) → Bool := fun _ ds => decide (uptoBulkAll ds ≤ 1048576)
def OpenSpec.upto (s : _root_.Go.ChangeSpec) : _root_.Go.OpenSpec := { _root_.Go.OpenSpec.ofChange s with cond := some uptoSmall }

/-- 'laws.FnExactHomOk', WHERE WHAT IT READS IS OF BULK AT MOST 1048576: true; the input reads as it did. -/
def fnExactHomOkUptoRow : OpenClaim := { program := "ytfomeommkfemkaa", sum := "7d12b3df09bd613cfeb50c5ea018db6d81c1c4776c4fa33604ebd1c6cba2c335", func := "loop.example/theorymodules/laws.FnExactHomOk", spec := "fnExactHomOk", unfollowed := true, recurses := true, apart := false, narrowed := true }
def FnExactHomOkUptoSaid : Prop := fnExactHomOkUptoRow.holds Try.pinned (OpenSpec.upto fnExactHomOkSpec)

/-- 'laws.FnExactKernelOf', WHERE WHAT IT READS IS OF BULK AT MOST 1048576: true; the input reads as it did. -/
def fnExactKernelOfUptoRow : OpenClaim := { program := "ytfomeommkfemkaa", sum := "7d12b3df09bd613cfeb50c5ea018db6d81c1c4776c4fa33604ebd1c6cba2c335", func := "loop.example/theorymodules/laws.FnExactKernelOf", spec := "fnExactKernelOf", unfollowed := true, recurses := true, apart := false, narrowed := true }
def FnExactKernelOfUptoSaid : Prop := fnExactKernelOfUptoRow.holds Try.pinned (OpenSpec.upto fnExactKernelOfSpec)

/-- 'laws.FnExactImageOf', WHERE WHAT IT READS IS OF BULK AT MOST 1048576: true; the input reads as it did. -/
def fnExactImageOfUptoRow : OpenClaim := { program := "ytfomeommkfemkaa", sum := "7d12b3df09bd613cfeb50c5ea018db6d81c1c4776c4fa33604ebd1c6cba2c335", func := "loop.example/theorymodules/laws.FnExactImageOf", spec := "fnExactImageOf", unfollowed := true, recurses := true, apart := false, narrowed := true }
def FnExactImageOfUptoSaid : Prop := fnExactImageOfUptoRow.holds Try.pinned (OpenSpec.upto fnExactImageOfSpec)

/-- 'laws.FnExactMadeOf', WHERE WHAT IT READS IS OF BULK AT MOST 1048576: true; the input reads as it did. -/
def fnExactMadeOfUptoRow : OpenClaim := { program := "ytfomeommkfemkaa", sum := "7d12b3df09bd613cfeb50c5ea018db6d81c1c4776c4fa33604ebd1c6cba2c335", func := "loop.example/theorymodules/laws.FnExactMadeOf", spec := "fnExactMadeOf", unfollowed := true, recurses := true, apart := false, narrowed := true }
def FnExactMadeOfUptoSaid : Prop := fnExactMadeOfUptoRow.holds Try.pinned (OpenSpec.upto fnExactMadeOfSpec)

/-- 'laws.FnExactSameMade', WHERE WHAT IT READS IS OF BULK AT MOST 1048576: true; the input reads as it did. -/
def fnExactSameMadeUptoRow : OpenClaim := { program := "ytfomeommkfemkaa", sum := "7d12b3df09bd613cfeb50c5ea018db6d81c1c4776c4fa33604ebd1c6cba2c335", func := "loop.example/theorymodules/laws.FnExactSameMade", spec := "fnExactSameMade", unfollowed := true, recurses := true, apart := false, narrowed := true }
def FnExactSameMadeUptoSaid : Prop := fnExactSameMadeUptoRow.holds Try.pinned (OpenSpec.upto fnExactSameMadeSpec)

/-- 'laws.FnExactModelPair', WHERE WHAT IT READS IS OF BULK AT MOST 1048576: true; the input reads as it did. -/
def fnExactModelPairUptoRow : OpenClaim := { program := "ytfomeommkfemkaa", sum := "7d12b3df09bd613cfeb50c5ea018db6d81c1c4776c4fa33604ebd1c6cba2c335", func := "loop.example/theorymodules/laws.FnExactModelPair", spec := "fnExactModelPair", unfollowed := true, recurses := true, apart := false, narrowed := true }
def FnExactModelPairUptoSaid : Prop := fnExactModelPairUptoRow.holds Try.pinned (OpenSpec.upto fnExactModelPairSpec)

end Rows
end Go.Proofs.Ytfomeommkfemkaa
