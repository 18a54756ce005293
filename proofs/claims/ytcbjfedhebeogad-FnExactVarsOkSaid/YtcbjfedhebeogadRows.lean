/-
  No cell of these rows narrows 'for every input' (looked for: loops, veiled, ifaces, maps, wideKeys, modest, calm, conditions, laid).
  DERIVED. THE GIVEN ROWS OF THIS SEAT. 5 by the template 'for every input the law returns true; each argument reads behind the call as it read before'; 0 by the template 'total and deterministic' (their statements: YtcbjfedhebeogadTotals.lean).
  GIVEN WITH THE SEED: the statements are not yours to turn. If you find one false, say at which input.
  Laid BY PROGRAM, IN A SANDBOX (cutbox-rows.mjs): the forced cells as the released guide's own fill.sh prints them over the translation 61168a16be351d3f… (all of the seat's roots in one cut). By AI agents, Wed Nov 11 2026. No macro, syntax, notation, axiom, sorry.
-/
import Derived.Test.YtcbjfedhebeogadChecked
import GoSem.Claim
import GoSem.ClaimJoined
import GoSem.ClaimMapViews
import Derived.JoinedTies
import Derived.KernelRfl
namespace Go.Proofs.Ytcbjfedhebeogad
/- THE CELL 'sum', in the pinned program and in every row, IS THE sha256 OF THE DUMP (.gsa) THAT YtcbjfedhebeogadProg.lean LOADS. Nothing in Lean hashes anything: it is a label: what it is worth is what the hold of that sum in a sandbox is worth. -/
noncomputable def Try.pinned : Pinned := { name := "ytcbjfedhebeogad", sum := "61168a16be351d3f07497d6db2604fa0850912ef000211e9017866b0f7135698", checked := Try.checked }
namespace Rows
def none {H : Type} : Left H := { results := [], args := [] }

/-- 'laws.FnExactOpLeaves': WHATEVER THE INPUT: true; the input reads as it did. -/
def fnExactOpLeavesSpec : ChangeSpec := { name := "fnExactOpLeaves", fn := fun _ => fun
  | [d1, d2] => { results := [.lit (.bool true)], args := [d1, d2] }
  | _ => none }
def fnExactOpLeavesRow : OpenClaim := { program := "ytcbjfedhebeogad", sum := "61168a16be351d3f07497d6db2604fa0850912ef000211e9017866b0f7135698", func := "loop.example/theorymodules/laws.FnExactOpLeaves", spec := "fnExactOpLeaves", apart := false }
def FnExactOpLeavesSaid : Prop := fnExactOpLeavesRow.holds Try.pinned (OpenSpec.ofChange fnExactOpLeavesSpec)

/-- ITS FALSE NEIGHBOUR: 'it returns false'. Refute it at one input. -/
def fnExactOpLeavesWrong : ChangeSpec := { name := "fnExactOpLeaves", fn := fun _ => fun
  | [d1, d2] => { results := [.lit (.bool false)], args := [d1, d2] }
  | _ => none }
def FnExactOpLeavesWrongFalsely : Prop := fnExactOpLeavesRow.holds Try.pinned (OpenSpec.ofChange fnExactOpLeavesWrong)

/-- 'laws.FnExactSigSum': WHATEVER THE INPUT: true; the input reads as it did. -/
def fnExactSigSumSpec : ChangeSpec := { name := "fnExactSigSum", fn := fun _ => fun
  | [d1, d2] => { results := [.lit (.bool true)], args := [d1, d2] }
  | _ => none }
def fnExactSigSumRow : OpenClaim := { program := "ytcbjfedhebeogad", sum := "61168a16be351d3f07497d6db2604fa0850912ef000211e9017866b0f7135698", func := "loop.example/theorymodules/laws.FnExactSigSum", spec := "fnExactSigSum", apart := false }
def FnExactSigSumSaid : Prop := fnExactSigSumRow.holds Try.pinned (OpenSpec.ofChange fnExactSigSumSpec)

/-- ITS FALSE NEIGHBOUR: 'it returns false'. Refute it at one input. -/
def fnExactSigSumWrong : ChangeSpec := { name := "fnExactSigSum", fn := fun _ => fun
  | [d1, d2] => { results := [.lit (.bool false)], args := [d1, d2] }
  | _ => none }
def FnExactSigSumWrongFalsely : Prop := fnExactSigSumRow.holds Try.pinned (OpenSpec.ofChange fnExactSigSumWrong)

/-- 'laws.FnExactSigPart': WHATEVER THE INPUT: true; the input reads as it did. -/
def fnExactSigPartSpec : ChangeSpec := { name := "fnExactSigPart", fn := fun _ => fun
  | [d1, d2] => { results := [.lit (.bool true)], args := [d1, d2] }
  | _ => none }
def fnExactSigPartRow : OpenClaim := { program := "ytcbjfedhebeogad", sum := "61168a16be351d3f07497d6db2604fa0850912ef000211e9017866b0f7135698", func := "loop.example/theorymodules/laws.FnExactSigPart", spec := "fnExactSigPart", apart := false }
def FnExactSigPartSaid : Prop := fnExactSigPartRow.holds Try.pinned (OpenSpec.ofChange fnExactSigPartSpec)

/-- ITS FALSE NEIGHBOUR: 'it returns false'. Refute it at one input. -/
def fnExactSigPartWrong : ChangeSpec := { name := "fnExactSigPart", fn := fun _ => fun
  | [d1, d2] => { results := [.lit (.bool false)], args := [d1, d2] }
  | _ => none }
def FnExactSigPartWrongFalsely : Prop := fnExactSigPartRow.holds Try.pinned (OpenSpec.ofChange fnExactSigPartWrong)

/-- 'laws.FnExactSigText': WHATEVER THE INPUT: true; the input reads as it did. -/
def fnExactSigTextSpec : ChangeSpec := { name := "fnExactSigText", fn := fun _ => fun
  | [d] => { results := [.lit (.bool true)], args := [d] }
  | _ => none }
def fnExactSigTextRow : OpenClaim := { program := "ytcbjfedhebeogad", sum := "61168a16be351d3f07497d6db2604fa0850912ef000211e9017866b0f7135698", func := "loop.example/theorymodules/laws.FnExactSigText", spec := "fnExactSigText", inPlace := ["internal/abi.NoEscape", "internal/bytealg.MakeNoZero"], recurses := true, apart := false }
def FnExactSigTextSaid : Prop := fnExactSigTextRow.holds Try.pinned (OpenSpec.ofChange fnExactSigTextSpec)

/-- ITS FALSE NEIGHBOUR: 'it returns false'. Refute it at one input. -/
def fnExactSigTextWrong : ChangeSpec := { name := "fnExactSigText", fn := fun _ => fun
  | [d] => { results := [.lit (.bool false)], args := [d] }
  | _ => none }
def FnExactSigTextWrongFalsely : Prop := fnExactSigTextRow.holds Try.pinned (OpenSpec.ofChange fnExactSigTextWrong)

/-- 'laws.FnExactVarsOk': WHATEVER THE INPUT: true; the input reads as it did. -/
def fnExactVarsOkSpec : ChangeSpec := { name := "fnExactVarsOk", fn := fun _ => fun
  | [d1, d2] => { results := [.lit (.bool true)], args := [d1, d2] }
  | _ => none }
def fnExactVarsOkRow : OpenClaim := { program := "ytcbjfedhebeogad", sum := "61168a16be351d3f07497d6db2604fa0850912ef000211e9017866b0f7135698", func := "loop.example/theorymodules/laws.FnExactVarsOk", spec := "fnExactVarsOk", apart := false }
def FnExactVarsOkSaid : Prop := fnExactVarsOkRow.holds Try.pinned (OpenSpec.ofChange fnExactVarsOkSpec)

/-- ITS FALSE NEIGHBOUR: 'it returns false'. Refute it at one input. -/
def fnExactVarsOkWrong : ChangeSpec := { name := "fnExactVarsOk", fn := fun _ => fun
  | [d1, d2] => { results := [.lit (.bool false)], args := [d1, d2] }
  | _ => none }
def FnExactVarsOkWrongFalsely : Prop := fnExactVarsOkRow.holds Try.pinned (OpenSpec.ofChange fnExactVarsOkWrong)

/- THE SECOND FORM. 'bulk': how many values and letters a reading holds, each counted each time it is reached (what is shared counts as often as it is met; a slice's spare places count too). A statement '..UptoSaid' is the law's where the arguments, and the package variables that the reading takes, are together of bulk at most 1048576: NARROWER than '..Said'. Prove '..Said' where nothing that the law and all that it calls make is longer than what came in: it says more and counts as full. Else prove '..UptoSaid'. A law counts once. -/
mutual
def uptoBulk {H : Type} : DataW H → Nat
  | .lit (.string bytes) => bytes.length + 1
  | .lit _ => 1
  | .nil => 1
  | .ptr d => uptoBulk d + 1
  | .slice elems spare => uptoBulkAll elems + uptoBulkAll spare + 1
  | .agg parts => uptoBulkAll parts + 1
  | .iface _ d => uptoBulk d + 1
  | .map entries => uptoBulkEntries entries + 1
  | .held _ => 1
def uptoBulkAll {H : Type} : List (DataW H) → Nat
  | [] => 0
  | d :: r => uptoBulk d + uptoBulkAll r
def uptoBulkEntries {H : Type} : List (Lit × DataW H) → Nat
  | [] => 0
  | x :: r => uptoBulkEntry x + uptoBulkEntries r
def uptoBulkEntry {H : Type} : Lit × DataW H → Nat
  | (.string bytes, d) => bytes.length + uptoBulk d + 1
  | (_, d) => uptoBulk d + 1
 end
def uptoSmall : (H : Type) → List (DataW H) → Bool := fun _ ds => decide (uptoBulkAll ds ≤ 1048576)
def OpenSpec.upto (s : _root_.Go.ChangeSpec) : _root_.Go.OpenSpec := { _root_.Go.OpenSpec.ofChange s with cond := some uptoSmall }

/-- 'laws.FnExactOpLeaves', WHERE WHAT IT READS IS OF BULK AT MOST 1048576: true; the input reads as it did. -/
def fnExactOpLeavesUptoRow : OpenClaim := { program := "ytcbjfedhebeogad", sum := "61168a16be351d3f07497d6db2604fa0850912ef000211e9017866b0f7135698", func := "loop.example/theorymodules/laws.FnExactOpLeaves", spec := "fnExactOpLeaves", apart := false, narrowed := true }
def FnExactOpLeavesUptoSaid : Prop := fnExactOpLeavesUptoRow.holds Try.pinned (OpenSpec.upto fnExactOpLeavesSpec)

/-- 'laws.FnExactSigSum', WHERE WHAT IT READS IS OF BULK AT MOST 1048576: true; the input reads as it did. -/
def fnExactSigSumUptoRow : OpenClaim := { program := "ytcbjfedhebeogad", sum := "61168a16be351d3f07497d6db2604fa0850912ef000211e9017866b0f7135698", func := "loop.example/theorymodules/laws.FnExactSigSum", spec := "fnExactSigSum", apart := false, narrowed := true }
def FnExactSigSumUptoSaid : Prop := fnExactSigSumUptoRow.holds Try.pinned (OpenSpec.upto fnExactSigSumSpec)

/-- 'laws.FnExactSigPart', WHERE WHAT IT READS IS OF BULK AT MOST 1048576: true; the input reads as it did. -/
def fnExactSigPartUptoRow : OpenClaim := { program := "ytcbjfedhebeogad", sum := "61168a16be351d3f07497d6db2604fa0850912ef000211e9017866b0f7135698", func := "loop.example/theorymodules/laws.FnExactSigPart", spec := "fnExactSigPart", apart := false, narrowed := true }
def FnExactSigPartUptoSaid : Prop := fnExactSigPartUptoRow.holds Try.pinned (OpenSpec.upto fnExactSigPartSpec)

/-- 'laws.FnExactSigText', WHERE WHAT IT READS IS OF BULK AT MOST 1048576: true; the input reads as it did. -/
def fnExactSigTextUptoRow : OpenClaim := { program := "ytcbjfedhebeogad", sum := "61168a16be351d3f07497d6db2604fa0850912ef000211e9017866b0f7135698", func := "loop.example/theorymodules/laws.FnExactSigText", spec := "fnExactSigText", inPlace := ["internal/abi.NoEscape", "internal/bytealg.MakeNoZero"], recurses := true, apart := false, narrowed := true }
def FnExactSigTextUptoSaid : Prop := fnExactSigTextUptoRow.holds Try.pinned (OpenSpec.upto fnExactSigTextSpec)

/-- 'laws.FnExactVarsOk', WHERE WHAT IT READS IS OF BULK AT MOST 1048576: true; the input reads as it did. -/
def fnExactVarsOkUptoRow : OpenClaim := { program := "ytcbjfedhebeogad", sum := "61168a16be351d3f07497d6db2604fa0850912ef000211e9017866b0f7135698", func := "loop.example/theorymodules/laws.FnExactVarsOk", spec := "fnExactVarsOk", apart := false, narrowed := true }
def FnExactVarsOkUptoSaid : Prop := fnExactVarsOkUptoRow.holds Try.pinned (OpenSpec.upto fnExactVarsOkSpec)

end Rows
end Go.Proofs.Ytcbjfedhebeogad
