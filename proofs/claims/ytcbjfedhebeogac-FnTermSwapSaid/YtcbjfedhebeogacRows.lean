/-
  No cell of these rows narrows 'for every input' (looked for: loops, veiled, ifaces, maps, wideKeys, modest, calm, conditions, laid).
  DERIVED. THE GIVEN ROWS OF THIS SEAT. 6 by the template 'for every input the law returns true; each argument reads behind the call as it read before'; 0 by the template 'total and deterministic' (their statements: YtcbjfedhebeogacTotals.lean).
  GIVEN WITH THE SEED: the statements are not yours to turn. If you find one false, say at which input.
  Laid BY PROGRAM, IN A SANDBOX (cutbox-rows.mjs): the forced cells as the released guide's own fill.sh prints them over the translation af46b1628bff384a… (all of the seat's roots in one cut). By AI agents, Wed Nov 11 2026. No macro, syntax, notation, axiom, sorry.
-/
import Derived.Test.YtcbjfedhebeogacChecked
import GoSem.Claim
import GoSem.ClaimJoined
import GoSem.ClaimMapViews
import Derived.JoinedTies
import Derived.KernelRfl
namespace Go.Proofs.Ytcbjfedhebeogac
/- THE CELL 'sum', in the pinned program and in every row, IS THE sha256 OF THE DUMP (.gsa) THAT YtcbjfedhebeogacProg.lean LOADS. Nothing in Lean hashes anything: it is a label: what it is worth is what the hold of that sum in a sandbox is worth. -/
noncomputable def Try.pinned : Pinned := { name := "ytcbjfedhebeogac", sum := "af46b1628bff384ab4cf5b6683a6465047bc6686eb8e30a647f6bd456feb24b9", checked := Try.checked }
namespace Rows
def none {H : Type} : Left H := { results := [], args := [] }

/-- 'laws.FnTermSwap': WHATEVER THE INPUT: true; the input reads as it did. -/
def fnTermSwapSpec : ChangeSpec := { name := "fnTermSwap", fn := fun _ => fun
  | [d] => { results := [.lit (.bool true)], args := [d] }
  | _ => none }
def fnTermSwapRow : OpenClaim := { program := "ytcbjfedhebeogac", sum := "af46b1628bff384ab4cf5b6683a6465047bc6686eb8e30a647f6bd456feb24b9", func := "loop.example/theorymodules/laws.FnTermSwap", spec := "fnTermSwap", unfollowed := true, recurses := true, apart := false }
def FnTermSwapSaid : Prop := fnTermSwapRow.holds Try.pinned (OpenSpec.ofChange fnTermSwapSpec)

/-- ITS FALSE NEIGHBOUR: 'it returns false'. Refute it at one input. -/
def fnTermSwapWrong : ChangeSpec := { name := "fnTermSwap", fn := fun _ => fun
  | [d] => { results := [.lit (.bool false)], args := [d] }
  | _ => none }
def FnTermSwapWrongFalsely : Prop := fnTermSwapRow.holds Try.pinned (OpenSpec.ofChange fnTermSwapWrong)

/-- 'laws.FnMatchOf': WHATEVER THE INPUT: true; the input reads as it did. -/
def fnMatchOfSpec : ChangeSpec := { name := "fnMatchOf", fn := fun _ => fun
  | [d] => { results := [.lit (.bool true)], args := [d] }
  | _ => none }
def fnMatchOfRow : OpenClaim := { program := "ytcbjfedhebeogac", sum := "af46b1628bff384ab4cf5b6683a6465047bc6686eb8e30a647f6bd456feb24b9", func := "loop.example/theorymodules/laws.FnMatchOf", spec := "fnMatchOf", unfollowed := true, recurses := true, apart := false }
def FnMatchOfSaid : Prop := fnMatchOfRow.holds Try.pinned (OpenSpec.ofChange fnMatchOfSpec)

/-- ITS FALSE NEIGHBOUR: 'it returns false'. Refute it at one input. -/
def fnMatchOfWrong : ChangeSpec := { name := "fnMatchOf", fn := fun _ => fun
  | [d] => { results := [.lit (.bool false)], args := [d] }
  | _ => none }
def FnMatchOfWrongFalsely : Prop := fnMatchOfRow.holds Try.pinned (OpenSpec.ofChange fnMatchOfWrong)

/-- 'laws.FnTermText': WHATEVER THE INPUT: true; the input reads as it did. -/
def fnTermTextSpec : ChangeSpec := { name := "fnTermText", fn := fun _ => fun
  | [d] => { results := [.lit (.bool true)], args := [d] }
  | _ => none }
def fnTermTextRow : OpenClaim := { program := "ytcbjfedhebeogac", sum := "af46b1628bff384ab4cf5b6683a6465047bc6686eb8e30a647f6bd456feb24b9", func := "loop.example/theorymodules/laws.FnTermText", spec := "fnTermText", unfollowed := true, recurses := true, apart := false }
def FnTermTextSaid : Prop := fnTermTextRow.holds Try.pinned (OpenSpec.ofChange fnTermTextSpec)

/-- ITS FALSE NEIGHBOUR: 'it returns false'. Refute it at one input. -/
def fnTermTextWrong : ChangeSpec := { name := "fnTermText", fn := fun _ => fun
  | [d] => { results := [.lit (.bool false)], args := [d] }
  | _ => none }
def FnTermTextWrongFalsely : Prop := fnTermTextRow.holds Try.pinned (OpenSpec.ofChange fnTermTextWrong)

/-- 'laws.FnReadTerm': WHATEVER THE INPUT: true; the input reads as it did. -/
def fnReadTermSpec : ChangeSpec := { name := "fnReadTerm", fn := fun _ => fun
  | [d] => { results := [.lit (.bool true)], args := [d] }
  | _ => none }
def fnReadTermRow : OpenClaim := { program := "ytcbjfedhebeogac", sum := "af46b1628bff384ab4cf5b6683a6465047bc6686eb8e30a647f6bd456feb24b9", func := "loop.example/theorymodules/laws.FnReadTerm", spec := "fnReadTerm", unfollowed := true, recurses := true, apart := false }
def FnReadTermSaid : Prop := fnReadTermRow.holds Try.pinned (OpenSpec.ofChange fnReadTermSpec)

/-- ITS FALSE NEIGHBOUR: 'it returns false'. Refute it at one input. -/
def fnReadTermWrong : ChangeSpec := { name := "fnReadTerm", fn := fun _ => fun
  | [d] => { results := [.lit (.bool false)], args := [d] }
  | _ => none }
def FnReadTermWrongFalsely : Prop := fnReadTermRow.holds Try.pinned (OpenSpec.ofChange fnReadTermWrong)

/-- 'laws.FnExactSigValid': WHATEVER THE INPUT: true; the input reads as it did. -/
def fnExactSigValidSpec : ChangeSpec := { name := "fnExactSigValid", fn := fun _ => fun
  | [d] => { results := [.lit (.bool true)], args := [d] }
  | _ => none }
def fnExactSigValidRow : OpenClaim := { program := "ytcbjfedhebeogac", sum := "af46b1628bff384ab4cf5b6683a6465047bc6686eb8e30a647f6bd456feb24b9", func := "loop.example/theorymodules/laws.FnExactSigValid", spec := "fnExactSigValid", apart := false }
def FnExactSigValidSaid : Prop := fnExactSigValidRow.holds Try.pinned (OpenSpec.ofChange fnExactSigValidSpec)

/-- ITS FALSE NEIGHBOUR: 'it returns false'. Refute it at one input. -/
def fnExactSigValidWrong : ChangeSpec := { name := "fnExactSigValid", fn := fun _ => fun
  | [d] => { results := [.lit (.bool false)], args := [d] }
  | _ => none }
def FnExactSigValidWrongFalsely : Prop := fnExactSigValidRow.holds Try.pinned (OpenSpec.ofChange fnExactSigValidWrong)

/-- 'laws.FnExactOpTakes': WHATEVER THE INPUT: true; the input reads as it did. -/
def fnExactOpTakesSpec : ChangeSpec := { name := "fnExactOpTakes", fn := fun _ => fun
  | [d1, d2] => { results := [.lit (.bool true)], args := [d1, d2] }
  | _ => none }
def fnExactOpTakesRow : OpenClaim := { program := "ytcbjfedhebeogac", sum := "af46b1628bff384ab4cf5b6683a6465047bc6686eb8e30a647f6bd456feb24b9", func := "loop.example/theorymodules/laws.FnExactOpTakes", spec := "fnExactOpTakes", apart := false }
def FnExactOpTakesSaid : Prop := fnExactOpTakesRow.holds Try.pinned (OpenSpec.ofChange fnExactOpTakesSpec)

/-- ITS FALSE NEIGHBOUR: 'it returns false'. Refute it at one input. -/
def fnExactOpTakesWrong : ChangeSpec := { name := "fnExactOpTakes", fn := fun _ => fun
  | [d1, d2] => { results := [.lit (.bool false)], args := [d1, d2] }
  | _ => none }
def FnExactOpTakesWrongFalsely : Prop := fnExactOpTakesRow.holds Try.pinned (OpenSpec.ofChange fnExactOpTakesWrong)

/- THE SECOND FORM. 'bulk': how many values and letters a reading holds, each counted each time it is reached (what is shared counts as often as it is met; a slice's spare places count too). A statement '..UptoSaid' is the law's where the arguments, and the package variables that the reading takes, are together of bulk at most 1048576: NARROWER than '..Said'. Prove '..Said' where nothing that the law and all that it calls make is longer than what came in: it says more and counts as full. Else prove '..UptoSaid'. A law counts once. -/
mutual
def uptoBulk {H : Type} : DataW H → Nat
  | .lit (.string bytes) => bytes.length + 1
  | .lit _ => 1
  | .nil => 1
  | .ptr d => uptoBulk d + 1
  | .slice elems spare => uptoBulkAll elems + uptoBulkAll spare + 1
  | .agg parts => uptoBulkAll parts + 1
  | .iface _ d => uptoBulk d + 1
  | .map entries => uptoBulkEntries entries + 1
  | .held _ => 1
def uptoBulkAll {H : Type} : List (DataW H) → Nat
  | [] => 0
  | d :: r => uptoBulk d + uptoBulkAll r
def uptoBulkEntries {H : Type} : List (Lit × DataW H) → Nat
  | [] => 0
  | x :: r => uptoBulkEntry x + uptoBulkEntries r
def uptoBulkEntry {H : Type} : Lit × DataW H → Nat
  | (.string bytes, d) => bytes.length + uptoBulk d + 1
  | (_, d) => uptoBulk d + 1
 end
def uptoSmall : (H : Type) → List (DataW H) → Bool := fun _ ds => decide (uptoBulkAll ds ≤ 1048576)
def OpenSpec.upto (s : _root_.Go.ChangeSpec) : _root_.Go.OpenSpec := { _root_.Go.OpenSpec.ofChange s with cond := some uptoSmall }

/-- 'laws.FnTermSwap', WHERE WHAT IT READS IS OF BULK AT MOST 1048576: true; the input reads as it did. -/
def fnTermSwapUptoRow : OpenClaim := { program := "ytcbjfedhebeogac", sum := "af46b1628bff384ab4cf5b6683a6465047bc6686eb8e30a647f6bd456feb24b9", func := "loop.example/theorymodules/laws.FnTermSwap", spec := "fnTermSwap", unfollowed := true, recurses := true, apart := false, narrowed := true }
def FnTermSwapUptoSaid : Prop := fnTermSwapUptoRow.holds Try.pinned (OpenSpec.upto fnTermSwapSpec)

/-- 'laws.FnMatchOf', WHERE WHAT IT READS IS OF BULK AT MOST 1048576: true; the input reads as it did. -/
def fnMatchOfUptoRow : OpenClaim := { program := "ytcbjfedhebeogac", sum := "af46b1628bff384ab4cf5b6683a6465047bc6686eb8e30a647f6bd456feb24b9", func := "loop.example/theorymodules/laws.FnMatchOf", spec := "fnMatchOf", unfollowed := true, recurses := true, apart := false, narrowed := true }
def FnMatchOfUptoSaid : Prop := fnMatchOfUptoRow.holds Try.pinned (OpenSpec.upto fnMatchOfSpec)

/-- 'laws.FnTermText', WHERE WHAT IT READS IS OF BULK AT MOST 1048576: true; the input reads as it did. -/
def fnTermTextUptoRow : OpenClaim := { program := "ytcbjfedhebeogac", sum := "af46b1628bff384ab4cf5b6683a6465047bc6686eb8e30a647f6bd456feb24b9", func := "loop.example/theorymodules/laws.FnTermText", spec := "fnTermText", unfollowed := true, recurses := true, apart := false, narrowed := true }
def FnTermTextUptoSaid : Prop := fnTermTextUptoRow.holds Try.pinned (OpenSpec.upto fnTermTextSpec)

/-- 'laws.FnReadTerm', WHERE WHAT IT READS IS OF BULK AT MOST 1048576: true; the input reads as it did. -/
def fnReadTermUptoRow : OpenClaim := { program := "ytcbjfedhebeogac", sum := "af46b1628bff384ab4cf5b6683a6465047bc6686eb8e30a647f6bd456feb24b9", func := "loop.example/theorymodules/laws.FnReadTerm", spec := "fnReadTerm", unfollowed := true, recurses := true, apart := false, narrowed := true }
def FnReadTermUptoSaid : Prop := fnReadTermUptoRow.holds Try.pinned (OpenSpec.upto fnReadTermSpec)

/-- 'laws.FnExactSigValid', WHERE WHAT IT READS IS OF BULK AT MOST 1048576: true; the input reads as it did. -/
def fnExactSigValidUptoRow : OpenClaim := { program := "ytcbjfedhebeogac", sum := "af46b1628bff384ab4cf5b6683a6465047bc6686eb8e30a647f6bd456feb24b9", func := "loop.example/theorymodules/laws.FnExactSigValid", spec := "fnExactSigValid", apart := false, narrowed := true }
def FnExactSigValidUptoSaid : Prop := fnExactSigValidUptoRow.holds Try.pinned (OpenSpec.upto fnExactSigValidSpec)

/-- 'laws.FnExactOpTakes', WHERE WHAT IT READS IS OF BULK AT MOST 1048576: true; the input reads as it did. -/
def fnExactOpTakesUptoRow : OpenClaim := { program := "ytcbjfedhebeogac", sum := "af46b1628bff384ab4cf5b6683a6465047bc6686eb8e30a647f6bd456feb24b9", func := "loop.example/theorymodules/laws.FnExactOpTakes", spec := "fnExactOpTakes", apart := false, narrowed := true }
def FnExactOpTakesUptoSaid : Prop := fnExactOpTakesUptoRow.holds Try.pinned (OpenSpec.upto fnExactOpTakesSpec)

end Rows
end Go.Proofs.Ytcbjfedhebeogac
