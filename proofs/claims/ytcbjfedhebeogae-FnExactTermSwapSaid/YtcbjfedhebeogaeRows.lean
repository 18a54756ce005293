/-
  No cell of these rows narrows 'for every input' (looked for: loops, veiled, ifaces, maps, wideKeys, modest, calm, conditions, laid).
  DERIVED. THE GIVEN ROWS OF THIS SEAT. 6 by the template 'for every input the law returns true; each argument reads behind the call as it read before'; 0 by the template 'total and deterministic' (their statements: YtcbjfedhebeogaeTotals.lean).
  GIVEN WITH THE SEED: the statements are not yours to turn. If you find one false, say at which input.
  Laid BY PROGRAM, IN A SANDBOX (cutbox-rows.mjs): the forced cells as the released guide's own fill.sh prints them over the translation a9e2e63293f1838a… (all of the seat's roots in one cut). By AI agents, Wed Nov 11 2026. No macro, syntax, notation, axiom, sorry.
-/
import Derived.Test.YtcbjfedhebeogaeChecked
import GoSem.Claim
import GoSem.ClaimJoined
import GoSem.ClaimMapViews
import Derived.JoinedTies
import Derived.KernelRfl
namespace Go.Proofs.Ytcbjfedhebeogae
/- THE CELL 'sum', in the pinned program and in every row, IS THE sha256 OF THE DUMP (.gsa) THAT YtcbjfedhebeogaeProg.lean LOADS. Nothing in Lean hashes anything: it is a label: what it is worth is what the hold of that sum in a sandbox is worth. -/
noncomputable def Try.pinned : Pinned := { name := "ytcbjfedhebeogae", sum := "a9e2e63293f1838aaae53b1c42b754581536fe3d8ddc2d4ea0fd0af64bd5b1f5", checked := Try.checked }
namespace Rows
def none {H : Type} : Left H := { results := [], args := [] }

/-- 'laws.FnExactTermSort': WHATEVER THE INPUT: true; the input reads as it did. -/
def fnExactTermSortSpec : ChangeSpec := { name := "fnExactTermSort", fn := fun _ => fun
  | [d1, d2, d3] => { results := [.lit (.bool true)], args := [d1, d2, d3] }
  | _ => none }
def fnExactTermSortRow : OpenClaim := { program := "ytcbjfedhebeogae", sum := "a9e2e63293f1838aaae53b1c42b754581536fe3d8ddc2d4ea0fd0af64bd5b1f5", func := "loop.example/theorymodules/laws.FnExactTermSort", spec := "fnExactTermSort", unfollowed := true, recurses := true, apart := false }
def FnExactTermSortSaid : Prop := fnExactTermSortRow.holds Try.pinned (OpenSpec.ofChange fnExactTermSortSpec)

/-- ITS FALSE NEIGHBOUR: 'it returns false'. Refute it at one input. -/
def fnExactTermSortWrong : ChangeSpec := { name := "fnExactTermSort", fn := fun _ => fun
  | [d1, d2, d3] => { results := [.lit (.bool false)], args := [d1, d2, d3] }
  | _ => none }
def FnExactTermSortWrongFalsely : Prop := fnExactTermSortRow.holds Try.pinned (OpenSpec.ofChange fnExactTermSortWrong)

/-- 'laws.FnExactTermsFit': WHATEVER THE INPUT: true; the input reads as it did. -/
def fnExactTermsFitSpec : ChangeSpec := { name := "fnExactTermsFit", fn := fun _ => fun
  | [d1, d2, d3, d4] => { results := [.lit (.bool true)], args := [d1, d2, d3, d4] }
  | _ => none }
def fnExactTermsFitRow : OpenClaim := { program := "ytcbjfedhebeogae", sum := "a9e2e63293f1838aaae53b1c42b754581536fe3d8ddc2d4ea0fd0af64bd5b1f5", func := "loop.example/theorymodules/laws.FnExactTermsFit", spec := "fnExactTermsFit", unfollowed := true, recurses := true, apart := false }
def FnExactTermsFitSaid : Prop := fnExactTermsFitRow.holds Try.pinned (OpenSpec.ofChange fnExactTermsFitSpec)

/-- ITS FALSE NEIGHBOUR: 'it returns false'. Refute it at one input. -/
def fnExactTermsFitWrong : ChangeSpec := { name := "fnExactTermsFit", fn := fun _ => fun
  | [d1, d2, d3, d4] => { results := [.lit (.bool false)], args := [d1, d2, d3, d4] }
  | _ => none }
def FnExactTermsFitWrongFalsely : Prop := fnExactTermsFitRow.holds Try.pinned (OpenSpec.ofChange fnExactTermsFitWrong)

/-- 'laws.FnExactTermPut': WHATEVER THE INPUT: true; the input reads as it did. -/
def fnExactTermPutSpec : ChangeSpec := { name := "fnExactTermPut", fn := fun _ => fun
  | [d1, d2, d3, d4, d5] => { results := [.lit (.bool true)], args := [d1, d2, d3, d4, d5] }
  | _ => none }
def fnExactTermPutRow : OpenClaim := { program := "ytcbjfedhebeogae", sum := "a9e2e63293f1838aaae53b1c42b754581536fe3d8ddc2d4ea0fd0af64bd5b1f5", func := "loop.example/theorymodules/laws.FnExactTermPut", spec := "fnExactTermPut", unfollowed := true, recurses := true, apart := false }
def FnExactTermPutSaid : Prop := fnExactTermPutRow.holds Try.pinned (OpenSpec.ofChange fnExactTermPutSpec)

/-- ITS FALSE NEIGHBOUR: 'it returns false'. Refute it at one input. -/
def fnExactTermPutWrong : ChangeSpec := { name := "fnExactTermPut", fn := fun _ => fun
  | [d1, d2, d3, d4, d5] => { results := [.lit (.bool false)], args := [d1, d2, d3, d4, d5] }
  | _ => none }
def FnExactTermPutWrongFalsely : Prop := fnExactTermPutRow.holds Try.pinned (OpenSpec.ofChange fnExactTermPutWrong)

/-- 'laws.FnExactTermAt': WHATEVER THE INPUT: true; the input reads as it did. -/
def fnExactTermAtSpec : ChangeSpec := { name := "fnExactTermAt", fn := fun _ => fun
  | [d1, d2, d3, d4] => { results := [.lit (.bool true)], args := [d1, d2, d3, d4] }
  | _ => none }
def fnExactTermAtRow : OpenClaim := { program := "ytcbjfedhebeogae", sum := "a9e2e63293f1838aaae53b1c42b754581536fe3d8ddc2d4ea0fd0af64bd5b1f5", func := "loop.example/theorymodules/laws.FnExactTermAt", spec := "fnExactTermAt", unfollowed := true, recurses := true, apart := false }
def FnExactTermAtSaid : Prop := fnExactTermAtRow.holds Try.pinned (OpenSpec.ofChange fnExactTermAtSpec)

/-- ITS FALSE NEIGHBOUR: 'it returns false'. Refute it at one input. -/
def fnExactTermAtWrong : ChangeSpec := { name := "fnExactTermAt", fn := fun _ => fun
  | [d1, d2, d3, d4] => { results := [.lit (.bool false)], args := [d1, d2, d3, d4] }
  | _ => none }
def FnExactTermAtWrongFalsely : Prop := fnExactTermAtRow.holds Try.pinned (OpenSpec.ofChange fnExactTermAtWrong)

/-- 'laws.FnExactTermSwap': WHATEVER THE INPUT: true; the input reads as it did. -/
def fnExactTermSwapSpec : ChangeSpec := { name := "fnExactTermSwap", fn := fun _ => fun
  | [d1, d2, d3, d4, d5] => { results := [.lit (.bool true)], args := [d1, d2, d3, d4, d5] }
  | _ => none }
def fnExactTermSwapRow : OpenClaim := { program := "ytcbjfedhebeogae", sum := "a9e2e63293f1838aaae53b1c42b754581536fe3d8ddc2d4ea0fd0af64bd5b1f5", func := "loop.example/theorymodules/laws.FnExactTermSwap", spec := "fnExactTermSwap", unfollowed := true, recurses := true, apart := false }
def FnExactTermSwapSaid : Prop := fnExactTermSwapRow.holds Try.pinned (OpenSpec.ofChange fnExactTermSwapSpec)

/-- ITS FALSE NEIGHBOUR: 'it returns false'. Refute it at one input. -/
def fnExactTermSwapWrong : ChangeSpec := { name := "fnExactTermSwap", fn := fun _ => fun
  | [d1, d2, d3, d4, d5] => { results := [.lit (.bool false)], args := [d1, d2, d3, d4, d5] }
  | _ => none }
def FnExactTermSwapWrongFalsely : Prop := fnExactTermSwapRow.holds Try.pinned (OpenSpec.ofChange fnExactTermSwapWrong)

/-- 'laws.FnExactMatchOf': WHATEVER THE INPUT: true; the input reads as it did. -/
def fnExactMatchOfSpec : ChangeSpec := { name := "fnExactMatchOf", fn := fun _ => fun
  | [d1, d2, d3, d4, d5] => { results := [.lit (.bool true)], args := [d1, d2, d3, d4, d5] }
  | _ => none }
def fnExactMatchOfRow : OpenClaim := { program := "ytcbjfedhebeogae", sum := "a9e2e63293f1838aaae53b1c42b754581536fe3d8ddc2d4ea0fd0af64bd5b1f5", func := "loop.example/theorymodules/laws.FnExactMatchOf", spec := "fnExactMatchOf", unfollowed := true, recurses := true, apart := false }
def FnExactMatchOfSaid : Prop := fnExactMatchOfRow.holds Try.pinned (OpenSpec.ofChange fnExactMatchOfSpec)

/-- ITS FALSE NEIGHBOUR: 'it returns false'. Refute it at one input. -/
def fnExactMatchOfWrong : ChangeSpec := { name := "fnExactMatchOf", fn := fun _ => fun
  | [d1, d2, d3, d4, d5] => { results := [.lit (.bool false)], args := [d1, d2, d3, d4, d5] }
  | _ => none }
def FnExactMatchOfWrongFalsely : Prop := fnExactMatchOfRow.holds Try.pinned (OpenSpec.ofChange fnExactMatchOfWrong)

/- THE SECOND FORM. 'bulk': how many values and letters a reading holds, each counted each time it is reached (what is shared counts as often as it is met; a slice's spare places count too). A statement '..UptoSaid' is the law's where the arguments, and the package variables that the reading takes, are together of bulk at most 1048576: NARROWER than '..Said'. Prove '..Said' where nothing that the law and all that it calls make is longer than what came in: it says more and counts as full. Else prove '..UptoSaid'. A law counts once. -/
mutual
def uptoBulk {H : Type} : DataW H → Nat
  | .lit (.string bytes) => bytes.length + 1
  | .lit _ => 1
  | .nil => 1
  | .ptr d => uptoBulk d + 1
  | .slice elems spare => uptoBulkAll elems + uptoBulkAll spare + 1
  | .agg parts => uptoBulkAll parts + 1
  | .iface _ d => uptoBulk d + 1
  | .map entries => uptoBulkEntries entries + 1
  | .held _ => 1
def uptoBulkAll {H : Type} : List (DataW H) → Nat
  | [] => 0
  | d :: r => uptoBulk d + uptoBulkAll r
def uptoBulkEntries {H : Type} : List (Lit × DataW H) → Nat
  | [] => 0
  | x :: r => uptoBulkEntry x + uptoBulkEntries r
def uptoBulkEntry {H : Type} : Lit × DataW H → Nat
  | (.string bytes, d) => bytes.length + uptoBulk d + 1
  | (_, d) => uptoBulk d + 1
 end
def uptoSmall : (H : Type) → List (DataW H) → Bool := fun _ ds => decide (uptoBulkAll ds ≤ 1048576)
def OpenSpec.upto (s : _root_.Go.ChangeSpec) : _root_.Go.OpenSpec := { _root_.Go.OpenSpec.ofChange s with cond := some uptoSmall }

/-- 'laws.FnExactTermSort', WHERE WHAT IT READS IS OF BULK AT MOST 1048576: true; the input reads as it did. -/
def fnExactTermSortUptoRow : OpenClaim := { program := "ytcbjfedhebeogae", sum := "a9e2e63293f1838aaae53b1c42b754581536fe3d8ddc2d4ea0fd0af64bd5b1f5", func := "loop.example/theorymodules/laws.FnExactTermSort", spec := "fnExactTermSort", unfollowed := true, recurses := true, apart := false, narrowed := true }
def FnExactTermSortUptoSaid : Prop := fnExactTermSortUptoRow.holds Try.pinned (OpenSpec.upto fnExactTermSortSpec)

/-- 'laws.FnExactTermsFit', WHERE WHAT IT READS IS OF BULK AT MOST 1048576: true; the input reads as it did. -/
def fnExactTermsFitUptoRow : OpenClaim := { program := "ytcbjfedhebeogae", sum := "a9e2e63293f1838aaae53b1c42b754581536fe3d8ddc2d4ea0fd0af64bd5b1f5", func := "loop.example/theorymodules/laws.FnExactTermsFit", spec := "fnExactTermsFit", unfollowed := true, recurses := true, apart := false, narrowed := true }
def FnExactTermsFitUptoSaid : Prop := fnExactTermsFitUptoRow.holds Try.pinned (OpenSpec.upto fnExactTermsFitSpec)

/-- 'laws.FnExactTermPut', WHERE WHAT IT READS IS OF BULK AT MOST 1048576: true; the input reads as it did. -/
def fnExactTermPutUptoRow : OpenClaim := { program := "ytcbjfedhebeogae", sum := "a9e2e63293f1838aaae53b1c42b754581536fe3d8ddc2d4ea0fd0af64bd5b1f5", func := "loop.example/theorymodules/laws.FnExactTermPut", spec := "fnExactTermPut", unfollowed := true, recurses := true, apart := false, narrowed := true }
def FnExactTermPutUptoSaid : Prop := fnExactTermPutUptoRow.holds Try.pinned (OpenSpec.upto fnExactTermPutSpec)

/-- 'laws.FnExactTermAt', WHERE WHAT IT READS IS OF BULK AT MOST 1048576: true; the input reads as it did. -/
def fnExactTermAtUptoRow : OpenClaim := { program := "ytcbjfedhebeogae", sum := "a9e2e63293f1838aaae53b1c42b754581536fe3d8ddc2d4ea0fd0af64bd5b1f5", func := "loop.example/theorymodules/laws.FnExactTermAt", spec := "fnExactTermAt", unfollowed := true, recurses := true, apart := false, narrowed := true }
def FnExactTermAtUptoSaid : Prop := fnExactTermAtUptoRow.holds Try.pinned (OpenSpec.upto fnExactTermAtSpec)

/-- 'laws.FnExactTermSwap', WHERE WHAT IT READS IS OF BULK AT MOST 1048576: true; the input reads as it did. -/
def fnExactTermSwapUptoRow : OpenClaim := { program := "ytcbjfedhebeogae", sum := "a9e2e63293f1838aaae53b1c42b754581536fe3d8ddc2d4ea0fd0af64bd5b1f5", func := "loop.example/theorymodules/laws.FnExactTermSwap", spec := "fnExactTermSwap", unfollowed := true, recurses := true, apart := false, narrowed := true }
def FnExactTermSwapUptoSaid : Prop := fnExactTermSwapUptoRow.holds Try.pinned (OpenSpec.upto fnExactTermSwapSpec)

/-- 'laws.FnExactMatchOf', WHERE WHAT IT READS IS OF BULK AT MOST 1048576: true; the input reads as it did. -/
def fnExactMatchOfUptoRow : OpenClaim := { program := "ytcbjfedhebeogae", sum := "a9e2e63293f1838aaae53b1c42b754581536fe3d8ddc2d4ea0fd0af64bd5b1f5", func := "loop.example/theorymodules/laws.FnExactMatchOf", spec := "fnExactMatchOf", unfollowed := true, recurses := true, apart := false, narrowed := true }
def FnExactMatchOfUptoSaid : Prop := fnExactMatchOfUptoRow.holds Try.pinned (OpenSpec.upto fnExactMatchOfSpec)

end Rows
end Go.Proofs.Ytcbjfedhebeogae
