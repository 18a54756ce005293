/-
  No cell of these rows narrows 'for every input' (looked for: loops, veiled, ifaces, maps, wideKeys, modest, calm, conditions, laid).
  DERIVED. THE GIVEN ROWS OF THIS SEAT. 5 by the template 'for every input the law returns true; each argument reads behind the call as it read before'; 0 by the template 'total and deterministic' (their statements: YtcbjfedhebeogabTotals.lean).
  GIVEN WITH THE SEED: the statements are not yours to turn. If you find one false, say at which input.
  Laid BY PROGRAM, IN A SANDBOX (cutbox-rows.mjs): the forced cells as the released guide's own fill.sh prints them over the translation 92e9c6d36d19bbba… (all of the seat's roots in one cut). By AI agents, Wed Nov 11 2026. No macro, syntax, notation, axiom, sorry.
-/
import Derived.Test.YtcbjfedhebeogabChecked
import GoSem.Claim
import GoSem.ClaimJoined
import GoSem.ClaimMapViews
import Derived.JoinedTies
import Derived.KernelRfl
namespace Go.Proofs.Ytcbjfedhebeogab
/- THE CELL 'sum', in the pinned program and in every row, IS THE sha256 OF THE DUMP (.gsa) THAT YtcbjfedhebeogabProg.lean LOADS. Nothing in Lean hashes anything: it is a label: what it is worth is what the hold of that sum in a sandbox is worth. -/
noncomputable def Try.pinned : Pinned := { name := "ytcbjfedhebeogab", sum := "92e9c6d36d19bbba34a2168a8f55f36a1365472c2235c1b84f729c9168bec01a", checked := Try.checked }
namespace Rows
def none {H : Type} : Left H := { results := [], args := [] }

/-- 'laws.FnVarsOk': WHATEVER THE INPUT: true; the input reads as it did. -/
def fnVarsOkSpec : ChangeSpec := { name := "fnVarsOk", fn := fun _ => fun
  | [d] => { results := [.lit (.bool true)], args := [d] }
  | _ => none }
def fnVarsOkRow : OpenClaim := { program := "ytcbjfedhebeogab", sum := "92e9c6d36d19bbba34a2168a8f55f36a1365472c2235c1b84f729c9168bec01a", func := "loop.example/theorymodules/laws.FnVarsOk", spec := "fnVarsOk", apart := false }
def FnVarsOkSaid : Prop := fnVarsOkRow.holds Try.pinned (OpenSpec.ofChange fnVarsOkSpec)

/-- ITS FALSE NEIGHBOUR: 'it returns false'. Refute it at one input. -/
def fnVarsOkWrong : ChangeSpec := { name := "fnVarsOk", fn := fun _ => fun
  | [d] => { results := [.lit (.bool false)], args := [d] }
  | _ => none }
def FnVarsOkWrongFalsely : Prop := fnVarsOkRow.holds Try.pinned (OpenSpec.ofChange fnVarsOkWrong)

/-- 'laws.FnTermSort': WHATEVER THE INPUT: true; the input reads as it did. -/
def fnTermSortSpec : ChangeSpec := { name := "fnTermSort", fn := fun _ => fun
  | [d] => { results := [.lit (.bool true)], args := [d] }
  | _ => none }
def fnTermSortRow : OpenClaim := { program := "ytcbjfedhebeogab", sum := "92e9c6d36d19bbba34a2168a8f55f36a1365472c2235c1b84f729c9168bec01a", func := "loop.example/theorymodules/laws.FnTermSort", spec := "fnTermSort", unfollowed := true, recurses := true, apart := false }
def FnTermSortSaid : Prop := fnTermSortRow.holds Try.pinned (OpenSpec.ofChange fnTermSortSpec)

/-- ITS FALSE NEIGHBOUR: 'it returns false'. Refute it at one input. -/
def fnTermSortWrong : ChangeSpec := { name := "fnTermSort", fn := fun _ => fun
  | [d] => { results := [.lit (.bool false)], args := [d] }
  | _ => none }
def FnTermSortWrongFalsely : Prop := fnTermSortRow.holds Try.pinned (OpenSpec.ofChange fnTermSortWrong)

/-- 'laws.FnTermsFit': WHATEVER THE INPUT: true; the input reads as it did. -/
def fnTermsFitSpec : ChangeSpec := { name := "fnTermsFit", fn := fun _ => fun
  | [d] => { results := [.lit (.bool true)], args := [d] }
  | _ => none }
def fnTermsFitRow : OpenClaim := { program := "ytcbjfedhebeogab", sum := "92e9c6d36d19bbba34a2168a8f55f36a1365472c2235c1b84f729c9168bec01a", func := "loop.example/theorymodules/laws.FnTermsFit", spec := "fnTermsFit", unfollowed := true, recurses := true, apart := false }
def FnTermsFitSaid : Prop := fnTermsFitRow.holds Try.pinned (OpenSpec.ofChange fnTermsFitSpec)

/-- ITS FALSE NEIGHBOUR: 'it returns false'. Refute it at one input. -/
def fnTermsFitWrong : ChangeSpec := { name := "fnTermsFit", fn := fun _ => fun
  | [d] => { results := [.lit (.bool false)], args := [d] }
  | _ => none }
def FnTermsFitWrongFalsely : Prop := fnTermsFitRow.holds Try.pinned (OpenSpec.ofChange fnTermsFitWrong)

/-- 'laws.FnTermPut': WHATEVER THE INPUT: true; the input reads as it did. -/
def fnTermPutSpec : ChangeSpec := { name := "fnTermPut", fn := fun _ => fun
  | [d] => { results := [.lit (.bool true)], args := [d] }
  | _ => none }
def fnTermPutRow : OpenClaim := { program := "ytcbjfedhebeogab", sum := "92e9c6d36d19bbba34a2168a8f55f36a1365472c2235c1b84f729c9168bec01a", func := "loop.example/theorymodules/laws.FnTermPut", spec := "fnTermPut", unfollowed := true, recurses := true, apart := false }
def FnTermPutSaid : Prop := fnTermPutRow.holds Try.pinned (OpenSpec.ofChange fnTermPutSpec)

/-- ITS FALSE NEIGHBOUR: 'it returns false'. Refute it at one input. -/
def fnTermPutWrong : ChangeSpec := { name := "fnTermPut", fn := fun _ => fun
  | [d] => { results := [.lit (.bool false)], args := [d] }
  | _ => none }
def FnTermPutWrongFalsely : Prop := fnTermPutRow.holds Try.pinned (OpenSpec.ofChange fnTermPutWrong)

/-- 'laws.FnTermAt': WHATEVER THE INPUT: true; the input reads as it did. -/
def fnTermAtSpec : ChangeSpec := { name := "fnTermAt", fn := fun _ => fun
  | [d] => { results := [.lit (.bool true)], args := [d] }
  | _ => none }
def fnTermAtRow : OpenClaim := { program := "ytcbjfedhebeogab", sum := "92e9c6d36d19bbba34a2168a8f55f36a1365472c2235c1b84f729c9168bec01a", func := "loop.example/theorymodules/laws.FnTermAt", spec := "fnTermAt", unfollowed := true, recurses := true, apart := false }
def FnTermAtSaid : Prop := fnTermAtRow.holds Try.pinned (OpenSpec.ofChange fnTermAtSpec)

/-- ITS FALSE NEIGHBOUR: 'it returns false'. Refute it at one input. -/
def fnTermAtWrong : ChangeSpec := { name := "fnTermAt", fn := fun _ => fun
  | [d] => { results := [.lit (.bool false)], args := [d] }
  | _ => none }
def FnTermAtWrongFalsely : Prop := fnTermAtRow.holds Try.pinned (OpenSpec.ofChange fnTermAtWrong)

/- THE SECOND FORM. 'bulk': how many values and letters a reading holds, each counted each time it is reached (what is shared counts as often as it is met; a slice's spare places count too). A statement '..UptoSaid' is the law's where the arguments, and the package variables that the reading takes, are together of bulk at most 1048576: NARROWER than '..Said'. Prove '..Said' where nothing that the law and all that it calls make is longer than what came in: it says more and counts as full. Else prove '..UptoSaid'. A law counts once. -/
mutual
def uptoBulk {H : Type} : DataW H → Nat
  | .lit (.string bytes) => bytes.length + 1
  | .lit _ => 1
  | .nil => 1
  | .ptr d => uptoBulk d + 1
  | .slice elems spare => uptoBulkAll elems + uptoBulkAll spare + 1
  | .agg parts => uptoBulkAll parts + 1
  | .iface _ d => uptoBulk d + 1
  | .map entries => uptoBulkEntries entries + 1
  | .held _ => 1
def uptoBulkAll {H : Type} : List (DataW H) → Nat
  | [] => 0
  | d :: r => uptoBulk d + uptoBulkAll r
def uptoBulkEntries {H : Type} : List (Lit × DataW H) → Nat
  | [] => 0
  | x :: r => uptoBulkEntry x + uptoBulkEntries r
def uptoBulkEntry {H : Type} : Lit × DataW H → Nat
  | (.string bytes, d) => bytes.length + uptoBulk d + 1
  | (_, d) => uptoBulk d + 1
 end
def uptoSmall : (H : Type) → List (DataW H) → Bool := fun _ ds => decide (uptoBulkAll ds ≤ 1048576)
def OpenSpec.upto (s : _root_.Go.ChangeSpec) : _root_.Go.OpenSpec := { _root_.Go.OpenSpec.ofChange s with cond := some uptoSmall }

/-- 'laws.FnVarsOk', WHERE WHAT IT READS IS OF BULK AT MOST 1048576: true; the input reads as it did. -/
def fnVarsOkUptoRow : OpenClaim := { program := "ytcbjfedhebeogab", sum := "92e9c6d36d19bbba34a2168a8f55f36a1365472c2235c1b84f729c9168bec01a", func := "loop.example/theorymodules/laws.FnVarsOk", spec := "fnVarsOk", apart := false, narrowed := true }
def FnVarsOkUptoSaid : Prop := fnVarsOkUptoRow.holds Try.pinned (OpenSpec.upto fnVarsOkSpec)

/-- 'laws.FnTermSort', WHERE WHAT IT READS IS OF BULK AT MOST 1048576: true; the input reads as it did. -/
def fnTermSortUptoRow : OpenClaim := { program := "ytcbjfedhebeogab", sum := "92e9c6d36d19bbba34a2168a8f55f36a1365472c2235c1b84f729c9168bec01a", func := "loop.example/theorymodules/laws.FnTermSort", spec := "fnTermSort", unfollowed := true, recurses := true, apart := false, narrowed := true }
def FnTermSortUptoSaid : Prop := fnTermSortUptoRow.holds Try.pinned (OpenSpec.upto fnTermSortSpec)

/-- 'laws.FnTermsFit', WHERE WHAT IT READS IS OF BULK AT MOST 1048576: true; the input reads as it did. -/
def fnTermsFitUptoRow : OpenClaim := { program := "ytcbjfedhebeogab", sum := "92e9c6d36d19bbba34a2168a8f55f36a1365472c2235c1b84f729c9168bec01a", func := "loop.example/theorymodules/laws.FnTermsFit", spec := "fnTermsFit", unfollowed := true, recurses := true, apart := false, narrowed := true }
def FnTermsFitUptoSaid : Prop := fnTermsFitUptoRow.holds Try.pinned (OpenSpec.upto fnTermsFitSpec)

/-- 'laws.FnTermPut', WHERE WHAT IT READS IS OF BULK AT MOST 1048576: true; the input reads as it did. -/
def fnTermPutUptoRow : OpenClaim := { program := "ytcbjfedhebeogab", sum := "92e9c6d36d19bbba34a2168a8f55f36a1365472c2235c1b84f729c9168bec01a", func := "loop.example/theorymodules/laws.FnTermPut", spec := "fnTermPut", unfollowed := true, recurses := true, apart := false, narrowed := true }
def FnTermPutUptoSaid : Prop := fnTermPutUptoRow.holds Try.pinned (OpenSpec.upto fnTermPutSpec)

/-- 'laws.FnTermAt', WHERE WHAT IT READS IS OF BULK AT MOST 1048576: true; the input reads as it did. -/
def fnTermAtUptoRow : OpenClaim := { program := "ytcbjfedhebeogab", sum := "92e9c6d36d19bbba34a2168a8f55f36a1365472c2235c1b84f729c9168bec01a", func := "loop.example/theorymodules/laws.FnTermAt", spec := "fnTermAt", unfollowed := true, recurses := true, apart := false, narrowed := true }
def FnTermAtUptoSaid : Prop := fnTermAtUptoRow.holds Try.pinned (OpenSpec.upto fnTermAtSpec)

end Rows
end Go.Proofs.Ytcbjfedhebeogab
