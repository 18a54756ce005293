/-
  No cell of these rows narrows 'for every input' (looked for: loops, veiled, ifaces, maps, wideKeys, modest, calm, conditions, laid).
  DERIVED. THE GIVEN ROWS OF THIS SEAT. 6 by the template 'for every input the law returns true; each argument reads behind the call as it read before'; 0 by the template 'total and deterministic' (their statements: YtkhabmoidpgapabTotals.lean).
  GIVEN WITH THE SEED: the statements are not yours to turn. If you find one false, say at which input.
  Laid BY PROGRAM, IN A SANDBOX (cutbox-rows.mjs): the forced cells as the released guide's own fill.sh prints them over the translation 937268b364db9e99… (all of the seat's roots in one cut). By AI agents, Wed Nov 11 2026. No macro, syntax, notation, axiom, sorry.
-/
import Derived.Test.YtkhabmoidpgapabChecked
import GoSem.Claim
import GoSem.ClaimJoined
import GoSem.ClaimMapViews
import Derived.JoinedTies
import Derived.KernelRfl
namespace Go.Proofs.Ytkhabmoidpgapab
/- THE CELL 'sum', in the pinned program and in every row, IS THE sha256 OF THE DUMP (.gsa) THAT YtkhabmoidpgapabProg.lean LOADS. Nothing in Lean hashes anything: it is a label: what it is worth is what the hold of that sum in a sandbox is worth. -/
noncomputable def Try.pinned : Pinned := { name := "ytkhabmoidpgapab", sum := "937268b364db9e9954b89f9e579a5751fe2492656a98b27fbe9c23f489596fe7", checked := Try.checked }
namespace Rows
def none {H : Type} : Left H := { results := [], args := [] }

/-- 'laws.FnMapOk': WHATEVER THE INPUT: true; the input reads as it did. -/
def fnMapOkSpec : ChangeSpec := { name := "fnMapOk", fn := fun _ => fun
  | [d] => { results := [.lit (.bool true)], args := [d] }
  | _ => none }
def fnMapOkRow : OpenClaim := { program := "ytkhabmoidpgapab", sum := "937268b364db9e9954b89f9e579a5751fe2492656a98b27fbe9c23f489596fe7", func := "loop.example/theorymodules/laws.FnMapOk", spec := "fnMapOk", apart := false }
def FnMapOkSaid : Prop := fnMapOkRow.holds Try.pinned (OpenSpec.ofChange fnMapOkSpec)

/-- ITS FALSE NEIGHBOUR: 'it returns false'. Refute it at one input. -/
def fnMapOkWrong : ChangeSpec := { name := "fnMapOk", fn := fun _ => fun
  | [d] => { results := [.lit (.bool false)], args := [d] }
  | _ => none }
def FnMapOkWrongFalsely : Prop := fnMapOkRow.holds Try.pinned (OpenSpec.ofChange fnMapOkWrong)

/-- 'laws.FnMapThen': WHATEVER THE INPUT: true; the input reads as it did. -/
def fnMapThenSpec : ChangeSpec := { name := "fnMapThen", fn := fun _ => fun
  | [d] => { results := [.lit (.bool true)], args := [d] }
  | _ => none }
def fnMapThenRow : OpenClaim := { program := "ytkhabmoidpgapab", sum := "937268b364db9e9954b89f9e579a5751fe2492656a98b27fbe9c23f489596fe7", func := "loop.example/theorymodules/laws.FnMapThen", spec := "fnMapThen", apart := false }
def FnMapThenSaid : Prop := fnMapThenRow.holds Try.pinned (OpenSpec.ofChange fnMapThenSpec)

/-- ITS FALSE NEIGHBOUR: 'it returns false'. Refute it at one input. -/
def fnMapThenWrong : ChangeSpec := { name := "fnMapThen", fn := fun _ => fun
  | [d] => { results := [.lit (.bool false)], args := [d] }
  | _ => none }
def FnMapThenWrongFalsely : Prop := fnMapThenRow.holds Try.pinned (OpenSpec.ofChange fnMapThenWrong)

/-- 'laws.FnMapTerm': WHATEVER THE INPUT: true; the input reads as it did. -/
def fnMapTermSpec : ChangeSpec := { name := "fnMapTerm", fn := fun _ => fun
  | [d] => { results := [.lit (.bool true)], args := [d] }
  | _ => none }
def fnMapTermRow : OpenClaim := { program := "ytkhabmoidpgapab", sum := "937268b364db9e9954b89f9e579a5751fe2492656a98b27fbe9c23f489596fe7", func := "loop.example/theorymodules/laws.FnMapTerm", spec := "fnMapTerm", unfollowed := true, recurses := true, apart := false }
def FnMapTermSaid : Prop := fnMapTermRow.holds Try.pinned (OpenSpec.ofChange fnMapTermSpec)

/-- ITS FALSE NEIGHBOUR: 'it returns false'. Refute it at one input. -/
def fnMapTermWrong : ChangeSpec := { name := "fnMapTerm", fn := fun _ => fun
  | [d] => { results := [.lit (.bool false)], args := [d] }
  | _ => none }
def FnMapTermWrongFalsely : Prop := fnMapTermRow.holds Try.pinned (OpenSpec.ofChange fnMapTermWrong)

/-- 'laws.FnExactModelPair': WHATEVER THE INPUT: true; the input reads as it did. -/
def fnExactModelPairSpec : ChangeSpec := { name := "fnExactModelPair", fn := fun _ => fun
  | [d1, d2, d3] => { results := [.lit (.bool true)], args := [d1, d2, d3] }
  | _ => none }
def fnExactModelPairRow : OpenClaim := { program := "ytkhabmoidpgapab", sum := "937268b364db9e9954b89f9e579a5751fe2492656a98b27fbe9c23f489596fe7", func := "loop.example/theorymodules/laws.FnExactModelPair", spec := "fnExactModelPair", unfollowed := true, recurses := true, apart := false }
def FnExactModelPairSaid : Prop := fnExactModelPairRow.holds Try.pinned (OpenSpec.ofChange fnExactModelPairSpec)

/-- ITS FALSE NEIGHBOUR: 'it returns false'. Refute it at one input. -/
def fnExactModelPairWrong : ChangeSpec := { name := "fnExactModelPair", fn := fun _ => fun
  | [d1, d2, d3] => { results := [.lit (.bool false)], args := [d1, d2, d3] }
  | _ => none }
def FnExactModelPairWrongFalsely : Prop := fnExactModelPairRow.holds Try.pinned (OpenSpec.ofChange fnExactModelPairWrong)

/-- 'laws.FnExactPartModel': WHATEVER THE INPUT: true; the input reads as it did. -/
def fnExactPartModelSpec : ChangeSpec := { name := "fnExactPartModel", fn := fun _ => fun
  | [d1, d2, d3] => { results := [.lit (.bool true)], args := [d1, d2, d3] }
  | _ => none }
def fnExactPartModelRow : OpenClaim := { program := "ytkhabmoidpgapab", sum := "937268b364db9e9954b89f9e579a5751fe2492656a98b27fbe9c23f489596fe7", func := "loop.example/theorymodules/laws.FnExactPartModel", spec := "fnExactPartModel", unfollowed := true, recurses := true, apart := false }
def FnExactPartModelSaid : Prop := fnExactPartModelRow.holds Try.pinned (OpenSpec.ofChange fnExactPartModelSpec)

/-- ITS FALSE NEIGHBOUR: 'it returns false'. Refute it at one input. -/
def fnExactPartModelWrong : ChangeSpec := { name := "fnExactPartModel", fn := fun _ => fun
  | [d1, d2, d3] => { results := [.lit (.bool false)], args := [d1, d2, d3] }
  | _ => none }
def FnExactPartModelWrongFalsely : Prop := fnExactPartModelRow.holds Try.pinned (OpenSpec.ofChange fnExactPartModelWrong)

/-- 'laws.FnExactQuotientOf': WHATEVER THE INPUT: true; the input reads as it did. -/
def fnExactQuotientOfSpec : ChangeSpec := { name := "fnExactQuotientOf", fn := fun _ => fun
  | [d1, d2, d3] => { results := [.lit (.bool true)], args := [d1, d2, d3] }
  | _ => none }
def fnExactQuotientOfRow : OpenClaim := { program := "ytkhabmoidpgapab", sum := "937268b364db9e9954b89f9e579a5751fe2492656a98b27fbe9c23f489596fe7", func := "loop.example/theorymodules/laws.FnExactQuotientOf", spec := "fnExactQuotientOf", unfollowed := true, recurses := true, apart := false }
def FnExactQuotientOfSaid : Prop := fnExactQuotientOfRow.holds Try.pinned (OpenSpec.ofChange fnExactQuotientOfSpec)

/-- ITS FALSE NEIGHBOUR: 'it returns false'. Refute it at one input. -/
def fnExactQuotientOfWrong : ChangeSpec := { name := "fnExactQuotientOf", fn := fun _ => fun
  | [d1, d2, d3] => { results := [.lit (.bool false)], args := [d1, d2, d3] }
  | _ => none }
def FnExactQuotientOfWrongFalsely : Prop := fnExactQuotientOfRow.holds Try.pinned (OpenSpec.ofChange fnExactQuotientOfWrong)

/- THE SECOND FORM. 'bulk': how many values and letters a reading holds, each counted each time it is reached (what is shared counts as often as it is met; a slice's spare places count too). A statement '..UptoSaid' is the law's where the arguments, and the package variables that the reading takes, are together of bulk at most 1048576: NARROWER than '..Said'. Prove '..Said' where nothing that the law and all that it calls make is longer than what came in: it says more and counts as full. Else prove '..UptoSaid'. A law counts once. -/
mutual
def uptoBulk {H : Type} : DataW H → Nat
  | .lit (.string bytes) => bytes.length + 1
  | .lit _ => 1
  | .nil => 1
  | .ptr d => uptoBulk d + 1
  | .slice elems spare => uptoBulkAll elems + uptoBulkAll spare + 1
  | .agg parts => uptoBulkAll parts + 1
  | .iface _ d => uptoBulk d + 1
  | .map entries => uptoBulkEntries entries + 1
  | .held _ => 1
def uptoBulkAll {H : Type} : List (DataW H) → Nat
  | [] => 0
  | d :: r => uptoBulk d + uptoBulkAll r
def uptoBulkEntries {H : Type} : List (Lit × DataW H) → Nat
  | [] => 0
  | x :: r => uptoBulkEntry x + uptoBulkEntries r
def uptoBulkEntry {H : Type} : Lit × DataW H → Nat
  | (.string bytes, d) => bytes.length + uptoBulk d + 1
  | (_, d) => uptoBulk d + 1
 end
def uptoSmall : (H : Type) → List (DataW H) → Bool := fun _ ds => decide (uptoBulkAll ds ≤ 1048576)
def OpenSpec.upto (s : _root_.Go.ChangeSpec) : _root_.Go.OpenSpec := { _root_.Go.OpenSpec.ofChange s with cond := some uptoSmall }

/-- 'laws.FnMapOk', WHERE WHAT IT READS IS OF BULK AT MOST 1048576: true; the input reads as it did. -/
def fnMapOkUptoRow : OpenClaim := { program := "ytkhabmoidpgapab", sum := "937268b364db9e9954b89f9e579a5751fe2492656a98b27fbe9c23f489596fe7", func := "loop.example/theorymodules/laws.FnMapOk", spec := "fnMapOk", apart := false, narrowed := true }
def FnMapOkUptoSaid : Prop := fnMapOkUptoRow.holds Try.pinned (OpenSpec.upto fnMapOkSpec)

/-- 'laws.FnMapThen', WHERE WHAT IT READS IS OF BULK AT MOST 1048576: true; the input reads as it did. -/
def fnMapThenUptoRow : OpenClaim := { program := "ytkhabmoidpgapab", sum := "937268b364db9e9954b89f9e579a5751fe2492656a98b27fbe9c23f489596fe7", func := "loop.example/theorymodules/laws.FnMapThen", spec := "fnMapThen", apart := false, narrowed := true }
def FnMapThenUptoSaid : Prop := fnMapThenUptoRow.holds Try.pinned (OpenSpec.upto fnMapThenSpec)

/-- 'laws.FnMapTerm', WHERE WHAT IT READS IS OF BULK AT MOST 1048576: true; the input reads as it did. -/
def fnMapTermUptoRow : OpenClaim := { program := "ytkhabmoidpgapab", sum := "937268b364db9e9954b89f9e579a5751fe2492656a98b27fbe9c23f489596fe7", func := "loop.example/theorymodules/laws.FnMapTerm", spec := "fnMapTerm", unfollowed := true, recurses := true, apart := false, narrowed := true }
def FnMapTermUptoSaid : Prop := fnMapTermUptoRow.holds Try.pinned (OpenSpec.upto fnMapTermSpec)

/-- 'laws.FnExactModelPair', WHERE WHAT IT READS IS OF BULK AT MOST 1048576: true; the input reads as it did. -/
def fnExactModelPairUptoRow : OpenClaim := { program := "ytkhabmoidpgapab", sum := "937268b364db9e9954b89f9e579a5751fe2492656a98b27fbe9c23f489596fe7", func := "loop.example/theorymodules/laws.FnExactModelPair", spec := "fnExactModelPair", unfollowed := true, recurses := true, apart := false, narrowed := true }
def FnExactModelPairUptoSaid : Prop := fnExactModelPairUptoRow.holds Try.pinned (OpenSpec.upto fnExactModelPairSpec)

/-- 'laws.FnExactPartModel', WHERE WHAT IT READS IS OF BULK AT MOST 1048576: true; the input reads as it did. -/
def fnExactPartModelUptoRow : OpenClaim := { program := "ytkhabmoidpgapab", sum := "937268b364db9e9954b89f9e579a5751fe2492656a98b27fbe9c23f489596fe7", func := "loop.example/theorymodules/laws.FnExactPartModel", spec := "fnExactPartModel", unfollowed := true, recurses := true, apart := false, narrowed := true }
def FnExactPartModelUptoSaid : Prop := fnExactPartModelUptoRow.holds Try.pinned (OpenSpec.upto fnExactPartModelSpec)

/-- 'laws.FnExactQuotientOf', WHERE WHAT IT READS IS OF BULK AT MOST 1048576: true; the input reads as it did. -/
def fnExactQuotientOfUptoRow : OpenClaim := { program := "ytkhabmoidpgapab", sum := "937268b364db9e9954b89f9e579a5751fe2492656a98b27fbe9c23f489596fe7", func := "loop.example/theorymodules/laws.FnExactQuotientOf", spec := "fnExactQuotientOf", unfollowed := true, recurses := true, apart := false, narrowed := true }
def FnExactQuotientOfUptoSaid : Prop := fnExactQuotientOfUptoRow.holds Try.pinned (OpenSpec.upto fnExactQuotientOfSpec)

end Rows
end Go.Proofs.Ytkhabmoidpgapab
