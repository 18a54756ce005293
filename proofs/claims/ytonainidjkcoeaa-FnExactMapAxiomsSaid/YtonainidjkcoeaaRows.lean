/-
  No cell of these rows narrows 'for every input' (looked for: loops, veiled, ifaces, maps, wideKeys, modest, calm, conditions, laid).
  DERIVED. THE GIVEN ROWS OF THIS SEAT. 6 by the template 'for every input the law returns true; each argument reads behind the call as it read before'; 0 by the template 'total and deterministic' (their statements: YtonainidjkcoeaaTotals.lean).
  GIVEN WITH THE SEED: the statements are not yours to turn. If you find one false, say at which input.
  Laid BY PROGRAM, IN A SANDBOX (cutbox-rows.mjs): the forced cells as the released guide's own fill.sh prints them over the translation 7d5fc9c7da3163f9… (all of the seat's roots in one cut). By AI agents, Wed Nov 11 2026. No macro, syntax, notation, axiom, sorry.
-/
import Derived.Test.YtonainidjkcoeaaChecked
import GoSem.Claim
import GoSem.ClaimJoined
import GoSem.ClaimMapViews
import Derived.JoinedTies
import Derived.KernelRfl
namespace Go.Proofs.Ytonainidjkcoeaa
/- THE CELL 'sum', in the pinned program and in every row, IS THE sha256 OF THE DUMP (.gsa) THAT YtonainidjkcoeaaProg.lean LOADS. Nothing in Lean hashes anything: it is a label: what it is worth is what the hold of that sum in a sandbox is worth. -/
noncomputable def Try.pinned : Pinned := { name := "ytonainidjkcoeaa", sum := "7d5fc9c7da3163f94ade620f7a4b7d2a16612261ae3b3130d6df0ff3d5622376", checked := Try.checked }
namespace Rows
def none {H : Type} : Left H := { results := [], args := [] }

/-- 'laws.FnExactMapOk': WHATEVER THE INPUT: true; the input reads as it did. -/
def fnExactMapOkSpec : ChangeSpec := { name := "fnExactMapOk", fn := fun _ => fun
  | [d1, d2, d3] => { results := [.lit (.bool true)], args := [d1, d2, d3] }
  | _ => none }
def fnExactMapOkRow : OpenClaim := { program := "ytonainidjkcoeaa", sum := "7d5fc9c7da3163f94ade620f7a4b7d2a16612261ae3b3130d6df0ff3d5622376", func := "loop.example/theorymodules/laws.FnExactMapOk", spec := "fnExactMapOk", apart := false }
def FnExactMapOkSaid : Prop := fnExactMapOkRow.holds Try.pinned (OpenSpec.ofChange fnExactMapOkSpec)

/-- ITS FALSE NEIGHBOUR: 'it returns false'. Refute it at one input. -/
def fnExactMapOkWrong : ChangeSpec := { name := "fnExactMapOk", fn := fun _ => fun
  | [d1, d2, d3] => { results := [.lit (.bool false)], args := [d1, d2, d3] }
  | _ => none }
def FnExactMapOkWrongFalsely : Prop := fnExactMapOkRow.holds Try.pinned (OpenSpec.ofChange fnExactMapOkWrong)

/-- 'laws.FnExactMapSelf': WHATEVER THE INPUT: true; the input reads as it did. -/
def fnExactMapSelfSpec : ChangeSpec := { name := "fnExactMapSelf", fn := fun _ => fun
  | [d] => { results := [.lit (.bool true)], args := [d] }
  | _ => none }
def fnExactMapSelfRow : OpenClaim := { program := "ytonainidjkcoeaa", sum := "7d5fc9c7da3163f94ade620f7a4b7d2a16612261ae3b3130d6df0ff3d5622376", func := "loop.example/theorymodules/laws.FnExactMapSelf", spec := "fnExactMapSelf", apart := false }
def FnExactMapSelfSaid : Prop := fnExactMapSelfRow.holds Try.pinned (OpenSpec.ofChange fnExactMapSelfSpec)

/-- ITS FALSE NEIGHBOUR: 'it returns false'. Refute it at one input. -/
def fnExactMapSelfWrong : ChangeSpec := { name := "fnExactMapSelf", fn := fun _ => fun
  | [d] => { results := [.lit (.bool false)], args := [d] }
  | _ => none }
def FnExactMapSelfWrongFalsely : Prop := fnExactMapSelfRow.holds Try.pinned (OpenSpec.ofChange fnExactMapSelfWrong)

/-- 'laws.FnExactMapThen': WHATEVER THE INPUT: true; the input reads as it did. -/
def fnExactMapThenSpec : ChangeSpec := { name := "fnExactMapThen", fn := fun _ => fun
  | [d1, d2, d3, d4, d5] => { results := [.lit (.bool true)], args := [d1, d2, d3, d4, d5] }
  | _ => none }
def fnExactMapThenRow : OpenClaim := { program := "ytonainidjkcoeaa", sum := "7d5fc9c7da3163f94ade620f7a4b7d2a16612261ae3b3130d6df0ff3d5622376", func := "loop.example/theorymodules/laws.FnExactMapThen", spec := "fnExactMapThen", apart := false }
def FnExactMapThenSaid : Prop := fnExactMapThenRow.holds Try.pinned (OpenSpec.ofChange fnExactMapThenSpec)

/-- ITS FALSE NEIGHBOUR: 'it returns false'. Refute it at one input. -/
def fnExactMapThenWrong : ChangeSpec := { name := "fnExactMapThen", fn := fun _ => fun
  | [d1, d2, d3, d4, d5] => { results := [.lit (.bool false)], args := [d1, d2, d3, d4, d5] }
  | _ => none }
def FnExactMapThenWrongFalsely : Prop := fnExactMapThenRow.holds Try.pinned (OpenSpec.ofChange fnExactMapThenWrong)

/-- 'laws.FnExactMapTerm': WHATEVER THE INPUT: true; the input reads as it did. -/
def fnExactMapTermSpec : ChangeSpec := { name := "fnExactMapTerm", fn := fun _ => fun
  | [d1, d2, d3, d4, d5] => { results := [.lit (.bool true)], args := [d1, d2, d3, d4, d5] }
  | _ => none }
def fnExactMapTermRow : OpenClaim := { program := "ytonainidjkcoeaa", sum := "7d5fc9c7da3163f94ade620f7a4b7d2a16612261ae3b3130d6df0ff3d5622376", func := "loop.example/theorymodules/laws.FnExactMapTerm", spec := "fnExactMapTerm", unfollowed := true, recurses := true, apart := false }
def FnExactMapTermSaid : Prop := fnExactMapTermRow.holds Try.pinned (OpenSpec.ofChange fnExactMapTermSpec)

/-- ITS FALSE NEIGHBOUR: 'it returns false'. Refute it at one input. -/
def fnExactMapTermWrong : ChangeSpec := { name := "fnExactMapTerm", fn := fun _ => fun
  | [d1, d2, d3, d4, d5] => { results := [.lit (.bool false)], args := [d1, d2, d3, d4, d5] }
  | _ => none }
def FnExactMapTermWrongFalsely : Prop := fnExactMapTermRow.holds Try.pinned (OpenSpec.ofChange fnExactMapTermWrong)

/-- 'laws.FnExactMapEq': WHATEVER THE INPUT: true; the input reads as it did. -/
def fnExactMapEqSpec : ChangeSpec := { name := "fnExactMapEq", fn := fun _ => fun
  | [d1, d2, d3, d4] => { results := [.lit (.bool true)], args := [d1, d2, d3, d4] }
  | _ => none }
def fnExactMapEqRow : OpenClaim := { program := "ytonainidjkcoeaa", sum := "7d5fc9c7da3163f94ade620f7a4b7d2a16612261ae3b3130d6df0ff3d5622376", func := "loop.example/theorymodules/laws.FnExactMapEq", spec := "fnExactMapEq", unfollowed := true, recurses := true, apart := false }
def FnExactMapEqSaid : Prop := fnExactMapEqRow.holds Try.pinned (OpenSpec.ofChange fnExactMapEqSpec)

/-- ITS FALSE NEIGHBOUR: 'it returns false'. Refute it at one input. -/
def fnExactMapEqWrong : ChangeSpec := { name := "fnExactMapEq", fn := fun _ => fun
  | [d1, d2, d3, d4] => { results := [.lit (.bool false)], args := [d1, d2, d3, d4] }
  | _ => none }
def FnExactMapEqWrongFalsely : Prop := fnExactMapEqRow.holds Try.pinned (OpenSpec.ofChange fnExactMapEqWrong)

/-- 'laws.FnExactMapAxioms': WHATEVER THE INPUT: true; the input reads as it did. -/
def fnExactMapAxiomsSpec : ChangeSpec := { name := "fnExactMapAxioms", fn := fun _ => fun
  | [d1, d2, d3] => { results := [.lit (.bool true)], args := [d1, d2, d3] }
  | _ => none }
def fnExactMapAxiomsRow : OpenClaim := { program := "ytonainidjkcoeaa", sum := "7d5fc9c7da3163f94ade620f7a4b7d2a16612261ae3b3130d6df0ff3d5622376", func := "loop.example/theorymodules/laws.FnExactMapAxioms", spec := "fnExactMapAxioms", unfollowed := true, recurses := true, apart := false }
def FnExactMapAxiomsSaid : Prop := fnExactMapAxiomsRow.holds Try.pinned (OpenSpec.ofChange fnExactMapAxiomsSpec)

/-- ITS FALSE NEIGHBOUR: 'it returns false'. Refute it at one input. -/
def fnExactMapAxiomsWrong : ChangeSpec := { name := "fnExactMapAxioms", fn := fun _ => fun
  | [d1, d2, d3] => { results := [.lit (.bool false)], args := [d1, d2, d3] }
  | _ => none }
def FnExactMapAxiomsWrongFalsely : Prop := fnExactMapAxiomsRow.holds Try.pinned (OpenSpec.ofChange fnExactMapAxiomsWrong)

/- THE SECOND FORM. 'bulk': how many values and letters a reading holds, each counted each time it is reached (what is shared counts as often as it is met; a slice's spare places count too). A statement '..UptoSaid' is the law's where the arguments, and the package variables that the reading takes, are together of bulk at most 1048576: NARROWER than '..Said'. Prove '..Said' where nothing that the law and all that it calls make is longer than what came in: it says more and counts as full. Else prove '..UptoSaid'. A law counts once. -/
mutual
def uptoBulk {H : Type} : DataW H → Nat
  | .lit (.string bytes) => bytes.length + 1
  | .lit _ => 1
  | .nil => 1
  | .ptr d => uptoBulk d + 1
  | .slice elems spare => uptoBulkAll elems + uptoBulkAll spare + 1
  | .agg parts => uptoBulkAll parts + 1
  | .iface _ d => uptoBulk d + 1
  | .map entries => uptoBulkEntries entries + 1
  | .held _ => 1
def uptoBulkAll {H : Type} : List (DataW H) → Nat
  | [] => 0
  | d :: r => uptoBulk d + uptoBulkAll r
def uptoBulkEntries {H : Type} : List (Lit × DataW H) → Nat
  | [] => 0
  | x :: r => uptoBulkEntry x + uptoBulkEntries r
def uptoBulkEntry {H : Type} : Lit × DataW H → Nat
  | (.string bytes, d) => bytes.length + uptoBulk d + 1
  | (_, d) => uptoBulk d + 1
 end
def uptoSmall : (H : Type) → List (DataW H) → Bool := fun _ ds => decide (uptoBulkAll ds ≤ 1048576)
def OpenSpec.upto (s : _root_.Go.ChangeSpec) : _root_.Go.OpenSpec := { _root_.Go.OpenSpec.ofChange s with cond := some uptoSmall }

/-- 'laws.FnExactMapOk', WHERE WHAT IT READS IS OF BULK AT MOST 1048576: true; the input reads as it did. -/
def fnExactMapOkUptoRow : OpenClaim := { program := "ytonainidjkcoeaa", sum := "7d5fc9c7da3163f94ade620f7a4b7d2a16612261ae3b3130d6df0ff3d5622376", func := "loop.example/theorymodules/laws.FnExactMapOk", spec := "fnExactMapOk", apart := false, narrowed := true }
def FnExactMapOkUptoSaid : Prop := fnExactMapOkUptoRow.holds Try.pinned (OpenSpec.upto fnExactMapOkSpec)

/-- 'laws.FnExactMapSelf', WHERE WHAT IT READS IS OF BULK AT MOST 1048576: true; the input reads as it did. -/
def fnExactMapSelfUptoRow : OpenClaim := { program := "ytonainidjkcoeaa", sum := "7d5fc9c7da3163f94ade620f7a4b7d2a16612261ae3b3130d6df0ff3d5622376", func := "loop.example/theorymodules/laws.FnExactMapSelf", spec := "fnExactMapSelf", apart := false, narrowed := true }
def FnExactMapSelfUptoSaid : Prop := fnExactMapSelfUptoRow.holds Try.pinned (OpenSpec.upto fnExactMapSelfSpec)

/-- 'laws.FnExactMapThen', WHERE WHAT IT READS IS OF BULK AT MOST 1048576: true; the input reads as it did. -/
def fnExactMapThenUptoRow : OpenClaim := { program := "ytonainidjkcoeaa", sum := "7d5fc9c7da3163f94ade620f7a4b7d2a16612261ae3b3130d6df0ff3d5622376", func := "loop.example/theorymodules/laws.FnExactMapThen", spec := "fnExactMapThen", apart := false, narrowed := true }
def FnExactMapThenUptoSaid : Prop := fnExactMapThenUptoRow.holds Try.pinned (OpenSpec.upto fnExactMapThenSpec)

/-- 'laws.FnExactMapTerm', WHERE WHAT IT READS IS OF BULK AT MOST 1048576: true; the input reads as it did. -/
def fnExactMapTermUptoRow : OpenClaim := { program := "ytonainidjkcoeaa", sum := "7d5fc9c7da3163f94ade620f7a4b7d2a16612261ae3b3130d6df0ff3d5622376", func := "loop.example/theorymodules/laws.FnExactMapTerm", spec := "fnExactMapTerm", unfollowed := true, recurses := true, apart := false, narrowed := true }
def FnExactMapTermUptoSaid : Prop := fnExactMapTermUptoRow.holds Try.pinned (OpenSpec.upto fnExactMapTermSpec)

/-- 'laws.FnExactMapEq', WHERE WHAT IT READS IS OF BULK AT MOST 1048576: true; the input reads as it did. -/
def fnExactMapEqUptoRow : OpenClaim := { program := "ytonainidjkcoeaa", sum := "7d5fc9c7da3163f94ade620f7a4b7d2a16612261ae3b3130d6df0ff3d5622376", func := "loop.example/theorymodules/laws.FnExactMapEq", spec := "fnExactMapEq", unfollowed := true, recurses := true, apart := false, narrowed := true }
def FnExactMapEqUptoSaid : Prop := fnExactMapEqUptoRow.holds Try.pinned (OpenSpec.upto fnExactMapEqSpec)

/-- 'laws.FnExactMapAxioms', WHERE WHAT IT READS IS OF BULK AT MOST 1048576: true; the input reads as it did. -/
def fnExactMapAxiomsUptoRow : OpenClaim := { program := "ytonainidjkcoeaa", sum := "7d5fc9c7da3163f94ade620f7a4b7d2a16612261ae3b3130d6df0ff3d5622376", func := "loop.example/theorymodules/laws.FnExactMapAxioms", spec := "fnExactMapAxioms", unfollowed := true, recurses := true, apart := false, narrowed := true }
def FnExactMapAxiomsUptoSaid : Prop := fnExactMapAxiomsUptoRow.holds Try.pinned (OpenSpec.upto fnExactMapAxiomsSpec)

end Rows
end Go.Proofs.Ytonainidjkcoeaa
