/-
  No cell of these rows narrows 'for every input' (looked for: loops, veiled, ifaces, maps, wideKeys, modest, calm, conditions, laid).
  DERIVED. THE GIVEN ROWS OF THIS SEAT. 4 by the template 'for every input the law returns true; each argument reads behind the call as it read before'; 0 by the template 'total and deterministic' (their statements: YtbopcghbmbchkaaTotals.lean).
  GIVEN WITH THE SEED: the statements are not yours to turn. If you find one false, say at which input.
  Laid BY PROGRAM, IN A SANDBOX (cutbox-rows.mjs): the forced cells as the released guide's own fill.sh prints them over the translation 27b3b82a0f9668c3… (all of the seat's roots in one cut). By AI agents, Wed Nov 11 2026. No macro, syntax, notation, axiom, sorry.
-/
import Derived.Test.YtbopcghbmbchkaaChecked
import GoSem.Claim
import GoSem.ClaimJoined
import GoSem.ClaimMapViews
import Derived.JoinedTies
import Derived.KernelRfl
namespace Go.Proofs.Ytbopcghbmbchkaa
/- THE CELL 'sum', in the pinned program and in every row, IS THE sha256 OF THE DUMP (.gsa) THAT YtbopcghbmbchkaaProg.lean LOADS. Nothing in Lean hashes anything: it is a label: what it is worth is what the hold of that sum in a sandbox is worth. -/
noncomputable def Try.pinned : Pinned := { name := "ytbopcghbmbchkaa", sum := "27b3b82a0f9668c34c730c812468a3fefab32857e29361e61a1972bd5cad5fb6", checked := Try.checked }
namespace Rows
def none {H : Type} : Left H := { results := [], args := [] }

/-- 'laws.FnExactViewOk': WHATEVER THE INPUT: true; the input reads as it did. -/
def fnExactViewOkSpec : ChangeSpec := { name := "fnExactViewOk", fn := fun _ => fun
  | [d1, d2, d3] => { results := [.lit (.bool true)], args := [d1, d2, d3] }
  | _ => none }
def fnExactViewOkRow : OpenClaim := { program := "ytbopcghbmbchkaa", sum := "27b3b82a0f9668c34c730c812468a3fefab32857e29361e61a1972bd5cad5fb6", func := "loop.example/theorymodules/laws.FnExactViewOk", spec := "fnExactViewOk", unfollowed := true, recurses := true, apart := false }
def FnExactViewOkSaid : Prop := fnExactViewOkRow.holds Try.pinned (OpenSpec.ofChange fnExactViewOkSpec)

/-- ITS FALSE NEIGHBOUR: 'it returns false'. Refute it at one input. -/
def fnExactViewOkWrong : ChangeSpec := { name := "fnExactViewOk", fn := fun _ => fun
  | [d1, d2, d3] => { results := [.lit (.bool false)], args := [d1, d2, d3] }
  | _ => none }
def FnExactViewOkWrongFalsely : Prop := fnExactViewOkRow.holds Try.pinned (OpenSpec.ofChange fnExactViewOkWrong)

/-- 'laws.FnExactViewSelf': WHATEVER THE INPUT: true; the input reads as it did. -/
def fnExactViewSelfSpec : ChangeSpec := { name := "fnExactViewSelf", fn := fun _ => fun
  | [d] => { results := [.lit (.bool true)], args := [d] }
  | _ => none }
def fnExactViewSelfRow : OpenClaim := { program := "ytbopcghbmbchkaa", sum := "27b3b82a0f9668c34c730c812468a3fefab32857e29361e61a1972bd5cad5fb6", func := "loop.example/theorymodules/laws.FnExactViewSelf", spec := "fnExactViewSelf", unfollowed := true, recurses := true, apart := false }
def FnExactViewSelfSaid : Prop := fnExactViewSelfRow.holds Try.pinned (OpenSpec.ofChange fnExactViewSelfSpec)

/-- ITS FALSE NEIGHBOUR: 'it returns false'. Refute it at one input. -/
def fnExactViewSelfWrong : ChangeSpec := { name := "fnExactViewSelf", fn := fun _ => fun
  | [d] => { results := [.lit (.bool false)], args := [d] }
  | _ => none }
def FnExactViewSelfWrongFalsely : Prop := fnExactViewSelfRow.holds Try.pinned (OpenSpec.ofChange fnExactViewSelfWrong)

/-- 'laws.FnExactProofPut': WHATEVER THE INPUT: true; the input reads as it did. -/
def fnExactProofPutSpec : ChangeSpec := { name := "fnExactProofPut", fn := fun _ => fun
  | [d1, d2, d3, d4, d5] => { results := [.lit (.bool true)], args := [d1, d2, d3, d4, d5] }
  | _ => none }
def fnExactProofPutRow : OpenClaim := { program := "ytbopcghbmbchkaa", sum := "27b3b82a0f9668c34c730c812468a3fefab32857e29361e61a1972bd5cad5fb6", func := "loop.example/theorymodules/laws.FnExactProofPut", spec := "fnExactProofPut", unfollowed := true, recurses := true, apart := false }
def FnExactProofPutSaid : Prop := fnExactProofPutRow.holds Try.pinned (OpenSpec.ofChange fnExactProofPutSpec)

/-- ITS FALSE NEIGHBOUR: 'it returns false'. Refute it at one input. -/
def fnExactProofPutWrong : ChangeSpec := { name := "fnExactProofPut", fn := fun _ => fun
  | [d1, d2, d3, d4, d5] => { results := [.lit (.bool false)], args := [d1, d2, d3, d4, d5] }
  | _ => none }
def FnExactProofPutWrongFalsely : Prop := fnExactProofPutRow.holds Try.pinned (OpenSpec.ofChange fnExactProofPutWrong)

/-- 'laws.FnViewSelf': WHATEVER THE INPUT: true; the input reads as it did. -/
def fnViewSelfSpec : ChangeSpec := { name := "fnViewSelf", fn := fun _ => fun
  | [d] => { results := [.lit (.bool true)], args := [d] }
  | _ => none }
def fnViewSelfRow : OpenClaim := { program := "ytbopcghbmbchkaa", sum := "27b3b82a0f9668c34c730c812468a3fefab32857e29361e61a1972bd5cad5fb6", func := "loop.example/theorymodules/laws.FnViewSelf", spec := "fnViewSelf", unfollowed := true, recurses := true, apart := false }
def FnViewSelfSaid : Prop := fnViewSelfRow.holds Try.pinned (OpenSpec.ofChange fnViewSelfSpec)

/-- ITS FALSE NEIGHBOUR: 'it returns false'. Refute it at one input. -/
def fnViewSelfWrong : ChangeSpec := { name := "fnViewSelf", fn := fun _ => fun
  | [d] => { results := [.lit (.bool false)], args := [d] }
  | _ => none }
def FnViewSelfWrongFalsely : Prop := fnViewSelfRow.holds Try.pinned (OpenSpec.ofChange fnViewSelfWrong)

/- THE SECOND FORM. 'bulk': how many values and letters a reading holds, each counted each time it is reached (what is shared counts as often as it is met; a slice's spare places count too). A statement '..UptoSaid' is the law's where the arguments, and the package variables that the reading takes, are together of bulk at most 1048576: NARROWER than '..Said'. Prove '..Said' where nothing that the law and all that it calls make is longer than what came in: it says more and counts as full. Else prove '..UptoSaid'. A law counts once. -/
mutual
def uptoBulk {H : Type} : DataW H → Nat
  | .lit (.string bytes) => bytes.length + 1
  | .lit _ => 1
  | .nil => 1
  | .ptr d => uptoBulk d + 1
  | .slice elems spare => uptoBulkAll elems + uptoBulkAll spare + 1
  | .agg parts => uptoBulkAll parts + 1
  | .iface _ d => uptoBulk d + 1
  | .map entries => uptoBulkEntries entries + 1
  | .held _ => 1
def uptoBulkAll {H : Type} : List (DataW H) → Nat
  | [] => 0
  | d :: r => uptoBulk d + uptoBulkAll r
def uptoBulkEntries {H : Type} : List (Lit × DataW H) → Nat
  | [] => 0
  | x :: r => uptoBulkEntry x + uptoBulkEntries r
def uptoBulkEntry {H : Type} : Lit × DataW H → Nat
  | (.string bytes, d) => bytes.length + uptoBulk d + 1
  | (_, d) => uptoBulk d + 1
 end
def uptoSmall : (H : Type) → List (DataW H) → Bool := fun _ ds => decide (uptoBulkAll ds ≤ 1048576)
def OpenSpec.upto (s : _root_.Go.ChangeSpec) : _root_.Go.OpenSpec := { _root_.Go.OpenSpec.ofChange s with cond := some uptoSmall }

/-- 'laws.FnExactViewOk', WHERE WHAT IT READS IS OF BULK AT MOST 1048576: true; the input reads as it did. -/
def fnExactViewOkUptoRow : OpenClaim := { program := "ytbopcghbmbchkaa", sum := "27b3b82a0f9668c34c730c812468a3fefab32857e29361e61a1972bd5cad5fb6", func := "loop.example/theorymodules/laws.FnExactViewOk", spec := "fnExactViewOk", unfollowed := true, recurses := true, apart := false, narrowed := true }
def FnExactViewOkUptoSaid : Prop := fnExactViewOkUptoRow.holds Try.pinned (OpenSpec.upto fnExactViewOkSpec)

/-- 'laws.FnExactViewSelf', WHERE WHAT IT READS IS OF BULK AT MOST 1048576: true; the input reads as it did. -/
def fnExactViewSelfUptoRow : OpenClaim := { program := "ytbopcghbmbchkaa", sum := "27b3b82a0f9668c34c730c812468a3fefab32857e29361e61a1972bd5cad5fb6", func := "loop.example/theorymodules/laws.FnExactViewSelf", spec := "fnExactViewSelf", unfollowed := true, recurses := true, apart := false, narrowed := true }
def FnExactViewSelfUptoSaid : Prop := fnExactViewSelfUptoRow.holds Try.pinned (OpenSpec.upto fnExactViewSelfSpec)

/-- 'laws.FnExactProofPut', WHERE WHAT IT READS IS OF BULK AT MOST 1048576: true; the input reads as it did. -/
def fnExactProofPutUptoRow : OpenClaim := { program := "ytbopcghbmbchkaa", sum := "27b3b82a0f9668c34c730c812468a3fefab32857e29361e61a1972bd5cad5fb6", func := "loop.example/theorymodules/laws.FnExactProofPut", spec := "fnExactProofPut", unfollowed := true, recurses := true, apart := false, narrowed := true }
def FnExactProofPutUptoSaid : Prop := fnExactProofPutUptoRow.holds Try.pinned (OpenSpec.upto fnExactProofPutSpec)

/-- 'laws.FnViewSelf', WHERE WHAT IT READS IS OF BULK AT MOST 1048576: true; the input reads as it did. -/
def fnViewSelfUptoRow : OpenClaim := { program := "ytbopcghbmbchkaa", sum := "27b3b82a0f9668c34c730c812468a3fefab32857e29361e61a1972bd5cad5fb6", func := "loop.example/theorymodules/laws.FnViewSelf", spec := "fnViewSelf", unfollowed := true, recurses := true, apart := false, narrowed := true }
def FnViewSelfUptoSaid : Prop := fnViewSelfUptoRow.holds Try.pinned (OpenSpec.upto fnViewSelfSpec)

end Rows
end Go.Proofs.Ytbopcghbmbchkaa
