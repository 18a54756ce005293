/-
  No cell of these rows narrows 'for every input' (looked for: loops, veiled, ifaces, maps, wideKeys, modest, calm, conditions, laid).
  DERIVED. THE GIVEN ROWS OF THIS SEAT. 6 by the template 'for every input the law returns true; each argument reads behind the call as it read before'; 0 by the template 'total and deterministic' (their statements: YtbopcghbmbchkabTotals.lean).
  GIVEN WITH THE SEED: the statements are not yours to turn. If you find one false, say at which input.
  Laid BY PROGRAM, IN A SANDBOX (cutbox-rows.mjs): the forced cells as the released guide's own fill.sh prints them over the translation 52ad17634f8642c7… (all of the seat's roots in one cut). By AI agents, Wed Nov 11 2026. No macro, syntax, notation, axiom, sorry.
-/
import Derived.Test.YtbopcghbmbchkabChecked
import GoSem.Claim
import GoSem.ClaimJoined
import GoSem.ClaimMapViews
import Derived.JoinedTies
import Derived.KernelRfl
namespace Go.Proofs.Ytbopcghbmbchkab
/- THE CELL 'sum', in the pinned program and in every row, IS THE sha256 OF THE DUMP (.gsa) THAT YtbopcghbmbchkabProg.lean LOADS. Nothing in Lean hashes anything: it is a label: what it is worth is what the hold of that sum in a sandbox is worth. -/
noncomputable def Try.pinned : Pinned := { name := "ytbopcghbmbchkab", sum := "52ad17634f8642c71cb63a42bab31c90cec05ab10a2336f84780110ab8a2440e", checked := Try.checked }
namespace Rows
def none {H : Type} : Left H := { results := [], args := [] }

/-- 'laws.FnModelBack': WHATEVER THE INPUT: true; the input reads as it did. -/
def fnModelBackSpec : ChangeSpec := { name := "fnModelBack", fn := fun _ => fun
  | [d1, d2] => { results := [.lit (.bool true)], args := [d1, d2] }
  | _ => none }
def fnModelBackRow : OpenClaim := { program := "ytbopcghbmbchkab", sum := "52ad17634f8642c71cb63a42bab31c90cec05ab10a2336f84780110ab8a2440e", func := "loop.example/theorymodules/laws.FnModelBack", spec := "fnModelBack", unfollowed := true, recurses := true, apart := false }
def FnModelBackSaid : Prop := fnModelBackRow.holds Try.pinned (OpenSpec.ofChange fnModelBackSpec)

/-- ITS FALSE NEIGHBOUR: 'it returns false'. Refute it at one input. -/
def fnModelBackWrong : ChangeSpec := { name := "fnModelBack", fn := fun _ => fun
  | [d1, d2] => { results := [.lit (.bool false)], args := [d1, d2] }
  | _ => none }
def FnModelBackWrongFalsely : Prop := fnModelBackRow.holds Try.pinned (OpenSpec.ofChange fnModelBackWrong)

/-- 'laws.FnValueOf': WHATEVER THE INPUT: true; the input reads as it did. -/
def fnValueOfSpec : ChangeSpec := { name := "fnValueOf", fn := fun _ => fun
  | [d] => { results := [.lit (.bool true)], args := [d] }
  | _ => none }
def fnValueOfRow : OpenClaim := { program := "ytbopcghbmbchkab", sum := "52ad17634f8642c71cb63a42bab31c90cec05ab10a2336f84780110ab8a2440e", func := "loop.example/theorymodules/laws.FnValueOf", spec := "fnValueOf", unfollowed := true, recurses := true, apart := false }
def FnValueOfSaid : Prop := fnValueOfRow.holds Try.pinned (OpenSpec.ofChange fnValueOfSpec)

/-- ITS FALSE NEIGHBOUR: 'it returns false'. Refute it at one input. -/
def fnValueOfWrong : ChangeSpec := { name := "fnValueOf", fn := fun _ => fun
  | [d] => { results := [.lit (.bool false)], args := [d] }
  | _ => none }
def FnValueOfWrongFalsely : Prop := fnValueOfRow.holds Try.pinned (OpenSpec.ofChange fnValueOfWrong)

/-- 'laws.FnModelPair': WHATEVER THE INPUT: true; the input reads as it did. -/
def fnModelPairSpec : ChangeSpec := { name := "fnModelPair", fn := fun _ => fun
  | [d] => { results := [.lit (.bool true)], args := [d] }
  | _ => none }
def fnModelPairRow : OpenClaim := { program := "ytbopcghbmbchkab", sum := "52ad17634f8642c71cb63a42bab31c90cec05ab10a2336f84780110ab8a2440e", func := "loop.example/theorymodules/laws.FnModelPair", spec := "fnModelPair", unfollowed := true, recurses := true, apart := false }
def FnModelPairSaid : Prop := fnModelPairRow.holds Try.pinned (OpenSpec.ofChange fnModelPairSpec)

/-- ITS FALSE NEIGHBOUR: 'it returns false'. Refute it at one input. -/
def fnModelPairWrong : ChangeSpec := { name := "fnModelPair", fn := fun _ => fun
  | [d] => { results := [.lit (.bool false)], args := [d] }
  | _ => none }
def FnModelPairWrongFalsely : Prop := fnModelPairRow.holds Try.pinned (OpenSpec.ofChange fnModelPairWrong)

/-- 'laws.FnExactModelPair': WHATEVER THE INPUT: true; the input reads as it did. -/
def fnExactModelPairSpec : ChangeSpec := { name := "fnExactModelPair", fn := fun _ => fun
  | [d1, d2, d3] => { results := [.lit (.bool true)], args := [d1, d2, d3] }
  | _ => none }
def fnExactModelPairRow : OpenClaim := { program := "ytbopcghbmbchkab", sum := "52ad17634f8642c71cb63a42bab31c90cec05ab10a2336f84780110ab8a2440e", func := "loop.example/theorymodules/laws.FnExactModelPair", spec := "fnExactModelPair", unfollowed := true, recurses := true, apart := false }
def FnExactModelPairSaid : Prop := fnExactModelPairRow.holds Try.pinned (OpenSpec.ofChange fnExactModelPairSpec)

/-- ITS FALSE NEIGHBOUR: 'it returns false'. Refute it at one input. -/
def fnExactModelPairWrong : ChangeSpec := { name := "fnExactModelPair", fn := fun _ => fun
  | [d1, d2, d3] => { results := [.lit (.bool false)], args := [d1, d2, d3] }
  | _ => none }
def FnExactModelPairWrongFalsely : Prop := fnExactModelPairRow.holds Try.pinned (OpenSpec.ofChange fnExactModelPairWrong)

/-- 'laws.FnExactSameMade': WHATEVER THE INPUT: true; the input reads as it did. -/
def fnExactSameMadeSpec : ChangeSpec := { name := "fnExactSameMade", fn := fun _ => fun
  | [d1, d2, d3, d4, d5] => { results := [.lit (.bool true)], args := [d1, d2, d3, d4, d5] }
  | _ => none }
def fnExactSameMadeRow : OpenClaim := { program := "ytbopcghbmbchkab", sum := "52ad17634f8642c71cb63a42bab31c90cec05ab10a2336f84780110ab8a2440e", func := "loop.example/theorymodules/laws.FnExactSameMade", spec := "fnExactSameMade", unfollowed := true, recurses := true, apart := false }
def FnExactSameMadeSaid : Prop := fnExactSameMadeRow.holds Try.pinned (OpenSpec.ofChange fnExactSameMadeSpec)

/-- ITS FALSE NEIGHBOUR: 'it returns false'. Refute it at one input. -/
def fnExactSameMadeWrong : ChangeSpec := { name := "fnExactSameMade", fn := fun _ => fun
  | [d1, d2, d3, d4, d5] => { results := [.lit (.bool false)], args := [d1, d2, d3, d4, d5] }
  | _ => none }
def FnExactSameMadeWrongFalsely : Prop := fnExactSameMadeRow.holds Try.pinned (OpenSpec.ofChange fnExactSameMadeWrong)

/-- 'laws.FnExactPartModel': WHATEVER THE INPUT: true; the input reads as it did. -/
def fnExactPartModelSpec : ChangeSpec := { name := "fnExactPartModel", fn := fun _ => fun
  | [d1, d2, d3] => { results := [.lit (.bool true)], args := [d1, d2, d3] }
  | _ => none }
def fnExactPartModelRow : OpenClaim := { program := "ytbopcghbmbchkab", sum := "52ad17634f8642c71cb63a42bab31c90cec05ab10a2336f84780110ab8a2440e", func := "loop.example/theorymodules/laws.FnExactPartModel", spec := "fnExactPartModel", unfollowed := true, recurses := true, apart := false }
def FnExactPartModelSaid : Prop := fnExactPartModelRow.holds Try.pinned (OpenSpec.ofChange fnExactPartModelSpec)

/-- ITS FALSE NEIGHBOUR: 'it returns false'. Refute it at one input. -/
def fnExactPartModelWrong : ChangeSpec := { name := "fnExactPartModel", fn := fun _ => fun
  | [d1, d2, d3] => { results := [.lit (.bool false)], args := [d1, d2, d3] }
  | _ => none }
def FnExactPartModelWrongFalsely : Prop := fnExactPartModelRow.holds Try.pinned (OpenSpec.ofChange fnExactPartModelWrong)

/- THE SECOND FORM. 'bulk': how many values and letters a reading holds, each counted each time it is reached (what is shared counts as often as it is met; a slice's spare places count too). A statement '..UptoSaid' is the law's where the arguments, and the package variables that the reading takes, are together of bulk at most 1048576: NARROWER than '..Said'. Prove '..Said' where nothing that the law and all that it calls make is longer than what came in: it says more and counts as full. Else prove '..UptoSaid'. A law counts once. -/
mutual
def uptoBulk {H : Type} : DataW H → Nat
  | .lit (.string bytes) => bytes.length + 1
  | .lit _ => 1
  | .nil => 1
  | .ptr d => uptoBulk d + 1
  | .slice elems spare => uptoBulkAll elems + uptoBulkAll spare + 1
  | .agg parts => uptoBulkAll parts + 1
  | .iface _ d => uptoBulk d + 1
  | .map entries => uptoBulkEntries entries + 1
  | .held _ => 1
def uptoBulkAll {H : Type} : List (DataW H) → Nat
  | [] => 0
  | d :: r => uptoBulk d + uptoBulkAll r
def uptoBulkEntries {H : Type} : List (Lit × DataW H) → Nat
  | [] => 0
  | x :: r => uptoBulkEntry x + uptoBulkEntries r
def uptoBulkEntry {H : Type} : Lit × DataW H → Nat
  | (.string bytes, d) => bytes.length + uptoBulk d + 1
  | (_, d) => uptoBulk d + 1
 end
def uptoSmall : (H : Type) → List (DataW H) → Bool := fun _ ds => decide (uptoBulkAll ds ≤ 1048576)
def OpenSpec.upto (s : _root_.Go.ChangeSpec) : _root_.Go.OpenSpec := { _root_.Go.OpenSpec.ofChange s with cond := some uptoSmall }

/-- 'laws.FnModelBack', WHERE WHAT IT READS IS OF BULK AT MOST 1048576: true; the input reads as it did. -/
def fnModelBackUptoRow : OpenClaim := { program := "ytbopcghbmbchkab", sum := "52ad17634f8642c71cb63a42bab31c90cec05ab10a2336f84780110ab8a2440e", func := "loop.example/theorymodules/laws.FnModelBack", spec := "fnModelBack", unfollowed := true, recurses := true, apart := false, narrowed := true }
def FnModelBackUptoSaid : Prop := fnModelBackUptoRow.holds Try.pinned (OpenSpec.upto fnModelBackSpec)

/-- 'laws.FnValueOf', WHERE WHAT IT READS IS OF BULK AT MOST 1048576: true; the input reads as it did. -/
def fnValueOfUptoRow : OpenClaim := { program := "ytbopcghbmbchkab", sum := "52ad17634f8642c71cb63a42bab31c90cec05ab10a2336f84780110ab8a2440e", func := "loop.example/theorymodules/laws.FnValueOf", spec := "fnValueOf", unfollowed := true, recurses := true, apart := false, narrowed := true }
def FnValueOfUptoSaid : Prop := fnValueOfUptoRow.holds Try.pinned (OpenSpec.upto fnValueOfSpec)

/-- 'laws.FnModelPair', WHERE WHAT IT READS IS OF BULK AT MOST 1048576: true; the input reads as it did. -/
def fnModelPairUptoRow : OpenClaim := { program := "ytbopcghbmbchkab", sum := "52ad17634f8642c71cb63a42bab31c90cec05ab10a2336f84780110ab8a2440e", func := "loop.example/theorymodules/laws.FnModelPair", spec := "fnModelPair", unfollowed := true, recurses := true, apart := false, narrowed := true }
def FnModelPairUptoSaid : Prop := fnModelPairUptoRow.holds Try.pinned (OpenSpec.upto fnModelPairSpec)

/-- 'laws.FnExactModelPair', WHERE WHAT IT READS IS OF BULK AT MOST 1048576: true; the input reads as it did. -/
def fnExactModelPairUptoRow : OpenClaim := { program := "ytbopcghbmbchkab", sum := "52ad17634f8642c71cb63a42bab31c90cec05ab10a2336f84780110ab8a2440e", func := "loop.example/theorymodules/laws.FnExactModelPair", spec := "fnExactModelPair", unfollowed := true, recurses := true, apart := false, narrowed := true }
def FnExactModelPairUptoSaid : Prop := fnExactModelPairUptoRow.holds Try.pinned (OpenSpec.upto fnExactModelPairSpec)

/-- 'laws.FnExactSameMade', WHERE WHAT IT READS IS OF BULK AT MOST 1048576: true; the input reads as it did. -/
def fnExactSameMadeUptoRow : OpenClaim := { program := "ytbopcghbmbchkab", sum := "52ad17634f8642c71cb63a42bab31c90cec05ab10a2336f84780110ab8a2440e", func := "loop.example/theorymodules/laws.FnExactSameMade", spec := "fnExactSameMade", unfollowed := true, recurses := true, apart := false, narrowed := true }
def FnExactSameMadeUptoSaid : Prop := fnExactSameMadeUptoRow.holds Try.pinned (OpenSpec.upto fnExactSameMadeSpec)

/-- 'laws.FnExactPartModel', WHERE WHAT IT READS IS OF BULK AT MOST 1048576: true; the input reads as it did. -/
def fnExactPartModelUptoRow : OpenClaim := { program := "ytbopcghbmbchkab", sum := "52ad17634f8642c71cb63a42bab31c90cec05ab10a2336f84780110ab8a2440e", func := "loop.example/theorymodules/laws.FnExactPartModel", spec := "fnExactPartModel", unfollowed := true, recurses := true, apart := false, narrowed := true }
def FnExactPartModelUptoSaid : Prop := fnExactPartModelUptoRow.holds Try.pinned (OpenSpec.upto fnExactPartModelSpec)

end Rows
end Go.Proofs.Ytbopcghbmbchkab
