/- What the proofs of the exact laws share: maps of signatures that came in. -/
import Derived.Test.YteccjnnhihbdhabFrameE
import Derived.Test.YteccjnnhihbdhabMapT
namespace Go.Proofs.Yteccjnnhihbdhab
open Go.ChangeShapes Go.WideShapes Go.ChangeAt Go.RowKit Go.Deep Go.Joins
set_option linter.unusedVariables false

set_option maxRecDepth 100000 in
theorem cells_Map : Try.prog.cellsOf 27 = 2 := by kernel_rfl
set_option maxRecDepth 100000 in
theorem map_of {H : Type} {enc : TypeId × Value → H} {W : World} {base : Nat} {v : Value} {d : DataW H} {p : List MemPlace} (hv : Value.okWide Try.prog W .any base 27 v)
    (h : DataW.Trod enc Try.prog W 0 (fun _ => true) true 27 v d p) : ∃ m, RMap W v m := by
  obtain ⟨c0, c1, y0, y1, n, rfl, -, -, h0, h1⟩ := open_agg2 Try.underlying27 (by kernel_rfl) cells_Map hv h
  obtain ⟨xs0, r0, -⟩ := ints_cell h0
  obtain ⟨xs1, r1, -⟩ := ints_cell h1
  exact ⟨⟨xs0, xs1⟩, c0, c1, rfl, r0, r1⟩
end Go.Proofs.Yteccjnnhihbdhab
