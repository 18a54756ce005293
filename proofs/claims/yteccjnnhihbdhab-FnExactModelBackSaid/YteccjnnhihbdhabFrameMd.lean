/- What the proofs of the exact laws share: models that came in. -/
import Derived.Test.YteccjnnhihbdhabFrameE
import Derived.Test.YteccjnnhihbdhabModT
namespace Go.Proofs.Yteccjnnhihbdhab
open Go.ChangeShapes Go.WideShapes Go.ChangeAt Go.RowKit Go.Deep Go.Joins
set_option linter.unusedVariables false

set_option maxRecDepth 100000 in
theorem cells_Model : Try.prog.cellsOf 29 = 2 := by kernel_rfl
set_option maxRecDepth 100000 in
theorem model_of {H : Type} {enc : TypeId × Value → H} {W : World} {base : Nat} {v : Value} {d : DataW H} {p : List MemPlace} (hv : Value.okWide Try.prog W .any base 29 v)
    (h : DataW.Trod enc Try.prog W 0 (fun _ => true) true 29 v d p) : ∃ m, RModel W v m := by
  obtain ⟨c0, c1, y0, y1, n, rfl, -, -, h0, h1⟩ := open_agg2 Try.underlying29 (by kernel_rfl) cells_Model hv h
  obtain ⟨xs0, r0, -⟩ := ints_cell h0
  obtain ⟨xs1, r1, -⟩ := rows_cell h1
  exact ⟨⟨xs0, xs1⟩, c0, c1, rfl, r0, r1⟩
end Go.Proofs.Yteccjnnhihbdhab
