/- What the proofs of the exact laws share: steps that came in. -/
import Derived.Test.YtdgakjnkjofgnaaFrameE
import Derived.Test.YtdgakjnkjofgnaaStepR
namespace Go.Proofs.Ytdgakjnkjofgnaa
open Go.ChangeShapes Go.WideShapes Go.ChangeAt Go.RowKit Go.Deep Go.Joins
set_option linter.unusedVariables false

set_option maxRecDepth 100000 in
theorem step_of {H : Type} {enc : TypeId × Value → H} {W : World} {base : Nat} {v : Value} {d : DataW H} {p : List MemPlace} (hv : Value.okWide Try.prog W .any base 50 v)
    (h : DataW.Trod enc Try.prog W 0 (fun _ => true) true 50 v d p) : ∃ s, RStep W v s ∧ SmallP s := by
  obtain ⟨v0, v1, v2, v3, y0, y1, y2, y3, n, rfl, -, -, h0, h1, h2, h3⟩ := open_agg4 Try.underlying50 (by kernel_rfl) (by kernel_rfl) hv h
  obtain ⟨a, e0, -, -⟩ := DataW.trod_int Try.underlying3 h0
  simp at e0
  subst e0
  obtain ⟨c, e2, -, -⟩ := DataW.trod_int Try.underlying3 h2
  simp at e2
  subst e2
  obtain ⟨b, rfl⟩ : ∃ b, v1 = .bool b := by
    obtain ⟨b, hb, -⟩ := DataW.trod_bool Try.underlying4 h1
    simp at hb
    exact ⟨b, hb⟩
  obtain ⟨rows, r, s⟩ := rows_cell h3
  exact ⟨⟨a, b, c, rows⟩, ⟨_, rfl, r⟩, s⟩
end Go.Proofs.Ytdgakjnkjofgnaa
