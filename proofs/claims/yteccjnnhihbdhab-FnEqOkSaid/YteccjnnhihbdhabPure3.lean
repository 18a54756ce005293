/- Operations of a signature; equality of rows and signatures. -/
import Derived.Test.YteccjnnhihbdhabPure2
namespace Go.Proofs.Yteccjnnhihbdhab
open Go.RowKit
set_option linter.unusedVariables false

theorem box_cells (w : World) (a b : Value) (t : TypeId) : (w.alloc (.cells #[a, b] t)).cell? ⟨w.heap.size, 0, none⟩ = some a ∧ (w.alloc (.cells #[a, b] t)).cell? ⟨w.heap.size, 1, none⟩ = some b := by
  constructor <;> (rw [World.cell?_alloc_at _ _ _ _ rfl]; rfl)

theorem alive_any (w : World) : Calls Try.prog 30 #[] w fun e w' => e = .returned (.bool true) ∧ Below w.heap.size w w' := by
  go_enter Try.func30, Try.ntmps30
  go_wp2_with fail
  refine (sigValid_any _ ⟨1, []⟩ _ ⟨_, rfl, RRows.nil _⟩).mono ?_
  rw [show validB ⟨1, []⟩ = true from rfl]
  rintro e w1 ⟨rfl, hb1⟩
  go_wp2_with fail
  refine (sigValid_any _ ⟨0, []⟩ _ ⟨_, rfl, RRows.nil _⟩).mono ?_
  rw [show validB ⟨0, []⟩ = false from rfl]
  rintro e w2 ⟨rfl, hb2⟩
  go_wp2
  go_ret
  exact ⟨rfl, hb1.trans (hb2.mono hb1.size)⟩

end Go.Proofs.Yteccjnnhihbdhab
