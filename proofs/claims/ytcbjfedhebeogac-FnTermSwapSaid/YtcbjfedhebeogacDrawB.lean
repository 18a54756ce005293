/- DrawVarsOk, DrawTermSort, DrawTermAt. -/
import Derived.Test.YtcbjfedhebeogacDrawA
namespace Go.Proofs.Ytcbjfedhebeogac
open Go.RowKit
set_option linter.unusedVariables false

/-- the result's signature is written at the end of a draw -/
theorem fin_sig {w w3 : World} {B : Nat} {sorts : Int} {u : Value} {rows : List (List Int)} (hres : w3.heap[w.heap.size]? = some (.cells #[.int .i64 0, .slice none 0 0] 25 (0, 0))) (ho : ORows w3 B u rows) (hB : w.heap.size < B) (hb : Below w.heap.size w w3) :
    let w9 := (w3.setCell ⟨w.heap.size, 0, none⟩ (.int .i64 sorts)).setCell ⟨w.heap.size, 1, none⟩ u
    w9.heap[w.heap.size]? = some (.cells #[.int .i64 sorts, u] 25 (0, 0)) ∧ OSig w9 w.heap.size (.agg #[.int .i64 sorts, u]) ⟨sorts, rows⟩ ∧ Below w.heap.size w w9 ∧ (∀ (v : Value) (xs : List Int) (C : Nat), w.heap.size < C → OInts w3 C v xs → OInts w9 w.heap.size v xs) ∧ (∀ (v : Value) (xs : List (List Int)) (C : Nat), w.heap.size < C → ORows w3 C v xs → ORows w9 w.heap.size v xs) := by
  intro w9
  refine ⟨block_set (block_set hres 0 _) 1 u, ⟨_, rfl, ((ho.setLow hB _ _).setLow hB _ _).base (by omega)⟩, (hb.setCell (Nat.le_refl _) _).setCell (Nat.le_refl _) _, fun v xs C hC h => ?_, fun v xs C hC h => ?_⟩
  · exact OInts.base (ownsRow_setCell_below (ownsRow_setCell_below h hC _) hC _) (by omega)
  · exact ((h.setLow hC _ _).setLow hC _ _).base (by omega)

def Draw3Post (w : World) (e : Ending) (w' : World) : Prop :=
  ∃ (sv : Value) (s : MSig) (vv : Value) (vars : List Int) (tv : Value) (t : List Int), e = .returned (.tuple #[sv, vv, tv]) ∧ OSig w' w.heap.size sv s ∧ OInts w' w.heap.size vv vars ∧ OInts w' w.heap.size tv t ∧ (∃ ad c, tv = .slice (some ad) t.length c) ∧ s.ops.length ≤ 5 ∧ vars.length ≤ 5 ∧ t.length ≤ 40 ∧ Small t ∧ Below w.heap.size w w'
def Draw4Post (w : World) (e : Ending) (w' : World) : Prop :=
  ∃ (sv : Value) (s : MSig) (vv : Value) (vars : List Int) (tv : Value) (t : List Int) (a : Int), e = .returned (.tuple #[sv, vv, tv, .int .i64 a]) ∧ OSig w' w.heap.size sv s ∧ OInts w' w.heap.size vv vars ∧ OInts w' w.heap.size tv t ∧ (∃ ad c, tv = .slice (some ad) t.length c) ∧ s.ops.length ≤ 5 ∧ vars.length ≤ 5 ∧ t.length ≤ 40 ∧ Small t ∧ Below w.heap.size w w'
def Draw2Post (w : World) (e : Ending) (w' : World) : Prop :=
  ∃ (sv : Value) (s : MSig) (vv : Value) (vars : List Int), e = .returned (.tuple #[sv, vv]) ∧ OSig w' w.heap.size sv s ∧ OInts w' w.heap.size vv vars ∧ s.ops.length ≤ 5 ∧ vars.length ≤ 5 ∧ Below w.heap.size w w'




end Go.Proofs.Ytcbjfedhebeogac
