/- MapOk of both packages. -/
import Derived.Test.YteccjnnhihbdhaaLed
import Derived.Test.YteccjnnhihbdhaaSlEq
import Derived.Test.YteccjnnhihbdhaaL1
namespace Go.Proofs.Yteccjnnhihbdhaa
open Go.RowKit
set_option linter.unusedVariables false
set_option linter.unusedSimpArgs false

theorem map_drew {a w : World} {B : Nat} (h : Below B a w) : Below B a w.drew := ⟨h.os, h.tape, h.output, h.size, h.block⟩
theorem map_undrew {w w' : World} (h : Below w.drew.heap.size w.drew w') : Below w.heap.size w w' := ⟨h.os, h.tape, h.output, h.size, h.block⟩
theorem ledOp_neg {a b : MSig} {m : MMap} {k : Nat} (hk : k < m.ops.length) (h : m.ops[k] < 0) : ledOp a b m k = false := by
  unfold ledOp; rw [getD_at _ hk]; simp; omega
theorem ledOp_big {a b : MSig} {m : MMap} {k : Nat} (hk : k < m.ops.length) (h : (b.ops.length : Int) ≤ m.ops[k]) : ledOp a b m k = false := by
  unfold ledOp; rw [getD_at _ hk]; simp; omega
theorem ledOp_in {a b : MSig} {m : MMap} {k n : Nat} (hk : k < m.ops.length) (ha : k < a.ops.length) (hn : m.ops[k] = (n : Int)) (hb : n < b.ops.length) : ledOp a b m k = decide (ledM m.sorts a.ops[k] = b.ops[n]) := by
  unfold ledOp
  rw [getD_at _ hk, getD_at _ ha, hn, Int.toNat_natCast, getD_at _ hb]
  simp; omega

end Go.Proofs.Yteccjnnhihbdhaa
