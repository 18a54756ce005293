/- Maps of signatures: how they read, how those that a call has made lie; the exact laws' measure, copy and comparison of one. -/
import Derived.Test.YteccjnnhihbdhaaEqT
import Derived.Test.YteccjnnhihbdhaaCut
import Derived.Test.YteccjnnhihbdhaaVars
namespace Go.Proofs.Yteccjnnhihbdhaa
open Go.RowKit
set_option linter.unusedVariables false
set_option linter.unusedSimpArgs false

structure MMap where
  sorts : List Int
  ops : List Int
def RMap (w : World) (v : Value) (m : MMap) : Prop := ∃ a0 a1, v = .agg #[a0, a1] ∧ RInts w a0 m.sorts ∧ RInts w a1 m.ops
def OMap (w : World) (B : Nat) (v : Value) (m : MMap) : Prop := ∃ a0 a1, v = .agg #[a0, a1] ∧ OInts w B a0 m.sorts ∧ OInts w B a1 m.ops ∧ Apart a0 a1
section
variable {w w' : World} {v : Value} {m : MMap} {B B' : Nat}
theorem RMap.keep (h : RMap w v m) (hb : Below w.heap.size w w') : RMap w' v m := by
  obtain ⟨a0, a1, rfl, h0, h1⟩ := h; exact ⟨a0, a1, rfl, h0.keep hb, h1.keep hb⟩
theorem OMap.keep (h : OMap w B v m) (hb : Below w.heap.size w w') : OMap w' B v m := by
  obtain ⟨a0, a1, rfl, h0, h1, hap⟩ := h; exact ⟨a0, a1, rfl, h0.keep hb, h1.keep hb, hap⟩
theorem OMap.base (h : OMap w B v m) (hB : B' ≤ B) : OMap w B' v m := by
  obtain ⟨a0, a1, rfl, h0, h1, hap⟩ := h; exact ⟨a0, a1, rfl, h0.base hB, h1.base hB, hap⟩
theorem OMap.same (h : OMap w B v m) (hk : ∀ k, B ≤ k → k < w.heap.size → w'.heap[k]? = w.heap[k]?) : OMap w' B v m := by
  obtain ⟨a0, a1, rfl, h0, h1, hap⟩ := h; exact ⟨a0, a1, rfl, h0.same hk, h1.same hk, hap⟩
theorem OMap.reads (h : OMap w B v m) : RMap w v m := by
  obtain ⟨a0, a1, rfl, h0, h1, -⟩ := h; exact ⟨a0, a1, rfl, h0.reads, h1.reads⟩
theorem RMap.form (h : RMap w v m) : ∃ A0 c0 A1 c1, v = .agg #[.slice A0 m.sorts.length c0, .slice A1 m.ops.length c1] := by
  obtain ⟨a0, a1, rfl, h0, h1⟩ := h
  obtain ⟨A0, c0, rfl, -⟩ := h0.form
  obtain ⟨A1, c1, rfl, -⟩ := h1.form
  exact ⟨_, _, _, _, rfl⟩
theorem RMap.of {a0 a1 : Value} (h : RMap w (.agg #[a0, a1]) m) : RInts w a0 m.sorts ∧ RInts w a1 m.ops := by
  obtain ⟨a0', a1', he, h0, h1⟩ := h
  injection he with he
  simp at he
  obtain ⟨rfl, rfl⟩ := he
  exact ⟨h0, h1⟩
theorem OMap.of {a0 a1 : Value} (h : OMap w B (.agg #[a0, a1]) m) : OInts w B a0 m.sorts ∧ OInts w B a1 m.ops ∧ Apart a0 a1 := by
  obtain ⟨a0', a1', he, hr⟩ := h
  injection he with he
  simp at he
  obtain ⟨rfl, rfl⟩ := he
  exact hr
end
def FitsMp (m : MMap) : Prop := m.sorts.length ≤ 1048576 ∧ m.ops.length ≤ 1048576
def SmallMp (m : MMap) : Prop := Small m.sorts ∧ Small m.ops
def sameMp (a b : MMap) : Bool := (sameI a.sorts b.sorts) && sameI a.ops b.ops
theorem sameMp_self (a : MMap) : sameMp a a = true := by unfold sameMp sameI; simp
theorem sameMp_eq {a b : MMap} : sameMp a b = true ↔ a = b := by
  obtain ⟨x0, x1⟩ := a
  obtain ⟨y0, y1⟩ := b
  unfold sameMp sameI
  simp [and_assoc]
end Go.Proofs.Yteccjnnhihbdhaa
