/- The plain functions of equations, theories and steps; small numbers. No walk. -/
import Derived.Test.YteccjnnhihbdhabEqR
import Derived.Test.YteccjnnhihbdhabTerm2
namespace Go.Proofs.Yteccjnnhihbdhab
open Go.RowKit
set_option linter.unusedVariables false

def eqOkB (s : MSig) (e : MEq) : Bool := decide (0 ≤ sortM s e.vars e.left) && decide (sortM s e.vars e.right = sortM s e.vars e.left)
def thyB (t : MThy) : Bool := (validB t.over && decide (t.eqs.length ≤ 6)) && t.eqs.all (eqOkB t.over)
def SmallE (e : MEq) : Prop := Small e.left ∧ Small e.right
def SmallT (t : MThy) : Prop := ∀ e ∈ t.eqs, SmallE e
/-- rows of an equation that are not too long -/
def FitsE (e : MEq) : Prop := e.vars.length ≤ 1048576 ∧ e.left.length ≤ 1048576 ∧ e.right.length ≤ 1048576
def FitsEs (es : List MEq) : Prop := es.length ≤ 1048576 ∧ ∀ e ∈ es, FitsE e
def sameE (a b : MEq) : Bool := (sameI a.vars b.vars && sameI a.left b.left) && sameI a.right b.right
theorem sameE_self (a : MEq) : sameE a a = true := by unfold sameE sameI; simp
theorem sameE_eq {a b : MEq} : sameE a b = true ↔ a = b := by
  obtain ⟨a1, a2, a3⟩ := a
  obtain ⟨b1, b2, b3⟩ := b
  unfold sameE sameI
  simp [and_assoc]
def sameEs : List MEq → List MEq → Bool
  | [], [] => true
  | a :: xs, b :: ys => sameE a b && sameEs xs ys
  | _, _ => false
theorem sameEs_eq {xs bs : List MEq} : sameEs xs bs = true ↔ xs = bs := by
  induction xs generalizing bs with
  | nil => cases bs <;> simp [sameEs]
  | cons a xs ih => cases bs with
    | nil => simp [sameEs]
    | cons b bs => simp [sameEs, sameE_eq, ih]
theorem sameEs_self (xs : List MEq) : sameEs xs xs = true := sameEs_eq.2 rfl
theorem eqOkB_bad {s : MSig} {e : MEq} (h : validB s = false) : eqOkB s e = false := by
  unfold eqOkB
  have : ¬ 0 ≤ sortM s e.vars e.left := fun hh => by
    obtain ⟨tm, hv, -⟩ := sortM_to hh
    rw [(vars_valid hv).1] at h
    cases h
  simp [this]
end Go.Proofs.Yteccjnnhihbdhab
