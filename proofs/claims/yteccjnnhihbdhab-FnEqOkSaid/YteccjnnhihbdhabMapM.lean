/- The plain functions of maps of signatures. No walk. -/
import Derived.Test.YteccjnnhihbdhabMapT
namespace Go.Proofs.Yteccjnnhihbdhab
open Go.RowKit
set_option linter.unusedVariables false
set_option linter.unusedSimpArgs false

/-- a row with its numbers replaced by those to which they are led; letters stay -/
def ledM (to row : List Int) : List Int := row.map fun x => if x < 100 then to.getD x.toNat 0 else x
def InTo (to row : List Int) : Prop := ∀ x ∈ row, x < 100 → 0 ≤ x ∧ x < (to.length : Int)
theorem ledM_len (to row : List Int) : (ledM to row).length = row.length := by simp [ledM]
theorem ledM_at {to row : List Int} {k : Nat} (hk : k < row.length) : (ledM to row)[k]? = some (if row[k] < 100 then to.getD (row[k]).toNat 0 else row[k]) := by
  simp [ledM, List.getElem?_eq_getElem hk]
theorem ledM_take {to row : List Int} {k : Nat} (hk : k < row.length) : ledM to (row.take (k + 1)) = ledM to (row.take k) ++ [if row[k] < 100 then to.getD (row[k]).toNat 0 else row[k]] := by
  rw [List.take_succ_eq_append_getElem hk]; unfold ledM; rw [List.map_append]; rfl
theorem ledM_nil (to : List Int) : ledM to [] = [] := rfl
/-- the same of a row of sorts -/
def rowLed (to row : List Int) : List Int := row.map fun x => to.getD x.toNat 0
theorem rowLed_len (to row : List Int) : (rowLed to row).length = row.length := by simp [rowLed]
theorem rowLed_take {to row : List Int} {k : Nat} (hk : k < row.length) : rowLed to (row.take (k + 1)) = rowLed to (row.take k) ++ [to.getD (row[k]).toNat 0] := by
  rw [List.take_succ_eq_append_getElem hk]; unfold rowLed; rw [List.map_append]; rfl
theorem rowLed_led {to row : List Int} (h : ∀ x ∈ row, x < 100) : rowLed to row = ledM to row := by
  unfold rowLed ledM
  refine List.map_congr_left fun x hx => ?_
  rw [if_pos (h x hx)]
def ledOp (a b : MSig) (m : MMap) (k : Nat) : Bool := (decide (0 ≤ m.ops.getD k 0) && decide (m.ops.getD k 0 < (b.ops.length : Int))) && decide (ledM m.sorts (a.ops.getD k []) = b.ops.getD (m.ops.getD k 0).toNat [])
def allLed (a b : MSig) (m : MMap) (n : Nat) : Bool := (List.range n).all (ledOp a b m)
theorem allLed_zero (a b : MSig) (m : MMap) : allLed a b m 0 = true := rfl
theorem allLed_succ (a b : MSig) (m : MMap) (n : Nat) : allLed a b m (n + 1) = (allLed a b m n && ledOp a b m n) := by
  unfold allLed; rw [List.range_succ, List.all_append]; simp
theorem allLed_bad {a b : MSig} {m : MMap} {k n : Nat} (hk : k < n) (h : ledOp a b m k = false) : allLed a b m n = false := by
  unfold allLed; rw [List.all_eq_false]; exact ⟨k, List.mem_range.2 hk, by simp [h]⟩
def mapOkB (a b : MSig) (m : MMap) : Bool := ((((validB a && validB b) && decide ((m.sorts.length : Int) = a.sorts)) && decide (m.ops.length = a.ops.length)) && belowB m.sorts b.sorts) && allLed a b m m.ops.length
theorem mapOk_no1 {a b : MSig} {m : MMap} (h : validB a = false) : mapOkB a b m = false := by unfold mapOkB; simp [h]
theorem mapOk_no2 {a b : MSig} {m : MMap} (h : validB b = false) : mapOkB a b m = false := by unfold mapOkB; simp [h]
theorem mapOk_no3 {a b : MSig} {m : MMap} (h : ¬ (m.sorts.length : Int) = a.sorts) : mapOkB a b m = false := by unfold mapOkB; simp [h]
theorem mapOk_no4 {a b : MSig} {m : MMap} (h : ¬ m.ops.length = a.ops.length) : mapOkB a b m = false := by unfold mapOkB; simp [h]
theorem mapOk_no5 {a b : MSig} {m : MMap} (h : belowB m.sorts b.sorts = false) : mapOkB a b m = false := by unfold mapOkB; simp [h]
theorem mapOk_no6 {a b : MSig} {m : MMap} {k : Nat} (hk : k < m.ops.length) (h : ledOp a b m k = false) : mapOkB a b m = false := by unfold mapOkB; simp [allLed_bad hk h]
theorem mapOk_yes {a b : MSig} {m : MMap} (h1 : validB a = true) (h2 : validB b = true) (h3 : (m.sorts.length : Int) = a.sorts) (h4 : m.ops.length = a.ops.length) (h5 : belowB m.sorts b.sorts = true) (h6 : allLed a b m m.ops.length = true) : mapOkB a b m = true := by
  unfold mapOkB; simp [h1, h2, h3, h4, h5]; rw [← h4]; exact h6
structure MapFacts (a b : MSig) (m : MMap) : Prop where
  va : validB a = true
  vb : validB b = true
  sl : (m.sorts.length : Int) = a.sorts
  ol : m.ops.length = a.ops.length
  sb : ∀ x ∈ m.sorts, 0 ≤ x ∧ x < b.sorts
  ob : ∀ x ∈ m.ops, 0 ≤ x ∧ x < (b.ops.length : Int)
  oo : ∀ (k : Nat) (h1 : k < a.ops.length) (h2 : k < m.ops.length), b.ops[(m.ops[k]).toNat]? = some (ledM m.sorts a.ops[k])
theorem mapOk_facts {a b : MSig} {m : MMap} (h : mapOkB a b m = true) : MapFacts a b m := by
  unfold mapOkB at h
  simp only [Bool.and_eq_true, decide_eq_true_eq] at h
  obtain ⟨⟨⟨⟨⟨h1, h2⟩, h3⟩, h4⟩, h5⟩, h6⟩ := h
  have op : ∀ k, (h : k < m.ops.length) → ((0 ≤ m.ops[k] ∧ m.ops[k] < (b.ops.length : Int)) ∧ ledM m.sorts (a.ops.getD k []) = b.ops.getD (m.ops[k]).toNat []) := by
    intro k hk
    unfold allLed at h6
    rw [List.all_eq_true] at h6
    have := h6 k (List.mem_range.2 hk)
    unfold ledOp at this
    rw [getD_at _ hk] at this
    simpa using this
  refine ⟨h1, h2, h3, h4, by simpa [belowB] using h5, fun x hx => ?_, fun k hk1 hk2 => ?_⟩
  · obtain ⟨k, hk, rfl⟩ := List.getElem_of_mem hx
    exact (op k hk).1
  · obtain ⟨⟨p, q⟩, r⟩ := op k hk2
    rw [getD_at _ hk1] at r
    have hl : (m.ops[k]).toNat < b.ops.length := by omega
    rw [getD_at _ hl] at r
    rw [List.getElem?_eq_getElem hl, r]
theorem facts_ok {a b : MSig} {m : MMap} (h : MapFacts a b m) : mapOkB a b m = true := by
  refine mapOk_yes h.va h.vb h.sl h.ol (by simpa [belowB] using h.sb) ?_
  unfold allLed
  rw [List.all_eq_true]
  intro k hk
  have hk := List.mem_range.1 hk
  have hka : k < a.ops.length := by rw [← h.ol]; exact hk
  have hb := h.ob _ (List.getElem_mem hk)
  have ho := h.oo k hka hk
  unfold ledOp
  rw [getD_at _ hk, getD_at _ hka]
  have hl : (m.ops[k]).toNat < b.ops.length := by omega
  rw [getD_at _ hl]
  rw [List.getElem?_eq_getElem hl] at ho
  injection ho with ho
  simp [hb.1, hb.2, ho]
/-- sorts are led -/
theorem MapFacts.sorts_in {a b : MSig} {m : MMap} (h : MapFacts a b m) {row : List Int} (hr : ∀ x ∈ row, 0 ≤ x ∧ x < a.sorts) : InTo m.sorts row := fun x hx _ => by
  have := hr x hx; have := h.sl; omega
theorem MapFacts.op_in {a b : MSig} {m : MMap} (h : MapFacts a b m) {k : Nat} (hk : k < a.ops.length) : InTo m.sorts a.ops[k] := h.sorts_in (valid_row h.va hk).2.2
def noMap : MMap := ⟨[], []⟩
def countM (n : Nat) : List Int := (List.range n).map fun (i : Nat) => (i : Int)
theorem countM_len (n : Nat) : (countM n).length = n := by simp [countM]
theorem countM_at {n k : Nat} (h : k < n) : (countM n)[k]? = some (k : Int) := by simp [countM, h]
theorem countM_succ (n : Nat) : countM (n + 1) = countM n ++ [(n : Int)] := by unfold countM; rw [List.range_succ]; simp
def selfM (s : MSig) : MMap := if validB s then ⟨countM s.sorts.toNat, countM s.ops.length⟩ else noMap
def thenM (a b c : MSig) (m n : MMap) : MMap × Bool := if mapOkB a b m && mapOkB b c n then (⟨ledM n.sorts m.sorts, ledM n.ops m.ops⟩, true) else (noMap, false)
def mapTermM (a b : MSig) (m : MMap) (vars t : List Int) : List Int × List Int × Bool := if mapOkB a b m && decide (0 ≤ sortM a vars t) then (ledM m.sorts vars, ledM m.ops t, true) else ([], [], false)
def noEq : MEq := ⟨[], [], []⟩
def ledE (m : MMap) (e : MEq) : MEq := ⟨ledM m.sorts e.vars, ledM m.ops e.left, ledM m.ops e.right⟩
def mapEqM (a b : MSig) (m : MMap) (e : MEq) : MEq × Bool := if mapOkB a b m && eqOkB a e then (ledE m e, true) else (noEq, false)
end Go.Proofs.Yteccjnnhihbdhab
