/- What the proofs of the exact laws share: models that came in. · Maps of signatures: how they read, how those that a call has made lie; the exact laws' measure, copy and comparison of one. · The plain functions of maps of signatures. No walk. · The plain functions of models: tables, values of terms, rows of values by their numbers. No walk. · What a model of a signature is (plain), the values of terms in it, where an equation fails, models along maps, pairs. No walk. · Rows that lead values to values; what a map of models is (plain). No walk. · raisedRow, OpTakes of both packages. · OpTakes of both packages. · Rows led by a map: ledRow (impl), l4Row, l4Term (spec). · slices.Equal on rows of numbers. · l1Same: rows compared (package spec). · MapOk of both packages. · isValue, sizesOf, rowsOf of package impl. · slices.Backward over a slice of ints: the iterator's contract. -/
import Derived.Test.YtfomeommkfemkaaKe65919d3
import Derived.Deep.RegionHeld3
import Derived.Deep.OwnRows
import Derived.Deep.AppendLies
import Derived.Deep.DeepMust
import Derived.RangeFuncBox
import Derived.RangeFuncLeaves
import Derived.RangeFuncNested
import Derived.Shelf.Abstract
import Derived.WalkKit
import Derived.OwnWalkIn
import Derived.TacticsInMore
import Derived.LoopNIn
import Derived.LoopIn
namespace Go.Proofs.Ytfomeommkfemkaa
section
open Go.ChangeShapes Go.WideShapes Go.ChangeAt Go.RowKit Go.Deep Go.Joins
set_option linter.unusedVariables false

set_option maxRecDepth 100000 in
theorem cells_Model : Try.prog.cellsOf 27 = 2 := by kernel_rfl
set_option maxRecDepth 100000 in
theorem model_of {H : Type} {enc : TypeId × Value → H} {W : World} {base : Nat} {v : Value} {d : DataW H} {p : List MemPlace} (hv : Value.okWide Try.prog W .any base 27 v)
    (h : DataW.Trod enc Try.prog W 0 (fun _ => true) true 27 v d p) : ∃ m, RModel W v m := by
  obtain ⟨c0, c1, y0, y1, n, rfl, -, -, h0, h1⟩ := open_agg2 Try.underlying27 (by kernel_rfl) cells_Model hv h
  obtain ⟨xs0, r0, -⟩ := ints_cell h0
  obtain ⟨xs1, r1, -⟩ := rows_cell h1
  exact ⟨⟨xs0, xs1⟩, c0, c1, rfl, r0, r1⟩
end

section
open Go.RowKit
set_option linter.unusedVariables false
set_option linter.unusedSimpArgs false

structure MMap where
  sorts : List Int
  ops : List Int
def RMap (w : World) (v : Value) (m : MMap) : Prop := ∃ a0 a1, v = .agg #[a0, a1] ∧ RInts w a0 m.sorts ∧ RInts w a1 m.ops
def OMap (w : World) (B : Nat) (v : Value) (m : MMap) : Prop := ∃ a0 a1, v = .agg #[a0, a1] ∧ OInts w B a0 m.sorts ∧ OInts w B a1 m.ops ∧ Apart a0 a1
section
variable {w w' : World} {v : Value} {m : MMap} {B B' : Nat}
theorem RMap.keep (h : RMap w v m) (hb : Below w.heap.size w w') : RMap w' v m := by
  obtain ⟨a0, a1, rfl, h0, h1⟩ := h; exact ⟨a0, a1, rfl, h0.keep hb, h1.keep hb⟩
theorem OMap.keep (h : OMap w B v m) (hb : Below w.heap.size w w') : OMap w' B v m := by
  obtain ⟨a0, a1, rfl, h0, h1, hap⟩ := h; exact ⟨a0, a1, rfl, h0.keep hb, h1.keep hb, hap⟩
theorem OMap.base (h : OMap w B v m) (hB : B' ≤ B) : OMap w B' v m := by
  obtain ⟨a0, a1, rfl, h0, h1, hap⟩ := h; exact ⟨a0, a1, rfl, h0.base hB, h1.base hB, hap⟩
theorem OMap.same (h : OMap w B v m) (hk : ∀ k, B ≤ k → k < w.heap.size → w'.heap[k]? = w.heap[k]?) : OMap w' B v m := by
  obtain ⟨a0, a1, rfl, h0, h1, hap⟩ := h; exact ⟨a0, a1, rfl, h0.same hk, h1.same hk, hap⟩
theorem OMap.reads (h : OMap w B v m) : RMap w v m := by
  obtain ⟨a0, a1, rfl, h0, h1, -⟩ := h; exact ⟨a0, a1, rfl, h0.reads, h1.reads⟩
theorem RMap.form (h : RMap w v m) : ∃ A0 c0 A1 c1, v = .agg #[.slice A0 m.sorts.length c0, .slice A1 m.ops.length c1] := by
  obtain ⟨a0, a1, rfl, h0, h1⟩ := h
  obtain ⟨A0, c0, rfl, -⟩ := h0.form
  obtain ⟨A1, c1, rfl, -⟩ := h1.form
  exact ⟨_, _, _, _, rfl⟩
theorem RMap.of {a0 a1 : Value} (h : RMap w (.agg #[a0, a1]) m) : RInts w a0 m.sorts ∧ RInts w a1 m.ops := by
  obtain ⟨a0', a1', he, h0, h1⟩ := h
  injection he with he
  simp at he
  obtain ⟨rfl, rfl⟩ := he
  exact ⟨h0, h1⟩
theorem OMap.of {a0 a1 : Value} (h : OMap w B (.agg #[a0, a1]) m) : OInts w B a0 m.sorts ∧ OInts w B a1 m.ops ∧ Apart a0 a1 := by
  obtain ⟨a0', a1', he, hr⟩ := h
  injection he with he
  simp at he
  obtain ⟨rfl, rfl⟩ := he
  exact hr
end
def FitsMp (m : MMap) : Prop := m.sorts.length ≤ 1048576 ∧ m.ops.length ≤ 1048576
def SmallMp (m : MMap) : Prop := Small m.sorts ∧ Small m.ops
def sameMp (a b : MMap) : Bool := (sameI a.sorts b.sorts) && sameI a.ops b.ops
theorem sameMp_self (a : MMap) : sameMp a a = true := by unfold sameMp sameI; simp
theorem sameMp_eq {a b : MMap} : sameMp a b = true ↔ a = b := by
  obtain ⟨x0, x1⟩ := a
  obtain ⟨y0, y1⟩ := b
  unfold sameMp sameI
  simp [and_assoc]
end

section
open Go.RowKit
set_option linter.unusedVariables false
set_option linter.unusedSimpArgs false

/-- a row with its numbers replaced by those to which they are led; letters stay -/
def ledM (to row : List Int) : List Int := row.map fun x => if x < 100 then to.getD x.toNat 0 else x
def InTo (to row : List Int) : Prop := ∀ x ∈ row, x < 100 → 0 ≤ x ∧ x < (to.length : Int)
theorem ledM_len (to row : List Int) : (ledM to row).length = row.length := by simp [ledM]
theorem ledM_at {to row : List Int} {k : Nat} (hk : k < row.length) : (ledM to row)[k]? = some (if row[k] < 100 then to.getD (row[k]).toNat 0 else row[k]) := by
  simp [ledM, List.getElem?_eq_getElem hk]
theorem ledM_take {to row : List Int} {k : Nat} (hk : k < row.length) : ledM to (row.take (k + 1)) = ledM to (row.take k) ++ [if row[k] < 100 then to.getD (row[k]).toNat 0 else row[k]] := by
  rw [List.take_succ_eq_append_getElem hk]; unfold ledM; rw [List.map_append]; rfl
theorem ledM_nil (to : List Int) : ledM to [] = [] := rfl
/-- the same of a row of sorts -/
def rowLed (to row : List Int) : List Int := row.map fun x => to.getD x.toNat 0
theorem rowLed_len (to row : List Int) : (rowLed to row).length = row.length := by simp [rowLed]
theorem rowLed_take {to row : List Int} {k : Nat} (hk : k < row.length) : rowLed to (row.take (k + 1)) = rowLed to (row.take k) ++ [to.getD (row[k]).toNat 0] := by
  rw [List.take_succ_eq_append_getElem hk]; unfold rowLed; rw [List.map_append]; rfl
theorem rowLed_led {to row : List Int} (h : ∀ x ∈ row, x < 100) : rowLed to row = ledM to row := by
  unfold rowLed ledM
  refine List.map_congr_left fun x hx => ?_
  rw [if_pos (h x hx)]
def ledOp (a b : MSig) (m : MMap) (k : Nat) : Bool := (decide (0 ≤ m.ops.getD k 0) && decide (m.ops.getD k 0 < (b.ops.length : Int))) && decide (ledM m.sorts (a.ops.getD k []) = b.ops.getD (m.ops.getD k 0).toNat [])
def allLed (a b : MSig) (m : MMap) (n : Nat) : Bool := (List.range n).all (ledOp a b m)
theorem allLed_zero (a b : MSig) (m : MMap) : allLed a b m 0 = true := rfl
theorem allLed_succ (a b : MSig) (m : MMap) (n : Nat) : allLed a b m (n + 1) = (allLed a b m n && ledOp a b m n) := by
  unfold allLed; rw [List.range_succ, List.all_append]; simp
theorem allLed_bad {a b : MSig} {m : MMap} {k n : Nat} (hk : k < n) (h : ledOp a b m k = false) : allLed a b m n = false := by
  unfold allLed; rw [List.all_eq_false]; exact ⟨k, List.mem_range.2 hk, by simp [h]⟩
def mapOkB (a b : MSig) (m : MMap) : Bool := ((((validB a && validB b) && decide ((m.sorts.length : Int) = a.sorts)) && decide (m.ops.length = a.ops.length)) && belowB m.sorts b.sorts) && allLed a b m m.ops.length
theorem mapOk_no1 {a b : MSig} {m : MMap} (h : validB a = false) : mapOkB a b m = false := by unfold mapOkB; simp [h]
theorem mapOk_no2 {a b : MSig} {m : MMap} (h : validB b = false) : mapOkB a b m = false := by unfold mapOkB; simp [h]
theorem mapOk_no3 {a b : MSig} {m : MMap} (h : ¬ (m.sorts.length : Int) = a.sorts) : mapOkB a b m = false := by unfold mapOkB; simp [h]
theorem mapOk_no4 {a b : MSig} {m : MMap} (h : ¬ m.ops.length = a.ops.length) : mapOkB a b m = false := by unfold mapOkB; simp [h]
theorem mapOk_no5 {a b : MSig} {m : MMap} (h : belowB m.sorts b.sorts = false) : mapOkB a b m = false := by unfold mapOkB; simp [h]
theorem mapOk_no6 {a b : MSig} {m : MMap} {k : Nat} (hk : k < m.ops.length) (h : ledOp a b m k = false) : mapOkB a b m = false := by unfold mapOkB; simp [allLed_bad hk h]
theorem mapOk_yes {a b : MSig} {m : MMap} (h1 : validB a = true) (h2 : validB b = true) (h3 : (m.sorts.length : Int) = a.sorts) (h4 : m.ops.length = a.ops.length) (h5 : belowB m.sorts b.sorts = true) (h6 : allLed a b m m.ops.length = true) : mapOkB a b m = true := by
  unfold mapOkB; simp [h1, h2, h3, h4, h5]; rw [← h4]; exact h6
structure MapFacts (a b : MSig) (m : MMap) : Prop where
  va : validB a = true
  vb : validB b = true
  sl : (m.sorts.length : Int) = a.sorts
  ol : m.ops.length = a.ops.length
  sb : ∀ x ∈ m.sorts, 0 ≤ x ∧ x < b.sorts
  ob : ∀ x ∈ m.ops, 0 ≤ x ∧ x < (b.ops.length : Int)
  oo : ∀ (k : Nat) (h1 : k < a.ops.length) (h2 : k < m.ops.length), b.ops[(m.ops[k]).toNat]? = some (ledM m.sorts a.ops[k])
theorem mapOk_facts {a b : MSig} {m : MMap} (h : mapOkB a b m = true) : MapFacts a b m := by
  unfold mapOkB at h
  simp only [Bool.and_eq_true, decide_eq_true_eq] at h
  obtain ⟨⟨⟨⟨⟨h1, h2⟩, h3⟩, h4⟩, h5⟩, h6⟩ := h
  have op : ∀ k, (h : k < m.ops.length) → ((0 ≤ m.ops[k] ∧ m.ops[k] < (b.ops.length : Int)) ∧ ledM m.sorts (a.ops.getD k []) = b.ops.getD (m.ops[k]).toNat []) := by
    intro k hk
    unfold allLed at h6
    rw [List.all_eq_true] at h6
    have := h6 k (List.mem_range.2 hk)
    unfold ledOp at this
    rw [getD_at _ hk] at this
    simpa using this
  refine ⟨h1, h2, h3, h4, by simpa [belowB] using h5, fun x hx => ?_, fun k hk1 hk2 => ?_⟩
  · obtain ⟨k, hk, rfl⟩ := List.getElem_of_mem hx
    exact (op k hk).1
  · obtain ⟨⟨p, q⟩, r⟩ := op k hk2
    rw [getD_at _ hk1] at r
    have hl : (m.ops[k]).toNat < b.ops.length := by omega
    rw [getD_at _ hl] at r
    rw [List.getElem?_eq_getElem hl, r]
theorem facts_ok {a b : MSig} {m : MMap} (h : MapFacts a b m) : mapOkB a b m = true := by
  refine mapOk_yes h.va h.vb h.sl h.ol (by simpa [belowB] using h.sb) ?_
  unfold allLed
  rw [List.all_eq_true]
  intro k hk
  have hk := List.mem_range.1 hk
  have hka : k < a.ops.length := by rw [← h.ol]; exact hk
  have hb := h.ob _ (List.getElem_mem hk)
  have ho := h.oo k hka hk
  unfold ledOp
  rw [getD_at _ hk, getD_at _ hka]
  have hl : (m.ops[k]).toNat < b.ops.length := by omega
  rw [getD_at _ hl]
  rw [List.getElem?_eq_getElem hl] at ho
  injection ho with ho
  simp [hb.1, hb.2, ho]
/-- sorts are led -/
theorem MapFacts.sorts_in {a b : MSig} {m : MMap} (h : MapFacts a b m) {row : List Int} (hr : ∀ x ∈ row, 0 ≤ x ∧ x < a.sorts) : InTo m.sorts row := fun x hx _ => by
  have := hr x hx; have := h.sl; omega
theorem MapFacts.op_in {a b : MSig} {m : MMap} (h : MapFacts a b m) {k : Nat} (hk : k < a.ops.length) : InTo m.sorts a.ops[k] := h.sorts_in (valid_row h.va hk).2.2
def noMap : MMap := ⟨[], []⟩
def countM (n : Nat) : List Int := (List.range n).map fun (i : Nat) => (i : Int)
theorem countM_len (n : Nat) : (countM n).length = n := by simp [countM]
theorem countM_at {n k : Nat} (h : k < n) : (countM n)[k]? = some (k : Int) := by simp [countM, h]
theorem countM_succ (n : Nat) : countM (n + 1) = countM n ++ [(n : Int)] := by unfold countM; rw [List.range_succ]; simp
def selfM (s : MSig) : MMap := if validB s then ⟨countM s.sorts.toNat, countM s.ops.length⟩ else noMap
def thenM (a b c : MSig) (m n : MMap) : MMap × Bool := if mapOkB a b m && mapOkB b c n then (⟨ledM n.sorts m.sorts, ledM n.ops m.ops⟩, true) else (noMap, false)
def mapTermM (a b : MSig) (m : MMap) (vars t : List Int) : List Int × List Int × Bool := if mapOkB a b m && decide (0 ≤ sortM a vars t) then (ledM m.sorts vars, ledM m.ops t, true) else ([], [], false)
def noEq : MEq := ⟨[], [], []⟩
def ledE (m : MMap) (e : MEq) : MEq := ⟨ledM m.sorts e.vars, ledM m.ops e.left, ledM m.ops e.right⟩
def mapEqM (a b : MSig) (m : MMap) (e : MEq) : MEq × Bool := if mapOkB a b m && eqOkB a e then (ledE m e, true) else (noEq, false)
end

section
open Go.RowKit
set_option linter.unusedVariables false
set_option linter.unusedSimpArgs false

/-- how many rows of values -/
def waysM : List Int → Int
  | [] => 1
  | z :: zs => z * waysM zs
theorem waysM_append (xs ys : List Int) : waysM (xs ++ ys) = waysM xs * waysM ys := by
  induction xs with
  | nil => simp [waysM]
  | cons x xs ih => simp only [List.cons_append, waysM, ih, Int.mul_assoc]
theorem waysM_take {xs : List Int} {k : Nat} (hk : k < xs.length) : waysM (xs.take (k + 1)) = waysM (xs.take k) * xs[k] := by
  rw [List.take_succ_eq_append_getElem hk, waysM_append]; simp [waysM]
/-- sizes of sorts -/
def Sizes (zs : List Int) : Prop := ∀ z ∈ zs, 1 ≤ z ∧ z ≤ 3
theorem Sizes.take {zs : List Int} (h : Sizes zs) (k : Nat) : Sizes (zs.take k) := fun z hz => h z (List.mem_of_mem_take hz)
theorem Sizes.tail {z : Int} {zs : List Int} (h : Sizes (z :: zs)) : Sizes zs := fun x hx => h x (List.mem_cons_of_mem _ hx)
theorem ways_pos {zs : List Int} (h : Sizes zs) : 1 ≤ waysM zs := by
  induction zs with
  | nil => simp [waysM]
  | cons z zs ih =>
    have h1 := h z (List.mem_cons_self ..)
    have h2 := ih h.tail
    simp only [waysM]
    have := Int.mul_le_mul h1.1 h2 (by omega) (by omega)
    omega
theorem ways_le {zs : List Int} (h : Sizes zs) : waysM zs ≤ 3 ^ zs.length := by
  induction zs with
  | nil => simp [waysM]
  | cons z zs ih =>
    have h1 := h z (List.mem_cons_self ..)
    have h2 := ih h.tail
    have h3 := ways_pos h.tail
    simp only [waysM, List.length_cons]
    rw [Int.pow_succ, Int.mul_comm (3 ^ zs.length) 3]
    exact Int.mul_le_mul h1.2 h2 (by omega) (by omega)
theorem ways_few {zs : List Int} (h : Sizes zs) (hl : zs.length ≤ 4) : waysM zs ≤ 81 := by
  have h1 := ways_le h
  have : ∀ n : Nat, n ≤ 4 → (3 : Int) ^ n ≤ 81 := by
    intro n hn
    match n, hn with
    | 0, _ => decide
    | 1, _ => decide
    | 2, _ => decide
    | 3, _ => decide
    | 4, _ => decide
  exact Int.le_trans h1 (this _ hl)

/-- the number that a row of values has -/
def placeM : Int → List Int → List Int → Int
  | p, z :: zs, v :: vs => placeM (p * z + v) zs vs
  | p, _, _ => p
def InAll (zs vs : List Int) : Prop := vs.length = zs.length ∧ ∀ (j : Nat) (h : j < zs.length) (h' : j < vs.length), 0 ≤ vs[j] ∧ vs[j] < zs[j]
theorem InAll.tail {z v : Int} {zs vs : List Int} (h : InAll (z :: zs) (v :: vs)) : (0 ≤ v ∧ v < z) ∧ InAll zs vs := by
  obtain ⟨h1, h2⟩ := h
  refine ⟨h2 0 (by simp) (by simp), by simpa using h1, fun j a b => ?_⟩
  exact h2 (j + 1) (by simpa using a) (by simpa using b)
theorem InAll.cons {z v : Int} {zs vs : List Int} (h : 0 ≤ v ∧ v < z) (h2 : InAll zs vs) : InAll (z :: zs) (v :: vs) := by
  refine ⟨by simp [h2.1], fun j a b => ?_⟩
  cases j with
  | zero => exact h
  | succ j => exact h2.2 j (by simpa using a) (by simpa using b)
theorem InAll.nil : InAll [] [] := ⟨rfl, fun j h => by simp at h⟩
theorem InAll.take {zs vs : List Int} (h : InAll zs vs) (k : Nat) : InAll (zs.take k) (vs.take k) := by
  refine ⟨by simp [h.1], fun j a b => ?_⟩
  simp only [List.length_take] at a b
  simp only [List.getElem_take]
  exact h.2 j (by omega) (by omega)
theorem place_bound {zs vs : List Int} (hz : Sizes zs) (h : InAll zs vs) : ∀ p : Int, 0 ≤ p → p * waysM zs ≤ placeM p zs vs ∧ placeM p zs vs < (p + 1) * waysM zs := by
  induction zs generalizing vs with
  | nil =>
    intro p hp
    cases vs with
    | nil => simp [placeM, waysM]; omega
    | cons v vs => have := h.1; simp at this
  | cons z zs ih =>
    intro p hp
    cases vs with
    | nil => have := h.1; simp at this
    | cons v vs =>
      obtain ⟨⟨h1, h2⟩, h3⟩ := h.tail
      have hz1 := hz z (List.mem_cons_self ..)
      have hw := ways_pos hz.tail
      have hp0 : 0 ≤ p * z := Int.mul_nonneg hp (by omega)
      obtain ⟨i1, i2⟩ := ih hz.tail h3 (p * z + v) (by omega)
      simp only [placeM, waysM]
      refine ⟨Int.le_trans ?_ i1, Int.lt_of_lt_of_le i2 ?_⟩
      · rw [← Int.mul_assoc]
        exact Int.mul_le_mul_of_nonneg_right (by omega) (by omega)
      · rw [← Int.mul_assoc]
        refine Int.mul_le_mul_of_nonneg_right ?_ (by omega)
        rw [Int.add_mul]; omega
theorem place_in {zs vs : List Int} (hz : Sizes zs) (h : InAll zs vs) : 0 ≤ placeM 0 zs vs ∧ placeM 0 zs vs < waysM zs := by
  have := place_bound hz h 0 (Int.le_refl _)
  simpa using this
theorem placeM_snoc : ∀ (zs vs : List Int) (z v p : Int), zs.length = vs.length → placeM p (zs ++ [z]) (vs ++ [v]) = placeM p zs vs * z + v
  | [], [], z, v, p, _ => by simp [placeM]
  | a :: zs, b :: vs, z, v, p, h => by
    simp only [List.cons_append, placeM]
    exact placeM_snoc zs vs z v _ (by simpa using h)
  | [], b :: vs, z, v, p, h => by simp at h
  | a :: zs, [], z, v, p, h => by simp at h
theorem placeM_take {zs vs : List Int} {k : Nat} (hz : k < zs.length) (hv : k < vs.length) : placeM 0 (zs.take (k + 1)) (vs.take (k + 1)) = placeM 0 (zs.take k) (vs.take k) * zs[k] + vs[k] := by
  rw [List.take_succ_eq_append_getElem hz, List.take_succ_eq_append_getElem hv, placeM_snoc _ _ _ _ _ (by simp; omega)]

/-- the row of values with a number -/
def digM : List Int → Int → List Int
  | [], _ => []
  | z :: zs, n => (n / waysM zs) % z :: digM zs n
theorem digM_len (zs : List Int) (n : Int) : (digM zs n).length = zs.length := by
  induction zs with
  | nil => rfl
  | cons z zs ih => simp [digM, ih]
theorem digM_at : ∀ {zs : List Int} {n : Int} {k : Nat} (h : k < zs.length), (digM zs n)[k]? = some ((n / waysM (zs.drop (k + 1))) % zs[k])
  | z :: zs, n, 0, h => by simp [digM]
  | z :: zs, n, k + 1, h => by
    simp only [digM, List.getElem?_cons_succ, List.drop_succ_cons, List.getElem_cons_succ]
    exact digM_at (by simpa using h)
theorem dig_in {zs : List Int} (hz : Sizes zs) (n : Int) : InAll zs (digM zs n) := by
  induction zs with
  | nil => exact InAll.nil
  | cons z zs ih =>
    have := hz z (List.mem_cons_self ..)
    exact InAll.cons ⟨Int.emod_nonneg _ (by omega), Int.emod_lt_of_pos _ (by omega)⟩ (ih hz.tail)
/-- behind the last place that is told: what is left of the number -/
theorem dig_left {zs : List Int} (hz : Sizes zs) {n : Int} {k : Nat} (h : k < zs.length) : (n / waysM (zs.drop (k + 1))) / zs[k] = n / waysM (zs.drop k) := by
  have hw := ways_pos (zs := zs.drop (k + 1)) (fun z hz' => hz z (List.mem_of_mem_drop hz'))
  rw [List.drop_eq_getElem_cons h]
  simp only [waysM]
  rw [Int.mul_comm, Int.ediv_ediv, if_neg (by omega), Int.sub_zero]

/-- the next row of values -/
def nextM : List Int → List Int → List Int × Bool
  | z :: zs, x :: xs => if (nextM zs xs).2 then (x :: (nextM zs xs).1, true) else if x + 1 < z then ((x + 1) :: (nextM zs xs).1, true) else (0 :: (nextM zs xs).1, false)
  | _, _ => ([], false)
theorem nextM_len : ∀ {zs xs : List Int}, xs.length = zs.length → (nextM zs xs).1.length = xs.length
  | [], [], _ => rfl
  | z :: zs, x :: xs, h => by
    have ih := nextM_len (zs := zs) (xs := xs) (by simpa using h)
    simp only [nextM]
    split
    · simp [ih]
    · split <;> simp [ih]
  | [], x :: xs, h => by simp at h
  | z :: zs, [], h => by simp at h
theorem next_dig {zs : List Int} (hz : Sizes zs) (n : Int) (hn : 0 ≤ n) : nextM zs (digM zs n) = (digM zs (n + 1), !((n + 1) % waysM zs == 0)) := by
  induction zs with
  | nil => simp [nextM, digM, waysM, Int.emod_one]
  | cons z zs ih =>
    have hz1 := hz z (List.mem_cons_self ..)
    have hw := ways_pos hz.tail
    have ih := ih hz.tail
    simp only [digM, nextM, ih, waysM]
    clear ih
    generalize waysM zs = W at *
    have hd := Int.emod_add_mul_ediv n W
    have hd1 := Int.emod_add_mul_ediv (n + 1) W
    have b1 := Int.emod_nonneg n (show W ≠ 0 by omega)
    have b2 := Int.emod_lt_of_pos n (show 0 < W by omega)
    have b3 := Int.emod_nonneg (n + 1) (show W ≠ 0 by omega)
    have b4 := Int.emod_lt_of_pos (n + 1) (show 0 < W by omega)
    have hq0 : 0 ≤ n / W := Int.ediv_nonneg hn (by omega)
    have key : (n + 1) % (z * W) = W * ((n + 1) / W % z) + (n + 1) % W := by
      generalize (n + 1) / W = q at *
      have c1 := Int.emod_nonneg q (show z ≠ 0 by omega)
      have c2 := Int.emod_lt_of_pos q (show 0 < z by omega)
      have c3 := Int.emod_add_mul_ediv q z
      have c4 : W * (q % z) ≤ W * (z - 1) := Int.mul_le_mul_of_nonneg_left (by omega) (by omega)
      have c5 : 0 ≤ W * (q % z) := Int.mul_nonneg (by omega) c1
      rw [Int.mul_sub] at c4
      have e : n + 1 = (W * (q % z) + (n + 1) % W) + z * W * (q / z) := by
        have : W * q = W * (q % z) + z * W * (q / z) := by
          conv => lhs; rw [← c3]
          rw [Int.mul_add, Int.mul_comm z W, Int.mul_assoc]
        omega
      conv => lhs; rw [e]
      rw [Int.add_mul_emod_self_left, Int.emod_eq_of_lt (by omega) (by rw [Int.mul_comm z W]; omega)]
    by_cases hm : (n + 1) % W = 0
    · have h1 : n % W + 1 = W := by
        rcases Int.lt_trichotomy (n % W + 1) W with hh | hh | hh
        · exfalso
          have : (n + 1) % W = n % W + 1 := by
            have e : n + 1 = (n % W + 1) + W * (n / W) := by omega
            rw [e, Int.add_mul_emod_self_left, Int.emod_eq_of_lt (by omega) hh]
          omega
        · exact hh
        · omega
      have h2 : n + 1 = W * (n / W + 1) := by rw [Int.mul_add]; omega
      have hq : (n + 1) / W = n / W + 1 := by rw [h2, Int.mul_ediv_cancel_left _ (by omega)]
      rw [hm, hq] at key
      rw [hm, hq, key]
      clear key hd1 b3 b4 h2
      have c1 := Int.emod_nonneg (n / W) (show z ≠ 0 by omega)
      have c2 := Int.emod_lt_of_pos (n / W) (show 0 < z by omega)
      have c3 := Int.emod_add_mul_ediv (n / W) z
      generalize n / W = q at *
      by_cases hc : q % z + 1 < z
      · have e1 : (q + 1) % z = q % z + 1 := by
          have e : q + 1 = (q % z + 1) + z * (q / z) := by omega
          rw [e, Int.add_mul_emod_self_left, Int.emod_eq_of_lt (by omega) hc]
        have hpos : 0 < W * (q % z + 1) := Int.mul_pos (by omega) (by omega)
        rw [e1]
        have hne : ¬ W * (q % z + 1) + 0 = 0 := by omega
        simp [hc, hne]
        omega
      · have e1 : (q + 1) % z = 0 := by
          have e : q + 1 = z * (q / z + 1) := by rw [Int.mul_add]; omega
          rw [e, Int.mul_emod_right]
        rw [e1]
        simp [hc]
    · have h1 : ¬ n % W + 1 = W := by
        intro h1
        apply hm
        have : n + 1 = W * (n / W + 1) := by rw [Int.mul_add]; omega
        rw [this, Int.mul_emod_right]
      have hq : (n + 1) / W = n / W := by
        have h2 : n + 1 = (n % W + 1) + W * (n / W) := by omega
        rw [h2, Int.add_mul_ediv_left _ _ (by omega), Int.ediv_eq_zero_of_lt (by omega) (by omega)]
        omega
      have c1 := Int.emod_nonneg ((n + 1) / W) (show z ≠ 0 by omega)
      have hnn : 0 ≤ W * ((n + 1) / W % z) := Int.mul_nonneg (by omega) c1
      have hm2 : ¬ (n + 1) % (z * W) = 0 := by rw [key]; omega
      simp [hm, hm2, hq]
end

section
open Go.RowKit
theorem List.mem_of_mem_dropLast' {x : Int} {l : List Int} (h : x ∈ l.dropLast) : x ∈ l := List.dropLast_subset l h
set_option linter.unusedVariables false
set_option linter.unusedSimpArgs false

theorem sizes_led {sizes row : List Int} (hz : Sizes sizes) (hin : ∀ x ∈ row, 0 ≤ x ∧ x < 100 ∧ x < (sizes.length : Int)) : Sizes (ledM sizes row) := by
  intro z hzm
  unfold ledM at hzm
  obtain ⟨x, hx, rfl⟩ := List.mem_map.1 hzm
  obtain ⟨h0, h1, h2⟩ := hin x hx
  rw [if_pos h1, getD_at _ (show x.toNat < sizes.length by omega)]
  exact hz _ (List.getElem_mem _)
def tableB (sizes row table : List Int) : Bool := decide ((table.length : Int) = waysM (ledM sizes row.dropLast)) && belowB table (sizes.getD (row.getLastD (-1)).toNat 0)
def tabB (s : MSig) (m : MModel) (k : Nat) : Bool := tableB m.sizes (s.ops.getD k []) (m.tables.getD k [])
def allTab (s : MSig) (m : MModel) (n : Nat) : Bool := (List.range n).all (tabB s m)
theorem allTab_zero (s : MSig) (m : MModel) : allTab s m 0 = true := rfl
theorem allTab_succ (s : MSig) (m : MModel) (n : Nat) : allTab s m (n + 1) = (allTab s m n && tabB s m n) := by
  unfold allTab; rw [List.range_succ, List.all_append]; simp
theorem allTab_bad {s : MSig} {m : MModel} {k n : Nat} (hk : k < n) (h : tabB s m k = false) : allTab s m n = false := by
  unfold allTab; rw [List.all_eq_false]; exact ⟨k, List.mem_range.2 hk, by simp [h]⟩
def sizesB (zs : List Int) : Bool := zs.all fun z => inB z 1 3
theorem sizesB_iff {zs : List Int} : sizesB zs = true ↔ Sizes zs := by unfold sizesB Sizes inB; simp
theorem sizesB_bad {zs : List Int} {k : Nat} (hk : k < zs.length) (h : inB zs[k] 1 3 = false) : sizesB zs = false := all_bad hk h
def modelB (s : MSig) (m : MModel) : Bool := (((validB s && decide ((m.sizes.length : Int) = s.sorts)) && decide (m.tables.length = s.ops.length)) && sizesB m.sizes) && allTab s m m.tables.length
theorem model_no1 {s : MSig} {m : MModel} (h : validB s = false) : modelB s m = false := by unfold modelB; simp [h]
theorem model_no2 {s : MSig} {m : MModel} (h : ¬ (m.sizes.length : Int) = s.sorts) : modelB s m = false := by unfold modelB; simp [h]
theorem model_no3 {s : MSig} {m : MModel} (h : ¬ m.tables.length = s.ops.length) : modelB s m = false := by unfold modelB; simp [h]
theorem model_no4 {s : MSig} {m : MModel} (h : sizesB m.sizes = false) : modelB s m = false := by unfold modelB; simp [h]
theorem model_no5 {s : MSig} {m : MModel} {k : Nat} (hk : k < m.tables.length) (h : tabB s m k = false) : modelB s m = false := by unfold modelB; simp [allTab_bad hk h]
theorem model_yes {s : MSig} {m : MModel} (h1 : validB s = true) (h2 : (m.sizes.length : Int) = s.sorts) (h3 : m.tables.length = s.ops.length) (h4 : sizesB m.sizes = true) (h5 : allTab s m m.tables.length = true) : modelB s m = true := by
  unfold modelB; simp only [h1, h2, h3, h4, decide_true, Bool.true_and]; rw [← h3]; exact h5
structure ModFacts (s : MSig) (m : MModel) : Prop where
  va : validB s = true
  sl : (m.sizes.length : Int) = s.sorts
  tl : m.tables.length = s.ops.length
  sz : Sizes m.sizes
  tb : ∀ k, k < s.ops.length → tableB m.sizes (opRow s k) (m.tables.getD k []) = true
theorem model_facts {s : MSig} {m : MModel} (h : modelB s m = true) : ModFacts s m := by
  unfold modelB at h
  simp only [Bool.and_eq_true, decide_eq_true_eq] at h
  obtain ⟨⟨⟨⟨h1, h2⟩, h3⟩, h4⟩, h5⟩ := h
  refine ⟨h1, h2, h3, sizesB_iff.1 h4, fun k hk => ?_⟩
  unfold allTab at h5
  rw [List.all_eq_true] at h5
  exact h5 k (List.mem_range.2 (by omega))
theorem facts_model {s : MSig} {m : MModel} (h : ModFacts s m) : modelB s m = true :=
  model_yes h.va h.sl h.tl (sizesB_iff.2 h.sz) (by
    unfold allTab
    rw [List.all_eq_true]
    exact fun k hk => h.tb k (by have := List.mem_range.1 hk; have := h.tl; omega))
/-- the sizes of what an operation takes -/
def takenM (s : MSig) (m : MModel) (k : Nat) : List Int := ledM m.sizes (opRow s k).dropLast
section
variable {s : MSig} {m : MModel}
theorem ModFacts.sorts (h : ModFacts s m) : m.sizes.length ≤ 3 ∧ 1 ≤ m.sizes.length := by have := valid_sorts h.va; have := h.sl; omega
theorem ModFacts.size (h : ModFacts s m) {x : Int} (h0 : 0 ≤ x) (h1 : x < s.sorts) : ∃ hx : x.toNat < m.sizes.length, m.sizes.getD x.toNat 0 = m.sizes[x.toNat] ∧ 1 ≤ m.sizes[x.toNat] ∧ m.sizes[x.toNat] ≤ 3 := by
  have := h.sl
  have hx : x.toNat < m.sizes.length := by omega
  exact ⟨hx, getD_at _ hx, h.sz _ (List.getElem_mem _)⟩
theorem ModFacts.led (h : ModFacts s m) {row : List Int} (hr : ∀ x ∈ row, 0 ≤ x ∧ x < s.sorts) : Sizes (ledM m.sizes row) := by
  have h1 := valid_sorts h.va
  have h2 := h.sl
  exact sizes_led h.sz fun x hx => by have := hr x hx; omega
theorem ModFacts.into (h : ModFacts s m) {row : List Int} (hr : ∀ x ∈ row, 0 ≤ x ∧ x < s.sorts) : InTo m.sizes row := fun x hx _ => by have := hr x hx; have := h.sl; omega
theorem ModFacts.taken (h : ModFacts s m) {k : Nat} (hk : k < s.ops.length) : Sizes (takenM s m k) ∧ (takenM s m k).length ≤ 2 := by
  obtain ⟨h1, h2, h3⟩ := opRow_valid h.va hk
  refine ⟨h.led fun x hx => h3 x (List.mem_of_mem_dropLast' hx), ?_⟩
  unfold takenM; rw [ledM_len, List.length_dropLast]; omega
theorem ModFacts.table (h : ModFacts s m) {k : Nat} (hk : k < s.ops.length) : ∃ hk' : k < m.tables.length, m.tables.getD k [] = m.tables[k] ∧ (m.tables[k].length : Int) = waysM (takenM s m k) ∧ ∀ x ∈ m.tables[k], 0 ≤ x ∧ x < m.sizes.getD ((opRow s k).getLastD (-1)).toNat 0 := by
  have hk' : k < m.tables.length := by rw [h.tl]; exact hk
  have := h.tb k hk
  rw [getD_at _ hk'] at this
  unfold tableB belowB at this
  simp only [Bool.and_eq_true, decide_eq_true_eq, List.all_eq_true] at this
  exact ⟨hk', getD_at _ hk', this.1, this.2⟩
end

/-! values of terms -/
def sizesT (m : MModel) (ts : List Tm) : List Int := ts.map fun t => m.sizes.getD t.sort.toNat 0
mutual
def valT (m : MModel) (vals : List Int) : Tm → Int
  | .leaf k _ => vals.getD k 0
  | .node op _ ts => (m.tables.getD op []).getD (placeM 0 (sizesT m ts) (valTs m vals ts)).toNat 0
def valTs (m : MModel) (vals : List Int) : List Tm → List Int
  | [] => []
  | t :: ts => valT m vals t :: valTs m vals ts
end
theorem valTs_map (m : MModel) (vals : List Int) : ∀ ts, valTs m vals ts = ts.map (valT m vals)
  | [] => by simp [valTs]
  | t :: ts => by simp [valTs, valTs_map m vals ts]
theorem valTs_len (m : MModel) (vals : List Int) (ts : List Tm) : (valTs m vals ts).length = ts.length := by rw [valTs_map]; simp
theorem sizesT_len (m : MModel) (ts : List Tm) : (sizesT m ts).length = ts.length := by simp [sizesT]
theorem valT_node (m : MModel) (vals : List Int) (op : Nat) (lv : Int) (ts : List Tm) : valT m vals (.node op lv ts) = (m.tables.getD op []).getD (placeM 0 (sizesT m ts) (valTs m vals ts)).toNat 0 := by simp [valT]
theorem wfTs_sorts {s : MSig} {vars : List Int} : ∀ {ss : List Int} {ts : List Tm}, wfTs s vars ss ts → ss = ts.map Tm.sort
  | ss, [], h => by unfold wfTs at h; simp [h]
  | ss, t :: ts, h => by
    unfold wfTs at h
    obtain ⟨x, ss', rfl, rfl, -, h2⟩ := h
    simp [wfTs_sorts h2]
/-- the sizes of the terms that an operation takes are those of its row -/
theorem sizesT_taken {s : MSig} {m : MModel} {vars : List Int} (h : ModFacts s m) {op : Nat} {lv : Int} {ts : List Tm} (hw : wfT s vars (.node op lv ts)) : sizesT m ts = takenM s m op := by
  unfold wfT at hw
  obtain ⟨hk, -, hts⟩ := hw
  have hs := wfTs_sorts hts
  unfold takenM ledM
  rw [hs, List.map_map]
  unfold sizesT
  refine List.map_congr_left fun t ht => ?_
  have hm : t.sort ∈ (opRow s op).dropLast := by rw [hs]; exact List.mem_map_of_mem ht
  have := (opRow_valid h.va hk).2.2 _ (List.mem_of_mem_dropLast' hm)
  have h3 := valid_sorts h.va
  show m.sizes.getD t.sort.toNat 0 = if t.sort < 100 then m.sizes.getD t.sort.toNat 0 else t.sort
  rw [if_pos (by omega)]
/-- values of letters -/
def ValsOk (m : MModel) (vars vals : List Int) : Prop := vals.length = vars.length ∧ ∀ (k : Nat) (h : k < vars.length) (h' : k < vals.length), 0 ≤ vals[k] ∧ vals[k] < m.sizes.getD (vars[k]).toNat 0
mutual
theorem valT_in {s : MSig} {m : MModel} {vars vals : List Int} (h : ModFacts s m) (hv : ValsOk m vars vals) : ∀ tm : Tm, wfT s vars tm → 0 ≤ valT m vals tm ∧ valT m vals tm < m.sizes.getD tm.sort.toNat 0
  | .leaf k of, hw => by
    unfold wfT at hw
    obtain ⟨hk, rfl⟩ := hw
    have hk' : k < vals.length := by rw [hv.1]; exact hk
    simp only [valT, Tm.sort]
    rw [getD_at _ hk', getD_at _ hk]
    exact hv.2 k hk hk'
  | .node op lv ts, hw => by
    have hw0 := hw
    unfold wfT at hw
    obtain ⟨hk, rfl, hts⟩ := hw
    have hin := valTs_in h hv ts _ hts
    rw [valT_node]
    obtain ⟨hk', e, hl, hx⟩ := h.table hk
    obtain ⟨p0, p1⟩ := place_in (zs := sizesT m ts) (by rw [sizesT_taken h hw0]; exact (h.taken hk).1) hin
    rw [sizesT_taken h hw0, ← hl] at p1
    rw [sizesT_taken h hw0] at p0
    rw [sizesT_taken h hw0]
    rw [e, getD_at _ (show (placeM 0 (takenM s m op) (valTs m vals ts)).toNat < m.tables[op].length by omega)]
    exact hx _ (List.getElem_mem _)
theorem valTs_in {s : MSig} {m : MModel} {vars vals : List Int} (h : ModFacts s m) (hv : ValsOk m vars vals) : ∀ (ts : List Tm) (ss : List Int), wfTs s vars ss ts → InAll (sizesT m ts) (valTs m vals ts)
  | [], ss, hw => by unfold sizesT valTs; exact InAll.nil
  | t :: ts, ss, hw => by
    unfold wfTs at hw
    obtain ⟨x, ss', rfl, rfl, h1, h2⟩ := hw
    have := valTs_in h hv ts _ h2
    unfold valTs
    exact InAll.cons (valT_in h hv t h1) this
end
theorem place_table {s : MSig} {m : MModel} {vars vals : List Int} (h : ModFacts s m) (hv : ValsOk m vars vals) {op : Nat} {lv : Int} {ts : List Tm} (hw : wfT s vars (.node op lv ts)) :
    ∃ (n : Nat) (hk : op < m.tables.length) (hn : n < m.tables[op].length), placeM 0 (sizesT m ts) (valTs m vals ts) = (n : Int) ∧ valT m vals (.node op lv ts) = m.tables[op][n] := by
  have hw0 := hw
  unfold wfT at hw
  obtain ⟨hk, rfl, hts⟩ := hw
  have hin := valTs_in h hv ts _ hts
  obtain ⟨hk', e, hl, hx⟩ := h.table hk
  obtain ⟨p0, p1⟩ := place_in (zs := sizesT m ts) (by rw [sizesT_taken h hw0]; exact (h.taken hk).1) hin
  rw [sizesT_taken h hw0, ← hl] at p1
  rw [sizesT_taken h hw0] at p0
  rw [valT_node, e]
  rw [sizesT_taken h hw0]
  exact ⟨(placeM 0 (takenM s m op) (valTs m vals ts)).toNat, hk', by omega, by omega, getD_at _ _⟩
def valsB (s : MSig) (m : MModel) (vars vals : List Int) : Bool := ((varsB s vars && modelB s m) && decide (vals.length = vars.length)) && (List.range vals.length).all fun k => decide (0 ≤ vals.getD k 0) && decide (vals.getD k 0 < m.sizes.getD (vars.getD k 0).toNat 0)
def valOkAt (m : MModel) (vars vals : List Int) (k : Nat) : Bool := decide (0 ≤ vals.getD k 0) && decide (vals.getD k 0 < m.sizes.getD (vars.getD k 0).toNat 0)
def allVal (m : MModel) (vars vals : List Int) (n : Nat) : Bool := (List.range n).all (valOkAt m vars vals)
theorem allVal_zero (m : MModel) (vars vals : List Int) : allVal m vars vals 0 = true := rfl
theorem allVal_succ (m : MModel) (vars vals : List Int) (n : Nat) : allVal m vars vals (n + 1) = (allVal m vars vals n && valOkAt m vars vals n) := by
  unfold allVal; rw [List.range_succ, List.all_append]; simp
theorem allVal_bad {m : MModel} {vars vals : List Int} {k n : Nat} (hk : k < n) (h : valOkAt m vars vals k = false) : allVal m vars vals n = false := by
  unfold allVal; rw [List.all_eq_false]; exact ⟨k, List.mem_range.2 hk, by simp [h]⟩
theorem valsB_eq (s : MSig) (m : MModel) (vars vals : List Int) : valsB s m vars vals = (((varsB s vars && modelB s m) && decide (vals.length = vars.length)) && allVal m vars vals vals.length) := rfl
theorem vals_no1 {s : MSig} {m : MModel} {vars vals : List Int} (h : varsB s vars = false) : valsB s m vars vals = false := by rw [valsB_eq]; simp [h]
theorem vals_no2 {s : MSig} {m : MModel} {vars vals : List Int} (h : modelB s m = false) : valsB s m vars vals = false := by rw [valsB_eq]; simp [h]
theorem vals_no3 {s : MSig} {m : MModel} {vars vals : List Int} (h : ¬ vals.length = vars.length) : valsB s m vars vals = false := by rw [valsB_eq]; simp [h]
theorem vals_no4 {s : MSig} {m : MModel} {vars vals : List Int} {k : Nat} (hk : k < vals.length) (h : valOkAt m vars vals k = false) : valsB s m vars vals = false := by rw [valsB_eq]; simp [allVal_bad hk h]
theorem vals_yes {s : MSig} {m : MModel} {vars vals : List Int} (h1 : varsB s vars = true) (h2 : modelB s m = true) (h3 : vals.length = vars.length) (h4 : allVal m vars vals vals.length = true) : valsB s m vars vals = true := by
  rw [valsB_eq]; simp only [h1, h2, h3, decide_true, Bool.true_and]; rw [← h3]; exact h4
theorem vals_facts {s : MSig} {m : MModel} {vars vals : List Int} (h : valsB s m vars vals = true) : varsB s vars = true ∧ modelB s m = true ∧ ValsOk m vars vals := by
  rw [valsB_eq] at h
  simp only [Bool.and_eq_true, decide_eq_true_eq] at h
  obtain ⟨⟨⟨h1, h2⟩, h3⟩, h4⟩ := h
  refine ⟨h1, h2, h3, fun k hk hk' => ?_⟩
  unfold allVal at h4
  rw [List.all_eq_true] at h4
  have := h4 k (List.mem_range.2 hk')
  unfold valOkAt at this
  rw [getD_at _ hk', getD_at _ hk] at this
  simpa using this
def valueM (s : MSig) (m : MModel) (vars t vals : List Int) : Int :=
  match termM s vars t with
  | some tm => if valsB s m vars vals then valT m vals tm else -1
  | none => -1
/-- the numbers of the row of values are those of the letters -/
theorem dig_vals {s : MSig} {m : MModel} {vars : List Int} (h : ModFacts s m) (hv : varsB s vars = true) (n : Int) : ValsOk m vars (digM (ledM m.sizes vars) n) := by
  obtain ⟨-, -, h3⟩ := vars_valid hv
  have hz : Sizes (ledM m.sizes vars) := h.led fun x hx => by obtain ⟨k, hk, rfl⟩ := List.getElem_of_mem hx; exact h3 k hk
  obtain ⟨h1, h2⟩ := dig_in hz n
  rw [ledM_len] at h1
  refine ⟨h1, fun k hk hk' => ?_⟩
  have hl : k < (ledM m.sizes vars).length := by rw [ledM_len]; exact hk
  have := h2 k hl hk'
  have e := ledM_at (to := m.sizes) hk
  rw [List.getElem?_eq_getElem hl] at e
  have hx := h3 k hk
  have hvs := valid_sorts h.va
  rw [if_pos (by omega)] at e
  injection e with e
  rw [e] at this
  exact this

/-! where an equation fails -/
def failAt (m : MModel) (zs : List Int) (l r : Tm) (n : Nat) : Bool := valT m (digM zs n) l != valT m (digM zs n) r
/-- from the number n on -/
def failFrom (m : MModel) (zs : List Int) (l r : Tm) : Nat → Nat → Option (List Int)
  | 0, _ => none
  | f + 1, n => if failAt m zs l r n then some (digM zs n) else failFrom m zs l r f (n + 1)
def failRow (m : MModel) (zs : List Int) (l r : Tm) : Option (List Int) := failFrom m zs l r (waysM zs).toNat 0
theorem failFrom_step {m : MModel} {zs : List Int} {l r : Tm} {f n : Nat} (h : failAt m zs l r n = false) : failFrom m zs l r (f + 1) n = failFrom m zs l r f (n + 1) := by
  simp [failFrom, h]
theorem failFrom_hit {m : MModel} {zs : List Int} {l r : Tm} {f n : Nat} (h : failAt m zs l r n = true) : failFrom m zs l r (f + 1) n = some (digM zs n) := by
  simp [failFrom, h]
def failsM (s : MSig) (m : MModel) (e : MEq) : List Int × Bool :=
  if eqOkB s e && modelB s m then
    match termM s e.vars e.left, termM s e.vars e.right with
    | some l, some r =>
      match failRow m (ledM m.sizes e.vars) l r with
      | some row => (row, true)
      | none => ([], false)
    | _, _ => ([], false)
  else ([], false)
def holdsB (s : MSig) (m : MModel) (e : MEq) : Bool := (eqOkB s e && modelB s m) && !(failsM s m e).2
def isModelB (t : MThy) (m : MModel) : Bool := (thyB t && modelB t.over m) && t.eqs.all (holdsB t.over m)

/-! along a map; pairs -/
def modBackM (a b : MSig) (f : MMap) (m : MModel) : MModel :=
  if mapOkB a b f && modelB b m then ⟨ledM m.sizes f.sorts, f.ops.map fun o => m.tables.getD o.toNat []⟩ else ⟨[], []⟩
def timesM (xs ys : List Int) : List Int := List.zipWith (· * ·) xs ys
end

section
open Go.RowKit
set_option linter.unusedVariables false
set_option linter.unusedSimpArgs false

/-- all numbers below one -/
def allN (p : Nat → Bool) (n : Nat) : Bool := (List.range n).all p
theorem allN_zero (p : Nat → Bool) : allN p 0 = true := rfl
theorem allN_succ (p : Nat → Bool) (n : Nat) : allN p (n + 1) = (allN p n && p n) := by
  unfold allN; rw [List.range_succ, List.all_append]; simp
theorem allN_bad {p : Nat → Bool} {k n : Nat} (hk : k < n) (h : p k = false) : allN p n = false := by
  unfold allN; rw [List.all_eq_false]; exact ⟨k, List.mem_range.2 hk, by simp [h]⟩
theorem allN_at {p : Nat → Bool} {n : Nat} (h : allN p n = true) {k : Nat} (hk : k < n) : p k = true := by
  unfold allN at h; rw [List.all_eq_true] at h; exact h k (List.mem_range.2 hk)
theorem allN_iff {p : Nat → Bool} {n : Nat} : allN p n = true ↔ ∀ k, k < n → p k = true := by
  unfold allN; rw [List.all_eq_true]
  exact ⟨fun h k hk => h k (List.mem_range.2 hk), fun h k hk => h k (List.mem_range.1 hk)⟩

/-- what stands for a value of a sort -/
def ledOne (h : List (List Int)) (s v : Int) : Int := (h.getD s.toNat []).getD v.toNat 0
/-- what stands for each value of a row -/
def ledV (h : List (List Int)) (sorts vals : List Int) : List Int := List.zipWith (ledOne h) sorts vals
def VIn (h : List (List Int)) (sorts vals : List Int) : Prop := vals.length = sorts.length ∧ ∀ (j : Nat) (hj : j < sorts.length) (hj' : j < vals.length), 0 ≤ sorts[j] ∧ sorts[j] < (h.length : Int) ∧ 0 ≤ vals[j] ∧ vals[j] < ((h.getD (sorts[j]).toNat []).length : Int)
theorem ledV_len {h : List (List Int)} {sorts vals : List Int} (he : vals.length = sorts.length) : (ledV h sorts vals).length = vals.length := by
  unfold ledV; rw [List.length_zipWith]; omega
theorem ledV_at {h : List (List Int)} {sorts vals : List Int} {k : Nat} (h1 : k < sorts.length) (h2 : k < vals.length) (h3 : k < (ledV h sorts vals).length) : (ledV h sorts vals)[k] = ledOne h sorts[k] vals[k] := by
  show (List.zipWith (ledOne h) sorts vals)[k]'(by simpa [ledV] using h3) = _
  rw [List.getElem_zipWith]
theorem ledV_take {h : List (List Int)} {sorts vals : List Int} {k : Nat} (h1 : k < sorts.length) (h2 : k < vals.length) : ledV h (sorts.take (k + 1)) (vals.take (k + 1)) = ledV h (sorts.take k) (vals.take k) ++ [ledOne h sorts[k] vals[k]] := by
  unfold ledV
  rw [List.take_succ_eq_append_getElem h1, List.take_succ_eq_append_getElem h2, List.zipWith_append (by rw [List.length_take, List.length_take]; omega)]
  rfl
/-- as many numbers as values -/
def Lens (h : List (List Int)) (zs : List Int) : Prop := h.length = zs.length ∧ ∀ (k : Nat) (hk : k < zs.length), ((h.getD k []).length : Int) = zs[k]
/-- each number is a value -/
def Vals (h : List (List Int)) (ys : List Int) : Prop := ∀ (k : Nat), k < h.length → ∀ x ∈ h.getD k [], 0 ≤ x ∧ x < ys.getD k 0
theorem led_get {zs sorts : List Int} {j : Nat} (hj : j < sorts.length) (h1 : sorts[j] < 100) (h2 : j < (ledM zs sorts).length) : (ledM zs sorts)[j] = zs.getD (sorts[j]).toNat 0 := by
  have e := ledM_at (to := zs) hj
  rw [List.getElem?_eq_getElem h2] at e
  injection e with e
  rw [e, if_pos h1]
theorem vin_of {h : List (List Int)} {zs sorts vals : List Int} (hl : Lens h zs) (hs : ∀ x ∈ sorts, 0 ≤ x ∧ x < (zs.length : Int)) (hz : zs.length ≤ 3) (hin : InAll (ledM zs sorts) vals) : VIn h sorts vals := by
  refine ⟨by rw [hin.1, ledM_len], fun j hj hj' => ?_⟩
  have a := hs _ (List.getElem_mem hj)
  have hj2 : j < (ledM zs sorts).length := by rw [ledM_len]; exact hj
  have b := hin.2 j hj2 hj'
  rw [led_get hj (by omega) hj2] at b
  have c := hl.2 (sorts[j]).toNat (by omega)
  rw [getD_at _ (show (sorts[j]).toNat < zs.length by omega)] at b
  have d := hl.1
  exact ⟨a.1, by omega, b.1, by omega⟩
theorem ledV_in {h : List (List Int)} {zs ys sorts vals : List Int} (hl : Lens h zs) (hv : Vals h ys) (hy : ys.length = zs.length) (hs : ∀ x ∈ sorts, 0 ≤ x ∧ x < (zs.length : Int)) (hz : zs.length ≤ 3) (hin : InAll (ledM zs sorts) vals) : InAll (ledM ys sorts) (ledV h sorts vals) := by
  have hvi := vin_of hl hs hz hin
  have hlv := ledV_len (h := h) hvi.1
  refine ⟨by rw [hlv, hvi.1, ledM_len], fun j h1 h2 => ?_⟩
  have hj : j < sorts.length := by rw [ledM_len] at h1; exact h1
  have hj' : j < vals.length := by rw [hlv] at h2; exact h2
  have a := hs _ (List.getElem_mem hj)
  rw [led_get hj (by omega) h1, ledV_at hj hj' h2]
  obtain ⟨b1, b2, b3, b4⟩ := hvi.2 j hj hj'
  have hk : (vals[j]).toNat < (h.getD (sorts[j]).toNat []).length := by omega
  unfold ledOne
  rw [getD_at _ hk]
  exact hv (sorts[j]).toNat (by omega) _ (List.getElem_mem hk)

/-- a row leads each value of a sort to a value -/
def homRow (a b : MModel) (h : List (List Int)) (k : Nat) : Bool := decide (((h.getD k []).length : Int) = a.sizes.getD k 0) && belowB (h.getD k []) (b.sizes.getD k 0)
/-- the same, told by the operation's sorts and tables -/
def homTo (a b : MModel) (h : List (List Int)) (takes : List Int) (last : Int) (ta tb : List Int) (n : Nat) : Bool := decide (tb.getD (placeM 0 (ledM b.sizes takes) (ledV h takes (digM (ledM a.sizes takes) n))).toNat 0 = ledOne h last (ta.getD n 0))
/-- an operation goes along, at one row of values -/
def homAt (s : MSig) (a b : MModel) (h : List (List Int)) (k n : Nat) : Bool := decide ((b.tables.getD k []).getD (placeM 0 (takenM s b k) (ledV h (opRow s k).dropLast (digM (takenM s a k) n))).toNat 0 = ledOne h ((opRow s k).getLastD (-1)) ((a.tables.getD k []).getD n 0))
theorem homAt_to (s : MSig) (a b : MModel) (h : List (List Int)) (k : Nat) : homAt s a b h k = homTo a b h (opRow s k).dropLast ((opRow s k).getLastD (-1)) (a.tables.getD k []) (b.tables.getD k []) := rfl
def homOp (s : MSig) (a b : MModel) (h : List (List Int)) (k : Nat) : Bool := allN (homAt s a b h k) (a.tables.getD k []).length
def homOps (s : MSig) (a b : MModel) (h : List (List Int)) : Bool := allN (homOp s a b h) s.ops.length
def homB (s : MSig) (a b : MModel) (h : List (List Int)) : Bool := (((modelB s a && modelB s b) && decide ((h.length : Int) = s.sorts)) && allN (homRow a b h) h.length) && homOps s a b h
theorem hom_no1 {s : MSig} {a b : MModel} {h : List (List Int)} (e : modelB s a = false) : homB s a b h = false := by unfold homB; simp [e]
theorem hom_no2 {s : MSig} {a b : MModel} {h : List (List Int)} (e : modelB s b = false) : homB s a b h = false := by unfold homB; simp [e]
theorem hom_no3 {s : MSig} {a b : MModel} {h : List (List Int)} (e : ¬ (h.length : Int) = s.sorts) : homB s a b h = false := by unfold homB; simp [e]
theorem hom_no4 {s : MSig} {a b : MModel} {h : List (List Int)} {k : Nat} (hk : k < h.length) (e : homRow a b h k = false) : homB s a b h = false := by unfold homB; simp [allN_bad hk e]
theorem hom_no5 {s : MSig} {a b : MModel} {h : List (List Int)} (e : homOps s a b h = false) : homB s a b h = false := by unfold homB; simp [e]
theorem hom_is {s : MSig} {a b : MModel} {h : List (List Int)} (h1 : modelB s a = true) (h2 : modelB s b = true) (h3 : (h.length : Int) = s.sorts) (h4 : allN (homRow a b h) h.length = true) : homB s a b h = homOps s a b h := by unfold homB; simp [h1, h2, h3, h4]
theorem homRow_no1 {a b : MModel} {h : List (List Int)} {k : Nat} (e : ¬ ((h.getD k []).length : Int) = a.sizes.getD k 0) : homRow a b h k = false := by unfold homRow; rw [decide_eq_false e, Bool.false_and]
theorem homRow_no2 {a b : MModel} {h : List (List Int)} {k : Nat} (e : belowB (h.getD k []) (b.sizes.getD k 0) = false) : homRow a b h k = false := by unfold homRow; rw [e, Bool.and_false]
theorem homRow_yes {a b : MModel} {h : List (List Int)} {k : Nat} (e1 : ((h.getD k []).length : Int) = a.sizes.getD k 0) (e : belowB (h.getD k []) (b.sizes.getD k 0) = true) : homRow a b h k = true := by unfold homRow; rw [e, decide_eq_true e1]; rfl
/-- what a map of models needs, its operations aside -/
structure HomRows (s : MSig) (a b : MModel) (h : List (List Int)) : Prop where
  fa : ModFacts s a
  fb : ModFacts s b
  le : Lens h a.sizes
  va : Vals h b.sizes
theorem hom_rows {s : MSig} {a b : MModel} {h : List (List Int)} (h1 : modelB s a = true) (h2 : modelB s b = true) (h3 : (h.length : Int) = s.sorts) (h4 : allN (homRow a b h) h.length = true) : HomRows s a b h := by
  have fa := model_facts h1
  have fb := model_facts h2
  have hsl := fa.sl
  have hsb := fb.sl
  refine ⟨fa, fb, ⟨by omega, fun k hk => ?_⟩, fun k hk x hx => ?_⟩
  · have := allN_at h4 (show k < h.length by omega)
    unfold homRow at this
    simp only [Bool.and_eq_true, decide_eq_true_eq] at this
    rw [this.1, getD_at _ hk]
  · have := allN_at h4 hk
    unfold homRow belowB at this
    simp only [Bool.and_eq_true, decide_eq_true_eq, List.all_eq_true] at this
    exact this.2 x hx
theorem hom_facts {s : MSig} {a b : MModel} {h : List (List Int)} (e : homB s a b h = true) : HomRows s a b h ∧ homOps s a b h = true := by
  unfold homB at e
  simp only [Bool.and_eq_true, decide_eq_true_eq] at e
  obtain ⟨⟨⟨⟨h1, h2⟩, h3⟩, h4⟩, h5⟩ := e
  exact ⟨hom_rows h1 h2 h3 h4, h5⟩
section
variable {s : MSig} {a b : MModel} {h : List (List Int)}
theorem ModFacts.row_in (f : ModFacts s a) {k : Nat} (hk : k < s.ops.length) : ∀ x ∈ (opRow s k).dropLast, 0 ≤ x ∧ x < (a.sizes.length : Int) := fun x hx => by
  have := (opRow_valid f.va hk).2.2 x (List.mem_of_mem_dropLast' hx)
  have := f.sl
  omega
theorem ModFacts.last_in (f : ModFacts s a) {k : Nat} (hk : k < s.ops.length) : 0 ≤ (opRow s k).getLastD (-1) ∧ (opRow s k).getLastD (-1) < (a.sizes.length : Int) := by
  obtain ⟨h1, h2, h3⟩ := opRow_valid f.va hk
  rw [last_at (by omega)]
  have := h3 _ (List.getElem_mem (show (opRow s k).length - 1 < (opRow s k).length by omega))
  have := f.sl
  omega
/-- an operation's sorts and table in a model -/
structure OpAt (s : MSig) (m : MModel) (takes : List Int) (last : Int) (table : List Int) : Prop where
  tin : ∀ x ∈ takes, 0 ≤ x ∧ x < (m.sizes.length : Int)
  tsm : takes.length ≤ 2
  lin : 0 ≤ last ∧ last < (m.sizes.length : Int)
  len : (table.length : Int) = waysM (ledM m.sizes takes)
  val : ∀ x ∈ table, 0 ≤ x ∧ x < m.sizes.getD last.toNat 0
  siz : Sizes (ledM m.sizes takes)
  into : InTo m.sizes takes
theorem OpAt.zlen {s : MSig} {m : MModel} {takes : List Int} {last : Int} {table : List Int} (o : OpAt s m takes last table) : (ledM m.sizes takes).length ≤ 4 := by rw [ledM_len]; have := o.tsm; omega
theorem OpAt.few {s : MSig} {m : MModel} {takes : List Int} {last : Int} {table : List Int} (o : OpAt s m takes last table) : table.length ≤ 81 := by have := o.len; have := ways_few o.siz o.zlen; omega
theorem ModFacts.op (f : ModFacts s a) {k : Nat} (hk : k < s.ops.length) : OpAt s a (opRow s k).dropLast ((opRow s k).getLastD (-1)) (a.tables.getD k []) := by
  obtain ⟨q1, q2, q3, q4⟩ := f.table hk
  obtain ⟨h1, h2, h3⟩ := opRow_valid f.va hk
  refine ⟨f.row_in hk, by rw [List.length_dropLast]; omega, f.last_in hk, by rw [q2]; exact q3, by rw [q2]; exact q4, (f.taken hk).1, f.into fun x hx => h3 x (List.mem_of_mem_dropLast' hx)⟩
theorem HomRows.in_ (r : HomRows s a b h) {k : Nat} (hk : k < s.ops.length) (n : Int) : VIn h (opRow s k).dropLast (digM (ledM a.sizes (opRow s k).dropLast) n) ∧ InAll (ledM b.sizes (opRow s k).dropLast) (ledV h (opRow s k).dropLast (digM (ledM a.sizes (opRow s k).dropLast) n)) := by
  have h3 := r.fa.sorts
  have h0 := dig_in (r.fa.taken hk).1 n
  have hab : b.sizes.length = a.sizes.length := by have := r.fa.sl; have := r.fb.sl; omega
  exact ⟨vin_of r.le (r.fa.row_in hk) h3.1 h0, ledV_in r.le r.va hab (r.fa.row_in hk) h3.1 h0⟩
end
end

section
open Go.RowKit
set_option linter.unusedVariables false

def raised (xs : List Int) (d : Int) : List Int := xs.map fun x => wrap64 (x + d)
theorem raised_at {xs : List Int} {d : Int} {k : Nat} (hk : k < xs.length) (h : k < (raised xs d).length) : (raised xs d)[k] = wrap64 (xs[k] + d) := by simp [raised]
end

section
open Go.RowKit
set_option linter.unusedVariables false

theorem RInts.dropLast {w : World} {A : Option Addr} {c : Nat} {row : List Int} (h : RInts w (.slice A row.length c) row) : RInts w (.slice A (row.length - 1) c) row.dropLast := by
  obtain ⟨A', c', e, h1, h2, h3⟩ := h
  cases e
  refine ⟨A, c, by rw [List.length_dropLast], by rw [List.length_dropLast]; omega, h2, fun j x hj => h3 j x ?_⟩
  rw [List.getElem?_dropLast] at hj
  split at hj
  · exact hj
  · cases hj
theorem raised_zero {xs : List Int} (h : ∀ x ∈ xs, 0 ≤ x ∧ x < 4) : raised xs 0 = xs := by
  unfold raised
  rw [List.map_congr_left (g := id) (fun x hx => ?_), List.map_id]
  have := h x hx
  rw [IntWalk.wrap64_in _ ⟨by omega, by omega⟩]; simp

theorem add_spot (b o j : Nat) : (⟨b, o, none⟩ : Addr).add j = ⟨b, o + j, none⟩ := by
  unfold Addr.add
  split
  · rename_i h; subst h; rfl
  · rfl
theorem news_of {w : World} {b o n c : Nat} {xs : List Int} (h : RInts w (.slice (some ⟨b, o, none⟩) n c) xs) : ∀ (j : Nat) (u : Value), (xs.map (Value.int .i64))[j]? = some u → w.cell? ((⟨b, o, none⟩ : Addr).add j) = some u := by
  intro j u hj
  rw [List.getElem?_map] at hj
  obtain ⟨x, hx, rfl⟩ := Option.map_eq_some_iff.1 hj
  obtain ⟨A, c', e, h1, h2, h3⟩ := h
  cases e
  obtain ⟨b', o', e, hc⟩ := h3 j x hx
  cases e
  rw [add_spot]; exact hc
theorem news_any {w : World} {ad : Addr} {n c : Nat} {xs : List Int} (h : RInts w (.slice (some ad) n c) xs) : ∀ (j : Nat) (u : Value), (xs.map (Value.int .i64))[j]? = some u → w.cell? (ad.add j) = some u := by
  intro j u hj
  obtain ⟨b, o, s⟩ := ad
  have hx := hj
  rw [List.getElem?_map] at hx
  obtain ⟨x, hx, -⟩ := Option.map_eq_some_iff.1 hx
  have hh := h
  obtain ⟨A, c', e, h1, h2, h3⟩ := hh
  cases e
  obtain ⟨b', o', e, hc⟩ := h3 j x hx
  cases e
  exact news_of h j u hj
theorem ints_one (xs : List Int) : ∀ u ∈ xs.map (Value.int .i64), u.oneCell' = true := by
  intro u hu; simp at hu; obtain ⟨x, -, rfl⟩ := hu; rfl

theorem bel_grow {w w2 : World} {o : Obj} {A : Option Addr} {n c : Nat} (h : (w.alloc o).drew.grownBy w2 (Value.slice A n c).ownBlock) (hr : ∀ k, (Value.slice A n c).ownBlock = some k → w.heap.size ≤ k) : Below w.heap.size w w2 :=
  (below_alloc w o).trans ⟨h.os, h.tape, h.output, h.size, fun k hk => h.block k (Nat.lt_of_lt_of_le hk (by show w.heap.size ≤ (w.alloc o).heap.size; simp)) (fun e => by have := hr k e.symm; omega)⟩
theorem own_empty (w : World) : OInts (w.alloc (.cells #[] 3)) w.heap.size (.slice (some ⟨w.heap.size, 0, none⟩) 0 0) [] := World.ownsRow_lit w #[] 0 (Nat.le_refl _) (Nat.zero_le _) rfl

theorem step_append_own {P : Program} {ops : Array Oper} {o : Oper} {a : Act} {w : World} {K : Act → World → Prop} {Q : Exit → Act → World → Prop} {E : Prop} (hgd : o.guard = none) (s x : Operand) (t : TypeId)
    (ho : o.op = .call { callee := .builtin .append, args := #[s, x], argTypes := #[t, t] })
    (base : Nat) (e : TypeId) (i : TypeInfo) (z : Value) (size bytes : Nat) (ht : P.underlying t = some (.slice e)) (hi : P.info? e = some i) (hz : i.zero = some z)
    (hsize : i.size = size) (hby : i.bytes = bytes) (hzs : z.cells.size = size) (hsz : 0 < size)
    (v : Value) (n : Nat) (xs : List Value) (hs : a.eval s = v) (hown : w.ownsRow base e size v n xs)
    (ad : Addr) (m c : Nat) (news : List Value) (hx : a.eval x = .slice (some ad) m c) (hl : news.length = m * size) (hnews : ∀ j u, news[j]? = some u → w.cell? (ad.add j) = some u) (h1 : ∀ u ∈ news, u.oneCell' = true)
    (h63 : n + m ≤ maxLen) (hbytes : (n + m) * bytes ≤ 140737488355328) (hbase : base ≤ w.heap.size)
    (h : ∀ v' w', w'.ownsRow base e size v' (n + m) (xs ++ news) → w.grownBy w' v.ownBlock → K (a.put o.dst v') w') :
    if Region.wanted o (yielded ops a.tmps) = true then Oper.wp P o a w K Q else E := by
  have hw : Region.wanted o (yielded ops a.tmps) = true := by simp [Region.wanted, hgd]
  rw [if_pos hw]
  exact wp_append_own w s x t ho base e i z size bytes ht hi hz hsize hby hzs hsz v n xs hs hown ad m c news hx hl hnews h1 h63 hbytes hbase fun v' w' h2 h3 _ => h v' w' h2 h3
end

section
open Go.RowKit
set_option linter.unusedVariables false
set_option linter.unusedSimpArgs false

theorem led_app {w : World} {B m : Nat} {v : Value} {ps rs : List Int} (hm : rs.length = m) (h : w.ownsRow B 3 1 v (ps.length + m) (ps.map (Value.int .i64) ++ rs.map (Value.int .i64))) : OInts w B v (ps ++ rs) := by
  unfold OInts; rw [List.length_append, List.map_append, hm]; exact h
theorem led_new (w : World) (n : Int) : ∀ (j : Nat) (u : Value), ([n].map (Value.int .i64))[j]? = some u → (w.alloc (.cells #[.int .i64 n] 3)).cell? ((⟨w.heap.size, 0, none⟩ : Addr).add j) = some u := by
  intro j u hj
  match j, hj with
  | 0, hj =>
    simp at hj
    subst hj
    rw [show (⟨w.heap.size, 0, none⟩ : Addr).add 0 = ⟨w.heap.size, 0, none⟩ by simp [Addr.add], World.cell?_alloc_at _ _ _ _ rfl]; rfl
theorem filling_below {w wr : World} {zs : List Int} {k : Nat} (h : Filling w wr zs k) : Below w.heap.size w wr := by
  obtain ⟨_, _, _, _, hb⟩ := h; exact hb

theorem led_below {W wr w6 : World} {o : Obj} {A : Option Addr} {n c : Nat} (h : Below W.heap.size W wr) (hg : (wr.alloc o).drew.grownBy w6 (Value.slice A n c).ownBlock) (hr : ∀ k, (Value.slice A n c).ownBlock = some k → W.heap.size ≤ k) : Below W.heap.size W w6 := by
  have h1 := h.alloc h.size o
  have h2 : Below W.heap.size W (wr.alloc o).drew := ⟨h1.os, h1.tape, h1.output, h1.size, h1.block⟩
  exact h2.grown hg h2.size hr

set_option maxRecDepth 100000 in
theorem ledRow_any (v v' : Value) (row to : List Int) (w : World) (h : RInts w v row) (h' : RInts w v' to) (hin : InTo to row) (hs : row.length ≤ 1048576) :
    Calls Try.prog 74 #[v, v'] w fun e w' => ∃ u, e = .returned u ∧ OInts w' w.heap.size u (ledM to row) ∧ Below w.heap.size w w' := by
  have H := Lib.hid h
  have H' := Lib.hid h'
  have HIN := Lib.hid hin
  have hn' := h'.len
  obtain ⟨A, c, rfl, -⟩ := h.form
  obtain ⟨A', c', rfl, -⟩ := h'.form
  clear h h' hin
  have hmk := run_make_row' (P := Try.prog) 25 3 (.int .i64 0) 8 Try.underlying25 Try.tinfo_int rfl .i64 .i64 row.length (by omega) (by omega)
  go_enter Try.func74, Try.ntmps74
  go_wp2
  go_loopw [6, 7, 13] (fun a b i wr => ∃ k : Nat, k ≤ row.length ∧ i = .int .i64 k ∧ Filling w wr (ledM to row) k) (fun _ _ i _ => row.length - (intOf i).toNat)
  case atStart => exact ⟨0, Nat.zero_le _, rfl, Filling.start w _ _ (by rw [ledM_len]; simp [madeCells])⟩
  case round =>
    obtain ⟨k, hk, rfl, hf⟩ := hrel
    have HF := Lib.hid hf
    clear hf hmk
    by_cases hlt : k < row.length
    · have hlt' : (k : Int) < (row.length : Int) := by omega
      obtain ⟨b, o, c', e, hx⟩ := (H.out.keep (filling_below HF.out)).at_ hlt
      cases e
      obtain ⟨u, g1, g2⟩ := HF.out.cell (by rw [ledM_len]; exact hlt)
      have HX := Lib.hid (ledM_at (to := to) hlt)
      have HI := Lib.hid (HIN.out _ (List.getElem_mem hlt))
      generalize row[k] = x at hx HX HI
      by_cases hl : x < 100
      · obtain ⟨n, rfl⟩ : ∃ n : Nat, x = (n : Int) := ⟨x.toNat, by have := HI.out hl; omega⟩
        have hnl : n < to.length := by have := HI.out hl; omega
        have hnl' : (n : Int) < (to.length : Int) := by omega
        have hn0 : (0 : Int) ≤ (n : Int) := by omega
        obtain ⟨b2, o2, c2, e2, hy⟩ := (H'.out.keep (filling_below HF.out)).at_ hnl
        cases e2
        have HY := Lib.hid (show (if (n : Int) < 100 then to.getD (n : Int).toNat 0 else (n : Int)) = to[n] by rw [if_pos hl, Int.toNat_natCast, getD_at _ hnl])
        generalize to[n] = y at hy HY
        go_wp2
        go_roundw
        case rel => exact ⟨k + 1, by omega, by go_num, HF.out.step (by rw [ledM_len]; exact hlt) (by have h := HX.out; rw [HY.out] at h; exact (List.getElem?_eq_some_iff.1 h).2)⟩
        case measure => simp [intOf]; omega
      · have hl' : 100 ≤ x := by omega
        have HY := Lib.hid (show (if x < 100 then to.getD x.toNat 0 else x) = x by rw [if_neg hl])
        go_wp2
        go_roundw
        case rel => exact ⟨k + 1, by omega, by go_num, HF.out.step (by rw [ledM_len]; exact hlt) (by have h := HX.out; rw [HY.out] at h; exact (List.getElem?_eq_some_iff.1 h).2)⟩
        case measure => simp [intOf]; omega
    · go_wp2
      go_ret
      obtain ⟨r1, r2⟩ := HF.out.done (by rw [ledM_len]; omega) (by omega)
      have hkn : k = row.length := by omega
      subst hkn
      exact ⟨_, rfl, r1, r2⟩
end

section
open Go.RowKit
set_option linter.unusedVariables false
end

section
open Go.RowKit
set_option linter.unusedVariables false
end

section
open Go.RowKit
set_option linter.unusedVariables false
set_option linter.unusedSimpArgs false

theorem map_drew {a w : World} {B : Nat} (h : Below B a w) : Below B a w.drew := ⟨h.os, h.tape, h.output, h.size, h.block⟩
theorem map_undrew {w w' : World} (h : Below w.drew.heap.size w.drew w') : Below w.heap.size w w' := ⟨h.os, h.tape, h.output, h.size, h.block⟩
theorem ledOp_neg {a b : MSig} {m : MMap} {k : Nat} (hk : k < m.ops.length) (h : m.ops[k] < 0) : ledOp a b m k = false := by
  unfold ledOp; rw [getD_at _ hk]; simp; omega
theorem ledOp_big {a b : MSig} {m : MMap} {k : Nat} (hk : k < m.ops.length) (h : (b.ops.length : Int) ≤ m.ops[k]) : ledOp a b m k = false := by
  unfold ledOp; rw [getD_at _ hk]; simp; omega
theorem ledOp_in {a b : MSig} {m : MMap} {k n : Nat} (hk : k < m.ops.length) (ha : k < a.ops.length) (hn : m.ops[k] = (n : Int)) (hb : n < b.ops.length) : ledOp a b m k = decide (ledM m.sorts a.ops[k] = b.ops[n]) := by
  unfold ledOp
  rw [getD_at _ hk, getD_at _ ha, hn, Int.toNat_natCast, getD_at _ hb]
  simp; omega
end

section
open Go.RowKit
set_option linter.unusedVariables false
set_option linter.unusedSimpArgs false

def inSize (z v : Int) : Bool := decide (0 ≤ v) && decide (v < z)
theorem inSize_neg {z v : Int} (h : v < 0) : inSize z v = false := by unfold inSize; simp; omega
theorem inSize_pos {z v : Int} (h : 0 ≤ v) : inSize z v = decide (v < z) := by unfold inSize; simp [h]
theorem inSize_inB {z v q : Int} (hq : q = z - 1) : inB v 0 q = inSize z v := by unfold inB inSize; rw [← Bool.decide_and, ← Bool.decide_and, decide_eq_decide]; omega
theorem belowB_step {xs : List Int} {z : Int} {k : Nat} (hk : k < xs.length) : belowB (xs.take (k+1)) z = (belowB (xs.take k) z && inSize z xs[k]) := belowB_take hk
theorem belowB_no {xs : List Int} {z : Int} {k : Nat} (hk : k < xs.length) (h : inSize z xs[k] = false) : belowB xs z = false := belowB_bad hk (by unfold inSize at h; simpa using h)

set_option maxRecDepth 100000 in
theorem isValue_any (m : MModel) (sort value : Int) (w : World) (v : Value) (h : RModel w v m) (hs : 0 ≤ sort) (hl : sort < (m.sizes.length : Int)) :
    Calls Try.prog 46 #[v, .int .i64 sort, .int .i64 value] w fun e w' => e = .returned (.bool (inSize (m.sizes.getD sort.toNat 0) value)) ∧ Below w.heap.size w w' := by
  obtain ⟨n, rfl⟩ : ∃ n : Nat, sort = (n : Int) := ⟨sort.toNat, by omega⟩
  have hn : n < m.sizes.length := by omega
  have hml := h.form
  obtain ⟨Ama, cma, Amb, cmb, rfl⟩ := h.form
  have hb : Below w.heap.size w (w.alloc (.cells #[.slice Ama m.sizes.length cma, .slice Amb m.tables.length cmb] 34)) := below_alloc _ _
  have HB := Lib.hid hb
  have hsz : (w.alloc (.cells #[.slice Ama m.sizes.length cma, .slice Amb m.tables.length cmb] 34)).heap.size = w.heap.size + 1 := by simp
  have Hm := Lib.hid (h.keep hb)
  have m0 := bx_at (w) #[.slice Ama m.sizes.length cma, .slice Amb m.tables.length cmb] 34 (k := 0) rfl
  have m1 := bx_at (w) #[.slice Ama m.sizes.length cma, .slice Amb m.tables.length cmb] 34 (k := 1) rfl
  generalize hW : w.alloc (.cells #[.slice Ama m.sizes.length cma, .slice Amb m.tables.length cmb] 34) = W at HB hsz Hm m0 m1
  clear hb h
  have hml1 := Hm.out.of.1.len
  obtain ⟨b, o, c, e, hx⟩ := Hm.out.of.1.at_ hn
  cases e
  rw [Int.toNat_natCast, getD_at _ hn]
  generalize m.sizes[n] = z at hx ⊢
  by_cases hv : value < 0
  · have HE := Lib.hid (inSize_neg (z := z) hv)
    have hv' : ¬ 0 ≤ value := by omega
    go_enter Try.func46, Try.ntmps46
    go_wp2
    go_ret
    exact ⟨ret_bool HE.out.symm, HB.out⟩
  · have hv' : 0 ≤ value := by omega
    have HE := Lib.hid (inSize_pos (z := z) hv')
    go_enter Try.func46, Try.ntmps46
    go_wp2
    go_ret
    exact ⟨ret_bool HE.out.symm, HB.out⟩

set_option maxRecDepth 100000 in
theorem sizesOf_any (m : MModel) (row : List Int) (w : World) (v v' : Value) (h : RModel w v m) (h' : RInts w v' row) (hin : InTo m.sizes row) (hs : row.length ≤ 1048576) :
    Calls Try.prog 65 #[v, v'] w fun e w' => ∃ u, e = .returned u ∧ OInts w' w.heap.size u (ledM m.sizes row) ∧ Below w.heap.size w w' := by
  obtain ⟨Ama, cma, Amb, cmb, rfl⟩ := h.form
  have hb : Below w.heap.size w (w.alloc (.cells #[.slice Ama m.sizes.length cma, .slice Amb m.tables.length cmb] 34)) := below_alloc _ _
  have HB := Lib.hid hb
  have hsz : (w.alloc (.cells #[.slice Ama m.sizes.length cma, .slice Amb m.tables.length cmb] 34)).heap.size = w.heap.size + 1 := by simp
  have Hm := Lib.hid (h.keep hb)
  have m0 := bx_at (w) #[.slice Ama m.sizes.length cma, .slice Amb m.tables.length cmb] 34 (k := 0) rfl
  have m1 := bx_at (w) #[.slice Ama m.sizes.length cma, .slice Amb m.tables.length cmb] 34 (k := 1) rfl
  generalize hW : w.alloc (.cells #[.slice Ama m.sizes.length cma, .slice Amb m.tables.length cmb] 34) = W at HB hsz Hm m0 m1
  clear hb h
  have H1 := Lib.hid (h'.keep HB.out)
  have HI := Lib.hid hin
  obtain ⟨A', c', rfl, -⟩ := h'.form
  clear h' hin
  go_enter Try.func65, Try.ntmps65
  go_wp2_with fail
  clear hW
  refine (ledRow_any _ _ row m.sizes _ H1.out Hm.out.of.1 HI.out hs).mono ?_
  rintro e w1 ⟨u, rfl, ho, hb⟩
  have HO := Lib.hid ho
  have HX := Lib.hid hb
  clear ho hb m0 m1
  go_wp2
  go_ret
  exact ⟨u, rfl, HO.out.base HB.out.size, sz_keep HB.out HX.out⟩

theorem ways_wrap {zs : List Int} (hz : Sizes zs) (hl : zs.length ≤ 4) {k : Nat} (hk : k < zs.length) : IntKind.i64.wrap (waysM (zs.take k) * zs[k]) = waysM (zs.take (k + 1)) := by
  have h1 := ways_few (hz.take (k + 1)) (by simp; omega)
  have h2 := ways_pos (hz.take (k + 1))
  rw [← waysM_take hk, IntKind.wrap_i64]; omega
set_option maxRecDepth 100000 in
theorem rowsOf_any (zs : List Int) (w : World) (v : Value) (h : RInts w v zs) (hz : Sizes zs) (hl : zs.length ≤ 4) :
    Calls Try.prog 72 #[v] w fun e w' => e = .returned (.int .i64 (waysM zs)) ∧ w = w' := by
  have H := Lib.hid h
  obtain ⟨A, c, rfl, -⟩ := h.form
  have HW := Lib.hid (fun (k : Nat) (hk : k < zs.length) => ways_wrap hz hl hk)
  clear h hz
  go_enter Try.func72, Try.ntmps72
  go_wp2
  go_loopw [3, 5, 8] (fun p _ i wr => ∃ k : Nat, k ≤ zs.length ∧ i = .int .i64 k ∧ p = .int .i64 (waysM (zs.take k)) ∧ w = wr) (fun _ _ i _ => zs.length - (intOf i).toNat)
  case atStart => exact ⟨0, Nat.zero_le _, rfl, rfl, rfl⟩
  case round =>
    obtain ⟨k, hk, rfl, rfl, rfl⟩ := hrel
    by_cases hlt : k < zs.length
    · obtain ⟨b, o, c', e, hx⟩ := H.out.at_ hlt
      cases e
      have hlt' : (k : Int) < (zs.length : Int) := by omega
      have hw := HW.out k hlt
      generalize zs[k] = z at hx hw
      generalize hq : waysM (zs.take (k + 1)) = q at hw
      have HQ := Lib.hid hq
      clear hq
      go_wp2
      go_roundw
      case rel => exact ⟨k + 1, by omega, by go_num, by rw [HQ.out], by first | trivial | rfl⟩
      case measure => simp [intOf]; omega
    · have hkn : k = zs.length := by omega
      have hlt' : ¬ (k : Int) < (zs.length : Int) := by omega
      have HT := Lib.hid (show zs.take k = zs from take_all (by omega))
      go_wp2
      go_ret
      exact ⟨rfl, rfl⟩
end

section
open Go.RowKit Go.Shelf
set_option linter.unusedVariables false
attribute [local go_sem] Oper.semAt_some

/-- what comes: an index and what stands there -/
abbrev At (zs : List Int) := { p : Nat × Int // zs[p.1]? = some p.2 }
/-- all of them, from the last one on -/
def bwd (zs : List Int) : List (At zs) := (List.finRange zs.length).reverse.map fun i => ⟨(i.1, zs[i.1]), List.getElem?_eq_getElem i.2⟩
theorem bwd_len (zs : List Int) : (bwd zs).length = zs.length := by simp [bwd]
theorem bwd_at {zs : List Int} {k m : Nat} (h : m + k + 1 = zs.length) (hk : k < (bwd zs).length) : (bwd zs)[k] = ⟨(m, zs[m]'(by omega)), List.getElem?_eq_getElem (by omega)⟩ := by
  have hm : zs.length - 1 - k = m := by omega
  subst hm
  simp [bwd]
theorem bwd_take {zs : List Int} {k : Nat} (hk : k < (bwd zs).length) : (bwd zs).take (k + 1) = (bwd zs).take k ++ [(bwd zs)[k]] := List.take_succ_eq_append_getElem hk

/-- what a round keeps: whatever lay below, and the box of the slice -/
def BwKp (w : World) (Bs : Nat) (sv : Value) (W1 W2 : World) : Prop := Below w.heap.size W1 W2 ∧ (W1.cell? ⟨Bs, 0, none⟩ = some sv → W2.cell? ⟨Bs, 0, none⟩ = some sv)
theorem bwKp_t {w : World} {Bs : Nat} {sv : Value} {A B C : World} (h : BwKp w Bs sv A B) (k : BwKp w Bs sv B C) : BwKp w Bs sv A C := ⟨h.1.trans k.1, fun c => k.2 (h.2 c)⟩
theorem bwKp_b {w w1 : World} {Bs : Nat} {sv : Value} (hn : w.heap.size ≤ w1.heap.size) (W : World) (l : Nat) (o o' : Obj) (hl : w1.heap.size ≤ l) (h : W.heap[l]? = some o) (hc : o.isCells = false) (hw : o.isWalk = false) : BwKp w Bs sv W (W.putObj l o') :=
  ⟨belowK_b hn W l o o' hl h hc hw, fun c => cell_kept c (grownBy_putObj' W l o') (fun r e => by cases e; exact ⟨o, h, hc⟩)⟩

set_option maxRecDepth 100000 in
set_option maxHeartbeats 2000000 in
theorem bw1_in (F : Fence) (n : Nat) (h7 : F.fn 76) (hro : F.round = none) (hn : 1 ≤ n) (l Bs c : Nat) (A : Option Addr) (zs : List Int) (hlen : zs.length ≤ 1048576) (w : World) (hz : RInts w (.slice A zs.length c) zs) (J Jx : List (At zs) → World → Prop)
    (hY : ∀ pre x W, J pre W → pre.length < zs.length → YieldAt F (n - 1) Try.prog l #[.int .i64 (x.1.1 : Int), .int .i64 x.1.2] W fun e W' =>
      (e = .returned (.bool true) ∧ J (pre ++ [x]) W' ∧ BwKp w Bs (.slice A zs.length c) W W') ∨ (e = .returned (.bool false) ∧ Jx (pre ++ [x]) W'))
    (W : World) (hW : Below w.heap.size w W) (hBs : W.cell? ⟨Bs, 0, none⟩ = some (.slice A zs.length c)) (h0 : J [] W) :
    CallsIn F n Try.prog 76 #[.func (.yield l) #[] #[], .pointer (some ⟨Bs, 0, none⟩)] W fun e W' => (∃ v, e = .returned v) ∧
      ((∃ ys, ys = bwd zs ∧ J ys W') ∨ (∃ pre, True ∧ Jx pre W')) := by
  have HZ := Lib.hid hz
  have HW := Lib.hid hW
  clear hz hW
  refine callsIn_of_wp Try.func76 rfl h7 ?_ hro
  simp only [Try.ntmps76, List.size_toArray, List.length_cons, List.length_nil, Nat.reduceAdd, Nat.reduceSub, Array.replicate_succ, Array.replicate_zero, List.push_toArray, List.append_toArray, List.nil_append, List.cons_append]
  gi_wp2
  gi_loopw [3] (fun i wr => ∃ r : Nat, r ≤ zs.length ∧ i = .int .i64 ((r : Int) - 1) ∧ J ((bwd zs).take (zs.length - r)) wr ∧ Below w.heap.size w wr ∧ wr.cell? ⟨Bs, 0, none⟩ = some (.slice A zs.length c))
    (fun i _ => (intOf i + 1).toNat)
  case atStart => exact ⟨zs.length, Nat.le_refl _, rfl, by simpa using h0, HW.out, hBs⟩
  case round =>
    obtain ⟨r, hr, rfl, hJs, hnx, hbc⟩ := hrel
    have HNX := Lib.hid hnx
    have HBC := Lib.hid hbc
    clear hnx
    cases r with
    | zero =>
      simp only [Nat.sub_zero] at hJs
      rw [List.take_of_length_le (by rw [bwd_len]; omega)] at hJs
      have e0 : ((0 : Nat) : Int) - 1 = -1 := rfl
      rw [e0]
      gi_wp2
      go_end0
      exact ⟨⟨_, rfl⟩, .inl ⟨_, rfl, hJs⟩⟩
    | succ m =>
      have e0 : ((m + 1 : Nat) : Int) - 1 = (m : Int) := by omega
      rw [e0]
      have hm : m < zs.length := by omega
      obtain ⟨b, o, c', e, hx⟩ := (HZ.out.keep HNX.out).at_ hm
      cases e
      have hm' : (m : Int) < (zs.length : Int) := by omega
      have hm0 : (0 : Int) ≤ (m : Int) := by omega
      have hkl : zs.length - (m + 1) < (bwd zs).length := by rw [bwd_len]; omega
      have hat := bwd_at (zs := zs) (k := zs.length - (m + 1)) (m := m) (by omega) hkl
      have HTK := Lib.hid (bwd_take hkl)
      rw [hat] at HTK
      obtain ⟨fn, tmps, assign, body, hy, hR⟩ := hY _ ⟨(m, zs[m]), List.getElem?_eq_getElem hm⟩ wr hJs (by rw [List.length_take, bwd_len]; omega)
      dsimp only at hy
      generalize hzz : zs[m] = z at hx hy
      have hw1 : IntKind.i64.wrap ((m : Int) - 1) = (m : Int) - 1 := by rw [IntKind.wrap_i64]; omega
      gi_wp2
      refine hR.mono ?_
      rintro e W3 (⟨rfl, hJ3, hk3⟩ | ⟨rfl, hJx3⟩)
      · have hbc3 := hk3.2 HBC.out
        gi_wp2
        go_roundw
        case rel => exact ⟨m, by omega, rfl, by rw [show zs.length - m = zs.length - (m + 1) + 1 by omega, HTK.out]; exact hJ3, HNX.out.trans hk3.1, hbc3⟩
        case measure => simp [intOf]
      · gi_wp2
        refine bodyPost_ret (results_none rfl _ _ _) rfl ?_
        exact ⟨⟨_, rfl⟩, .inr ⟨_, trivial, hJx3⟩⟩
theorem bw_stops (F : Fence) (n : Nat) (h7 : F.fn 76) (hro : F.round = none) (hn : 1 ≤ n) (Bs c : Nat) (A : Option Addr) (zs : List Int) (hlen : zs.length ≤ 1048576) (w : World) (hz : RInts w (.slice A zs.length c) zs) (w4 : World) (hB : Below w.heap.size w w4)
    (hBs : w4.cell? ⟨Bs, 0, none⟩ = some (.slice A zs.length c)) :
    SeqStopsK F n Try.prog 76 #[.pointer (some ⟨Bs, 0, none⟩)] (fun x : At zs => #[.int .i64 (x.1.1 : Int), .int .i64 x.1.2]) (BwKp w Bs (.slice A zs.length c)) (fun ys => ys = bwd zs) (fun _ => True) zs.length w4 :=
  fun l J Jx W hW _ _ hY h0 => bw1_in F n h7 hro hn l Bs c A zs hlen w hz J Jx hY W (hB.trans (hW.mono hB.size)) (cell_keep hW hBs) h0

set_option maxHeartbeats 1000000 in
theorem bw_in (F : Fence) (n : Nat) (h5 : F.fn 75) (hro : F.round = none) (a : Option Addr) (len cap : Nat) (w : World) :
    CallsIn F n Try.prog 75 #[.slice a len cap] w fun e w' => e = .returned (.func (.func 76) #[] #[.pointer (some ⟨w.heap.size, 0, none⟩)]) ∧ w' = w.alloc (.cells #[.slice a len cap] 25) := by
  refine callsIn_of_wp Try.func75 rfl h5 ?_ hro
  simp only [Try.ntmps75, List.size_toArray, List.length_cons, List.length_nil, Nat.reduceAdd, Nat.reduceSub, Array.replicate_succ, Array.replicate_zero, List.push_toArray, List.append_toArray, List.nil_append, List.cons_append]
  gi_wp2
  go_ret
  exact ⟨rfl, rfl⟩
end
end Go.Proofs.Ytfomeommkfemkaa
