/- A row that is being filled, place by place. No walk. -/
import Derived.Test.YteccjnnhihbdhabOwn
import Derived.Deep.OwnRows
namespace Go.Proofs.Yteccjnnhihbdhab
open Go.RowKit
set_option linter.unusedVariables false

theorem Try.tinfo_int : (Try.prog.info? 3).map (fun i => (i.zero, i.size, i.bytes)) = some (some (.int .i64 0), 1, 8) := by kernel_rfl

theorem blk_cell {w : World} {b : Nat} {cs : Array Value} {t : TypeId} (h : w.heap[b]? = some (.cells cs t (0, 0))) (i : Nat) : w.cell? ⟨b, i, none⟩ = cs[i]? := by simp [World.cell?, h]
theorem blk_free {w : World} {b : Nat} {cs : Array Value} {t : TypeId} (h : w.heap[b]? = some (.cells cs t (0, 0))) (i : Nat) : w.frozen? ⟨b, i, none⟩ = false := by simp [World.frozen?, h]
theorem blk_set {w : World} {b : Nat} {cs : Array Value} {t : TypeId} (h : w.heap[b]? = some (.cells cs t (0, 0))) (i : Nat) (u : Value) : (w.setCell ⟨b, i, none⟩ u).heap[b]? = some (.cells (cs.setIfInBounds i u) t (0, 0)) := by
  simp [World.setCell, Array.getElem?_modify, h]

theorem block_cell' {w : World} {b : Nat} {cs : Array Value} {t : TypeId} (h : w.heap[b]? = some (.cells cs t (0, 0))) (i : Nat) : w.cell? ⟨b, i, none⟩ = cs[i]? := blk_cell h i
theorem block_free' {w : World} {b : Nat} {cs : Array Value} {t : TypeId} (h : w.heap[b]? = some (.cells cs t (0, 0))) (i : Nat) : w.frozen? ⟨b, i, none⟩ = false := blk_free h i
theorem ORows.setLow' {w : World} {B b : Nat} {v : Value} {rows : List (List Int)} (h : ORows w B v rows) (hb : b < B) (i : Nat) (x : Value) : ORows (w.setCell ⟨b, i, none⟩ x) B v rows := by
  obtain ⟨us, a1, a2, a3, a4⟩ := h
  exact ⟨us, ownsRow_setCell_below a1 hb _, a2, fun j u r a b => ownsRow_setCell_below (a3 j u r a b) hb _, a4⟩

/-- a row that is being filled: k of its places are done -/
def Filling (w wr : World) (zs : List Int) (k : Nat) : Prop :=
  ∃ cur : Array Value, wr.heap[w.heap.size]? = some (.cells cur 3 (0, 0)) ∧ cur.size = zs.length ∧ (∀ j, j < k → cur[j]? = (zs[j]?).map (Value.int .i64)) ∧ Below w.heap.size w wr

theorem Filling.start (w : World) (zs : List Int) (cur : Array Value) (h : cur.size = zs.length) : Filling w (w.alloc (.cells cur 3)) zs 0 :=
  ⟨cur, heap_alloc_new w _, h, fun j hj => by omega, below_alloc _ _⟩
theorem Filling.step {w wr : World} {zs : List Int} {k : Nat} (h : Filling w wr zs k) (hk : k < zs.length) {x : Int} (hx : zs[k] = x) : Filling w (wr.setCell ⟨w.heap.size, k, none⟩ (.int .i64 x)) zs (k + 1) := by
  obtain ⟨cur, h1, h2, h3, h4⟩ := h
  refine ⟨_, blk_set h1 k _, by simpa using h2, fun j hj => ?_, h4.setCell (Nat.le_refl _) _⟩
  rw [Array.getElem?_setIfInBounds]
  by_cases hjk : k = j
  · subst hjk
    rw [if_pos rfl, if_pos (by omega), List.getElem?_eq_getElem hk, hx]
    rfl
  · rw [if_neg hjk]
    exact h3 j (by omega)
theorem Filling.cell {w wr : World} {zs : List Int} {k : Nat} (h : Filling w wr zs k) (hk : k < zs.length) : ∃ u, wr.cell? ⟨w.heap.size, k, none⟩ = some u ∧ wr.frozen? ⟨w.heap.size, k, none⟩ = false := by
  obtain ⟨cur, h1, h2, h3, h4⟩ := h
  exact ⟨cur[k]'(by omega), (blk_cell h1 k).trans (Array.getElem?_eq_getElem (by omega)), blk_free h1 k⟩
theorem Filling.done {w wr : World} {zs : List Int} {n : Nat} (h : Filling w wr zs n) (hn : n = zs.length) (hm : n ≤ 9223372036854775807) : OInts wr w.heap.size (.slice (some ⟨w.heap.size, 0, none⟩) n n) zs ∧ Below w.heap.size w wr := by
  obtain ⟨cur, h1, h2, h3, h4⟩ := h
  subst hn
  refine ⟨⟨by simp, .inr ⟨w.heap.size, _, cur, rfl, Nat.le_refl _, h1, Nat.le_refl _, by rw [maxLen_eq]; exact hm, by simpa using h2, ?_⟩⟩, h4⟩
  apply List.ext_getElem?
  intro j
  rw [List.getElem?_take, List.getElem?_map]
  split
  · rw [Array.getElem?_toList]
    exact h3 j (by omega)
  · rw [List.getElem?_eq_none (by omega)]
    rfl

theorem Try.tinfo_ints : (Try.prog.info? 25).map (fun i => (i.zero, i.size, i.bytes)) = some (some (.slice none 0 0), 1, 24) := by kernel_rfl

/-- a list of rows that is being filled: k of its rows are done -/
def FillingR (w wr : World) (rows : List (List Int)) (k : Nat) : Prop :=
  ∃ cur : Array Value, wr.heap[w.heap.size]? = some (.cells cur 25 (0, 0)) ∧ cur.size = rows.length ∧ (∀ (j : Nat) (row : List Int), j < k → rows[j]? = some row → ∃ u, cur[j]? = some u ∧ OInts wr (w.heap.size + 1) u row) ∧
    (∀ (i j : Nat) (u u' : Value), i < j → j < k → cur[i]? = some u → cur[j]? = some u' → u.ownBlock = none ∨ u.ownBlock ≠ u'.ownBlock) ∧ Below w.heap.size w wr
theorem FillingR.start (w : World) (rows : List (List Int)) (cur : Array Value) (h : cur.size = rows.length) : FillingR w (w.alloc (.cells cur 25)) rows 0 :=
  ⟨cur, heap_alloc_new w _, h, fun j row hj => by omega, fun i j u u' _ hj => by omega, below_alloc _ _⟩
theorem FillingR.cell {w wr : World} {rows : List (List Int)} {k : Nat} (h : FillingR w wr rows k) (hk : k < rows.length) {w1 : World} (hb : Below wr.heap.size wr w1) : ∃ u, w1.cell? ⟨w.heap.size, k, none⟩ = some u ∧ w1.frozen? ⟨w.heap.size, k, none⟩ = false := by
  obtain ⟨cur, h1, h2, h3, h4, h5⟩ := h
  have h1' := (hb.block _ (Array.getElem?_eq_some_iff.1 h1).1).trans h1
  exact ⟨cur[k]'(by omega), (blk_cell h1' k).trans (Array.getElem?_eq_getElem (by omega)), blk_free h1' k⟩
theorem FillingR.step {w wr w1 : World} {rows : List (List Int)} {k : Nat} {u : Value} (h : FillingR w wr rows k) (hk : k < rows.length) (hb : Below wr.heap.size wr w1) (hu : OInts w1 wr.heap.size u rows[k]) : FillingR w (w1.setCell ⟨w.heap.size, k, none⟩ u) rows (k + 1) := by
  obtain ⟨cur, h1, h2, h3, h4, h5⟩ := h
  have hlt := (Array.getElem?_eq_some_iff.1 h1).1
  have h1' := (hb.block _ hlt).trans h1
  refine ⟨_, blk_set h1' k _, by simpa using h2, fun j row hj hrow => ?_, fun i j x x' hij hjk hi hj => ?_, ((h5.trans (hb.mono (by omega))).setCell (Nat.le_refl _) _)⟩
  · by_cases hjk : k = j
    · subst hjk
      rw [List.getElem?_eq_getElem hk] at hrow
      cases hrow
      exact ⟨u, by rw [Array.getElem?_setIfInBounds, if_pos rfl, if_pos (by omega)], ownsRow_setCell_below (hu.base (by omega)) (by show w.heap.size < w.heap.size + 1; omega) _⟩
    · obtain ⟨x, hx, hxo⟩ := h3 j row (by omega) hrow
      exact ⟨x, by rw [Array.getElem?_setIfInBounds, if_neg hjk]; exact hx, ownsRow_setCell_below (hxo.keep hb) (by show w.heap.size < w.heap.size + 1; omega) _⟩
  · rw [Array.getElem?_setIfInBounds, if_neg (by omega)] at hi
    by_cases hjk' : k = j
    · subst hjk'
      rw [Array.getElem?_setIfInBounds, if_pos rfl, if_pos (by omega)] at hj
      cases hj
      obtain ⟨y, hy, hyo⟩ := h3 i _ hij (List.getElem?_eq_getElem (show i < rows.length by omega))
      rw [hy] at hi
      cases hi
      cases hbx : x.ownBlock with
      | none => exact .inl rfl
      | some b =>
        right
        intro e
        have a := (own_lt hyo b hbx).2
        have c := (own_lt hu b e.symm).1
        omega
    · rw [Array.getElem?_setIfInBounds, if_neg hjk'] at hj
      exact h4 i j x x' hij (by omega) hi hj
theorem FillingR.done {w wr : World} {rows : List (List Int)} {n : Nat} (h : FillingR w wr rows n) (hn : n = rows.length) (hm : n ≤ 9223372036854775807) : ORows wr w.heap.size (.slice (some ⟨w.heap.size, 0, none⟩) n n) rows ∧ Below w.heap.size w wr := by
  obtain ⟨cur, h1, h2, h3, h4, h5⟩ := h
  subst hn
  refine ⟨⟨cur.toList, ?_, by simpa using h2, fun j u row hu hrow => ?_, fun i j u u' hij hi hj => ?_⟩, h5⟩
  · refine ⟨by simp [h2], .inr ⟨w.heap.size, _, cur, rfl, Nat.le_refl _, h1, Nat.le_refl _, by rw [maxLen_eq]; exact hm, by simpa using h2, List.take_of_length_le (by simp [h2])⟩⟩
  · obtain ⟨x, hx, hxo⟩ := h3 j row (List.getElem?_eq_some_iff.1 hrow).1 hrow
    rw [Array.getElem?_toList, hx] at hu
    cases hu
    exact hxo.base (by omega)
  · rw [Array.getElem?_toList] at hi hj
    exact h4 i j u u' hij (by have := (Array.getElem?_eq_some_iff.1 hj).1; omega) hi hj
end Go.Proofs.Yteccjnnhihbdhab
