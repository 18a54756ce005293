/- The exact laws' measure, copy and comparison of lists of equations: szEqS, toEqS, eqEqS. -/
import Derived.Test.YteccjnnhihbdhabEqT
namespace Go.Proofs.Yteccjnnhihbdhab
open Go.RowKit
set_option linter.unusedVariables false

/-- the rows of equations, three an equation -/
def rows3 : List MEq → List (List Int)
  | [] => []
  | e :: es => e.vars :: e.left :: e.right :: rows3 es
theorem rows3_len : ∀ es : List MEq, (rows3 es).length = es.length * 3
  | [] => rfl
  | e :: es => by simp only [rows3, List.length_cons, rows3_len es]; omega
theorem rows3_at : ∀ (es : List MEq) (k : Nat) (e : MEq), es[k]? = some e → (rows3 es)[k * 3]? = some e.vars ∧ (rows3 es)[k * 3 + 1]? = some e.left ∧ (rows3 es)[k * 3 + 2]? = some e.right
  | [], k, e, h => by simp at h
  | x :: es, 0, e, h => by simp at h; subst h; simp [rows3]
  | x :: es, k + 1, e, h => by
    have := rows3_at es k e (by simpa using h)
    rw [show (k + 1) * 3 = k * 3 + 3 by omega]
    simpa [rows3] using this
theorem run_make_wide (t e : TypeId) (z : Value) (size bytes : Nat) (ht : Try.prog.underlying t = some (.slice e)) (hinfo : (Try.prog.info? e).map (fun i => (i.zero, i.size, i.bytes)) = some (some z, size, bytes))
    (kl kc : IntKind) (n : Nat) (hbytes : bytes * n ≤ 281474976710656) (h63 : n ≤ 9223372036854775807) (w : World) :
    (Instr.makeSlice t (.int kl (n : Int)) (.int kc (n : Int))).run Try.prog w = .ok (.slice (some ⟨w.heap.size, 0, none⟩) n n) (w.alloc (.cells (madeCells z.cells (n * size)) e)) := by
  obtain ⟨i, hi, hzz⟩ := Option.map_eq_some_iff.1 hinfo
  simp only [Prod.mk.injEq] at hzz
  obtain ⟨hz, hs, hb⟩ := hzz
  have := run_make (P := Try.prog) w t e i z ht hi hz kl kc n n (by omega) (by omega) (by rw [hb]; omega) (by omega)
  simpa [hs] using this
theorem Try.tinfo_Eq : (Try.prog.info? 69).map (fun i => (i.zero, i.size, i.bytes)) = some (some (.agg #[.slice none 0 0, .slice none 0 0, .slice none 0 0]), 3, 72) := by kernel_rfl

/-- a block that is being filled with rows, cell by cell -/
def FillF (T : TypeId) (w wr : World) (rows : List (List Int)) (k : Nat) : Prop :=
  ∃ cur : Array Value, wr.heap[w.heap.size]? = some (.cells cur T (0, 0)) ∧ cur.size = rows.length ∧ (∀ (j : Nat) (row : List Int), j < k → rows[j]? = some row → ∃ u, cur[j]? = some u ∧ OInts wr (w.heap.size + 1) u row) ∧
    (∀ (i j : Nat) (u u' : Value), i < j → j < k → cur[i]? = some u → cur[j]? = some u' → Apart u u') ∧ Below w.heap.size w wr
section
variable {T : TypeId} {w wr w1 : World} {rows : List (List Int)} {k : Nat}
theorem FillF.start (T : TypeId) (w : World) (rows : List (List Int)) (cur : Array Value) (h : cur.size = rows.length) : FillF T w (w.alloc (.cells cur T)) rows 0 :=
  ⟨cur, heap_alloc_new w _, h, fun j row hj => by omega, fun i j u u' _ hj => by omega, below_alloc _ _⟩
theorem FillF.bel (h : FillF T w wr rows k) : Below w.heap.size w wr := by obtain ⟨_, _, _, _, _, hb⟩ := h; exact hb
theorem FillF.lt (h : FillF T w wr rows k) : w.heap.size < wr.heap.size := by obtain ⟨cur, h1, _⟩ := h; exact (Array.getElem?_eq_some_iff.1 h1).1
theorem FillF.keep (h : FillF T w wr rows k) (hb : Below wr.heap.size wr w1) : FillF T w w1 rows k := by
  have hl := h.lt
  obtain ⟨cur, h1, h2, h3, h4, h5⟩ := h
  exact ⟨cur, (hb.block _ hl).trans h1, h2, fun j row hj hr => by obtain ⟨u, a, b⟩ := h3 j row hj hr; exact ⟨u, a, b.keep hb⟩, h4, h5.trans (hb.mono (by omega))⟩
theorem FillF.cell (h : FillF T w wr rows k) {j : Nat} (hj : j < rows.length) : ∃ u, wr.cell? ⟨w.heap.size, j, none⟩ = some u ∧ wr.frozen? ⟨w.heap.size, j, none⟩ = false := by
  obtain ⟨cur, h1, h2, h3, h4, h5⟩ := h
  exact ⟨cur[j]'(by omega), (blk_cell h1 j).trans (Array.getElem?_eq_getElem (by omega)), blk_free h1 j⟩
/-- what stands there -/
theorem FillF.old (h : FillF T w wr rows k) {j : Nat} {x : Value} (hj : j < k) (hk : k ≤ rows.length) (hx : wr.cell? ⟨w.heap.size, j, none⟩ = some x) : ∀ b, x.ownBlock = some b → b < wr.heap.size := by
  obtain ⟨cur, h1, h2, h3, h4, h5⟩ := h
  obtain ⟨u, a, b⟩ := h3 j rows[j] hj (List.getElem?_eq_getElem (by omega))
  rw [blk_cell h1, a] at hx
  cases hx
  exact fun b' hb' => (own_lt b b' hb').2
theorem FillF.put (h : FillF T w wr rows k) (hk : k < rows.length) {u : Value} {row : List Int} (hr : rows[k]? = some row) (hu : OInts wr (w.heap.size + 1) u row) (ha : ∀ (i : Nat) (x : Value), i < k → wr.cell? ⟨w.heap.size, i, none⟩ = some x → Apart x u) :
    FillF T w (wr.setCell ⟨w.heap.size, k, none⟩ u) rows (k + 1) := by
  obtain ⟨cur, h1, h2, h3, h4, h5⟩ := h
  refine ⟨_, blk_set h1 k u, by simpa using h2, fun j row' hj hrow => ?_, fun i j x x' hij hjk hi hj => ?_, h5.setCell (Nat.le_refl _) _⟩
  · by_cases hjk : k = j
    · subst hjk
      rw [hr] at hrow
      cases hrow
      exact ⟨u, by rw [Array.getElem?_setIfInBounds, if_pos rfl, if_pos (by omega)], hu.setLow (by omega) _ _⟩
    · obtain ⟨x, hx, hxo⟩ := h3 j row' (by omega) hrow
      exact ⟨x, by rw [Array.getElem?_setIfInBounds, if_neg hjk]; exact hx, hxo.setLow (by omega) _ _⟩
  · rw [Array.getElem?_setIfInBounds, if_neg (by omega)] at hi
    by_cases hjk' : k = j
    · subst hjk'
      rw [Array.getElem?_setIfInBounds, if_pos rfl, if_pos (by omega)] at hj
      cases hj
      exact ha i x hij (by rw [blk_cell h1]; exact hi)
    · rw [Array.getElem?_setIfInBounds, if_neg hjk'] at hj
      exact h4 i j x x' hij (by omega) hi hj
theorem apart_old {w1 : World} {B : Nat} {x u : Value} {row : List Int} (hx : ∀ b, x.ownBlock = some b → b < B) (hu : OInts w1 B u row) : Apart x u := by
  unfold Apart
  cases hb : x.ownBlock with
  | none => exact .inl rfl
  | some b => right; intro e; have := hx b hb; have := (own_lt hu b e.symm).1; omega
theorem FillF.put3 (h : FillF T w wr rows (k * 3)) (hb : Below wr.heap.size wr w1) {a b c : Value} {e : MEq} (he : OEq w1 wr.heap.size (.agg #[a, b, c]) e) (hk : k * 3 + 3 ≤ rows.length)
    (r0 : rows[k * 3]? = some e.vars) (r1 : rows[k * 3 + 1]? = some e.left) (r2 : rows[k * 3 + 2]? = some e.right) :
    FillF T w (((w1.setCell ⟨w.heap.size, k * 3, none⟩ a).setCell ⟨w.heap.size, k * 3 + 1, none⟩ b).setCell ⟨w.heap.size, k * 3 + 2, none⟩ c) rows (k * 3 + 3) := by
  have hl := h.lt
  obtain ⟨a', b', c', e', h1, h2, h3, p1, p2, p3⟩ := he
  injection e' with e'
  simp at e'
  obtain ⟨rfl, rfl, rfl⟩ := e'
  have h0 := h.keep hb
  have old : ∀ (j : Nat) (x : Value), j < k * 3 → w1.cell? ⟨w.heap.size, j, none⟩ = some x → ∀ b, x.ownBlock = some b → b < wr.heap.size := fun j x hj hx => by
    refine h.old hj (by omega) ?_
    obtain ⟨cur, q1, _⟩ := h
    have q2 := (hb.block _ hl).trans q1
    rw [blk_cell q2] at hx
    rw [blk_cell q1]; exact hx
  have f1 := h0.put (by omega) r0 (h1.base (by omega)) (fun i x hi hx => apart_old (old i x hi hx) h1)
  have c1 : ∀ (i : Nat) (x u : Value), (w1.setCell ⟨w.heap.size, k * 3, none⟩ u).cell? ⟨w.heap.size, i, none⟩ = some x → i < k * 3 → w1.cell? ⟨w.heap.size, i, none⟩ = some x := fun i x u hx hi => by
    rwa [World.cell?_setCell_other _ _ _ _ (by intro e; injection e; omega)] at hx
  have f2 := f1.put (by omega) r1 ((h2.base (by omega)).setLow (by omega) _ _) (fun i x hi hx => by
    by_cases hi3 : i < k * 3
    · exact apart_old (old i x hi3 (c1 i x _ hx hi3)) h2
    · have : i = k * 3 := by omega
      subst this
      obtain ⟨cur, q1, q2, -⟩ := h0
      rw [blk_cell (blk_set q1 (k * 3) a), Array.getElem?_setIfInBounds, if_pos rfl, if_pos (by omega)] at hx
      cases hx
      exact p1)
  have f3 := f2.put (by omega) r2 (((h3.base (by omega)).setLow (by omega) _ _).setLow (by omega) _ _) (fun i x hi hx => by
    obtain ⟨cur, q1, q2, -⟩ := h0
    have s1 := blk_set q1 (k * 3) a
    have s2 := blk_set s1 (k * 3 + 1) b
    rw [blk_cell s2, Array.getElem?_setIfInBounds] at hx
    by_cases hi4 : k * 3 + 1 = i
    · subst hi4
      rw [if_pos rfl, if_pos (by simp; omega)] at hx
      cases hx
      exact p3
    · rw [if_neg hi4, Array.getElem?_setIfInBounds] at hx
      by_cases hi5 : k * 3 = i
      · subst hi5
        rw [if_pos rfl, if_pos (by omega)] at hx
        cases hx
        exact p2
      · rw [if_neg hi5] at hx
        exact apart_old (old i x (by omega) (by rw [blk_cell q1]; exact hx)) h3)
  exact f3
theorem FillF.done {n size : Nat} (h : FillF T w wr rows k) (hk : k = rows.length) (hn : n * size = rows.length) (hm : n ≤ 9223372036854775807) : ORowsT T size n wr w.heap.size (.slice (some ⟨w.heap.size, 0, none⟩) n n) rows ∧ Below w.heap.size w wr := by
  obtain ⟨cur, h1, h2, h3, h4, h5⟩ := h
  subst hk
  refine ⟨⟨cur.toList, ?_, by simpa using h2, fun j u row hu hrow => ?_, fun i j u u' hij hi hj => ?_⟩, h5⟩
  · refine ⟨by simp [h2, hn], .inr ⟨w.heap.size, _, cur, rfl, Nat.le_refl _, h1, Nat.le_refl _, by rw [maxLen_eq]; exact hm, by omega, List.take_of_length_le (by simp; omega)⟩⟩
  · obtain ⟨x, hx, hxo⟩ := h3 j row (List.getElem?_eq_some_iff.1 hrow).1 hrow
    rw [Array.getElem?_toList, hx] at hu
    cases hu
    exact hxo.base (by omega)
  · rw [Array.getElem?_toList] at hi hj
    exact h4 i j u u' hij (by have := (Array.getElem?_eq_some_iff.1 hj).1; omega) hi hj
end

def OEqs (w : World) (B : Nat) (v : Value) (es : List MEq) : Prop := ORowsT 69 3 es.length w B v (rows3 es)
section
variable {T : TypeId} {size n : Nat} {w w' : World} {B B' : Nat} {v : Value} {rows : List (List Int)} {es : List MEq}
theorem ORowsT.keep (h : ORowsT T size n w B v rows) (hb : Below w.heap.size w w') : ORowsT T size n w' B v rows := by
  obtain ⟨us, h1, h2, h3, h4⟩ := h
  exact ⟨us, own_keep h1 hb, h2, fun j u row a b => (h3 j u row a b).keep hb, h4⟩
theorem ORowsT.base (h : ORowsT T size n w B v rows) (hB : B' ≤ B) : ORowsT T size n w B' v rows := by
  obtain ⟨us, h1, h2, h3, h4⟩ := h
  exact ⟨us, own_base h1 hB, h2, fun j u row a b => (h3 j u row a b).base hB, h4⟩
theorem ORowsT.setLow {b : Nat} (h : ORowsT T size n w B v rows) (hb : b < B) (i : Nat) (x : Value) : ORowsT T size n (w.setCell ⟨b, i, none⟩ x) B v rows := by
  obtain ⟨us, h1, h2, h3, h4⟩ := h
  exact ⟨us, ownsRow_setCell_below h1 hb _, h2, fun j u row a b' => (h3 j u row a b').setLow hb _ _, h4⟩
theorem wide_reads {e : TypeId} {zs : List Value} (h : w.ownsRow B e size v n zs) : ∃ A c, v = .slice A n c ∧ n ≤ c ∧ c ≤ maxLen ∧ ∀ j x, zs[j]? = some x → ∃ b, A = some ⟨b, 0, none⟩ ∧ w.cell? ⟨b, j, none⟩ = some x := by
  obtain ⟨hl, h⟩ := h
  rcases h with ⟨rfl, rfl⟩ | ⟨g, cap, cur, rfl, hg, hh, h1, h2, h3, h4⟩
  · refine ⟨none, 0, rfl, Nat.le_refl _, Nat.zero_le _, fun j x hj => ?_⟩
    have : zs = [] := List.eq_nil_of_length_eq_zero (by simpa using hl)
    subst this
    simp at hj
  · refine ⟨_, cap, rfl, h1, h2, fun j x hj => ⟨g, rfl, ?_⟩⟩
    subst h4
    rw [List.getElem?_take] at hj
    split at hj
    · simpa [World.cell?, hh] using hj
    · cases hj
theorem OEqs.reads (h : OEqs w B v es) : REqs w v es := by
  obtain ⟨us, h1, h2, h3, -⟩ := h
  obtain ⟨A, c, e, k1, k2, k3⟩ := wide_reads h1
  refine ⟨A, c, e, k1, k2, fun j q hj => ?_⟩
  obtain ⟨r0, r1, r2⟩ := rows3_at es j q hj
  have hjl := (List.getElem?_eq_some_iff.1 hj).1
  have hl := rows3_len es
  have get : ∀ i, i < es.length * 3 → ∃ u, us[i]? = some u := fun i hi => ⟨us[i]'(by omega), List.getElem?_eq_getElem _⟩
  obtain ⟨x, hx⟩ := get (j * 3) (by omega)
  obtain ⟨y, hy⟩ := get (j * 3 + 1) (by omega)
  obtain ⟨z, hz⟩ := get (j * 3 + 2) (by omega)
  obtain ⟨b, ea, c0⟩ := k3 _ x hx
  obtain ⟨b1, ea1, c1⟩ := k3 _ y hy
  obtain ⟨b2, ea2, c2⟩ := k3 _ z hz
  rw [ea] at ea1 ea2
  cases ea1
  cases ea2
  exact ⟨b, 0, x, y, z, ea, by simpa using c0, by simpa using c1, by simpa using c2, (h3 _ _ _ hx r0).reads, (h3 _ _ _ hy r1).reads, (h3 _ _ _ hz r2).reads⟩
end

theorem eq_drew (w : World) : Below w.heap.size w w.drew := ⟨rfl, rfl, rfl, Nat.le_refl _, fun _ _ => rfl⟩
theorem eq_undrew {w w' : World} (h : Below w.drew.heap.size w.drew w') : Below w.heap.size w w' := ⟨h.os, h.tape, h.output, h.size, h.block⟩
theorem takeE_bad {xs ys : List MEq} {k : Nat} (hx : k < xs.length) (hy : k < ys.length) (he : sameE xs[k] ys[k] = false) : sameEs xs ys = false := by
  cases h : sameEs xs ys with
  | false => rfl
  | true =>
    have := sameEs_eq.1 h
    subst this
    rw [sameE_self] at he
    cases he
end Go.Proofs.Yteccjnnhihbdhab
