/- The plain functions of equations, theories and steps; small numbers. No walk. · The exact laws' measure, copy and comparison of an equation: szEq, toEq, eqEq. · The exact laws' measure, copy and comparison of lists of equations: szEqS, toEqS, eqEqS. · The exact laws' measure, copy and comparison of a theory: szTheory, toTheory, eqTheory. · The exact laws' marks: markIntS, heldIntS, markIntSS, markSig. · The marks of a list of rows, to the number: markIntSS, heldIntSS, markSig, heldSig. · The exact laws' marks of a result that lies between others: worlds cut off at a size. No walk. · Models: how they read, how those that a call has made lie; the exact laws' measure, copy and comparison of one. · What the proofs of the exact laws share: a signature that came in. · Small words that the exact laws share. · What the made proofs of the exact laws share (tools/exact.py). No walk. · Marks, as the made proofs of the exact laws want them: an object that was made at wc and lies in w as it was. · The exact laws' marks of a model. · VarsOk of both packages. · What the proofs of the exact laws share: rows and lists of rows that came in. · What the proofs of the exact laws share: equations, lists of them and theories that came in. -/
import Derived.Test.YtfomeommkfemkaaK943a0d63
import Derived.ProofKit
import Derived.OpenShut
import Derived.ShutString
import Derived.ChangeOld
import Derived.Lib.SmallJoins
import Derived.Deep.Matrix
import Derived.Deep.Slices
import Derived.Deep.Strs
namespace Go.Proofs.Ytfomeommkfemkaa
section
open Go.RowKit
set_option linter.unusedVariables false

def eqOkB (s : MSig) (e : MEq) : Bool := decide (0 ≤ sortM s e.vars e.left) && decide (sortM s e.vars e.right = sortM s e.vars e.left)
def thyB (t : MThy) : Bool := (validB t.over && decide (t.eqs.length ≤ 6)) && t.eqs.all (eqOkB t.over)
def SmallE (e : MEq) : Prop := Small e.left ∧ Small e.right
def SmallT (t : MThy) : Prop := ∀ e ∈ t.eqs, SmallE e
/-- rows of an equation that are not too long -/
def FitsE (e : MEq) : Prop := e.vars.length ≤ 1048576 ∧ e.left.length ≤ 1048576 ∧ e.right.length ≤ 1048576
def FitsEs (es : List MEq) : Prop := es.length ≤ 1048576 ∧ ∀ e ∈ es, FitsE e
def sameE (a b : MEq) : Bool := (sameI a.vars b.vars && sameI a.left b.left) && sameI a.right b.right
theorem sameE_self (a : MEq) : sameE a a = true := by unfold sameE sameI; simp
theorem sameE_eq {a b : MEq} : sameE a b = true ↔ a = b := by
  obtain ⟨a1, a2, a3⟩ := a
  obtain ⟨b1, b2, b3⟩ := b
  unfold sameE sameI
  simp [and_assoc]
def sameEs : List MEq → List MEq → Bool
  | [], [] => true
  | a :: xs, b :: ys => sameE a b && sameEs xs ys
  | _, _ => false
theorem sameEs_eq {xs bs : List MEq} : sameEs xs bs = true ↔ xs = bs := by
  induction xs generalizing bs with
  | nil => cases bs <;> simp [sameEs]
  | cons a xs ih => cases bs with
    | nil => simp [sameEs]
    | cons b bs => simp [sameEs, sameE_eq, ih]
theorem sameEs_self (xs : List MEq) : sameEs xs xs = true := sameEs_eq.2 rfl
theorem eqOkB_bad {s : MSig} {e : MEq} (h : validB s = false) : eqOkB s e = false := by
  unfold eqOkB
  have : ¬ 0 ≤ sortM s e.vars e.left := fun hh => by
    obtain ⟨tm, hv, -⟩ := sortM_to hh
    rw [(vars_valid hv).1] at h
    cases h
  simp [this]
end

section
open Go.RowKit
set_option linter.unusedVariables false

def Apart (a b : Value) : Prop := a.ownBlock = none ∨ a.ownBlock ≠ b.ownBlock
def OEq (w : World) (B : Nat) (v : Value) (e : MEq) : Prop := ∃ a b c, v = .agg #[a, b, c] ∧ OInts w B a e.vars ∧ OInts w B b e.left ∧ OInts w B c e.right ∧ Apart a b ∧ Apart a c ∧ Apart b c
theorem OEq.keep {w w' : World} {B : Nat} {v : Value} {e : MEq} (h : OEq w B v e) (hb : Below w.heap.size w w') : OEq w' B v e := by
  obtain ⟨a, b, c, rfl, h1, h2, h3, h4⟩ := h; exact ⟨a, b, c, rfl, h1.keep hb, h2.keep hb, h3.keep hb, h4⟩
theorem OEq.base {w : World} {B B' : Nat} {v : Value} {e : MEq} (h : OEq w B v e) (hB : B' ≤ B) : OEq w B' v e := by
  obtain ⟨a, b, c, rfl, h1, h2, h3, h4⟩ := h; exact ⟨a, b, c, rfl, h1.base hB, h2.base hB, h3.base hB, h4⟩
theorem OEq.reads {w : World} {B : Nat} {v : Value} {e : MEq} (h : OEq w B v e) : REq w v e := by
  obtain ⟨a, b, c, rfl, h1, h2, h3, h4⟩ := h; exact ⟨a, b, c, rfl, h1.reads, h2.reads, h3.reads⟩
/-- what was made later lies in another block -/
theorem apart_later {w w' : World} {B : Nat} {a b : Value} {xs ys : List Int} (h : OInts w B a xs) (k : OInts w' w.heap.size b ys) : Apart a b := by
  unfold Apart
  cases ha : a.ownBlock with
  | none => exact .inl rfl
  | some x =>
    right
    intro e
    have p := (own_lt h x ha).2
    have q := (own_lt k x e.symm).1
    omega
theorem sz_keep {w w1 w2 : World} (h : Below w.heap.size w w1) (k : Below w1.heap.size w1 w2) : Below w.heap.size w w2 := h.trans (k.mono h.size)

/-- a copy under way: the argument's box (a), the result's (r), and 'out' (cur), the first three new blocks -/
structure Mk (w wr : World) (Ta T : TypeId) (a r cur : Array Value) : Prop where
  ba : wr.heap[w.heap.size]? = some (.cells a Ta (0, 0))
  br : wr.heap[w.heap.size + 1]? = some (.cells r T (0, 0))
  bo : wr.heap[w.heap.size + 2]? = some (.cells cur T (0, 0))
  b : Below w.heap.size w wr
  z : w.heap.size + 3 ≤ wr.heap.size
theorem Mk.start (w : World) (Ta T : TypeId) (a r cur : Array Value) : Mk w (((w.alloc (.cells a Ta)).alloc (.cells r T)).alloc (.cells cur T)) Ta T a r cur := by
  refine ⟨?_, ?_, ?_, ((below_alloc _ _).alloc (by simp) _).alloc (by simp; omega) _, by simp⟩
  · rw [heap_alloc_old _ _ (by simp; omega), heap_alloc_old _ _ (by simp)]
    exact heap_alloc_new w _
  · rw [heap_alloc_old _ _ (by simp)]
    exact (congrArg (fun i => ((w.alloc (.cells a Ta)).alloc (.cells r T)).heap[i]?) (by simp)).trans (heap_alloc_new (w.alloc (.cells a Ta)) _)
  · exact (congrArg (fun i => (((w.alloc (.cells a Ta)).alloc (.cells r T)).alloc (.cells cur T)).heap[i]?) (by simp)).trans (heap_alloc_new ((w.alloc (.cells a Ta)).alloc (.cells r T)) _)
section
variable {w wr w2 : World} {Ta T : TypeId} {a r cur : Array Value}
theorem Mk.below (h : Mk w wr Ta T a r cur) (hb : Below wr.heap.size wr w2) : Mk w w2 Ta T a r cur :=
  ⟨(hb.block _ (by have := h.z; omega)).trans h.ba, (hb.block _ (by have := h.z; omega)).trans h.br, (hb.block _ (by have := h.z; omega)).trans h.bo, h.b.trans (hb.mono (by have := h.z; omega)), Nat.le_trans h.z hb.size⟩
theorem Mk.setO (h : Mk w wr Ta T a r cur) (i : Nat) (u : Value) : Mk w (wr.setCell ⟨w.heap.size + 2, i, none⟩ u) Ta T a r (cur.setIfInBounds i u) :=
  ⟨(Below.heap_setCell wr ⟨w.heap.size + 2, i, none⟩ u w.heap.size (by show w.heap.size ≠ w.heap.size + 2; omega)).trans h.ba, (Below.heap_setCell wr ⟨w.heap.size + 2, i, none⟩ u (w.heap.size + 1) (by show w.heap.size + 1 ≠ w.heap.size + 2; omega)).trans h.br, blk_set h.bo i u,
    h.b.setCell (p := ⟨w.heap.size + 2, i, none⟩) (by show w.heap.size ≤ w.heap.size + 2; omega) u, by have := h.z; simpa [World.setCell] using this⟩
theorem Mk.setR (h : Mk w wr Ta T a r cur) (i : Nat) (u : Value) : Mk w (wr.setCell ⟨w.heap.size + 1, i, none⟩ u) Ta T a (r.setIfInBounds i u) cur :=
  ⟨(Below.heap_setCell wr ⟨w.heap.size + 1, i, none⟩ u w.heap.size (by show w.heap.size ≠ w.heap.size + 1; omega)).trans h.ba, blk_set h.br i u, (Below.heap_setCell wr ⟨w.heap.size + 1, i, none⟩ u (w.heap.size + 2) (by show w.heap.size + 2 ≠ w.heap.size + 1; omega)).trans h.bo,
    h.b.setCell (p := ⟨w.heap.size + 1, i, none⟩) (by show w.heap.size ≤ w.heap.size + 1; omega) u, by have := h.z; simpa [World.setCell] using this⟩
theorem Mk.ca (h : Mk w wr Ta T a r cur) (i : Nat) : wr.cell? ⟨w.heap.size, i, none⟩ = a[i]? := blk_cell h.ba i
theorem Mk.co (h : Mk w wr Ta T a r cur) (i : Nat) : wr.cell? ⟨w.heap.size + 2, i, none⟩ = cur[i]? := blk_cell h.bo i
theorem Mk.fo (h : Mk w wr Ta T a r cur) (i : Nat) : wr.frozen? ⟨w.heap.size + 2, i, none⟩ = false := blk_free h.bo i
theorem Mk.cr (h : Mk w wr Ta T a r cur) (i : Nat) : wr.cell? ⟨w.heap.size + 1, i, none⟩ = r[i]? := blk_cell h.br i
theorem Mk.fr (h : Mk w wr Ta T a r cur) (i : Nat) : wr.frozen? ⟨w.heap.size + 1, i, none⟩ = false := blk_free h.br i
theorem OInts.setLow {B b : Nat} {v : Value} {xs : List Int} (h : OInts wr B v xs) (hb : b < B) (i : Nat) (x : Value) : OInts (wr.setCell ⟨b, i, none⟩ x) B v xs := ownsRow_setCell_below h hb _
end
end

section
open Go.RowKit
set_option linter.unusedVariables false

/-- the rows of equations, three an equation -/
def rows3 : List MEq → List (List Int)
  | [] => []
  | e :: es => e.vars :: e.left :: e.right :: rows3 es
theorem rows3_len : ∀ es : List MEq, (rows3 es).length = es.length * 3
  | [] => rfl
  | e :: es => by simp only [rows3, List.length_cons, rows3_len es]; omega
theorem rows3_at : ∀ (es : List MEq) (k : Nat) (e : MEq), es[k]? = some e → (rows3 es)[k * 3]? = some e.vars ∧ (rows3 es)[k * 3 + 1]? = some e.left ∧ (rows3 es)[k * 3 + 2]? = some e.right
  | [], k, e, h => by simp at h
  | x :: es, 0, e, h => by simp at h; subst h; simp [rows3]
  | x :: es, k + 1, e, h => by
    have := rows3_at es k e (by simpa using h)
    rw [show (k + 1) * 3 = k * 3 + 3 by omega]
    simpa [rows3] using this
theorem run_make_wide (t e : TypeId) (z : Value) (size bytes : Nat) (ht : Try.prog.underlying t = some (.slice e)) (hinfo : (Try.prog.info? e).map (fun i => (i.zero, i.size, i.bytes)) = some (some z, size, bytes))
    (kl kc : IntKind) (n : Nat) (hbytes : bytes * n ≤ 281474976710656) (h63 : n ≤ 9223372036854775807) (w : World) :
    (Instr.makeSlice t (.int kl (n : Int)) (.int kc (n : Int))).run Try.prog w = .ok (.slice (some ⟨w.heap.size, 0, none⟩) n n) (w.alloc (.cells (madeCells z.cells (n * size)) e)) := by
  obtain ⟨i, hi, hzz⟩ := Option.map_eq_some_iff.1 hinfo
  simp only [Prod.mk.injEq] at hzz
  obtain ⟨hz, hs, hb⟩ := hzz
  have := run_make (P := Try.prog) w t e i z ht hi hz kl kc n n (by omega) (by omega) (by rw [hb]; omega) (by omega)
  simpa [hs] using this
/-- a block that is being filled with rows, cell by cell -/
def FillF (T : TypeId) (w wr : World) (rows : List (List Int)) (k : Nat) : Prop :=
  ∃ cur : Array Value, wr.heap[w.heap.size]? = some (.cells cur T (0, 0)) ∧ cur.size = rows.length ∧ (∀ (j : Nat) (row : List Int), j < k → rows[j]? = some row → ∃ u, cur[j]? = some u ∧ OInts wr (w.heap.size + 1) u row) ∧
    (∀ (i j : Nat) (u u' : Value), i < j → j < k → cur[i]? = some u → cur[j]? = some u' → Apart u u') ∧ Below w.heap.size w wr
section
variable {T : TypeId} {w wr w1 : World} {rows : List (List Int)} {k : Nat}
theorem FillF.start (T : TypeId) (w : World) (rows : List (List Int)) (cur : Array Value) (h : cur.size = rows.length) : FillF T w (w.alloc (.cells cur T)) rows 0 :=
  ⟨cur, heap_alloc_new w _, h, fun j row hj => by omega, fun i j u u' _ hj => by omega, below_alloc _ _⟩
theorem FillF.bel (h : FillF T w wr rows k) : Below w.heap.size w wr := by obtain ⟨_, _, _, _, _, hb⟩ := h; exact hb
theorem FillF.lt (h : FillF T w wr rows k) : w.heap.size < wr.heap.size := by obtain ⟨cur, h1, _⟩ := h; exact (Array.getElem?_eq_some_iff.1 h1).1
theorem FillF.keep (h : FillF T w wr rows k) (hb : Below wr.heap.size wr w1) : FillF T w w1 rows k := by
  have hl := h.lt
  obtain ⟨cur, h1, h2, h3, h4, h5⟩ := h
  exact ⟨cur, (hb.block _ hl).trans h1, h2, fun j row hj hr => by obtain ⟨u, a, b⟩ := h3 j row hj hr; exact ⟨u, a, b.keep hb⟩, h4, h5.trans (hb.mono (by omega))⟩
theorem FillF.cell (h : FillF T w wr rows k) {j : Nat} (hj : j < rows.length) : ∃ u, wr.cell? ⟨w.heap.size, j, none⟩ = some u ∧ wr.frozen? ⟨w.heap.size, j, none⟩ = false := by
  obtain ⟨cur, h1, h2, h3, h4, h5⟩ := h
  exact ⟨cur[j]'(by omega), (blk_cell h1 j).trans (Array.getElem?_eq_getElem (by omega)), blk_free h1 j⟩
/-- what stands there -/
theorem FillF.old (h : FillF T w wr rows k) {j : Nat} {x : Value} (hj : j < k) (hk : k ≤ rows.length) (hx : wr.cell? ⟨w.heap.size, j, none⟩ = some x) : ∀ b, x.ownBlock = some b → b < wr.heap.size := by
  obtain ⟨cur, h1, h2, h3, h4, h5⟩ := h
  obtain ⟨u, a, b⟩ := h3 j rows[j] hj (List.getElem?_eq_getElem (by omega))
  rw [blk_cell h1, a] at hx
  cases hx
  exact fun b' hb' => (own_lt b b' hb').2
theorem FillF.put (h : FillF T w wr rows k) (hk : k < rows.length) {u : Value} {row : List Int} (hr : rows[k]? = some row) (hu : OInts wr (w.heap.size + 1) u row) (ha : ∀ (i : Nat) (x : Value), i < k → wr.cell? ⟨w.heap.size, i, none⟩ = some x → Apart x u) :
    FillF T w (wr.setCell ⟨w.heap.size, k, none⟩ u) rows (k + 1) := by
  obtain ⟨cur, h1, h2, h3, h4, h5⟩ := h
  refine ⟨_, blk_set h1 k u, by simpa using h2, fun j row' hj hrow => ?_, fun i j x x' hij hjk hi hj => ?_, h5.setCell (Nat.le_refl _) _⟩
  · by_cases hjk : k = j
    · subst hjk
      rw [hr] at hrow
      cases hrow
      exact ⟨u, by rw [Array.getElem?_setIfInBounds, if_pos rfl, if_pos (by omega)], hu.setLow (by omega) _ _⟩
    · obtain ⟨x, hx, hxo⟩ := h3 j row' (by omega) hrow
      exact ⟨x, by rw [Array.getElem?_setIfInBounds, if_neg hjk]; exact hx, hxo.setLow (by omega) _ _⟩
  · rw [Array.getElem?_setIfInBounds, if_neg (by omega)] at hi
    by_cases hjk' : k = j
    · subst hjk'
      rw [Array.getElem?_setIfInBounds, if_pos rfl, if_pos (by omega)] at hj
      cases hj
      exact ha i x hij (by rw [blk_cell h1]; exact hi)
    · rw [Array.getElem?_setIfInBounds, if_neg hjk'] at hj
      exact h4 i j x x' hij (by omega) hi hj
theorem apart_old {w1 : World} {B : Nat} {x u : Value} {row : List Int} (hx : ∀ b, x.ownBlock = some b → b < B) (hu : OInts w1 B u row) : Apart x u := by
  unfold Apart
  cases hb : x.ownBlock with
  | none => exact .inl rfl
  | some b => right; intro e; have := hx b hb; have := (own_lt hu b e.symm).1; omega
theorem FillF.put3 (h : FillF T w wr rows (k * 3)) (hb : Below wr.heap.size wr w1) {a b c : Value} {e : MEq} (he : OEq w1 wr.heap.size (.agg #[a, b, c]) e) (hk : k * 3 + 3 ≤ rows.length)
    (r0 : rows[k * 3]? = some e.vars) (r1 : rows[k * 3 + 1]? = some e.left) (r2 : rows[k * 3 + 2]? = some e.right) :
    FillF T w (((w1.setCell ⟨w.heap.size, k * 3, none⟩ a).setCell ⟨w.heap.size, k * 3 + 1, none⟩ b).setCell ⟨w.heap.size, k * 3 + 2, none⟩ c) rows (k * 3 + 3) := by
  have hl := h.lt
  obtain ⟨a', b', c', e', h1, h2, h3, p1, p2, p3⟩ := he
  injection e' with e'
  simp at e'
  obtain ⟨rfl, rfl, rfl⟩ := e'
  have h0 := h.keep hb
  have old : ∀ (j : Nat) (x : Value), j < k * 3 → w1.cell? ⟨w.heap.size, j, none⟩ = some x → ∀ b, x.ownBlock = some b → b < wr.heap.size := fun j x hj hx => by
    refine h.old hj (by omega) ?_
    obtain ⟨cur, q1, _⟩ := h
    have q2 := (hb.block _ hl).trans q1
    rw [blk_cell q2] at hx
    rw [blk_cell q1]; exact hx
  have f1 := h0.put (by omega) r0 (h1.base (by omega)) (fun i x hi hx => apart_old (old i x hi hx) h1)
  have c1 : ∀ (i : Nat) (x u : Value), (w1.setCell ⟨w.heap.size, k * 3, none⟩ u).cell? ⟨w.heap.size, i, none⟩ = some x → i < k * 3 → w1.cell? ⟨w.heap.size, i, none⟩ = some x := fun i x u hx hi => by
    rwa [World.cell?_setCell_other _ _ _ _ (by intro e; injection e; omega)] at hx
  have f2 := f1.put (by omega) r1 ((h2.base (by omega)).setLow (by omega) _ _) (fun i x hi hx => by
    by_cases hi3 : i < k * 3
    · exact apart_old (old i x hi3 (c1 i x _ hx hi3)) h2
    · have : i = k * 3 := by omega
      subst this
      obtain ⟨cur, q1, q2, -⟩ := h0
      rw [blk_cell (blk_set q1 (k * 3) a), Array.getElem?_setIfInBounds, if_pos rfl, if_pos (by omega)] at hx
      cases hx
      exact p1)
  have f3 := f2.put (by omega) r2 (((h3.base (by omega)).setLow (by omega) _ _).setLow (by omega) _ _) (fun i x hi hx => by
    obtain ⟨cur, q1, q2, -⟩ := h0
    have s1 := blk_set q1 (k * 3) a
    have s2 := blk_set s1 (k * 3 + 1) b
    rw [blk_cell s2, Array.getElem?_setIfInBounds] at hx
    by_cases hi4 : k * 3 + 1 = i
    · subst hi4
      rw [if_pos rfl, if_pos (by simp; omega)] at hx
      cases hx
      exact p3
    · rw [if_neg hi4, Array.getElem?_setIfInBounds] at hx
      by_cases hi5 : k * 3 = i
      · subst hi5
        rw [if_pos rfl, if_pos (by omega)] at hx
        cases hx
        exact p2
      · rw [if_neg hi5] at hx
        exact apart_old (old i x (by omega) (by rw [blk_cell q1]; exact hx)) h3)
  exact f3
theorem FillF.done {n size : Nat} (h : FillF T w wr rows k) (hk : k = rows.length) (hn : n * size = rows.length) (hm : n ≤ 9223372036854775807) : ORowsT T size n wr w.heap.size (.slice (some ⟨w.heap.size, 0, none⟩) n n) rows ∧ Below w.heap.size w wr := by
  obtain ⟨cur, h1, h2, h3, h4, h5⟩ := h
  subst hk
  refine ⟨⟨cur.toList, ?_, by simpa using h2, fun j u row hu hrow => ?_, fun i j u u' hij hi hj => ?_⟩, h5⟩
  · refine ⟨by simp [h2, hn], .inr ⟨w.heap.size, _, cur, rfl, Nat.le_refl _, h1, Nat.le_refl _, by rw [maxLen_eq]; exact hm, by omega, List.take_of_length_le (by simp; omega)⟩⟩
  · obtain ⟨x, hx, hxo⟩ := h3 j row (List.getElem?_eq_some_iff.1 hrow).1 hrow
    rw [Array.getElem?_toList, hx] at hu
    cases hu
    exact hxo.base (by omega)
  · rw [Array.getElem?_toList] at hi hj
    exact h4 i j u u' hij (by have := (Array.getElem?_eq_some_iff.1 hj).1; omega) hi hj
end

section
variable {T : TypeId} {size n : Nat} {w w' : World} {B B' : Nat} {v : Value} {rows : List (List Int)} {es : List MEq}
theorem ORowsT.keep (h : ORowsT T size n w B v rows) (hb : Below w.heap.size w w') : ORowsT T size n w' B v rows := by
  obtain ⟨us, h1, h2, h3, h4⟩ := h
  exact ⟨us, own_keep h1 hb, h2, fun j u row a b => (h3 j u row a b).keep hb, h4⟩
theorem ORowsT.base (h : ORowsT T size n w B v rows) (hB : B' ≤ B) : ORowsT T size n w B' v rows := by
  obtain ⟨us, h1, h2, h3, h4⟩ := h
  exact ⟨us, own_base h1 hB, h2, fun j u row a b => (h3 j u row a b).base hB, h4⟩
theorem ORowsT.setLow {b : Nat} (h : ORowsT T size n w B v rows) (hb : b < B) (i : Nat) (x : Value) : ORowsT T size n (w.setCell ⟨b, i, none⟩ x) B v rows := by
  obtain ⟨us, h1, h2, h3, h4⟩ := h
  exact ⟨us, ownsRow_setCell_below h1 hb _, h2, fun j u row a b' => (h3 j u row a b').setLow hb _ _, h4⟩
theorem wide_reads {e : TypeId} {zs : List Value} (h : w.ownsRow B e size v n zs) : ∃ A c, v = .slice A n c ∧ n ≤ c ∧ c ≤ maxLen ∧ ∀ j x, zs[j]? = some x → ∃ b, A = some ⟨b, 0, none⟩ ∧ w.cell? ⟨b, j, none⟩ = some x := by
  obtain ⟨hl, h⟩ := h
  rcases h with ⟨rfl, rfl⟩ | ⟨g, cap, cur, rfl, hg, hh, h1, h2, h3, h4⟩
  · refine ⟨none, 0, rfl, Nat.le_refl _, Nat.zero_le _, fun j x hj => ?_⟩
    have : zs = [] := List.eq_nil_of_length_eq_zero (by simpa using hl)
    subst this
    simp at hj
  · refine ⟨_, cap, rfl, h1, h2, fun j x hj => ⟨g, rfl, ?_⟩⟩
    subst h4
    rw [List.getElem?_take] at hj
    split at hj
    · simpa [World.cell?, hh] using hj
    · cases hj
end

theorem eq_drew (w : World) : Below w.heap.size w w.drew := ⟨rfl, rfl, rfl, Nat.le_refl _, fun _ _ => rfl⟩
theorem eq_undrew {w w' : World} (h : Below w.drew.heap.size w.drew w') : Below w.heap.size w w' := ⟨h.os, h.tape, h.output, h.size, h.block⟩
theorem takeE_bad {xs ys : List MEq} {k : Nat} (hx : k < xs.length) (hy : k < ys.length) (he : sameE xs[k] ys[k] = false) : sameEs xs ys = false := by
  cases h : sameEs xs ys with
  | false => rfl
  | true =>
    have := sameEs_eq.1 h
    subst this
    rw [sameE_self] at he
    cases he
end

section
open Go.RowKit
set_option linter.unusedVariables false

theorem orows_same {w w' : World} {B : Nat} {v : Value} {rows : List (List Int)} (h : ORows w B v rows) (hk : ∀ k, B ≤ k → k < w.heap.size → w'.heap[k]? = w.heap[k]?) : ORows w' B v rows := by
  obtain ⟨us, h1, h2, h3, h4⟩ := h
  have same : ∀ {B2 : Nat} {e : TypeId} {size n : Nat} {v : Value} {zs : List Value}, B ≤ B2 → w.ownsRow B2 e size v n zs → w'.ownsRow B2 e size v n zs := fun hB h => by
    refine ⟨h.1, ?_⟩
    rcases h.2 with h2 | ⟨g, cap, cur, rfl, hg, hh, r⟩
    · exact .inl h2
    · exact .inr ⟨g, cap, cur, rfl, hg, (hk g (by omega) (Array.getElem?_eq_some_iff.1 hh).1).trans hh, r⟩
  exact ⟨us, same (Nat.le_refl _) h1, h2, fun j u row a b => same (Nat.le_refl _) (h3 j u row a b), h4⟩
theorem orowsT_same {T : TypeId} {size n : Nat} {w w' : World} {B : Nat} {v : Value} {rows : List (List Int)} (h : ORowsT T size n w B v rows) (hk : ∀ k, B ≤ k → k < w.heap.size → w'.heap[k]? = w.heap[k]?) : ORowsT T size n w' B v rows := by
  obtain ⟨us, h1, h2, h3, h4⟩ := h
  have same : ∀ {B2 : Nat} {e : TypeId} {size n : Nat} {v : Value} {zs : List Value}, B ≤ B2 → w.ownsRow B2 e size v n zs → w'.ownsRow B2 e size v n zs := fun hB h => by
    refine ⟨h.1, ?_⟩
    rcases h.2 with h2 | ⟨g, cap, cur, rfl, hg, hh, r⟩
    · exact .inl h2
    · exact .inr ⟨g, cap, cur, rfl, hg, (hk g (by omega) (Array.getElem?_eq_some_iff.1 hh).1).trans hh, r⟩
  exact ⟨us, same (Nat.le_refl _) h1, h2, fun j u row a b => same (Nat.le_refl _) (h3 j u row a b), h4⟩
def FitsT (t : MThy) : Prop := Fits t.over.ops ∧ FitsEs t.eqs
def sameT (a b : MThy) : Bool := sameS a.over b.over && sameEs a.eqs b.eqs
theorem sameT_self (a : MThy) : sameT a a = true := by unfold sameT; rw [sameS_self, sameEs_self]; rfl

theorem ORows.setLowT {w : World} {B b : Nat} {v : Value} {rows : List (List Int)} (h : ORows w B v rows) (hb : b < B) (i : Nat) (x : Value) : ORows (w.setCell ⟨b, i, none⟩ x) B v rows := h.setLow' hb i x
end

section
open Go.RowKit
set_option linter.unusedVariables false

def marks (k : Int) (n : Nat) : List Int := (List.range n).map fun (i : Nat) => k + (i : Int)
theorem marks_len (k : Int) (n : Nat) : (marks k n).length = n := by simp [marks]
theorem marks_at {k : Int} {n j : Nat} (h : j < (marks k n).length) : (marks k n)[j] = k + (j : Int) := by simp [marks]

/-- of w's blocks only those from B on and below M may have turned, and none is new -/
structure Outside (B M : Nat) (w w' : World) : Prop where
  os : w'.os = w.os
  tape : w'.tape = w.tape
  output : w'.output = w.output
  size : w'.heap.size = w.heap.size
  block : ∀ k, k < B ∨ M ≤ k → w'.heap[k]? = w.heap[k]?
theorem Outside.refl (B M : Nat) (w : World) : Outside B M w w := ⟨rfl, rfl, rfl, rfl, fun _ _ => rfl⟩
theorem Outside.trans {B M : Nat} {a b c : World} (h : Outside B M a b) (k : Outside B M b c) : Outside B M a c :=
  ⟨k.os.trans h.os, k.tape.trans h.tape, k.output.trans h.output, k.size.trans h.size, fun i hi => (k.block i hi).trans (h.block i hi)⟩
theorem Outside.below {B M : Nat} {w w' : World} (h : Outside B M w w') : Below B w w' := ⟨h.os, h.tape, h.output, Nat.le_of_eq h.size.symm, fun k hk => h.block k (.inl hk)⟩
theorem Outside.mono {B M B' M' : Nat} {w w' : World} (h : Outside B M w w') (hB : B' ≤ B) (hM : M ≤ M') : Outside B' M' w w' := ⟨h.os, h.tape, h.output, h.size, fun k hk => h.block k (by omega)⟩
theorem own_outside {w w' : World} {B M C : Nat} {e : TypeId} {size n : Nat} {v : Value} {zs : List Value} (h : w.ownsRow C e size v n zs) (ho : Outside B M w w') (hC : ∀ k, v.ownBlock = some k → k < B ∨ M ≤ k) : w'.ownsRow C e size v n zs := by
  refine ⟨h.1, ?_⟩
  rcases h.2 with h2 | ⟨g, cap, cur, rfl, hg, hh, r⟩
  · exact .inl h2
  · exact .inr ⟨g, cap, cur, rfl, hg, (ho.block g (hC g rfl)).trans hh, r⟩

/-- a row of the call's own whose first k places bear marks -/
def Marking (w wr : World) (B : Nat) (v : Value) (xs : List Int) (k0 : Int) (k : Nat) : Prop :=
  (∃ ys : List Int, ys.length = xs.length ∧ OInts wr B v ys ∧ ∀ j, j < k → ys[j]? = some (k0 + (j : Int))) ∧ w.grownBy wr v.ownBlock ∧ wr.heap.size = w.heap.size

theorem Marking.start {w : World} {B : Nat} {v : Value} {xs : List Int} (k0 : Int) (h : OInts w B v xs) : Marking w w B v xs k0 0 := ⟨⟨xs, rfl, h, fun j hj => by omega⟩, ⟨rfl, rfl, rfl, Nat.le_refl _, fun _ _ _ => rfl⟩, rfl⟩
theorem Marking.cell {w wr : World} {B g c : Nat} {n : Nat} {xs : List Int} {k0 : Int} {k : Nat} (h : Marking w wr B (.slice (some ⟨g, 0, none⟩) n c) xs k0 k) (hk : k < xs.length) : ∃ u, wr.cell? ⟨g, k, none⟩ = some u ∧ wr.frozen? ⟨g, k, none⟩ = false := by
  obtain ⟨⟨ys, h1, h2, h3⟩, h4⟩ := h
  rcases h2.2 with ⟨e, _⟩ | ⟨g', cap, cur, e, hg, hh, a1, a2, a3, a4⟩
  · cases e
  · injection e with e1 e2
    injection e1 with e1
    injection e1 with e1
    subst e1
    exact ⟨cur[k]'(by omega), (blk_cell hh k).trans (Array.getElem?_eq_getElem (by omega)), blk_free hh k⟩
theorem Marking.step {w wr : World} {B g c : Nat} {n : Nat} {xs : List Int} {k0 : Int} {k : Nat} (h : Marking w wr B (.slice (some ⟨g, 0, none⟩) n c) xs k0 k) (hk : k < xs.length) :
    Marking w (wr.setCell ⟨g, k, none⟩ (.int .i64 (k0 + (k : Int)))) B (.slice (some ⟨g, 0, none⟩) n c) xs k0 (k + 1) := by
  obtain ⟨⟨ys, h1, h2, h3⟩, h4⟩ := h
  have hgl := own_lt h2 g rfl
  have hn : n = ys.length := by
    obtain ⟨A, c', e, _⟩ := own_reads h2
    injection e
  subst hn
  have hst := h2.stored k (.int .i64 (k0 + (k : Int)))
  refine ⟨⟨ys.set k (k0 + (k : Int)), by simpa using h1, ?_, fun j hj => ?_⟩, ⟨h4.1.os, h4.1.tape, h4.1.output, by simpa [World.setCell] using h4.1.size, fun i hi hne => (hst.2.block i (by rw [h4.2]; exact hi) hne).trans (h4.1.block i hi hne)⟩, by simpa [World.setCell] using h4.2⟩
  · unfold OInts
    rw [List.length_set, List.map_set]
    exact hst.1
  · by_cases hjk : k = j
    · subst hjk
      rw [List.getElem?_set_self (by omega)]
    · rw [List.getElem?_set_ne hjk]
      exact h3 j (by omega)
theorem Marking.done {w wr : World} {B : Nat} {v : Value} {xs : List Int} {k0 : Int} {k : Nat} (h : Marking w wr B v xs k0 k) (hk : k = xs.length) : OInts wr B v (marks k0 xs.length) ∧ w.grownBy wr v.ownBlock ∧ wr.heap.size = w.heap.size := by
  obtain ⟨⟨ys, h1, h2, h3⟩, h4⟩ := h
  have e : ys = marks k0 xs.length := by
    apply List.ext_getElem?
    intro j
    by_cases hj : j < xs.length
    · rw [h3 j (by omega), List.getElem?_eq_getElem (by rw [marks_len]; exact hj), marks_at]
    · rw [List.getElem?_eq_none (by omega), List.getElem?_eq_none (by rw [marks_len]; omega)]
  rw [← e]; exact ⟨h2, h4⟩

theorem markIntS_any (v : Value) (B : Nat) (xs : List Int) (k0 : Int) (w : World) (h : OInts w B v xs) (hs : xs.length ≤ 1048576) (h0 : 0 ≤ k0) (h1 : k0 ≤ 1000000000000000) :
    Calls Try.prog 29 #[v, .int .i64 k0] w fun e w' => e = .returned (.int .i64 (k0 + (xs.length : Int))) ∧ OInts w' B v (marks k0 xs.length) ∧ w.grownBy w' v.ownBlock ∧ w'.heap.size = w.heap.size := by
  have H := Lib.hid (Marking.start k0 h)
  obtain ⟨A, c, rfl, hc, -⟩ := h.reads.form
  have hA : xs.length ≠ 0 → ∃ g, A = some ⟨g, 0, none⟩ := fun hne => by
    rcases h.2 with ⟨e, e2⟩ | ⟨g, cap, cur, e, -⟩
    · exact absurd e2 hne
    · injection e with e; exact ⟨g, e⟩
  have HA := Lib.hid hA
  clear h hA
  go_enter Try.func29, Try.ntmps29
  go_wp2
  go_loopw [1, 5] (fun l i wr => ∃ k : Nat, k ≤ xs.length ∧ i = .int .i64 k ∧ l = .int .i64 (k0 + (k : Int)) ∧ Marking w wr B (.slice A xs.length c) xs k0 k) (fun _ i _ => xs.length - (intOf i).toNat)
  case atStart => exact ⟨0, Nat.zero_le _, rfl, by simp, H.out⟩
  case round =>
    obtain ⟨k, hk, rfl, rfl, hm⟩ := hrel
    have HM := Lib.hid hm
    clear hm
    by_cases hlt : k < xs.length
    · obtain ⟨g, rfl⟩ := HA.out (by omega)
      obtain ⟨u, g1, g2⟩ := HM.out.cell hlt
      go_wp2
      go_roundw
      case rel => exact ⟨k + 1, by omega, by go_num, by go_num, HM.out.step hlt⟩
      case measure => simp [intOf]; omega
    · go_wp2
      go_ret
      obtain ⟨r1, r2⟩ := HM.out.done (by omega)
      have hkn : k = xs.length := by omega
      subst hkn
      exact ⟨rfl, r1, r2⟩

theorem heldIntS_any (v : Value) (n : Nat) (k0 : Int) (w : World) (h : RInts w v (marks k0 n)) (hs : n ≤ 1048576) (h0 : 0 ≤ k0) (h1 : k0 ≤ 1000000000000000) :
    Calls Try.prog 30 #[v, .int .i64 k0] w fun e w' => e = .returned (.int .i64 (k0 + (n : Int))) ∧ Drawn w w' := by
  have H := Lib.hid h
  obtain ⟨A, c, e, -⟩ := h.form
  rw [marks_len] at e
  subst e
  clear h
  go_enter Try.func30, Try.ntmps30
  go_wp2
  go_loopw [1, 5] (fun l i wr => ∃ k : Nat, k ≤ n ∧ i = .int .i64 k ∧ l = .int .i64 (k0 + (k : Int)) ∧ Drawn w wr) (fun _ i _ => n - (intOf i).toNat)
  case atStart => exact ⟨0, Nat.zero_le _, rfl, by simp, Drawn.refl _⟩
  case round =>
    obtain ⟨k, hk, rfl, rfl, hd⟩ := hrel
    have HD := Lib.hid hd
    clear hd
    by_cases hlt : k < n
    · obtain ⟨b, o, c', e, hx⟩ := (H.out.keep HD.out.below).at_ (k := k) (by rw [marks_len]; exact hlt)
      rw [marks_len] at e
      cases e
      rw [marks_at] at hx
      have e1 : (k0 + (k : Int) != k0 + (k : Int)) = false := by simp
      go_wp2
      go_roundw
      case rel => exact ⟨k + 1, by omega, by go_num, by go_num, HD.out⟩
      case measure => simp [intOf]; omega
    · go_wp2
      go_ret
      have hkn : k = n := by omega
      subst hkn
      exact ⟨rfl, HD.out⟩

/-- a list of rows of the call's own, whose rows bear whatever numbers; us: where they lie -/
structure MarkR (w wr : World) (B M : Nat) (v : Value) (us : List Value) (rows : List (List Int)) : Prop where
  own : wr.ownsRow B 25 1 v rows.length us
  len : us.length = rows.length
  row : ∀ (j : Nat) (u : Value) (row : List Int), us[j]? = some u → rows[j]? = some row → ∃ ys : List Int, ys.length = row.length ∧ OInts wr B u ys
  apart : ∀ (i j : Nat) (u u' : Value), i < j → us[i]? = some u → us[j]? = some u' → u.ownBlock = none ∨ u.ownBlock ≠ u'.ownBlock
  low : ∀ (j : Nat) (u : Value), us[j]? = some u → ∀ k, u.ownBlock = some k → B ≤ k ∧ k < M
  frame : Outside B M w wr
theorem MarkR.start {w0 w : World} {B : Nat} {v : Value} {rows : List (List Int)} (h : ORows w0 B v rows) (hb : Below w0.heap.size w0 w) : ∃ us, MarkR w w B w0.heap.size v us rows := by
  obtain ⟨us, h1, h2, h3, h4⟩ := h
  refine ⟨us, own_keep h1 hb, h2, fun j u row hu hr => ⟨row, rfl, (h3 j u row hu hr).keep hb⟩, h4, fun j u hu k hk => ?_, Outside.refl _ _ _⟩
  have hj : j < rows.length := by rw [← h2]; exact (List.getElem?_eq_some_iff.1 hu).1
  exact own_lt (h3 j u _ hu (List.getElem?_eq_getElem hj)) k hk
theorem MarkR.step {w wr w1 : World} {B M : Nat} {v u : Value} {us : List Value} {rows : List (List Int)} {j : Nat} {ys : List Int} (h : MarkR w wr B M v us rows) (hu : us[j]? = some u) (hy : OInts w1 B u ys) (hyl : ∀ row, rows[j]? = some row → ys.length = row.length)
    (hxs : ∃ xs, OInts wr B u xs) (hg : wr.grownBy w1 u.ownBlock) (hz : w1.heap.size = wr.heap.size) : MarkR w w1 B M v us rows := by
  obtain ⟨xs, hxs⟩ := hxs
  refine ⟨own_grown h.own hg (own_ne h.own hxs (by decide)), h.len, fun i x row hx hr => ?_, h.apart, h.low, h.frame.trans ⟨hg.os, hg.tape, hg.output, hz, fun k hk => ?_⟩⟩
  · by_cases hij : i = j
    · subst hij
      rw [hu] at hx
      cases hx
      exact ⟨ys, hyl row hr, hy⟩
    · obtain ⟨zs, z1, z2⟩ := h.row i x row hx hr
      refine ⟨zs, z1, own_grown z2 hg ?_⟩
      rcases Nat.lt_or_gt_of_ne hij with hlt | hgt
      · exact h.apart i j x u hlt hx hu
      · rcases h.apart j i u x hgt hu hx with e | e
        · rw [e]
          cases x.ownBlock with
          | none => exact .inl rfl
          | some k => right; simp
        · exact .inr (fun e' => e e'.symm)
  · by_cases hkl : k < wr.heap.size
    · exact hg.block k hkl (fun e => by have := h.low j u hu k e.symm; omega)
    · rw [Array.getElem?_eq_none (by omega), Array.getElem?_eq_none (by omega)]

theorem markIntSS_any (v : Value) (B : Nat) (rows : List (List Int)) (k0 : Int) (w0 w : World) (h : ORows w0 B v rows) (hb : Below w0.heap.size w0 w) (hs : rows.length ≤ 1048576) (hs2 : ∀ row ∈ rows, row.length ≤ 1048576) (h0 : 0 ≤ k0) (h1 : k0 ≤ 100) :
    Calls Try.prog 24 #[v, .int .i64 k0] w fun e w' => ∃ k : Int, e = .returned (.int .i64 k) ∧ 0 ≤ k ∧ k ≤ 10000000000000 ∧ Outside B w0.heap.size w w' := by
  obtain ⟨us, hm0⟩ := MarkR.start h hb
  have HM0 := Lib.hid hm0
  have HS2 := Lib.hid hs2
  obtain ⟨A, c, rfl, -⟩ := own_reads hm0.own
  clear h hb hm0 hs2
  go_enter Try.func24, Try.ntmps24
  go_wp2
  go_loopw [1, 5] (fun l i wr => ∃ k : Nat, ∃ x : Int, k ≤ rows.length ∧ i = .int .i64 k ∧ l = .int .i64 x ∧ 0 ≤ x ∧ x ≤ 100 + 1048576 * (k : Int) ∧ MarkR w wr B w0.heap.size (.slice A rows.length c) us rows) (fun _ i _ => rows.length - (intOf i).toNat)
  case atStart => exact ⟨0, k0, Nat.zero_le _, rfl, rfl, h0, by omega, HM0.out⟩
  case round =>
    obtain ⟨k, x, hk, rfl, rfl, hx0, hx1, hm⟩ := hrel
    have HM := Lib.hid hm
    clear hm
    by_cases hlt : k < rows.length
    · have hul : k < us.length := by rw [HM.out.len]; exact hlt
      obtain ⟨ys, hyl, hyo⟩ := HM.out.row k us[k] rows[k] (List.getElem?_eq_getElem hul) (List.getElem?_eq_getElem hlt)
      have hrl := HS2.out _ (List.getElem_mem hlt)
      obtain ⟨A0, c0, e0, -, -, hcells⟩ := own_reads HM.out.own
      cases e0
      obtain ⟨b, o, ea, hcell⟩ := hcells k us[k] (List.getElem?_eq_getElem hul)
      subst ea
      have HU := Lib.hid (List.getElem?_eq_getElem hul)
      have HYL := Lib.hid (And.intro hyl hrl)
      have HR := Lib.hid (List.getElem?_eq_getElem hlt)
      generalize us[k] = u at hyo hcell HU
      have HYO := Lib.hid hyo
      obtain ⟨Au, cu, rfl, -⟩ := own_reads hyo
      clear hyo hyl hrl hcells hul
      go_wp2_with fail
      refine (markIntS_any _ B ys _ _ HYO.out (by have := HYL.out; omega) hx0 (by omega)).mono ?_
      rintro e w1 ⟨rfl, ho, hg, hz⟩
      have HN := Lib.hid (HM.out.step HU.out ho (fun row hr => by rw [marks_len]; have h := HR.out; rw [h] at hr; cases hr; exact HYL.out.1) ⟨ys, HYO.out⟩ hg hz)
      have hyl : (ys.length : Int) ≤ 1048576 := by have := HYL.out; omega
      clear ho hg hz
      go_wp2
      go_roundw
      case rel => exact ⟨k + 1, _, by omega, by go_num, rfl, by omega, by omega, HN.out⟩
      case measure => simp [intOf]; omega
    · go_wp2
      go_ret
      exact ⟨x, rfl, hx0, by omega, HM.out.frame⟩

theorem markSig_any (v : Value) (B : Nat) (s : MSig) (k0 : Int) (w0 w : World) (h : OSig w0 B v s) (hb : Below w0.heap.size w0 w) (hs : s.ops.length ≤ 1048576) (hs2 : ∀ row ∈ s.ops, row.length ≤ 1048576) (h0 : 0 ≤ k0) (h1 : k0 ≤ 100) :
    Calls Try.prog 22 #[v, .int .i64 k0] w fun e w' => ∃ k : Int, e = .returned (.int .i64 k) ∧ 0 ≤ k ∧ k ≤ 10000000000000 ∧ ∃ o, Outside B w0.heap.size (w.alloc o) w' := by
  obtain ⟨u, rfl, ho⟩ := h
  obtain ⟨sorts, ops⟩ := s
  have HO := Lib.hid ho
  have HB := Lib.hid (hb.trans ((below_alloc w (.cells #[.int .i64 sorts, u] 32)).mono hb.size))
  have HS := Lib.hid (And.intro hs hs2)
  obtain ⟨A, c, rfl, -⟩ := ho.reads.form
  clear ho hb hs hs2
  go_enter Try.func22, Try.ntmps22
  go_wp2_with fail
  refine (markIntSS_any _ B ops _ w0 _ HO.out HB.out HS.out.1 HS.out.2 h0 h1).mono ?_
  rintro e w1 ⟨k, rfl, hk0, hk1, hout⟩
  have HOUT := Lib.hid hout
  clear hout
  go_wp2
  go_ret
  exact ⟨k, rfl, hk0, hk1, _, HOUT.out⟩
end

section
open Go.RowKit
set_option linter.unusedVariables false

def tot (rows : List (List Int)) : Nat := (rows.map List.length).sum
theorem tot_take {rows : List (List Int)} {k : Nat} (hk : k < rows.length) : tot (rows.take (k + 1)) = tot (rows.take k) + rows[k].length := by
  unfold tot; rw [List.take_succ_eq_append_getElem hk, List.map_append, List.sum_append]; simp
def marksR (k : Int) : List (List Int) → List (List Int)
  | [] => []
  | r :: rs => marks k r.length :: marksR (k + (r.length : Int)) rs
theorem marksR_at (rows : List (List Int)) : ∀ (k : Int) (j : Nat), (marksR k rows)[j]? = (rows[j]?).map fun r => marks (k + (tot (rows.take j) : Int)) r.length := by
  induction rows with
  | nil => intro k j; simp [marksR]
  | cons r rs ih =>
    intro k j
    cases j with
    | zero => simp [marksR, tot]
    | succ j =>
      simp only [marksR, List.getElem?_cons_succ, ih, List.take_succ_cons]
      congr 1
      funext x
      congr 1
      simp [tot]
      omega
theorem marksR_len (rows : List (List Int)) : ∀ k, (marksR k rows).length = rows.length := by
  induction rows with
  | nil => intro k; rfl
  | cons r rs ih => intro k; simp [marksR, ih]
theorem tot_le {rows : List (List Int)} (h : ∀ row ∈ rows, row.length ≤ 1048576) : tot rows ≤ 1048576 * rows.length := by
  unfold tot
  induction rows with
  | nil => simp
  | cons r rs ih =>
    have h1 := h r (List.mem_cons_self ..)
    have h2 := ih (fun row hr => h row (List.mem_cons_of_mem _ hr))
    simp only [List.map_cons, List.sum_cons, List.length_cons]
    omega

structure MarkP (w wr : World) (B M : Nat) (v : Value) (us : List Value) (rows : List (List Int)) (k0 : Int) (k : Nat) : Prop where
  own : wr.ownsRow B 25 1 v rows.length us
  len : us.length = rows.length
  done : ∀ (j : Nat) (u : Value) (row : List Int), j < k → us[j]? = some u → rows[j]? = some row → OInts wr B u (marks (k0 + (tot (rows.take j) : Int)) row.length)
  todo : ∀ (j : Nat) (u : Value) (row : List Int), k ≤ j → us[j]? = some u → rows[j]? = some row → OInts wr B u row
  apart : ∀ (i j : Nat) (u u' : Value), i < j → us[i]? = some u → us[j]? = some u' → u.ownBlock = none ∨ u.ownBlock ≠ u'.ownBlock
  low : ∀ (j : Nat) (u : Value), us[j]? = some u → ∀ k, u.ownBlock = some k → B ≤ k ∧ k < M
  frame : Outside B M w wr
theorem MarkP.start {w0 w : World} {B : Nat} {v : Value} {rows : List (List Int)} (k0 : Int) (h : ORows w0 B v rows) (hb : Below w0.heap.size w0 w) : ∃ us, MarkP w w B w0.heap.size v us rows k0 0 := by
  obtain ⟨us, h1, h2, h3, h4⟩ := h
  refine ⟨us, own_keep h1 hb, h2, fun j u row hj => by omega, fun j u row _ hu hr => (h3 j u row hu hr).keep hb, h4, fun j u hu k hk => ?_, Outside.refl _ _ _⟩
  have hj : j < rows.length := by rw [← h2]; exact (List.getElem?_eq_some_iff.1 hu).1
  exact own_lt (h3 j u _ hu (List.getElem?_eq_getElem hj)) k hk
theorem MarkP.step {w wr w1 : World} {B M : Nat} {v u : Value} {us : List Value} {rows : List (List Int)} {k0 : Int} {j : Nat} {row0 : List Int} (h : MarkP w wr B M v us rows k0 j) (hu : us[j]? = some u) (hr : rows[j]? = some row0)
    (hy : OInts w1 B u (marks (k0 + (tot (rows.take j) : Int)) row0.length)) (hg : wr.grownBy w1 u.ownBlock) (hz : w1.heap.size = wr.heap.size) : MarkP w w1 B M v us rows k0 (j + 1) := by
  have hxs := h.todo j u row0 (Nat.le_refl _) hu hr
  have other : ∀ {i : Nat} {x : Value} {zs : List Int}, i ≠ j → us[i]? = some x → OInts wr B x zs → OInts w1 B x zs := fun {i x zs} hij hx hz => by
    refine own_grown hz hg ?_
    rcases Nat.lt_or_gt_of_ne hij with hlt | hgt
    · exact h.apart i j x u hlt hx hu
    · rcases h.apart j i u x hgt hu hx with e | e
      · rw [e]
        cases x.ownBlock with
        | none => exact .inl rfl
        | some k => right; simp
      · exact .inr (fun e' => e e'.symm)
  refine ⟨own_grown h.own hg (own_ne h.own hxs (by decide)), h.len, fun i x row hi hx hrow => ?_, fun i x row hi hx hrow => ?_, h.apart, h.low, h.frame.trans ⟨hg.os, hg.tape, hg.output, hz, fun k hk => ?_⟩⟩
  · by_cases hij : i = j
    · subst hij
      rw [hu] at hx
      rw [hr] at hrow
      cases hx
      cases hrow
      exact hy
    · exact other hij hx (h.done i x row (by omega) hx hrow)
  · exact other (by omega) hx (h.todo i x row (by omega) hx hrow)
  · by_cases hkl : k < wr.heap.size
    · exact hg.block k hkl (fun e => by have := h.low j u hu k e.symm; omega)
    · rw [Array.getElem?_eq_none (by omega), Array.getElem?_eq_none (by omega)]
theorem MarkP.all {w wr : World} {B M : Nat} {v : Value} {us : List Value} {rows : List (List Int)} {k0 : Int} {k : Nat} (h : MarkP w wr B M v us rows k0 k) (hk : k = rows.length) : ORows wr B v (marksR k0 rows) ∧ Outside B M w wr := by
  refine ⟨⟨us, by rw [marksR_len]; exact h.own, by rw [marksR_len]; exact h.len, fun j u r hu hr => ?_, h.apart⟩, h.frame⟩
  rw [marksR_at] at hr
  obtain ⟨row, hrow, rfl⟩ := Option.map_eq_some_iff.1 hr
  exact h.done j u row (by rw [hk]; exact (List.getElem?_eq_some_iff.1 hrow).1) hu hrow

theorem markIntSSp_any (v : Value) (B : Nat) (rows : List (List Int)) (k0 : Int) (w0 w : World) (h : ORows w0 B v rows) (hb : Below w0.heap.size w0 w) (hs : rows.length ≤ 1048576) (hs2 : ∀ row ∈ rows, row.length ≤ 1048576) (h0 : 0 ≤ k0) (h1 : k0 ≤ 100000000000000) :
    Calls Try.prog 24 #[v, .int .i64 k0] w fun e w' => e = .returned (.int .i64 (k0 + (tot rows : Int))) ∧ ORows w' B v (marksR k0 rows) ∧ Outside B w0.heap.size w w' := by
  obtain ⟨us, hm0⟩ := MarkP.start k0 h hb
  have HM0 := Lib.hid hm0
  have HS2 := Lib.hid hs2
  obtain ⟨A, c, rfl, -⟩ := own_reads hm0.own
  clear h hb hm0 hs2
  go_enter Try.func24, Try.ntmps24
  go_wp2
  go_loopw [1, 5] (fun l i wr => ∃ k : Nat, k ≤ rows.length ∧ i = .int .i64 k ∧ l = .int .i64 (k0 + (tot (rows.take k) : Int)) ∧ MarkP w wr B w0.heap.size (.slice A rows.length c) us rows k0 k) (fun _ i _ => rows.length - (intOf i).toNat)
  case atStart => exact ⟨0, Nat.zero_le _, rfl, by simp [tot], HM0.out⟩
  case round =>
    obtain ⟨k, hk, rfl, rfl, hm⟩ := hrel
    have HM := Lib.hid hm
    clear hm
    have htt : (tot (rows.take k) : Int) ≤ 1048576 * 1048576 := by
      have := tot_le (rows := rows.take k) (fun row hr => HS2.out row (List.mem_of_mem_take hr))
      rw [List.length_take] at this
      omega
    by_cases hlt : k < rows.length
    · have hul : k < us.length := by rw [HM.out.len]; exact hlt
      have HYO := Lib.hid (HM.out.todo k us[k] rows[k] (Nat.le_refl _) (List.getElem?_eq_getElem hul) (List.getElem?_eq_getElem hlt))
      have hrl := HS2.out _ (List.getElem_mem hlt)
      obtain ⟨A0, c0, e0, -, -, hcells⟩ := own_reads HM.out.own
      cases e0
      obtain ⟨b, o, ea, hcell⟩ := hcells k us[k] (List.getElem?_eq_getElem hul)
      subst ea
      have HU := Lib.hid (List.getElem?_eq_getElem hul)
      have HR := Lib.hid (List.getElem?_eq_getElem hlt)
      have HTT := Lib.hid (tot_take hlt)
      generalize us[k] = u at HYO hcell HU
      generalize rows[k] = row at HYO HR hrl HTT
      obtain ⟨Au, cu, rfl, -⟩ := own_reads HYO.out
      clear hcells hul
      generalize hto : tot (rows.take k) = T at HTT htt
      have HTO := Lib.hid hto
      clear hto
      go_wp2_with fail
      refine (markIntS_any _ B row _ _ HYO.out hrl (by omega) (by omega)).mono ?_
      rintro e w1 ⟨rfl, ho, hg, hz⟩
      have HN := Lib.hid (HM.out.step HU.out HR.out (by rw [HTO.out]; exact ho) hg hz)
      have hyl : (row.length : Int) ≤ 1048576 := by omega
      clear ho hg hz
      go_wp2
      go_roundw
      case rel => exact ⟨k + 1, by omega, by go_num, by rw [HTT.out]; go_num, HN.out⟩
      case measure => simp [intOf]; omega
    · have hkn : k = rows.length := by omega
      have HKN := Lib.hid hkn
      clear hkn
      go_wp2
      go_ret
      obtain ⟨r1, r2⟩ := HM.out.all HKN.out
      refine ⟨?_, r1, r2⟩
      have e := HKN.out
      have e2 : tot (rows.take k) = tot rows := by rw [take_all (by omega)]
      exact ret_int (by rw [e2])

theorem heldIntSS_any (v : Value) (rows : List (List Int)) (k0 : Int) (w : World) (h : RRows w v (marksR k0 rows)) (hs : rows.length ≤ 1048576) (hs2 : ∀ row ∈ rows, row.length ≤ 1048576) (h0 : 0 ≤ k0) (h1 : k0 ≤ 100000000000000) :
    Calls Try.prog 25 #[v, .int .i64 k0] w fun e w' => e = .returned (.int .i64 (k0 + (tot rows : Int))) ∧ Drawn w w' := by
  have H := Lib.hid h
  have HS2 := Lib.hid hs2
  obtain ⟨A, c, e, -⟩ := h.form
  rw [marksR_len] at e
  subst e
  clear h hs2
  go_enter Try.func25, Try.ntmps25
  go_wp2
  go_loopw [1, 5] (fun l i wr => ∃ k : Nat, k ≤ rows.length ∧ i = .int .i64 k ∧ l = .int .i64 (k0 + (tot (rows.take k) : Int)) ∧ Drawn w wr) (fun _ i _ => rows.length - (intOf i).toNat)
  case atStart => exact ⟨0, Nat.zero_le _, rfl, by simp [tot], Drawn.refl _⟩
  case round =>
    obtain ⟨k, hk, rfl, rfl, hd⟩ := hrel
    have HD := Lib.hid hd
    clear hd
    have htt : (tot (rows.take k) : Int) ≤ 1048576 * 1048576 := by
      have := tot_le (rows := rows.take k) (fun row hr => HS2.out row (List.mem_of_mem_take hr))
      rw [List.length_take] at this
      omega
    by_cases hlt : k < rows.length
    · obtain ⟨b, o, c', u, e, hx, hri⟩ := (H.out.keep HD.out.below).at_ (k := k) (by rw [marksR_len]; exact hlt)
      rw [marksR_len] at e
      cases e
      have hrow : (marksR k0 rows)[k]'(by rw [marksR_len]; exact hlt) = marks (k0 + (tot (rows.take k) : Int)) rows[k].length := by
        have := marksR_at rows k0 k
        rw [List.getElem?_eq_getElem (by rw [marksR_len]; exact hlt), List.getElem?_eq_getElem hlt] at this
        simpa using this
      rw [hrow] at hri
      have hrl := HS2.out _ (List.getElem_mem hlt)
      have HTT := Lib.hid (tot_take hlt)
      clear hrow
      generalize rows[k] = row at hri hrl HTT
      obtain ⟨A1, c1, e1, -⟩ := hri.form
      rw [marks_len] at e1
      subst e1
      have HI := Lib.hid hri
      clear hri
      generalize hto : tot (rows.take k) = T at HTT htt HI
      clear hto
      go_wp2_with fail
      refine (heldIntS_any _ row.length _ _ HI.out hrl (by omega) (by omega)).mono ?_
      rintro e w1 ⟨rfl, hd1⟩
      have HD1 := Lib.hid (HD.out.trans hd1)
      have hyl : (row.length : Int) ≤ 1048576 := by omega
      clear hd1
      go_wp2
      go_roundw
      case rel => exact ⟨k + 1, by omega, by go_num, by rw [HTT.out]; go_num, HD1.out⟩
      case measure => simp [intOf]; omega
    · have hkn : k = rows.length := by omega
      have HKN := Lib.hid hkn
      clear hkn
      go_wp2
      go_ret
      have e2 : tot (rows.take k) = tot rows := by have e := HKN.out; rw [take_all (by omega)]
      exact ⟨ret_int (by rw [e2]), HD.out⟩

theorem markSigp_any (v : Value) (B : Nat) (s : MSig) (k0 : Int) (w0 w : World) (h : OSig w0 B v s) (hb : Below w0.heap.size w0 w) (hs : s.ops.length ≤ 1048576) (hs2 : ∀ row ∈ s.ops, row.length ≤ 1048576) (h0 : 0 ≤ k0) (h1 : k0 ≤ 100000000000000) :
    Calls Try.prog 22 #[v, .int .i64 k0] w fun e w' => e = .returned (.int .i64 (k0 + (tot s.ops : Int))) ∧ OSig w' B v ⟨s.sorts, marksR k0 s.ops⟩ ∧ ∃ o, Outside B w0.heap.size (w.alloc o) w' := by
  obtain ⟨u, rfl, ho⟩ := h
  obtain ⟨sorts, ops⟩ := s
  have HO := Lib.hid ho
  have HB := Lib.hid (hb.trans ((below_alloc w (.cells #[.int .i64 sorts, u] 32)).mono hb.size))
  have HS := Lib.hid (And.intro hs hs2)
  obtain ⟨A, c, rfl, -⟩ := ho.reads.form
  clear ho hb hs hs2
  go_enter Try.func22, Try.ntmps22
  go_wp2_with fail
  refine (markIntSSp_any _ B ops _ w0 _ HO.out HB.out HS.out.1 HS.out.2 h0 h1).mono ?_
  rintro e w1 ⟨rfl, hm, hout⟩
  have HOUT := Lib.hid hout
  have HM := Lib.hid hm
  clear hout hm
  go_wp2
  go_ret
  exact ⟨rfl, ⟨_, rfl, HM.out⟩, _, HOUT.out⟩
end

section
open Go.RowKit
set_option linter.unusedVariables false

def cutTo (w : World) (M : Nat) : World := { w with heap := w.heap.extract 0 M }
theorem cut_size {w : World} {M : Nat} (h : M ≤ w.heap.size) : (cutTo w M).heap.size = M := by
  show (w.heap.extract 0 M).size = M
  rw [Array.size_extract]; omega
theorem cut_block {w : World} {M k : Nat} (hk : k < M) : (cutTo w M).heap[k]? = w.heap[k]? := by
  show (w.heap.extract 0 M)[k]? = w.heap[k]?
  rw [Array.getElem?_extract]
  by_cases h : k < w.heap.size
  · rw [if_pos (by omega)]; congr 1; omega
  · rw [if_neg (by omega), Array.getElem?_eq_none (by omega)]
theorem cut_below {w : World} {M : Nat} (h : M ≤ w.heap.size) : Below (cutTo w M).heap.size (cutTo w M) w := by
  rw [cut_size h]
  exact ⟨rfl, rfl, rfl, by rw [cut_size h]; exact h, fun k hk => (cut_block hk).symm⟩

section
variable {w w' : World} {B B' M : Nat} {v u : Value} {xs : List Int} {rows : List (List Int)} {s : MSig}
theorem own_same {e : TypeId} {size n : Nat} {zs : List Value} (h : w.ownsRow B e size v n zs) (hk : ∀ k, B ≤ k → k < w.heap.size → w'.heap[k]? = w.heap[k]?) : w'.ownsRow B e size v n zs := by
  refine ⟨h.1, ?_⟩
  rcases h.2 with h2 | ⟨g, cap, cur, rfl, hg, hh, r⟩
  · exact .inl h2
  · exact .inr ⟨g, cap, cur, rfl, hg, (hk g hg (Array.getElem?_eq_some_iff.1 hh).1).trans hh, r⟩
theorem OInts.same (h : OInts w B v xs) (hk : ∀ k, B ≤ k → k < w.heap.size → w'.heap[k]? = w.heap[k]?) : OInts w' B v xs := own_same h hk
theorem ORows.same (h : ORows w B v rows) (hk : ∀ k, B ≤ k → k < w.heap.size → w'.heap[k]? = w.heap[k]?) : ORows w' B v rows := by
  obtain ⟨us, h1, h2, h3, h4⟩ := h
  exact ⟨us, own_same h1 hk, h2, fun j u row a b => (h3 j u row a b).same hk, h4⟩
theorem OSig.same (h : OSig w B v s) (hk : ∀ k, B ≤ k → k < w.heap.size → w'.heap[k]? = w.heap[k]?) : OSig w' B v s := by
  obtain ⟨u, e, h⟩ := h; exact ⟨u, e, h.same hk⟩
end
/-- of w's blocks those from A on and below its size lie in w' as they were -/
def Keeps (A : Nat) (w w' : World) : Prop := ∀ k, A ≤ k → k < w.heap.size → w'.heap[k]? = w.heap[k]?
theorem Keeps.refl (A : Nat) (w : World) : Keeps A w w := fun _ _ _ => rfl
theorem Keeps.below {A : Nat} {w w1 w2 : World} (h : Keeps A w w1) (hs : w.heap.size ≤ w1.heap.size) (hb : Below w1.heap.size w1 w2) : Keeps A w w2 := fun k h1 h2 => (hb.block k (by omega)).trans (h k h1 h2)
theorem Keeps.outside {A B M : Nat} {w w1 w2 : World} (h : Keeps A w w1) (ho : Outside B M w1 w2) (hM : M ≤ A) : Keeps A w w2 := fun k h1 h2 => (ho.block k (.inr (by omega))).trans (h k h1 h2)
theorem Keeps.cell {A : Nat} {w w' : World} (h : Keeps A w w') {b o : Nat} {u : Value} (hA : A ≤ b) (hc : w.cell? ⟨b, o, none⟩ = some u) : w'.cell? ⟨b, o, none⟩ = some u :=
  (World.cell?_of_block (h b hA (World.block_lt_of_cell? w _ hc))).trans hc
end

section
open Go.RowKit
set_option linter.unusedVariables false
set_option linter.unusedSimpArgs false

structure MModel where
  sizes : List Int
  tables : List (List Int)
def RModel (w : World) (v : Value) (m : MModel) : Prop := ∃ a0 a1, v = .agg #[a0, a1] ∧ RInts w a0 m.sizes ∧ RRows w a1 m.tables
/-- the row of the sizes lies below a block number, the tables from there on -/
def OModel (w : World) (B : Nat) (v : Value) (m : MModel) : Prop := ∃ a0 a1, v = .agg #[a0, a1] ∧ OInts w B a0 m.sizes ∧ ∃ C, B ≤ C ∧ (∀ k, a0.ownBlock = some k → k < C) ∧ ORows w C a1 m.tables
section
variable {w w' : World} {v : Value} {m : MModel} {B B' : Nat}
theorem RModel.keep (h : RModel w v m) (hb : Below w.heap.size w w') : RModel w' v m := by
  obtain ⟨a0, a1, rfl, h0, h1⟩ := h; exact ⟨a0, a1, rfl, h0.keep hb, h1.keep hb⟩
theorem OModel.keep (h : OModel w B v m) (hb : Below w.heap.size w w') : OModel w' B v m := by
  obtain ⟨a0, a1, rfl, h0, C, hC, hl, h1⟩ := h; exact ⟨a0, a1, rfl, h0.keep hb, C, hC, hl, h1.keep hb⟩
theorem OModel.base (h : OModel w B v m) (hB : B' ≤ B) : OModel w B' v m := by
  obtain ⟨a0, a1, rfl, h0, C, hC, hl, h1⟩ := h; exact ⟨a0, a1, rfl, h0.base hB, C, by omega, hl, h1⟩
theorem OModel.same (h : OModel w B v m) (hk : ∀ k, B ≤ k → k < w.heap.size → w'.heap[k]? = w.heap[k]?) : OModel w' B v m := by
  obtain ⟨a0, a1, rfl, h0, C, hC, hl, h1⟩ := h; exact ⟨a0, a1, rfl, h0.same hk, C, hC, hl, h1.same fun k q1 q2 => hk k (by omega) q2⟩
theorem OModel.reads (h : OModel w B v m) : RModel w v m := by
  obtain ⟨a0, a1, rfl, h0, C, hC, hl, h1⟩ := h; exact ⟨a0, a1, rfl, h0.reads, h1.reads⟩
theorem RModel.form (h : RModel w v m) : ∃ A0 c0 A1 c1, v = .agg #[.slice A0 m.sizes.length c0, .slice A1 m.tables.length c1] := by
  obtain ⟨a0, a1, rfl, h0, h1⟩ := h
  obtain ⟨A0, c0, rfl, -⟩ := h0.form
  obtain ⟨A1, c1, rfl, -⟩ := h1.form
  exact ⟨_, _, _, _, rfl⟩
theorem RModel.of {a0 a1 : Value} (h : RModel w (.agg #[a0, a1]) m) : RInts w a0 m.sizes ∧ RRows w a1 m.tables := by
  obtain ⟨a0', a1', he, h0, h1⟩ := h
  injection he with he
  simp at he
  obtain ⟨rfl, rfl⟩ := he
  exact ⟨h0, h1⟩
theorem RModel.mk {a0 a1 : Value} (h0 : RInts w a0 m.sizes) (h1 : RRows w a1 m.tables) : RModel w (.agg #[a0, a1]) m := ⟨a0, a1, rfl, h0, h1⟩
end
def FitsMd (m : MModel) : Prop := m.sizes.length ≤ 1048576 ∧ Fits m.tables
def sameMd (a b : MModel) : Bool := (sameI a.sizes b.sizes) && sameR a.tables b.tables
theorem sameMd_self (a : MModel) : sameMd a a = true := by unfold sameMd sameI sameR; simp
theorem sameMd_eq {a b : MModel} : sameMd a b = true ↔ a = b := by
  obtain ⟨x0, x1⟩ := a
  obtain ⟨y0, y1⟩ := b
  unfold sameMd sameI sameR
  simp [and_assoc]
theorem szModel_any (v : Value) (m : MModel) (left : Int) (w : World) (h : RModel w v m) (h0 : 0 ≤ left) (h1 : left ≤ 1048576) :
    Calls Try.prog 10 #[v, .int .i64 left] w fun e' w' => ∃ r : Int, e' = .returned (.int .i64 r) ∧ (r < 0 ∨ (0 ≤ r ∧ r ≤ left ∧ FitsMd m)) ∧ Below w.heap.size w w' := by
  obtain ⟨a0, a1, rfl, k0, k1⟩ := h
  obtain ⟨xs0, xs1⟩ := m
  simp only at k0 k1
  have hb := below_alloc w (.cells #[a0, a1] 27)
  have HB := Lib.hid hb
  have K0 := Lib.hid (k0.keep hb)
  have K1 := Lib.hid (k1.keep hb)
  obtain ⟨A0, c0, rfl, -⟩ := k0.form
  obtain ⟨A1, c1, rfl, -⟩ := k1.form
  clear k0 k1 hb
  go_enter Try.func10, Try.ntmps10
  go_wp2_with fail
  refine (szIntS_any _ xs0 _ _ K0.out h0 h1).mono ?_
  rintro e w1 ⟨r0, rfl, hr, rfl⟩
  by_cases hneg0 : r0 < 0
  · clear hr
    go_wp2
    go_ret
    exact ⟨-1, rfl, .inl (by omega), HB.out⟩
  have hr1 := hr.resolve_left hneg0
  clear hr
  obtain ⟨p0, hr3⟩ := hr1
  have Q0 := Lib.hid hr3
  have s0 : r0 ≤ 1048576 := by omega
  clear hr3
  go_wp2_with fail
  refine (szIntSS_any _ xs1 _ _ K1.out p0 s0).mono ?_
  rintro e w1 ⟨r1, rfl, hr, rfl⟩
  by_cases hneg1 : r1 < 0
  · clear hr
    go_wp2
    go_ret
    exact ⟨-1, rfl, .inl (by omega), HB.out⟩
  have hr1 := hr.resolve_left hneg1
  clear hr
  obtain ⟨p1, hr3, hr4⟩ := hr1
  have Q1 := Lib.hid hr4
  clear hr4
  go_wp2
  go_ret
  have q0 := Q0.out
  exact ⟨r1, rfl, .inr ⟨p1, by omega, ⟨by simp only; omega, Q1.out⟩⟩, HB.out⟩
set_option maxRecDepth 100000 in
theorem toModel_any (v : Value) (m : MModel) (w : World) (h : RModel w v m) (hs : FitsMd m) :
    Calls Try.prog 14 #[v] w fun e' w' => ∃ u, e' = .returned u ∧ OModel w' w.heap.size u m ∧ Below w.heap.size w w' := by
  obtain ⟨x0, x1, rfl, h0, h1⟩ := h
  obtain ⟨xs0, xs1⟩ := m
  obtain ⟨hs0, hs1⟩ := hs
  simp only at h0 h1 hs0 hs1
  obtain ⟨A0, c0, rfl, -⟩ := h0.form
  obtain ⟨A1, c1, rfl, -⟩ := h1.form
  have hm := Mk.start w 27 34 #[.slice A0 xs0.length c0, .slice A1 xs1.length c1] #[.slice none 0 0, .slice none 0 0] #[.slice none 0 0, .slice none 0 0]
  generalize hW : ((w.alloc (.cells #[.slice A0 xs0.length c0, .slice A1 xs1.length c1] 27)).alloc (.cells #[.slice none 0 0, .slice none 0 0] 34)).alloc (.cells #[.slice none 0 0, .slice none 0 0] 34) = W at hm
  have H0 := Lib.hid (h0.keep hm.b)
  have H1 := Lib.hid h1
  have p0 : W.cell? ⟨w.heap.size, 0, none⟩ = some (.slice A0 xs0.length c0) := hm.ca 0
  have HM := Lib.hid hm
  clear h0 h1 hm
  go_enter Try.func14, Try.ntmps14
  go_wp2_with fail
  clear hW
  refine (toIntS_any _ xs0 _ H0.out hs0).mono ?_
  rintro e y0 ⟨u0, rfl, ho, hb⟩
  have hz0 := HM.out.z
  have hm := HM.out.below hb
  obtain ⟨B0, d0, rfl, -⟩ := ho.reads.form
  have q0 : y0.cell? ⟨w.heap.size + 2, 0, none⟩ = some (.slice none 0 0) := hm.co 0
  have q1 := hm.fo 0
  have hmn := hm.setO 0 (.slice B0 xs0.length d0)
  have n0 := ho.setLow (b := w.heap.size + 2) (by omega) 0 (.slice B0 xs0.length d0)
  generalize hW0 : y0.setCell ⟨w.heap.size + 2, 0, none⟩ (.slice B0 xs0.length d0) = Y0 at hmn n0
  have p1 : Y0.cell? ⟨w.heap.size, 1, none⟩ = some (.slice A1 xs1.length c1) := hmn.ca 1
  have O0 := Lib.hid n0
  have H1 := Lib.hid (H1.out.keep hmn.b)
  replace HM := Lib.hid hmn
  clear ho hb hm p0 hmn n0 H0
  go_wp2_with fail
  clear hW0 q0 q1
  refine (toIntSS_any _ xs1 _ H1.out hs1).mono ?_
  rintro e y1 ⟨u1, rfl, ho, hb⟩
  have hz1 := HM.out.z
  have hm := HM.out.below hb
  obtain ⟨B1, d1, rfl, -⟩ := ho.reads.form
  have hlt0 := Lib.hid (fun k e => (own_lt O0.out k e).2)
  have HZ1 := Lib.hid HM.out.z
  have hmn := (((hm.setO 1 (.slice B1 xs1.length d1)).setR 0 (.slice B0 xs0.length d0)).setR 1 (.slice B1 xs1.length d1))
  have n0 := ((((O0.out.keep hb).setLow (b := w.heap.size + 2) (by omega) 1 (.slice B1 xs1.length d1)).setLow (b := w.heap.size + 1) (by omega) 0 (.slice B0 xs0.length d0)).setLow (b := w.heap.size + 1) (by omega) 1 (.slice B1 xs1.length d1))
  have n1 := (((ho.setLowT (b := w.heap.size + 2) (by omega) 1 (.slice B1 xs1.length d1)).setLowT (b := w.heap.size + 1) (by omega) 0 (.slice B0 xs0.length d0)).setLowT (b := w.heap.size + 1) (by omega) 1 (.slice B1 xs1.length d1))
  have HF := Lib.hid (And.intro n0 (And.intro n1 hmn))
  have g0 : y1.cell? ⟨w.heap.size + 2, 0, none⟩ = some (.slice B0 xs0.length d0) := hm.co 0
  have g1 : y1.cell? ⟨w.heap.size + 2, 1, none⟩ = some (.slice none 0 0) := hm.co 1
  have gf := hm.fo 1
  have r0 : y1.cell? ⟨w.heap.size + 1, 0, none⟩ = some (.slice none 0 0) := hm.cr 0
  have f0 := hm.fr 0
  have r1 : y1.cell? ⟨w.heap.size + 1, 1, none⟩ = some (.slice none 0 0) := hm.cr 1
  have f1 := hm.fr 1
  clear ho hb hm hmn n0 n1 O0 H1 p1 HM
  go_wp2
  obtain ⟨n0, n1, hmn⟩ := HF.out
  generalize ((y1.setCell ⟨w.heap.size + 2, 1, none⟩ (.slice B1 xs1.length d1)).setCell ⟨w.heap.size + 1, 0, none⟩ (.slice B0 xs0.length d0)).setCell ⟨w.heap.size + 1, 1, none⟩ (.slice B1 xs1.length d1) = wz at n0 n1 hmn ⊢
  have k0 : wz.cell? ⟨w.heap.size + 1, 0, none⟩ = some (.slice B0 xs0.length d0) := hmn.cr 0
  have k1 : wz.cell? ⟨w.heap.size + 1, 1, none⟩ = some (.slice B1 xs1.length d1) := hmn.cr 1
  clear g0 g1 gf r0 f0 r1 f1
  refine bodyPost_ret (v := .agg #[.slice B0 xs0.length d0, .slice B1 xs1.length d1]) (by simp [results, Try.results14, go_sem, k0, k1]) rfl ?_
  exact ⟨_, rfl, ⟨_, _, rfl, n0.base (by omega), _, by have := HZ1.out; omega, hlt0.out, n1⟩, hmn.b⟩
theorem eqModel_any (v v' : Value) (a b : MModel) (w : World) (h : RModel w v a) (h' : RModel w v' b) :
    Calls Try.prog 18 #[v, v'] w fun e w' => e = .returned (.bool (sameMd a b)) ∧ Below w.heap.size w w' := by
  obtain ⟨x0, x1, rfl, h0, h1⟩ := h
  obtain ⟨y0, y1, rfl, k0, k1⟩ := h'
  have hb2 : Below w.heap.size w ((w.alloc (.cells #[x0, x1] 34)).alloc (.cells #[y0, y1] 34)) := (below_alloc _ _).alloc (by simp) _
  have HB := Lib.hid hb2
  have H0 := Lib.hid (h0.keep hb2)
  have K0 := Lib.hid (k0.keep hb2)
  have H1 := Lib.hid (h1.keep hb2)
  have K1 := Lib.hid (k1.keep hb2)
  obtain ⟨a0, a1⟩ := a
  obtain ⟨b0, b1⟩ := b
  simp only at h0 h1 k0 k1 H0 H1 K0 K1
  obtain ⟨A0, c0, rfl, -⟩ := h0.form
  obtain ⟨D0, d0, rfl, -⟩ := k0.form
  obtain ⟨A1, c1, rfl, -⟩ := h1.form
  obtain ⟨D1, d1, rfl, -⟩ := k1.form
  clear h0 h1 k0 k1 hb2
  have f0 := cell_keep (below_alloc (w.alloc (.cells #[.slice A0 a0.length c0, .slice A1 a1.length c1] 34)) (.cells #[.slice D0 b0.length d0, .slice D1 b1.length d1] 34)) (bx_at w #[.slice A0 a0.length c0, .slice A1 a1.length c1] 34 (k := 0) rfl)
  have f1 := cell_keep (below_alloc (w.alloc (.cells #[.slice A0 a0.length c0, .slice A1 a1.length c1] 34)) (.cells #[.slice D0 b0.length d0, .slice D1 b1.length d1] 34)) (bx_at w #[.slice A0 a0.length c0, .slice A1 a1.length c1] 34 (k := 1) rfl)
  have g0 := bx_at (w.alloc (.cells #[.slice A0 a0.length c0, .slice A1 a1.length c1] 34)) #[.slice D0 b0.length d0, .slice D1 b1.length d1] 34 (k := 0) rfl
  have g1 := bx_at (w.alloc (.cells #[.slice A0 a0.length c0, .slice A1 a1.length c1] 34)) #[.slice D0 b0.length d0, .slice D1 b1.length d1] 34 (k := 1) rfl
  simp only [World.size_alloc] at g0 g1
  generalize hW : (w.alloc (.cells #[.slice A0 a0.length c0, .slice A1 a1.length c1] 34)).alloc (.cells #[.slice D0 b0.length d0, .slice D1 b1.length d1] 34) = W at HB H0 H1 K0 K1 f0 f1 g0 g1
  have HE : Hid (sameMd ⟨a0, a1⟩ ⟨b0, b1⟩ = ((sameI a0 b0) && sameR a1 b1)) := rfl
  cases x0 : sameI a0 b0 with
  | false =>
    rw [x0] at HE
    have X0 := Lib.hid x0
    clear x0
    go_enter Try.func18, Try.ntmps18
    go_wp2_with fail
    clear hW
    refine (eqIntS_is _ _ _ _ _ _ X0.out H0.out K0.out).mono ?_
    rintro e z0 ⟨rfl, hd⟩
    have hb := hd.below
    replace HB := Lib.hid (sz_keep HB.out hb)
    replace f1 := cell_keep hb f1
    replace g1 := cell_keep hb g1
    replace H1 := Lib.hid (H1.out.keep hb)
    replace K1 := Lib.hid (K1.out.keep hb)
    clear hd hb f0 g0 H0 K0
    go_wp2
    go_ret
    exact ⟨ret_bool HE.out.symm, HB.out⟩
  | true =>
    rw [x0] at HE
    have X0 := Lib.hid x0
    clear x0
    cases x1 : sameR a1 b1 with
    | false =>
      rw [x1] at HE
      have X1 := Lib.hid x1
      clear x1
      go_enter Try.func18, Try.ntmps18
      go_wp2_with fail
      clear hW
      refine (eqIntS_is _ _ _ _ _ _ X0.out H0.out K0.out).mono ?_
      rintro e z0 ⟨rfl, hd⟩
      have hb := hd.below
      replace HB := Lib.hid (sz_keep HB.out hb)
      replace f1 := cell_keep hb f1
      replace g1 := cell_keep hb g1
      replace H1 := Lib.hid (H1.out.keep hb)
      replace K1 := Lib.hid (K1.out.keep hb)
      clear hd hb f0 g0 H0 K0
      go_wp2_with fail
      refine (eqIntSS_is _ _ _ _ _ _ X1.out H1.out K1.out).mono ?_
      rintro e z1 ⟨rfl, hd⟩
      have hb := hd.below
      replace HB := Lib.hid (sz_keep HB.out hb)
      clear hd hb f1 g1 H1 K1
      go_wp2
      go_ret
      exact ⟨ret_bool HE.out.symm, HB.out⟩
    | true =>
      rw [x1] at HE
      have X1 := Lib.hid x1
      clear x1
      go_enter Try.func18, Try.ntmps18
      go_wp2_with fail
      clear hW
      refine (eqIntS_is _ _ _ _ _ _ X0.out H0.out K0.out).mono ?_
      rintro e z0 ⟨rfl, hd⟩
      have hb := hd.below
      replace HB := Lib.hid (sz_keep HB.out hb)
      replace f1 := cell_keep hb f1
      replace g1 := cell_keep hb g1
      replace H1 := Lib.hid (H1.out.keep hb)
      replace K1 := Lib.hid (K1.out.keep hb)
      clear hd hb f0 g0 H0 K0
      go_wp2_with fail
      refine (eqIntSS_is _ _ _ _ _ _ X1.out H1.out K1.out).mono ?_
      rintro e z1 ⟨rfl, hd⟩
      have hb := hd.below
      replace HB := Lib.hid (sz_keep HB.out hb)
      clear hd hb f1 g1 H1 K1
      go_wp2
      go_ret
      exact ⟨ret_bool HE.out.symm, HB.out⟩
theorem eqModel_is (v v' : Value) (a b : MModel) (w : World) (r : Bool) (hr : sameMd a b = r) (h : RModel w v a) (h' : RModel w v' b) :
    Calls Try.prog 18 #[v, v'] w fun e w' => e = .returned (.bool r) ∧ Below w.heap.size w w' := by
  subst hr; exact eqModel_any v v' a b w h h'
end

section
open Go.ChangeShapes Go.WideShapes Go.ChangeAt Go.RowKit Go.Deep Go.Joins
set_option linter.unusedVariables false

theorem own : ownKnob Try.prog.godebug = none := by kernel_rfl
theorem laidOut : laidOutB Try.prog = true := by kernel_rfl

theorem spot_none {w : World} {a : Addr} {v : Value} (h : w.cell? a = some v) : a.spot = none := World.cell?_spot h
theorem add_plain (b o j : Nat) : (⟨b, o, none⟩ : Addr).add j = ⟨b, o + j, none⟩ := by
  unfold Addr.add
  split
  · rename_i h; subst h; rfl
  · rfl

set_option maxRecDepth 100000 in
theorem cells_sig : Try.prog.cellsOf 24 = 2 := by kernel_rfl
set_option maxRecDepth 100000 in
theorem sig_of {H : Type} {enc : TypeId × Value → H} {W : World} {base : Nat} {v : Value} {d : DataW H} {p : List MemPlace} (hv : Value.okWide Try.prog W .any base 24 v)
    (h : DataW.Trod enc Try.prog W 0 (fun _ => true) true 24 v d p) : ∃ s, RSig W v s := by
  obtain ⟨c0, c1, y0, y1, m, rfl, -, -, hy0, hy1⟩ := open_agg2 Try.underlying24 (by kernel_rfl) cells_sig hv h
  obtain ⟨a, e0, -, wa⟩ := DataW.trod_int Try.underlying3 hy0
  simp at e0
  subst e0
  rcases open_int_rows Try.underlying22 Try.underlying25 Try.underlying3 (by kernel_rfl) (by kernel_rfl) hy1 with ⟨hcs, -⟩ | ⟨ad, len, cap, A, L, C, Z, hcs, -, hl, hm, -, hr⟩
  · simp at hcs
    subst hcs
    exact ⟨⟨a, []⟩, _, rfl, RRows.nil _⟩
  · simp at hcs
    subst hcs
    refine ⟨⟨a, (List.range len).map fun r => (Z r).take (L r)⟩, _, rfl, ?_⟩
    refine ⟨some ad, cap, by simp, by simpa using hl, hm, fun j row hj => ?_⟩
    simp only [List.getElem?_map] at hj
    obtain ⟨r, hr', rfl⟩ := Option.map_eq_some_iff.1 hj
    obtain ⟨hjl, hrj⟩ := List.getElem?_eq_some_iff.1 hr'
    simp at hjl hrj
    subst hrj
    obtain ⟨hc, h1, h2, h3, h4, h5, h6⟩ := hr j (by omega)
    obtain ⟨b, o, sp⟩ := ad
    have hsp : sp = none := by
      have := spot_none (hr 0 (by omega)).1
      simpa [Addr.add] using this
    subst hsp
    rw [add_plain] at hc
    refine ⟨b, o, _, rfl, hc, A j, C j, by rw [List.length_take]; congr 1; omega, by rw [List.length_take]; omega, h2, fun i x hx => ?_⟩
    rw [List.getElem?_take] at hx
    split at hx
    · rename_i hil
      obtain ⟨hiz, rfl⟩ := List.getElem?_eq_some_iff.1 hx
      cases hA : A j with
      | none => have := h5 hA; omega
      | some a' =>
        obtain ⟨-, hcell⟩ := h6 a' hA
        obtain ⟨b', o', sp'⟩ := a'
        have hsp' : sp' = none := by
          have := spot_none (hcell 0 (by omega))
          simpa [Addr.add] using this
        subst hsp'
        have := hcell i (by omega)
        rw [add_plain, getD_at _ hiz] at this
        exact ⟨b', o', rfl, this⟩
    · cases hx
end

section
open Go.ChangeShapes Go.WideShapes Go.ChangeAt Go.RowKit
set_option linter.unusedVariables false

theorem gr_undrew {a w w' : World} {B : Nat} (h : Below B a w.drew) : Below B a w := ⟨h.os, h.tape, h.output, h.size, h.block⟩
theorem below_undrew {B : Nat} {w w' : World} (h : Below B w.drew w') : Below B w w' := ⟨h.os, h.tape, h.output, h.size, h.block⟩
theorem bx_cells (w : World) (a b : Value) (t : TypeId) : (w.alloc (.cells #[a, b] t)).cell? ⟨w.heap.size, 0, none⟩ = some a ∧ (w.alloc (.cells #[a, b] t)).cell? ⟨w.heap.size, 1, none⟩ = some b := by
  constructor <;> (rw [World.cell?_alloc_at _ _ _ _ rfl]; rfl)
end

section
open Go.ChangeShapes Go.WideShapes Go.ChangeAt Go.RowKit
set_option linter.unusedVariables false

theorem ex_keep {w w1 w2 : World} (h : Below w.heap.size w w1) (k : Below w1.heap.size w1 w2) : Below w.heap.size w w2 := h.trans (k.mono h.size)
theorem ex_drew {B : Nat} {a w : World} (h : Below B a w) : Below B a w.drew := ⟨h.os, h.tape, h.output, h.size, h.block⟩
theorem ex_undrew {w w' : World} (h : Below w.drew.heap.size w.drew w') : Below w.heap.size w w' := below_undrew h
theorem sameI_self (xs : List Int) : sameI xs xs = true := by unfold sameI; simp
theorem sameR_self (xs : List (List Int)) : sameR xs xs = true := by unfold sameR; simp
end

section
open Go.RowKit
set_option linter.unusedVariables false

theorem outside_grown {w w' wc : World} {B : Nat} {v : Value} {e : TypeId} {size n : Nat} {zs : List Value} (h : wc.ownsRow B e size v n zs) (hg : w.grownBy w' v.ownBlock) (hz : w'.heap.size = w.heap.size) : Outside B wc.heap.size w w' :=
  ⟨hg.os, hg.tape, hg.output, hz, fun k hk => by
    by_cases hkl : k < w.heap.size
    · exact hg.block k hkl (fun e => by have := own_lt h k e.symm; omega)
    · rw [Array.getElem?_eq_none (by omega), Array.getElem?_eq_none (by omega)]⟩

theorem markIntS_go (v : Value) (B : Nat) (xs : List Int) (k0 : Int) (wc w : World) (h : OInts wc B v xs) (hk : Keeps B wc w) (hz : wc.heap.size ≤ w.heap.size) (hs : xs.length ≤ 1048576) (h0 : 0 ≤ k0) (h1 : k0 ≤ 100000000000000) :
    Calls Try.prog 29 #[v, .int .i64 k0] w fun e w' => ∃ k : Int, e = .returned (.int .i64 k) ∧ 0 ≤ k ∧ k ≤ k0 + 2000000000000 ∧ ∃ wa, Below w.heap.size w wa ∧ Outside B wc.heap.size wa w' := by
  refine (markIntS_any v B xs k0 w (h.same hk) hs h0 (by omega)).mono ?_
  rintro e w' ⟨rfl, ho, hg, hz'⟩
  exact ⟨_, rfl, by omega, by omega, w, Below.refl _ _, outside_grown h hg hz'⟩

theorem markIntS_g (v : Value) (B : Nat) (xs : List Int) (wc w : World) (h : OInts wc B v xs) (hk : Keeps B wc w) (hz : wc.heap.size ≤ w.heap.size) (hs : xs.length ≤ 1048576) :
    Calls Try.prog 29 #[v, .int .i64 1] w fun e w' => ∃ K : Int, e = .returned (.int .i64 K) ∧ 0 ≤ K ∧ (∀ w2 : World, Keeps B w' w2 → Calls Try.prog 30 #[v, .int .i64 1] w2 fun e w3 => e = .returned (.int .i64 K) ∧ Below w2.heap.size w2 w3) ∧ ∃ wa, Below w.heap.size w wa ∧ Outside B wc.heap.size wa w' := by
  refine (markIntS_any v B xs 1 w (h.same hk) hs (by omega) (by omega)).mono ?_
  rintro e w' ⟨rfl, ho, hg, hz'⟩
  refine ⟨_, rfl, by omega, fun w2 hk2 => ?_, w, Below.refl _ _, outside_grown h hg hz'⟩
  refine (heldIntS_any v xs.length 1 w2 (OInts.same ho hk2).reads hs (by omega) (by omega)).mono ?_
  rintro e w3 ⟨rfl, hd⟩
  exact ⟨rfl, hd.below⟩

theorem markIntSS_go (v : Value) (B : Nat) (rows : List (List Int)) (k0 : Int) (wc w : World) (h : ORows wc B v rows) (hk : Keeps B wc w) (hz : wc.heap.size ≤ w.heap.size) (hs : Fits rows) (h0 : 0 ≤ k0) (h1 : k0 ≤ 90000000000000) :
    Calls Try.prog 24 #[v, .int .i64 k0] w fun e w' => ∃ k : Int, e = .returned (.int .i64 k) ∧ 0 ≤ k ∧ k ≤ k0 + 2000000000000 ∧ ∃ wa, Below w.heap.size w wa ∧ Outside B wc.heap.size wa w' := by
  refine (markIntSSp_any v B rows k0 (cutTo w wc.heap.size) w (h.same fun k h1 h2 => (cut_block h2).trans (hk k h1 h2)) (cut_below hz) hs.1 hs.2 h0 (by omega)).mono ?_
  rintro e w' ⟨rfl, ho, hout⟩
  rw [cut_size hz] at hout
  have := tot_le hs.2
  have := hs.1
  exact ⟨_, rfl, by omega, by omega, w, Below.refl _ _, hout⟩

theorem markIntSS_g (v : Value) (B : Nat) (rows : List (List Int)) (wc w : World) (h : ORows wc B v rows) (hk : Keeps B wc w) (hz : wc.heap.size ≤ w.heap.size) (hs : Fits rows) :
    Calls Try.prog 24 #[v, .int .i64 1] w fun e w' => ∃ K : Int, e = .returned (.int .i64 K) ∧ 0 ≤ K ∧ (∀ w2 : World, Keeps B w' w2 → Calls Try.prog 25 #[v, .int .i64 1] w2 fun e w3 => e = .returned (.int .i64 K) ∧ Below w2.heap.size w2 w3) ∧ ∃ wa, Below w.heap.size w wa ∧ Outside B wc.heap.size wa w' := by
  refine (markIntSSp_any v B rows 1 (cutTo w wc.heap.size) w (h.same fun k h1 h2 => (cut_block h2).trans (hk k h1 h2)) (cut_below hz) hs.1 hs.2 (by omega) (by omega)).mono ?_
  rintro e w' ⟨rfl, ho, hout⟩
  rw [cut_size hz] at hout
  have := tot_le hs.2
  have := hs.1
  refine ⟨_, rfl, by omega, fun w2 hk2 => ?_, w, Below.refl _ _, hout⟩
  refine (heldIntSS_any v rows 1 w2 (ho.same hk2).reads hs.1 hs.2 (by omega) (by omega)).mono ?_
  rintro e w3 ⟨rfl, hd⟩
  exact ⟨rfl, hd.below⟩

theorem markSig_go (v : Value) (B : Nat) (s : MSig) (k0 : Int) (wc w : World) (h : OSig wc B v s) (hk : Keeps B wc w) (hz : wc.heap.size ≤ w.heap.size) (hs : Fits s.ops) (h0 : 0 ≤ k0) (h1 : k0 ≤ 90000000000000) :
    Calls Try.prog 22 #[v, .int .i64 k0] w fun e w' => ∃ k : Int, e = .returned (.int .i64 k) ∧ 0 ≤ k ∧ k ≤ k0 + 2000000000000 ∧ ∃ wa, Below w.heap.size w wa ∧ Outside B wc.heap.size wa w' := by
  refine (markSigp_any v B s k0 (cutTo w wc.heap.size) w (h.same fun k h1 h2 => (cut_block h2).trans (hk k h1 h2)) (cut_below hz) hs.1 hs.2 h0 (by omega)).mono ?_
  rintro e w' ⟨rfl, ho, o, hout⟩
  rw [cut_size hz] at hout
  have := tot_le hs.2
  have := hs.1
  exact ⟨_, rfl, by omega, by omega, w.alloc o, below_alloc _ _, hout⟩
end

section
open Go.RowKit
set_option linter.unusedVariables false
set_option linter.unusedSimpArgs false

def marksMd (k0 : Int) (m : MModel) : MModel := ⟨marks (k0) m.sizes.length, marksR (k0 + (m.sizes.length : Int)) m.tables⟩
def totMd (m : MModel) : Int := (m.sizes.length : Int) + (tot m.tables : Int)
set_option maxRecDepth 100000 in
theorem markModel_n (v : Value) (B : Nat) (m : MModel) (k0 : Int) (wc w : World) (h : OModel wc B v m) (hk : Keeps B wc w) (hz : wc.heap.size ≤ w.heap.size) (hs : FitsMd m) (h0 : 0 ≤ k0) (h1 : k0 ≤ 90000000000000) :
    Calls Try.prog 23 #[v, .int .i64 k0] w fun e w' => e = .returned (.int .i64 (k0 + totMd m)) ∧ OModel w' B v (marksMd k0 m) ∧ ∃ wa, Below w.heap.size w wa ∧ Outside B wc.heap.size wa w' := by
  obtain ⟨a0, a1, rfl, o0, C, hC, hlow, o1⟩ := h
  obtain ⟨xs0, xs1⟩ := m
  obtain ⟨hs0, hs1⟩ := hs
  simp only at o0 o1 hs0 hs1
  have hb := below_alloc w (.cells #[a0, a1] 34)
  have P0 := Lib.hid (o0.same (fun k q1 q2 => (hb.block k (by omega)).trans (hk k q1 q2)))
  have P1 := Lib.hid (o1.same (w' := cutTo (w.alloc (.cells #[a0, a1] 34)) wc.heap.size) (fun k q1 q2 => (cut_block q2).trans ((hb.block k (by omega)).trans (hk k (by omega) q2))))
  have C0 := Lib.hid o0
  have C1 := Lib.hid o1
  have HLOW := Lib.hid hlow
  have HTL := Lib.hid (tot_le hs1.2)
  obtain ⟨A0, c0, rfl, -⟩ := o0.reads.form
  obtain ⟨A1, c1, rfl, -⟩ := o1.reads.form
  have t0 := bx_at w #[.slice A0 xs0.length c0, .slice A1 xs1.length c1] 34 (k := 0) rfl
  have t1 := bx_at w #[.slice A0 xs0.length c0, .slice A1 xs1.length c1] 34 (k := 1) rfl
  have hsW : (w.alloc (.cells #[.slice A0 xs0.length c0, .slice A1 xs1.length c1] 34)).heap.size = w.heap.size + 1 := by simp
  have HB := Lib.hid hb
  generalize hW : w.alloc (.cells #[.slice A0 xs0.length c0, .slice A1 xs1.length c1] 34) = W at HB hsW P0 P1 t0 t1
  have HOUT : Hid (Outside B wc.heap.size W W) := Outside.refl _ _ _
  have HSZ := Lib.hid hsW
  have HZ := Lib.hid hz
  clear o0 o1 hlow hb hk hsW hz
  go_enter Try.func23, Try.ntmps23
  go_wp2_with fail
  clear hW
  refine (markIntS_any _ B xs0 _ _ P0.out hs0 (by omega) (by omega)).mono ?_
  rintro e y0 ⟨rfl, ho, hg, hzz⟩
  have hout := outside_grown C0.out hg hzz
  have hzW : wc.heap.size ≤ W.heap.size := by have := HZ.out; have := HSZ.out; omega
  replace P1 := Lib.hid (ORows.same (w' := cutTo y0 wc.heap.size) P1.out (fun k q1 q2 => by
    rw [cut_size hzW] at q2
    rw [cut_block q2, cut_block q2]
    exact hg.block k (by omega) (fun e => by have := HLOW.out k e.symm; omega)))
  have HCB := Lib.hid (cut_below (show wc.heap.size ≤ y0.heap.size by omega))
  have HCS := Lib.hid (cut_size (show wc.heap.size ≤ y0.heap.size by omega))
  clear hzW
  replace P0 := Lib.hid ho
  replace t1 := (World.cell?_of_block (hout.block w.heap.size (.inr HZ.out))).trans t1
  replace HOUT := Lib.hid (HOUT.out.trans hout)
  clear ho hg hzz hout t0
  go_wp2_with fail
  refine (markIntSSp_any _ C xs1 _ _ _ P1.out HCB.out hs1.1 hs1.2 (by omega) (by omega)).mono ?_
  rintro e y1 ⟨rfl, ho, hout⟩
  rw [HCS.out] at hout
  replace P0 := Lib.hid (own_outside P0.out hout (fun k e => .inl (HLOW.out k e)))
  replace P1 := Lib.hid ho
  replace HOUT := Lib.hid (HOUT.out.trans (hout.mono hC (Nat.le_refl _)))
  clear ho hout t1
  have htl := HTL.out
  have hs1l := hs1.1
  go_wp2
  go_ret
  refine ⟨ret_int (by simp only [totMd]; omega), ⟨_, _, rfl, ?_, C, hC, HLOW.out, ?_⟩, W, HB.out, HOUT.out⟩
  · exact P0.out
  · exact P1.out
set_option maxRecDepth 100000 in
theorem heldModel_n (v : Value) (m : MModel) (k0 : Int) (w : World) (h : RModel w v (marksMd k0 m)) (hs : FitsMd m) (h0 : 0 ≤ k0) (h1 : k0 ≤ 90000000000000) :
    Calls Try.prog 38 #[v, .int .i64 k0] w fun e w' => e = .returned (.int .i64 (k0 + totMd m)) ∧ Below w.heap.size w w' := by
  obtain ⟨a0, a1, rfl, o0, o1⟩ := h
  obtain ⟨xs0, xs1⟩ := m
  obtain ⟨hs0, hs1⟩ := hs
  simp only [marksMd] at o0 o1 hs0 hs1
  have hb := below_alloc w (.cells #[a0, a1] 34)
  have P0 := Lib.hid (o0.keep hb)
  have P1 := Lib.hid (o1.keep hb)
  obtain ⟨A0, c0, e, -⟩ := o0.form
  rw [marks_len] at e
  subst e
  obtain ⟨A1, c1, e, -⟩ := o1.form
  rw [marksR_len] at e
  subst e
  have t0 := bx_at w #[.slice A0 xs0.length c0, .slice A1 xs1.length c1] 34 (k := 0) rfl
  have t1 := bx_at w #[.slice A0 xs0.length c0, .slice A1 xs1.length c1] 34 (k := 1) rfl
  have HB := Lib.hid hb
  generalize hW : w.alloc (.cells #[.slice A0 xs0.length c0, .slice A1 xs1.length c1] 34) = W at HB P0 P1 t0 t1
  have nn0 : (0 : Int) ≤ (xs0.length : Int) := by omega
  have nn1 : (0 : Int) ≤ (tot xs1 : Int) := by omega
  clear o0 o1 hb
  go_enter Try.func38, Try.ntmps38
  go_wp2_with fail
  clear hW
  refine (heldIntS_any _ xs0.length _ _ P0.out hs0 (by omega) (by omega)).mono ?_
  rintro e y0 ⟨rfl, hd⟩
  have hb := hd.below
  replace HB := Lib.hid (sz_keep HB.out hb)
  replace t1 := cell_keep hb t1
  replace P1 := Lib.hid (P1.out.keep hb)
  clear hd hb t0 P0
  have nk0 : ¬ (k0 + (xs0.length : Int) < 0) := by omega
  go_wp2_with fail
  refine (heldIntSS_any _ xs1 _ _ P1.out hs1.1 hs1.2 (by omega) (by omega)).mono ?_
  rintro e y1 ⟨rfl, hd⟩
  have hb := hd.below
  replace HB := Lib.hid (sz_keep HB.out hb)
  clear hd hb t1 P1
  have nk1 : ¬ (k0 + (xs0.length : Int) + (tot xs1 : Int) < 0) := by omega
  go_wp2
  go_ret
  exact ⟨ret_int (by simp only [totMd]; omega), HB.out⟩
theorem markModel_go (v : Value) (B : Nat) (m : MModel) (k0 : Int) (wc w : World) (h : OModel wc B v m) (hk : Keeps B wc w) (hz : wc.heap.size ≤ w.heap.size) (hs : FitsMd m) (h0 : 0 ≤ k0) (h1 : k0 ≤ 90000000000000) :
    Calls Try.prog 23 #[v, .int .i64 k0] w fun e w' => ∃ k : Int, e = .returned (.int .i64 k) ∧ 0 ≤ k ∧ k ≤ k0 + 2000000000000 ∧ ∃ wa, Below w.heap.size w wa ∧ Outside B wc.heap.size wa w' := by
  refine (markModel_n v B m k0 wc w h hk hz hs h0 h1).mono ?_
  rintro e w' ⟨rfl, ho, hout⟩
  obtain ⟨hs0, hs1⟩ := hs
  have htl := tot_le hs1.2
  have hs1l := hs1.1
  exact ⟨_, rfl, by unfold totMd; omega, by unfold totMd; omega, hout⟩
theorem markModel_g (v : Value) (B : Nat) (m : MModel) (wc w : World) (h : OModel wc B v m) (hk : Keeps B wc w) (hz : wc.heap.size ≤ w.heap.size) (hs : FitsMd m) :
    Calls Try.prog 23 #[v, .int .i64 1] w fun e w' => ∃ K : Int, e = .returned (.int .i64 K) ∧ 0 ≤ K ∧ (∀ w2 : World, Keeps B w' w2 → Calls Try.prog 38 #[v, .int .i64 1] w2 fun e w3 => e = .returned (.int .i64 K) ∧ Below w2.heap.size w2 w3) ∧ ∃ wa, Below w.heap.size w wa ∧ Outside B wc.heap.size wa w' := by
  refine (markModel_n v B m 1 wc w h hk hz hs (by omega) (by omega)).mono ?_
  rintro e w' ⟨rfl, ho, hout⟩
  have hs2 := hs
  obtain ⟨hs0, hs1⟩ := hs2
  exact ⟨_, rfl, by unfold totMd; omega, fun w2 hk2 => heldModel_n v m 1 w2 (ho.same hk2).reads hs (by omega) (by omega), hout⟩
end

section
open Go.RowKit
set_option linter.unusedVariables false

theorem varsB_parts (s : MSig) (vars : List Int) : varsB s vars = (validB s && decide (vars.length ≤ 4) && belowB vars s.sorts) := rfl

theorem vars_in {sorts q : Int} {ops : List (List Int)} {vars : List Int} (hq : 1 ≤ sorts → sorts ≤ 3 → q = sorts - 1) : varsB ⟨sorts, ops⟩ vars = ((vars.all fun x => inB x 0 q) && (validB ⟨sorts, ops⟩ && decide (vars.length ≤ 4))) := by
  rw [varsB_parts]
  cases hv : validB ⟨sorts, ops⟩ with
  | false => simp
  | true =>
    have hs := valid_sorts hv
    simp only at hs
    rw [show belowB vars sorts = vars.all fun x => inB x 0 q from by unfold belowB; congr 1; funext x; exact (inB_row x sorts q hq hs.1 hs.2.1).symm]
    simp [Bool.and_comm]
end

section
open Go.ChangeShapes Go.WideShapes Go.ChangeAt Go.RowKit Go.Deep Go.Joins
set_option linter.unusedVariables false

def SmallR (rows : List (List Int)) : Prop := ∀ row ∈ rows, Small row
theorem small_nil : Small [] := fun x hx => by simp at hx
theorem small_wf {zs : List Int} (h : ∀ n ∈ zs, (Lit.int .i64 n).wf = true) : Small zs := fun x hx => by
  have hw := h x hx
  have : -9223372036854775808 ≤ x ∧ x ≤ 9223372036854775807 := by simpa [Lit.wf, IntKind.min, IntKind.max, IntKind.signed, IntKind.bits] using hw
  exact this.2
theorem small_take {zs : List Int} (h : Small zs) (n : Nat) : Small (zs.take n) := fun x hx => h x (List.mem_of_mem_take hx)
theorem plain_cell {w : World} {x : Addr} {zs : List Int} {i : Nat} (hcell : ∀ i, i < zs.length → w.cell? (x.add i) = some (.int .i64 (zs.getD i 0))) (hi : i < zs.length) : ∃ b o, x = ⟨b, o, none⟩ ∧ w.cell? ⟨b, o + i, none⟩ = some (.int .i64 zs[i]) := by
  have hc := hcell i hi
  rw [getD_at _ hi] at hc
  obtain ⟨b, off, spot⟩ := x
  have h0 := hcell 0 (by omega)
  have hspot : spot = none := by simpa [Addr.add] using World.cell?_spot h0
  subst hspot
  rw [add_plain] at hc
  exact ⟨b, off, rfl, hc⟩
set_option maxRecDepth 100000 in
theorem ints_of {H : Type} {enc : TypeId × Value → H} {W : World} {base : Nat} {v : Value} {d : DataW H} {p : List MemPlace} (hv : Value.okWide Try.prog W .any base 25 v)
    (h : DataW.Trod enc Try.prog W 0 (fun _ => true) true 25 v d p) : ∃ xs, RInts W v xs ∧ Small xs := by
  obtain ⟨a0, len0, cap0, rfl⟩ := okWide_slice Try.underlying25 hv
  obtain ⟨fuel, hf⟩ := h
  rcases open_ints Try.underlying25 Try.underlying3 (by kernel_rfl) hf with ⟨hcs, _⟩ | ⟨x, l, c, zs, hcs, _, hl, hm, hz, _, hcell, hwz⟩
  · simp [Value.cells] at hcs
    obtain ⟨rfl, rfl, rfl⟩ := hcs
    exact ⟨[], RInts.nil _, small_nil⟩
  · simp [Value.cells] at hcs
    obtain ⟨rfl, rfl, rfl⟩ := hcs
    simp only [if_true] at hz
    have ht : (zs.take len0).length = len0 := by rw [List.length_take]; omega
    refine ⟨zs.take len0, ⟨some x, cap0, by rw [ht], by rw [ht]; exact hl, hm, fun j y hj => ?_⟩, small_take (small_wf hwz) _⟩
    rw [List.getElem?_take] at hj
    split at hj
    · obtain ⟨hjl, rfl⟩ := List.getElem?_eq_some_iff.1 hj
      obtain ⟨b, o, rfl, hc⟩ := plain_cell hcell hjl
      exact ⟨b, o, rfl, hc⟩
    · cases hj
set_option maxRecDepth 100000 in
theorem rows_of {H : Type} {enc : TypeId × Value → H} {W : World} {base : Nat} {v : Value} {d : DataW H} {p : List MemPlace} (hv : Value.okWide Try.prog W .any base 22 v)
    (h : DataW.Trod enc Try.prog W 0 (fun _ => true) true 22 v d p) : ∃ xs, RRows W v xs ∧ SmallR xs := by
  obtain ⟨a0, len0, cap0, rfl⟩ := okWide_slice Try.underlying22 hv
  obtain ⟨fuel, hf⟩ := h
  rcases open_int_rows Try.underlying22 Try.underlying25 Try.underlying3 (by kernel_rfl) (by kernel_rfl) hf with ⟨hcs, -⟩ | ⟨ad, len, cap, A, L, C, Z, hcs, -, hl, hm, -, hr⟩
  · simp [Value.cells] at hcs
    obtain ⟨rfl, rfl, rfl⟩ := hcs
    exact ⟨[], RRows.nil _, fun row hr => by simp at hr⟩
  · simp [Value.cells] at hcs
    obtain ⟨rfl, rfl, rfl⟩ := hcs
    refine ⟨(List.range len0).map fun r => (Z r).take (L r), ?_, fun row hrow => ?_⟩
    · refine ⟨some ad, cap0, by simp, by simpa using hl, hm, fun j row hj => ?_⟩
      simp only [List.getElem?_map] at hj
      obtain ⟨r, hr', rfl⟩ := Option.map_eq_some_iff.1 hj
      obtain ⟨hjl, hrj⟩ := List.getElem?_eq_some_iff.1 hr'
      simp at hjl hrj
      subst hrj
      obtain ⟨hc, h1, h2, h3, h4, h5, h6⟩ := hr j (by omega)
      obtain ⟨b, o, sp⟩ := ad
      have hsp : sp = none := by
        have := spot_none (hr 0 (by omega)).1
        simpa [Addr.add] using this
      subst hsp
      rw [add_plain] at hc
      refine ⟨b, o, _, rfl, hc, A j, C j, by rw [List.length_take]; congr 1; omega, by rw [List.length_take]; omega, h2, fun i x hx => ?_⟩
      rw [List.getElem?_take] at hx
      split at hx
      · obtain ⟨hil, rfl⟩ := List.getElem?_eq_some_iff.1 hx
        cases hA : A j with
        | none => have := h5 hA; omega
        | some a' =>
          obtain ⟨-, hcell⟩ := h6 a' hA
          obtain ⟨b', o', rfl, hc'⟩ := plain_cell (by rw [h3]; exact hcell) hil
          exact ⟨b', o', rfl, hc'⟩
      · cases hx
    · obtain ⟨r, hr', rfl⟩ := List.mem_map.1 hrow
      simp at hr'
      obtain ⟨hc, h1, h2, h3, h4, h5, h6⟩ := hr r (by omega)
      exact small_take (small_wf h4) _
end

section
open Go.ChangeShapes Go.WideShapes Go.ChangeAt Go.RowKit Go.Deep Go.Joins
set_option linter.unusedVariables false

set_option maxRecDepth 100000 in
theorem ints_cell {H : Type} {enc : TypeId × Value → H} {W : World} {fuel : Nat} {u : Value} {x : DataW H × List MemPlace} (h : DataW.trod enc Try.prog W 0 (fun _ => true) true fuel 25 [u] = some x) : ∃ xs, RInts W u xs ∧ Small xs := by
  rcases open_ints Try.underlying25 Try.underlying3 (by kernel_rfl) h with ⟨hcs, _⟩ | ⟨x, l, c, zs, hcs, _, hl, hm, hz, _, hcell, hwz⟩
  · simp at hcs
    subst hcs
    exact ⟨[], RInts.nil _, small_nil⟩
  · simp at hcs
    subst hcs
    simp only [if_true] at hz
    have ht : (zs.take l).length = l := by rw [List.length_take]; omega
    refine ⟨zs.take l, ⟨some x, c, by rw [ht], by rw [ht]; exact hl, hm, fun j y hj => ?_⟩, small_take (small_wf hwz) _⟩
    rw [List.getElem?_take] at hj
    split at hj
    · obtain ⟨hjl, rfl⟩ := List.getElem?_eq_some_iff.1 hj
      obtain ⟨b, o, rfl, hc⟩ := plain_cell hcell hjl
      exact ⟨b, o, rfl, hc⟩
    · cases hj
set_option maxRecDepth 100000 in
theorem rows_cell {H : Type} {enc : TypeId × Value → H} {W : World} {fuel : Nat} {u : Value} {x : DataW H × List MemPlace} (hf : DataW.trod enc Try.prog W 0 (fun _ => true) true fuel 22 [u] = some x) : ∃ xs, RRows W u xs ∧ SmallR xs := by
  rcases open_int_rows Try.underlying22 Try.underlying25 Try.underlying3 (by kernel_rfl) (by kernel_rfl) hf with ⟨hcs, -⟩ | ⟨ad, len, cap, A, L, C, Z, hcs, -, hl, hm, -, hr⟩
  · simp at hcs
    subst hcs
    exact ⟨[], RRows.nil _, fun row hr => by simp at hr⟩
  · simp at hcs
    subst hcs
    refine ⟨(List.range len).map fun r => (Z r).take (L r), ?_, fun row hrow => ?_⟩
    · refine ⟨some ad, cap, by simp, by simpa using hl, hm, fun j row hj => ?_⟩
      simp only [List.getElem?_map] at hj
      obtain ⟨r, hr', rfl⟩ := Option.map_eq_some_iff.1 hj
      obtain ⟨hjl, hrj⟩ := List.getElem?_eq_some_iff.1 hr'
      simp at hjl hrj
      subst hrj
      obtain ⟨hc, h1, h2, h3, h4, h5, h6⟩ := hr j (by omega)
      obtain ⟨b, o, sp⟩ := ad
      have hsp : sp = none := by
        have := spot_none (hr 0 (by omega)).1
        simpa [Addr.add] using this
      subst hsp
      rw [add_plain] at hc
      refine ⟨b, o, _, rfl, hc, A j, C j, by rw [List.length_take]; congr 1; omega, by rw [List.length_take]; omega, h2, fun i x hx => ?_⟩
      rw [List.getElem?_take] at hx
      split at hx
      · obtain ⟨hil, rfl⟩ := List.getElem?_eq_some_iff.1 hx
        cases hA : A j with
        | none => have := h5 hA; omega
        | some a' =>
          obtain ⟨-, hcell⟩ := h6 a' hA
          obtain ⟨b', o', rfl, hc'⟩ := plain_cell (by rw [h3]; exact hcell) hil
          exact ⟨b', o', rfl, hc'⟩
      · cases hx
    · obtain ⟨r, hr', rfl⟩ := List.mem_map.1 hrow
      simp at hr'
      obtain ⟨hc, h1, h2, h3, h4, h5, h6⟩ := hr r (by omega)
      exact small_take (small_wf h4) _

instance : Inhabited MEq := ⟨⟨[], [], []⟩⟩
instance : Inhabited MSig := ⟨⟨0, []⟩⟩
end
end Go.Proofs.Ytfomeommkfemkaa
