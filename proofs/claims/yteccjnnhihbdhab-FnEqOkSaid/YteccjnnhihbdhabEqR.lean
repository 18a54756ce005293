/- How equations, lists of them and theories read in memory. No walk. -/
import Derived.Test.YteccjnnhihbdhabOwn
namespace Go.Proofs.Yteccjnnhihbdhab
open Go.RowKit
set_option linter.unusedVariables false

structure MEq where
  vars : List Int
  left : List Int
  right : List Int
structure MThy where
  over : MSig
  eqs : List MEq

def REq (w : World) (v : Value) (e : MEq) : Prop := ∃ a b c, v = .agg #[a, b, c] ∧ RInts w a e.vars ∧ RInts w b e.left ∧ RInts w c e.right
/-- a list of equations: three cells an element -/
def REqs (w : World) (v : Value) (es : List MEq) : Prop :=
  ∃ A c, v = .slice A es.length c ∧ es.length ≤ c ∧ c ≤ maxLen ∧ ∀ j e, es[j]? = some e → ∃ b o x y z, A = some ⟨b, o, none⟩ ∧
    w.cell? ⟨b, o + j * 3, none⟩ = some x ∧ w.cell? ⟨b, o + j * 3 + 1, none⟩ = some y ∧ w.cell? ⟨b, o + j * 3 + 2, none⟩ = some z ∧ RInts w x e.vars ∧ RInts w y e.left ∧ RInts w z e.right
def RThy (w : World) (v : Value) (t : MThy) : Prop := ∃ u x, v = .agg #[.int .i64 t.over.sorts, u, x] ∧ RRows w u t.over.ops ∧ REqs w x t.eqs

section
variable {w w' : World} {v : Value} {e : MEq} {es : List MEq} {t : MThy}
theorem REq.keep (h : REq w v e) (hb : Below w.heap.size w w') : REq w' v e := by
  obtain ⟨a, b, c, rfl, h1, h2, h3⟩ := h; exact ⟨a, b, c, rfl, h1.keep hb, h2.keep hb, h3.keep hb⟩
theorem REqs.keep (h : REqs w v es) (hb : Below w.heap.size w w') : REqs w' v es := by
  obtain ⟨A, c, e, h1, h2, h3⟩ := h
  refine ⟨A, c, e, h1, h2, fun j x hj => ?_⟩
  obtain ⟨b, o, x, y, z, e, c1, c2, c3, r1, r2, r3⟩ := h3 j x hj
  exact ⟨b, o, x, y, z, e, cell_keep hb c1, cell_keep hb c2, cell_keep hb c3, r1.keep hb, r2.keep hb, r3.keep hb⟩
theorem RThy.keep (h : RThy w v t) (hb : Below w.heap.size w w') : RThy w' v t := by
  obtain ⟨u, x, rfl, h1, h2⟩ := h; exact ⟨u, x, rfl, h1.keep hb, h2.keep hb⟩
theorem REqs.len (h : REqs w v es) : es.length ≤ 9223372036854775807 := by
  obtain ⟨A, c, e, h1, h2, h3⟩ := h; rw [maxLen_eq] at h2; omega
theorem REqs.nil (w : World) : REqs w (.slice none 0 0) [] := ⟨none, 0, rfl, Nat.le_refl _, Nat.zero_le _, fun j x h => by simp at h⟩
theorem REqs.form (h : REqs w v es) : ∃ A c, v = .slice A es.length c ∧ es.length ≤ c ∧ c ≤ 9223372036854775807 := by
  obtain ⟨A, c, e, h1, h2, h3⟩ := h; exact ⟨A, c, e, h1, h2⟩
theorem REqs.at_ (h : REqs w v es) {k : Nat} (hk : k < es.length) : ∃ b o c x y z, v = .slice (some ⟨b, o, none⟩) es.length c ∧
    w.cell? ⟨b, o + k * 3, none⟩ = some x ∧ w.cell? ⟨b, o + k * 3 + 1, none⟩ = some y ∧ w.cell? ⟨b, o + k * 3 + 2, none⟩ = some z ∧ RInts w x es[k].vars ∧ RInts w y es[k].left ∧ RInts w z es[k].right := by
  obtain ⟨A, c, e, h1, h2, h3⟩ := h
  obtain ⟨b, o, x, y, z, rfl, r⟩ := h3 k es[k] (List.getElem?_eq_getElem hk)
  exact ⟨b, o, c, x, y, z, e, r⟩
theorem REq.form (h : REq w v e) : ∃ A a B b C c, v = .agg #[.slice A e.vars.length a, .slice B e.left.length b, .slice C e.right.length c] := by
  obtain ⟨a, b, c, rfl, h1, h2, h3⟩ := h
  obtain ⟨A, a, rfl, -⟩ := h1.form
  obtain ⟨B, b, rfl, -⟩ := h2.form
  obtain ⟨C, c, rfl, -⟩ := h3.form
  exact ⟨_, _, _, _, _, _, rfl⟩
theorem RThy.form (h : RThy w v t) : ∃ A a B b, v = .agg #[.int .i64 t.over.sorts, .slice A t.over.ops.length a, .slice B t.eqs.length b] := by
  obtain ⟨a, b, rfl, h1, h2⟩ := h
  obtain ⟨A, a, rfl, -⟩ := h1.form
  obtain ⟨B, b, rfl, -⟩ := h2.form
  exact ⟨_, _, _, _, rfl⟩
theorem RSig.form {s : MSig} (h : RSig w v s) : ∃ A a, v = .agg #[.int .i64 s.sorts, .slice A s.ops.length a] := by
  obtain ⟨a, rfl, h1⟩ := h
  obtain ⟨A, a, rfl, -⟩ := h1.form
  exact ⟨_, _, rfl⟩
theorem REq.of {a b c : Value} (h : REq w (.agg #[a, b, c]) e) : RInts w a e.vars ∧ RInts w b e.left ∧ RInts w c e.right := by
  obtain ⟨a', b', c', he, h1, h2, h3⟩ := h
  injection he with he
  simp at he
  obtain ⟨rfl, rfl, rfl⟩ := he
  exact ⟨h1, h2, h3⟩
theorem RThy.of {n a b : Value} (h : RThy w (.agg #[n, a, b]) t) : n = .int .i64 t.over.sorts ∧ RRows w a t.over.ops ∧ REqs w b t.eqs := by
  obtain ⟨a', b', he, h1, h2⟩ := h
  injection he with he
  simp at he
  obtain ⟨rfl, rfl, rfl⟩ := he
  exact ⟨rfl, h1, h2⟩
theorem RSig.of {n a : Value} {s : MSig} (h : RSig w (.agg #[n, a]) s) : n = .int .i64 s.sorts ∧ RRows w a s.ops := by
  obtain ⟨a', he, h1⟩ := h
  injection he with he
  simp at he
  obtain ⟨rfl, rfl⟩ := he
  exact ⟨rfl, h1⟩
end

/-- an operation that its guard leaves out -/
theorem ite_off {c : Bool} {A B : Prop} (h : c = false) (hb : B) : if c = true then A else B := by rw [h]; simpa using hb
/-- the cells of a box, the newest block -/
theorem bx_at (w : World) (cs : Array Value) (t : TypeId) {k : Nat} {u : Value} (h : cs[k]? = some u) : (w.alloc (.cells cs t)).cell? ⟨w.heap.size, k, none⟩ = some u := by
  rw [World.cell?_alloc_at _ _ _ _ rfl]; exact h
theorem bx3 (w : World) (a b c : Value) (t : TypeId) : (w.alloc (.cells #[a, b, c] t)).cell? ⟨w.heap.size, 0, none⟩ = some a ∧ (w.alloc (.cells #[a, b, c] t)).cell? ⟨w.heap.size, 1, none⟩ = some b ∧ (w.alloc (.cells #[a, b, c] t)).cell? ⟨w.heap.size, 2, none⟩ = some c :=
  ⟨bx_at w _ _ rfl, bx_at w _ _ rfl, bx_at w _ _ rfl⟩
theorem bx4 (w : World) (a b c d : Value) (t : TypeId) : (w.alloc (.cells #[a, b, c, d] t)).cell? ⟨w.heap.size, 0, none⟩ = some a ∧ (w.alloc (.cells #[a, b, c, d] t)).cell? ⟨w.heap.size, 1, none⟩ = some b ∧ (w.alloc (.cells #[a, b, c, d] t)).cell? ⟨w.heap.size, 2, none⟩ = some c ∧ (w.alloc (.cells #[a, b, c, d] t)).cell? ⟨w.heap.size, 3, none⟩ = some d :=
  ⟨bx_at w _ _ rfl, bx_at w _ _ rfl, bx_at w _ _ rfl, bx_at w _ _ rfl⟩

/-- lists of rows that a call has made, in whatever cells of a block -/
def ORowsT (T : TypeId) (size n : Nat) (w : World) (B : Nat) (v : Value) (rows : List (List Int)) : Prop :=
  ∃ us : List Value, w.ownsRow B T size v n us ∧ us.length = rows.length ∧
    (∀ (j : Nat) (u : Value) (row : List Int), us[j]? = some u → rows[j]? = some row → OInts w B u row) ∧
    (∀ (i j : Nat) (u u' : Value), i < j → us[i]? = some u → us[j]? = some u' → u.ownBlock = none ∨ u.ownBlock ≠ u'.ownBlock)
end Go.Proofs.Yteccjnnhihbdhab
