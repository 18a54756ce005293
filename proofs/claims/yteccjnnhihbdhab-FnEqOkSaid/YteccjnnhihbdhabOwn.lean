/- Rows, lists of rows and signatures that a call itself has made: where they lie, and what keeps them. No walk. -/
import Derived.Test.YteccjnnhihbdhabBase
namespace Go.Proofs.Yteccjnnhihbdhab
open Go.RowKit
set_option linter.unusedVariables false

def OInts (w : World) (B : Nat) (v : Value) (xs : List Int) : Prop := w.ownsRow B 3 1 v xs.length (xs.map (Value.int .i64))

def ORows (w : World) (B : Nat) (v : Value) (rows : List (List Int)) : Prop :=
  ∃ us : List Value, w.ownsRow B 25 1 v rows.length us ∧ us.length = rows.length ∧
    (∀ (j : Nat) (u : Value) (row : List Int), us[j]? = some u → rows[j]? = some row → OInts w B u row) ∧
    (∀ (i j : Nat) (u u' : Value), i < j → us[i]? = some u → us[j]? = some u' → u.ownBlock = none ∨ u.ownBlock ≠ u'.ownBlock)

def OSig (w : World) (B : Nat) (v : Value) (s : MSig) : Prop := ∃ u, v = .agg #[.int .i64 s.sorts, u] ∧ ORows w B u s.ops

section
variable {w w' : World} {B B' : Nat} {v u : Value} {xs : List Int} {rows : List (List Int)} {s : MSig}

theorem own_keep {e : TypeId} {size n : Nat} {zs : List Value} (h : w.ownsRow B e size v n zs) (hb : Below w.heap.size w w') : w'.ownsRow B e size v n zs := by
  refine ⟨h.1, ?_⟩
  rcases h.2 with h2 | ⟨g, cap, cur, hv, hg, hh, r⟩
  · exact .inl h2
  · exact .inr ⟨g, cap, cur, hv, hg, by rw [hb.block g (Array.getElem?_eq_some_iff.1 hh).1]; exact hh, r⟩
theorem own_base {e : TypeId} {size n : Nat} {zs : List Value} (h : w.ownsRow B e size v n zs) (hB : B' ≤ B) : w.ownsRow B' e size v n zs := by
  refine ⟨h.1, ?_⟩
  rcases h.2 with h2 | ⟨g, cap, cur, hv, hg, hh, r⟩
  · exact .inl h2
  · exact .inr ⟨g, cap, cur, hv, by omega, hh, r⟩
/-- from a higher base: the row's block lies there -/
theorem own_raise {e : TypeId} {size n : Nat} {zs : List Value} (h : w.ownsRow B e size v n zs) (hB : ∀ k, v.ownBlock = some k → B' ≤ k) : w.ownsRow B' e size v n zs := by
  refine ⟨h.1, ?_⟩
  rcases h.2 with h2 | ⟨g, cap, cur, rfl, hg, hh, r⟩
  · exact .inl h2
  · exact .inr ⟨g, cap, cur, rfl, hB g rfl, hh, r⟩
theorem own_grown {e : TypeId} {size n : Nat} {zs : List Value} {row : Option Nat} (h : w.ownsRow B e size v n zs) (hg : w.grownBy w' row) (hne : v.ownBlock = none ∨ v.ownBlock ≠ row) : w'.ownsRow B e size v n zs := h.kept hg hne
/-- rows of different element types lie in different blocks -/
theorem own_ne {e e' : TypeId} {size size' n n' B2 : Nat} {zs zs' : List Value} (h : w.ownsRow B e size v n zs) (h' : w.ownsRow B2 e' size' u n' zs') (hne : e ≠ e') : v.ownBlock = none ∨ v.ownBlock ≠ u.ownBlock := by
  rcases h.2 with ⟨rfl, _⟩ | ⟨g, cap, cur, rfl, hg, hh, r⟩
  · exact .inl rfl
  · right
    rcases h'.2 with ⟨rfl, _⟩ | ⟨g', cap', cur', rfl, hg', hh', r'⟩
    · simp [Value.ownBlock]
    · intro he
      simp [Value.ownBlock] at he
      subst he
      rw [hh] at hh'
      injection hh' with hh'
      injection hh' with _ ht
      exact hne ht
theorem own_lt {e : TypeId} {size n : Nat} {zs : List Value} (h : w.ownsRow B e size v n zs) : ∀ k, v.ownBlock = some k → B ≤ k ∧ k < w.heap.size := h.lt

theorem OInts.keep (h : OInts w B v xs) (hb : Below w.heap.size w w') : OInts w' B v xs := own_keep h hb
theorem OInts.base (h : OInts w B v xs) (hB : B' ≤ B) : OInts w B' v xs := own_base h hB
theorem OInts.nil (w : World) (B : Nat) : OInts w B (.slice none 0 0) [] := World.ownsRow_nil _ _ _ _
theorem ORows.nil (w : World) (B : Nat) : ORows w B (.slice none 0 0) [] := ⟨[], World.ownsRow_nil _ _ _ _, rfl, fun j u row h => by simp at h, fun i j u u' _ h => by simp at h⟩
theorem ORows.keep (h : ORows w B v rows) (hb : Below w.heap.size w w') : ORows w' B v rows := by
  obtain ⟨us, h1, h2, h3, h4⟩ := h
  exact ⟨us, own_keep h1 hb, h2, fun j u row a b => (h3 j u row a b).keep hb, h4⟩
theorem ORows.base (h : ORows w B v rows) (hB : B' ≤ B) : ORows w B' v rows := by
  obtain ⟨us, h1, h2, h3, h4⟩ := h
  exact ⟨us, own_base h1 hB, h2, fun j u row a b => (h3 j u row a b).base hB, h4⟩
theorem OSig.keep (h : OSig w B v s) (hb : Below w.heap.size w w') : OSig w' B v s := by
  obtain ⟨u, e, h⟩ := h; exact ⟨u, e, h.keep hb⟩
theorem OSig.base (h : OSig w B v s) (hB : B' ≤ B) : OSig w B' v s := by
  obtain ⟨u, e, h⟩ := h; exact ⟨u, e, h.base hB⟩

theorem own_reads {e : TypeId} {n : Nat} {zs : List Value} (h : w.ownsRow B e 1 v n zs) : ∃ A c, v = .slice A n c ∧ n ≤ c ∧ c ≤ maxLen ∧ ∀ j x, zs[j]? = some x → ∃ b o, A = some ⟨b, o, none⟩ ∧ w.cell? ⟨b, o + j, none⟩ = some x := by
  obtain ⟨hl, h⟩ := h
  rcases h with ⟨rfl, rfl⟩ | ⟨g, cap, cur, rfl, hg, hh, h1, h2, h3, h4⟩
  · refine ⟨none, 0, rfl, Nat.le_refl _, Nat.zero_le _, fun j x hj => ?_⟩
    have : zs = [] := List.eq_nil_of_length_eq_zero (by simpa using hl)
    subst this
    simp at hj
  · refine ⟨_, cap, rfl, h1, h2, fun j x hj => ⟨g, 0, rfl, ?_⟩⟩
    subst h4
    rw [List.getElem?_take] at hj
    split at hj
    · simpa [World.cell?, hh] using hj
    · cases hj
theorem OInts.reads (h : OInts w B v xs) : RInts w v xs := by
  obtain ⟨A, c, e, h1, h2, h3⟩ := own_reads h
  exact ⟨A, c, e, h1, h2, fun j x hj => h3 j _ (by rw [List.getElem?_map, hj]; rfl)⟩
theorem ORows.reads (h : ORows w B v rows) : RRows w v rows := by
  obtain ⟨us, h0, hl, hr, -⟩ := h
  obtain ⟨A, c, e, h1, h2, h3⟩ := own_reads h0
  refine ⟨A, c, e, h1, h2, fun j row hj => ?_⟩
  have hjl : j < us.length := by rw [hl]; exact (List.getElem?_eq_some_iff.1 hj).1
  obtain ⟨b, o, ea, hc⟩ := h3 j us[j] (List.getElem?_eq_getElem hjl)
  exact ⟨b, o, us[j], ea, hc, (hr j us[j] row (List.getElem?_eq_getElem hjl) hj).reads⟩
theorem OSig.reads (h : OSig w B v s) : RSig w v s := by
  obtain ⟨u, e, h⟩ := h; exact ⟨u, e, h.reads⟩

theorem OInts.blk_ne {zs : List Value} {n B2 : Nat} (h : OInts w B v xs) (h' : w.ownsRow B2 25 1 u n zs) : v.ownBlock = none ∨ v.ownBlock ≠ u.ownBlock := own_ne h h' (by decide)

/-- behind 's = append(s, row)': one row more. w: ahead of the law; w1: behind it. -/
theorem ORows.push {us : List Value} {w1 : World} {v' rv : Value} {row : List Int} (h1 : w.ownsRow B 25 1 v rows.length us) (h2 : us.length = rows.length)
    (h3 : ∀ (j : Nat) (u : Value) (row : List Int), us[j]? = some u → rows[j]? = some row → OInts w B u row) (h4 : ∀ (i j : Nat) (u u' : Value), i < j → us[i]? = some u → us[j]? = some u' → u.ownBlock = none ∨ u.ownBlock ≠ u'.ownBlock)
    (hr : OInts w B rv row) (hne : ∀ (i : Nat) (u : Value), us[i]? = some u → u.ownBlock = none ∨ u.ownBlock ≠ rv.ownBlock) (hg : w.grownBy w1 v.ownBlock) (hv' : w1.ownsRow B 25 1 v' (rows.length + 1) (us ++ [rv])) :
    ORows w1 B v' (rows ++ [row]) := by
  have keep1 : ∀ {u : Value} {r : List Int}, OInts w B u r → OInts w1 B u r := fun hu => own_grown hu hg (hu.blk_ne h1)
  refine ⟨us ++ [rv], by simpa using hv', by simp [h2], fun j u r hu hrow => ?_, fun i j u u' hij hi hj => ?_⟩
  · rcases Nat.lt_or_ge j us.length with hj | hj
    · rw [List.getElem?_append_left hj] at hu
      rw [List.getElem?_append_left (by omega)] at hrow
      exact keep1 (h3 j u r hu hrow)
    · rw [List.getElem?_append_right hj] at hu
      rw [List.getElem?_append_right (by omega)] at hrow
      rw [h2] at hu
      rcases hk : j - rows.length with _ | m
      · rw [hk] at hu hrow
        simp at hu hrow
        subst hu hrow
        exact keep1 hr
      · rw [hk] at hu
        simp at hu
  · rcases Nat.lt_or_ge j us.length with hjl | hjl
    · rw [List.getElem?_append_left (by omega)] at hi
      rw [List.getElem?_append_left hjl] at hj
      exact h4 i j u u' hij hi hj
    · rw [List.getElem?_append_right hjl] at hj
      rcases hk : j - us.length with _ | m
      · rw [hk] at hj
        simp at hj
        subst hj
        have hil : i < us.length := by omega
        rw [List.getElem?_append_left hil] at hi
        exact hne i u hi
      · rw [hk] at hj
        simp at hj
end
end Go.Proofs.Yteccjnnhihbdhab
