/- The first places of values in rows; kernels and images of maps of models (plain). No walk. · Sets of values, and what operations make of them (plain). No walk. · slices.Index, placesIn, hasValue of package impl. · haveValues, setsOk of package impl. · addMade of package impl. · slices.Clone of a row of numbers. · MadeOf of package impl. · l6Sets of package spec. -/
import Derived.Test.YtfomeommkfemkaaK1337dff9
import Derived.StillTailTactics
import Derived.Deep.RegionHeld3
import Derived.Lib.SliceRun
namespace Go.Proofs.Ytfomeommkfemkaa
section
open Go.RowKit
set_option linter.unusedVariables false
set_option linter.unusedSimpArgs false

def firstIx (row : List Int) (v : Int) : Int := if v ∈ row then (row.idxOf v : Int) else -1
theorem firstIx_hit {row : List Int} {v : Int} {k : Nat} (hk : k < row.length) (hn : v ∉ row.take k) (he : row[k] = v) : firstIx row v = k := by
  have hm : v ∈ row := he ▸ List.getElem_mem hk
  unfold firstIx
  rw [if_pos hm]
  have hs : row = row.take k ++ (v :: row.drop (k + 1)) := by
    rw [← he, ← List.drop_eq_getElem_cons hk, List.take_append_drop]
  have : row.idxOf v = k := by
    conv => lhs; rw [hs]
    rw [List.idxOf_append, if_neg hn, List.idxOf_cons_self, List.length_take]
    omega
  rw [this]
theorem firstIx_none {row : List Int} {v : Int} (hn : v ∉ row) : firstIx row v = -1 := by unfold firstIx; rw [if_neg hn]
theorem not_take {row : List Int} {v : Int} {k : Nat} (hk : k < row.length) (hn : v ∉ row.take k) (he : row[k] ≠ v) : v ∉ row.take (k + 1) := by
  rw [List.take_succ_eq_append_getElem hk]
  simp only [List.mem_append, List.mem_singleton, not_or]
  exact ⟨hn, fun e => he e.symm⟩
def placesM (row vals : List Int) : List Int := vals.map (firstIx row)
theorem placesM_len (row vals : List Int) : (placesM row vals).length = vals.length := by simp [placesM]
theorem placesM_at {row vals : List Int} {k : Nat} (hk : k < vals.length) (h : k < (placesM row vals).length) : (placesM row vals)[k] = firstIx row vals[k] := by simp [placesM]
theorem placesM_take {row vals : List Int} {k : Nat} (hk : k < vals.length) : placesM row (vals.take (k + 1)) = placesM row (vals.take k) ++ [firstIx row vals[k]] := by
  unfold placesM; rw [List.take_succ_eq_append_getElem hk, List.map_append]; rfl
def kernelM (s : MSig) (a b : MModel) (h : List (List Int)) : List (List Int) := if homB s a b h then h.map (fun r => placesM r r) else []
theorem kernel_no {s : MSig} {a b : MModel} {h : List (List Int)} (e : homB s a b h = false) : kernelM s a b h = [] := by unfold kernelM; rw [e]; rfl
theorem kernel_yes {s : MSig} {a b : MModel} {h : List (List Int)} (e : homB s a b h = true) : kernelM s a b h = h.map (fun r => placesM r r) := by unfold kernelM; rw [e]; rfl

/-- a set and one value more -/
def addV (set v : Int) : Int := if set / 2 ^ v.toNat % 2 = 0 then set + 2 ^ v.toNat else set
theorem shl_pow {v : Int} (h0 : 0 ≤ v) (h3 : v ≤ 3) : wrap64 (2 ^ min v.toNat 64) = 2 ^ v.toNat := by
  rcases (show v = 0 ∨ v = 1 ∨ v = 2 ∨ v = 3 by omega) with rfl | rfl | rfl | rfl <;> simp [wrap64]
theorem shl_wrap {v : Int} (h0 : 0 ≤ v) (h3 : v ≤ 3) : IntKind.i64.wrap (2 ^ min v.toNat 64) = 2 ^ v.toNat := by
  rcases (show v = 0 ∨ v = 1 ∨ v = 2 ∨ v = 3 by omega) with rfl | rfl | rfl | rfl <;> simp [IntKind.wrap_i64]
def setM (row : List Int) : Int := row.foldl addV 0
theorem setM_take {row : List Int} {k : Nat} (hk : k < row.length) : setM (row.take (k + 1)) = addV (setM (row.take k)) row[k] := by
  unfold setM; rw [List.take_succ_eq_append_getElem hk, List.foldl_append]; rfl
theorem val3 {v : Int} (h0 : 0 ≤ v) (h1 : v < 3) : v = 0 ∨ v = 1 ∨ v = 2 := by omega
theorem set8 {x : Int} (h0 : 0 ≤ x) (h1 : x < 8) : x = 0 ∨ x = 1 ∨ x = 2 ∨ x = 3 ∨ x = 4 ∨ x = 5 ∨ x = 6 ∨ x = 7 := by omega
theorem addV_in {x v : Int} (h0 : 0 ≤ x) (h1 : x < 8) (h2 : 0 ≤ v) (h3 : v < 3) : 0 ≤ addV x v ∧ addV x v < 8 := by
  rcases val3 h2 h3 with rfl | rfl | rfl <;> rcases set8 h0 h1 with rfl | rfl | rfl | rfl | rfl | rfl | rfl | rfl <;> decide
theorem setM_in {row : List Int} (h : ∀ x ∈ row, 0 ≤ x ∧ x < 3) : 0 ≤ setM row ∧ setM row < 8 := by
  have : ∀ (row : List Int) (x : Int), (∀ y ∈ row, 0 ≤ y ∧ y < 3) → 0 ≤ x → x < 8 → 0 ≤ row.foldl addV x ∧ row.foldl addV x < 8 := by
    intro row
    induction row with
    | nil => intro x _ a b; exact ⟨a, b⟩
    | cons y row ih =>
      intro x hx a b
      have hy := hx y (List.mem_cons_self ..)
      have := addV_in a b hy.1 hy.2
      exact ih _ (fun z hz => hx z (List.mem_cons_of_mem _ hz)) this.1 this.2
  exact this row 0 h (by omega) (by omega)
def imageM (s : MSig) (a b : MModel) (h : List (List Int)) : List Int := if homB s a b h then h.map setM else []
theorem image_no {s : MSig} {a b : MModel} {h : List (List Int)} (e : homB s a b h = false) : imageM s a b h = [] := by unfold imageM; rw [e]; rfl
theorem image_yes {s : MSig} {a b : MModel} {h : List (List Int)} (e : homB s a b h = true) : imageM s a b h = h.map setM := by unfold imageM; rw [e]; rfl
/-- what a map of models is made of -/
structure HomUse (s : MSig) (b : MModel) (h : List (List Int)) : Prop where
  sor : (h.length : Int) = s.sorts
  few : h.length ≤ 3
  row : ∀ (k : Nat) (hk : k < h.length), (h[k]).length ≤ 3 ∧ ∀ x ∈ h[k], 0 ≤ x ∧ x < 3
theorem hom_use {s : MSig} {a b : MModel} {h : List (List Int)} (e : homB s a b h = true) : HomUse s b h := by
  obtain ⟨r, -⟩ := hom_facts e
  have h1 := r.fa.sl
  have h2 := r.le.1
  have h3 := r.fa.sorts
  refine ⟨by omega, by omega, fun k hk => ?_⟩
  have hka : k < a.sizes.length := by omega
  have hkb : k < b.sizes.length := by have := r.fb.sl; omega
  have l := r.le.2 k hka
  have v := r.va k hk
  rw [getD_at _ hk] at l v
  rw [getD_at _ hkb] at v
  have za := r.fa.sz _ (List.getElem_mem hka)
  have zb := r.fb.sz _ (List.getElem_mem hkb)
  exact ⟨by omega, fun x hx => by have := v x hx; omega⟩
end

section
open Go.RowKit
set_option linter.unusedVariables false
set_option linter.unusedSimpArgs false

def hasB (set v : Int) : Bool := decide (set / 2 ^ v.toNat % 2 = 1)
def haveOne (sets : List Int) (s v : Int) : Bool := hasB (sets.getD s.toNat 0) v
/-- the first n values are in their sets -/
def haveB (sets takes vals : List Int) (n : Nat) : Bool := allN (fun j => haveOne sets (takes.getD j 0) (vals.getD j 0)) n
/-- what one row of values adds -/
def addAt (zs takes : List Int) (last : Int) (table : List Int) (j : Nat) (st : List Int × Bool) : List Int × Bool :=
  if !haveOne st.1 last (table.getD j 0) && haveB st.1 takes (digM zs j) takes.length then (st.1.set last.toNat (st.1.getD last.toNat 0 + 2 ^ (table.getD j 0).toNat), true) else st
def addRows (zs takes : List Int) (last : Int) (table : List Int) (n : Nat) (st : List Int × Bool) : List Int × Bool := (List.range n).foldl (fun st j => addAt zs takes last table j st) st
theorem addRows_zero (zs takes : List Int) (last : Int) (table : List Int) (st : List Int × Bool) : addRows zs takes last table 0 st = st := rfl
theorem addRows_succ (zs takes : List Int) (last : Int) (table : List Int) (n : Nat) (st : List Int × Bool) : addRows zs takes last table (n + 1) st = addAt zs takes last table n (addRows zs takes last table n st) := by
  unfold addRows; rw [List.range_succ, List.foldl_append]; rfl
def addOp (s : MSig) (m : MModel) (k : Nat) (st : List Int × Bool) : List Int × Bool := addRows (ledM m.sizes (opRow s k).dropLast) (opRow s k).dropLast ((opRow s k).getLastD (-1)) (m.tables.getD k []) (m.tables.getD k []).length st
def addOps (s : MSig) (m : MModel) (n : Nat) (st : List Int × Bool) : List Int × Bool := (List.range n).foldl (fun st k => addOp s m k st) st
theorem addOps_zero (s : MSig) (m : MModel) (st : List Int × Bool) : addOps s m 0 st = st := rfl
theorem addOps_succ (s : MSig) (m : MModel) (n : Nat) (st : List Int × Bool) : addOps s m (n + 1) st = addOp s m n (addOps s m n st) := by
  unfold addOps; rw [List.range_succ, List.foldl_append]; rfl
/-- all operations once -/
def roundM (s : MSig) (m : MModel) (sets : List Int) : List Int × Bool := addOps s m s.ops.length (sets, false)
def closeM (s : MSig) (m : MModel) : Nat → List Int → List Int
  | 0, sets => sets
  | f + 1, sets => if (roundM s m sets).2 then closeM s m f (roundM s m sets).1 else (roundM s m sets).1
/-- a set for each sort -/
structure SetsIn (m : MModel) (sets : List Int) : Prop where
  len : sets.length = m.sizes.length
  val : ∀ (k : Nat) (hk : k < sets.length), 0 ≤ sets[k] ∧ sets[k] < 2 ^ (m.sizes.getD k 0).toNat
def setB (m : MModel) (sets : List Int) (k : Nat) : Bool := decide (0 ≤ sets.getD k 0) && decide (sets.getD k 0 < 2 ^ (m.sizes.getD k 0).toNat)
def setsB (m : MModel) (sets : List Int) : Bool := decide (sets.length = m.sizes.length) && allN (setB m sets) sets.length
theorem setsB_iff {m : MModel} {sets : List Int} : setsB m sets = true ↔ SetsIn m sets := by
  unfold setsB
  rw [Bool.and_eq_true, decide_eq_true_eq, allN_iff]
  constructor
  · rintro ⟨h1, h2⟩
    refine ⟨h1, fun k hk => ?_⟩
    have := h2 k hk
    unfold setB at this
    rw [Bool.and_eq_true, decide_eq_true_eq, decide_eq_true_eq, getD_at _ hk] at this
    exact this
  · rintro ⟨h1, h2⟩
    refine ⟨h1, fun k hk => ?_⟩
    unfold setB
    rw [Bool.and_eq_true, decide_eq_true_eq, decide_eq_true_eq, getD_at _ hk]
    exact h2 k hk
theorem setsB_no1 {m : MModel} {sets : List Int} (h : ¬ sets.length = m.sizes.length) : setsB m sets = false := by unfold setsB; rw [decide_eq_false h, Bool.false_and]
theorem setsB_no2 {m : MModel} {sets : List Int} {k : Nat} (hk : k < sets.length) (h : setB m sets k = false) : setsB m sets = false := by unfold setsB; rw [allN_bad hk h, Bool.and_false]
theorem setsB_yes {m : MModel} {sets : List Int} (h1 : sets.length = m.sizes.length) (h : allN (setB m sets) sets.length = true) : setsB m sets = true := by unfold setsB; rw [h, decide_eq_true h1]; rfl
theorem pow_size {z : Int} (h0 : 1 ≤ z) (h1 : z ≤ 3) : (2 : Int) ^ z.toNat ≤ 8 := by
  rcases (show z = 1 ∨ z = 2 ∨ z = 3 by omega) with rfl | rfl | rfl <;> decide
theorem pow_in {v : Int} (h0 : 0 ≤ v) (h3 : v < 3) : 1 ≤ (2 : Int) ^ v.toNat ∧ (2 : Int) ^ v.toNat ≤ 4 := by
  rcases val3 h0 h3 with rfl | rfl | rfl <;> decide
theorem dig_three {zs : List Int} (hz : Sizes zs) (n : Int) : ∀ x ∈ digM zs n, 0 ≤ x ∧ x < 3 := by
  intro x hx
  obtain ⟨k, hk, rfl⟩ := List.getElem_of_mem hx
  have h := dig_in hz n
  have hk' : k < zs.length := by rw [← h.1]; exact hk
  have := h.2 k hk' hk
  have := hz _ (List.getElem_mem hk')
  omega
theorem shl_add {x v : Int} (h0 : 0 ≤ x) (h1 : x < 8) (h2 : 0 ≤ v) (h3 : v < 3) : wrap64 (x + wrap64 (2 ^ v.toNat)) = x + 2 ^ v.toNat := by
  rcases val3 h2 h3 with rfl | rfl | rfl <;> simp [wrap64] <;> omega
theorem add_new {x v z : Int} (h0 : 0 ≤ x) (h2 : 0 ≤ v) (h3 : v < z) (hz : z ≤ 3) (hx : x < 2 ^ z.toNat) (hn : hasB x v = false) : x < x + 2 ^ v.toNat ∧ x + 2 ^ v.toNat < 2 ^ z.toNat := by
  rcases (show z = 1 ∨ z = 2 ∨ z = 3 by omega) with rfl | rfl | rfl <;> rcases val3 h2 (by omega) with rfl | rfl | rfl <;> (try omega) <;> rcases set8 h0 (by have : (2 : Int) ^ (1 : Int).toNat = 2 := by decide
                                                                                                                                                              have : (2 : Int) ^ (2 : Int).toNat = 4 := by decide
                                                                                                                                                              have : (2 : Int) ^ (3 : Int).toNat = 8 := by decide
                                                                                                                                                              omega) with rfl | rfl | rfl | rfl | rfl | rfl | rfl | rfl <;> revert hn hx <;> decide
section
variable {s : MSig} {m : MModel}
theorem SetsIn.small (f : ModFacts s m) {sets : List Int} (h : SetsIn m sets) {k : Nat} (hk : k < sets.length) : 0 ≤ sets[k] ∧ sets[k] < 8 := by
  have := h.val k hk
  have hk' : k < m.sizes.length := by rw [← h.len]; exact hk
  rw [getD_at _ hk'] at this
  have z := f.sz _ (List.getElem_mem hk')
  have := pow_size z.1 z.2
  omega
def total (sets : List Int) : Int := sets.foldl (· + ·) 0
theorem foldl_add (xs : List Int) (a : Int) : xs.foldl (· + ·) a = a + total xs := by
  unfold total
  induction xs generalizing a with
  | nil => simp
  | cons x xs ih => simp only [List.foldl_cons]; rw [ih (a + x), ih (0 + x)]; omega
theorem total_cons (x : Int) (xs : List Int) : total (x :: xs) = x + total xs := by
  have := foldl_add xs (0 + x)
  unfold total at this ⊢
  simp only [List.foldl_cons]
  rw [this]; omega
theorem total_set : ∀ {xs : List Int} {k : Nat} (hk : k < xs.length) (y : Int), total (xs.set k y) = total xs - xs[k] + y
  | x :: xs, 0, _, y => by simp only [List.set_cons_zero, total_cons, List.getElem_cons_zero]; omega
  | x :: xs, k + 1, hk, y => by
    simp only [List.set_cons_succ, total_cons, List.getElem_cons_succ]
    rw [total_set (xs := xs) (by simpa using hk) y]; omega
theorem total_le : ∀ {xs : List Int}, (∀ x ∈ xs, 0 ≤ x ∧ x < 8) → 0 ≤ total xs ∧ total xs ≤ 7 * xs.length
  | [], _ => by simp [total]
  | x :: xs, h => by
    have a := h x (List.mem_cons_self ..)
    have b := total_le (xs := xs) (fun y hy => h y (List.mem_cons_of_mem _ hy))
    rw [total_cons, List.length_cons]
    omega
/-- what a row of values adds keeps sets, and adds to their sum if it tells so -/
structure Grows (m : MModel) (a b : List Int × Bool) : Prop where
  ok : SetsIn m b.1
  le : total a.1 ≤ total b.1
  up : b.2 = true → a.2 = true ∨ total a.1 < total b.1
  fl : a.2 = true → b.2 = true
  st : b.2 = false → b.1 = a.1
theorem Grows.refl {a : List Int × Bool} (h : SetsIn m a.1) : Grows m a a := ⟨h, Int.le_refl _, fun h => .inl h, fun h => h, fun _ => rfl⟩
theorem Grows.trans {a b c : List Int × Bool} (h : Grows m a b) (g : Grows m b c) : Grows m a c := by
  refine ⟨g.ok, Int.le_trans h.le g.le, fun hc => ?_, fun ha => g.fl (h.fl ha), fun hc => ?_⟩
  · rcases g.up hc with hb | hb
    · rcases h.up hb with ha | ha
      · exact .inl ha
      · exact .inr (Int.lt_of_lt_of_le ha g.le)
    · exact .inr (Int.lt_of_le_of_lt h.le hb)
  · have hb : b.2 = false := by cases hb : b.2 with
      | false => rfl
      | true => rw [g.fl hb] at hc; cases hc
    rw [g.st hc, h.st hb]
theorem addAt_grows (f : ModFacts s m) {takes : List Int} {last : Int} {table : List Int} (o : OpAt s m takes last table) {zs : List Int} {j : Nat} (hj : j < table.length) {st : List Int × Bool} (h : SetsIn m st.1) :
    Grows m st (addAt zs takes last table j st) := by
  unfold addAt
  split
  · rename_i hc
    rw [Bool.and_eq_true] at hc
    have hn : haveOne st.1 last (table.getD j 0) = false := by simpa using hc.1
    have hl := o.lin
    have hlk : last.toNat < st.1.length := by rw [h.len]; omega
    have hlm : last.toNat < m.sizes.length := by omega
    rw [getD_at _ hj] at *
    have hv := o.val _ (List.getElem_mem hj)
    rw [getD_at _ hlm] at hv
    have hx := h.val _ hlk
    rw [getD_at _ hlm] at hx
    unfold haveOne at hn
    rw [getD_at _ hlk] at *
    have hz := f.sz _ (List.getElem_mem hlm)
    obtain ⟨n1, n2⟩ := add_new hx.1 hv.1 hv.2 hz.2 hx.2 hn
    refine ⟨⟨by simp [h.len], fun k hk => ?_⟩, ?_, fun _ => .inr ?_, fun _ => rfl, fun e => by cases e⟩
    · simp only [List.length_set] at hk
      simp only [List.getElem_set]
      split
      · rename_i e
        subst e
        rw [getD_at _ hlm]
        omega
      · exact h.val k hk
    · simp only; rw [total_set hlk]; omega
    · simp only; rw [total_set hlk]; omega
  · exact Grows.refl h
theorem addRows_grows (f : ModFacts s m) {takes : List Int} {last : Int} {table : List Int} (o : OpAt s m takes last table) {zs : List Int} {st : List Int × Bool} (h : SetsIn m st.1) : ∀ n, n ≤ table.length → Grows m st (addRows zs takes last table n st) := by
  intro n
  induction n with
  | zero => intro _; exact Grows.refl h
  | succ n ih =>
    intro hn
    have g := ih (by omega)
    rw [addRows_succ]
    exact g.trans (addAt_grows f o (by omega) g.ok)
theorem addOps_grows (f : ModFacts s m) {st : List Int × Bool} (h : SetsIn m st.1) : ∀ n, n ≤ s.ops.length → Grows m st (addOps s m n st) := by
  intro n
  induction n with
  | zero => intro _; exact Grows.refl h
  | succ n ih =>
    intro hn
    have g := ih (by omega)
    rw [addOps_succ]
    exact g.trans (addRows_grows f (f.op (by omega)) g.ok _ (Nat.le_refl _))
theorem roundM_grows (f : ModFacts s m) {sets : List Int} (h : SetsIn m sets) : SetsIn m (roundM s m sets).1 ∧ ((roundM s m sets).2 = true → total sets < total (roundM s m sets).1) ∧ ((roundM s m sets).2 = false → (roundM s m sets).1 = sets) := by
  have g := addOps_grows f (st := (sets, false)) h s.ops.length (Nat.le_refl _)
  refine ⟨g.ok, fun e => ?_, g.st⟩
  rcases g.up e with x | x
  · cases x
  · exact x
theorem total_21 (f : ModFacts s m) {sets : List Int} (h : SetsIn m sets) : 0 ≤ total sets ∧ total sets ≤ 21 := by
  have := total_le (xs := sets) (fun x hx => by obtain ⟨k, hk, rfl⟩ := List.getElem_of_mem hx; exact h.small f hk)
  have := h.len
  have := f.sorts
  omega
end
/-- what is made of sets, with operations and themselves -/
def madeM (s : MSig) (m : MModel) (sets : List Int) : List Int := if modelB s m && setsB m sets then closeM s m 22 sets else []
theorem made_no1 {s : MSig} {m : MModel} {sets : List Int} (h : modelB s m = false) : madeM s m sets = [] := by unfold madeM; rw [h]; rfl
theorem made_no2 {s : MSig} {m : MModel} {sets : List Int} (h : setsB m sets = false) : madeM s m sets = [] := by unfold madeM; rw [h, Bool.and_false]; rfl
theorem made_yes {s : MSig} {m : MModel} {sets : List Int} (h : modelB s m = true) (h2 : setsB m sets = true) : madeM s m sets = closeM s m 22 sets := by unfold madeM; rw [h, h2]; rfl
/-- some rounds have been gone through -/
def Closing (s : MSig) (m : MModel) (sets now : List Int) : Prop := SetsIn m now ∧ ∃ f : Nat, closeM s m 22 sets = closeM s m (f + 1) now ∧ 21 - total now ≤ (f : Int)
theorem closing_start {s : MSig} {m : MModel} (f : ModFacts s m) {sets : List Int} (h : SetsIn m sets) : Closing s m sets sets := ⟨h, 21, rfl, by have := total_21 f h; omega⟩
theorem Closing.more {s : MSig} {m : MModel} (f : ModFacts s m) {sets now : List Int} (h : Closing s m sets now) (e : (roundM s m now).2 = true) : Closing s m sets (roundM s m now).1 ∧ total now < total (roundM s m now).1 := by
  obtain ⟨h1, n, h2, h3⟩ := h
  obtain ⟨g1, g2, -⟩ := roundM_grows f h1
  have g3 := g2 e
  have g4 := total_21 f g1
  refine ⟨⟨g1, n - 1, ?_, by omega⟩, g3⟩
  rw [h2]
  obtain ⟨k, rfl⟩ : ∃ k, n = k + 1 := ⟨n - 1, by omega⟩
  rw [closeM, if_pos e]
  rfl
theorem Closing.done {s : MSig} {m : MModel} (f : ModFacts s m) {sets now : List Int} (h : Closing s m sets now) (e : (roundM s m now).2 = false) : closeM s m 22 sets = now ∧ (roundM s m now).1 = now := by
  obtain ⟨h1, n, h2, h3⟩ := h
  obtain ⟨g1, -, g2⟩ := roundM_grows f h1
  rw [h2, closeM, if_neg (by rw [e]; simp)]
  exact ⟨g2 e, g2 e⟩
theorem closeM_len {s : MSig} {m : MModel} (f : ModFacts s m) : ∀ (n : Nat) {sets : List Int}, SetsIn m sets → SetsIn m (closeM s m n sets)
  | 0, _, h => h
  | n + 1, sets, h => by
    rw [closeM]
    split
    · exact closeM_len f n (roundM_grows f h).1
    · exact (roundM_grows f h).1
theorem made_len (s : MSig) (m : MModel) (sets : List Int) : (madeM s m sets).length ≤ 3 := by
  unfold madeM
  split
  · rename_i h
    rw [Bool.and_eq_true] at h
    have f := model_facts h.1
    have := (closeM_len f 22 (setsB_iff.1 h.2)).len
    have := f.sorts
    omega
  · simp
end

section
open Go.RowKit
set_option linter.unusedVariables false
set_option linter.unusedSimpArgs false

set_option maxRecDepth 100000 in
theorem index_any (row : List Int) (x : Int) (w : World) (v : Value) (h : RInts w v row) (hs : row.length ≤ 1000000) :
    Calls Try.prog 69 #[v, .int .i64 x] w fun e w' => e = .returned (.int .i64 (firstIx row x)) ∧ w = w' := by
  have H := Lib.hid h
  obtain ⟨A, c, rfl, -⟩ := h.form
  clear h
  go_enter Try.func69, Try.ntmps69
  go_wp2
  go_loopw [5, 8] (fun _ i wr => ∃ k : Nat, k ≤ row.length ∧ i = .int .i64 k ∧ x ∉ row.take k ∧ w = wr) (fun _ i _ => row.length - (intOf i).toNat)
  case atStart => exact ⟨0, Nat.zero_le _, rfl, by simp, rfl⟩
  case round =>
    obtain ⟨k, hk, rfl, hn, rfl⟩ := hrel
    have HN := Lib.hid hn
    clear hn
    by_cases hlt : k < row.length
    · have hlt' : (k : Int) < (row.length : Int) := by omega
      obtain ⟨b, o, c', e, hx⟩ := H.out.at_ hlt
      cases e
      have HH := Lib.hid (fun e => firstIx_hit hlt HN.out e)
      have HT := Lib.hid (fun e => not_take hlt HN.out e)
      generalize row[k] = y at hx HH HT
      by_cases hxy : x = y
      · have HF := Lib.hid (HH.out hxy.symm)
        have e1 : (x == y) = true := by simp [hxy]
        clear hxy
        go_wp2
        go_ret
        exact ⟨ret_int HF.out.symm, rfl⟩
      · have HF := Lib.hid (HT.out (fun e => hxy e.symm))
        have e1 : (x == y) = false := by simpa using hxy
        clear hxy
        go_wp2
        go_roundw
        case rel => exact ⟨k + 1, by omega, by go_num, HF.out, by first | trivial | rfl⟩
        case measure => simp [intOf]; omega
    · have hkn : k = row.length := by omega
      have hlt' : ¬ (k : Int) < (row.length : Int) := by omega
      have HT := Lib.hid (show row.take k = row from take_all (by omega))
      rw [HT.out] at HN
      have HF := Lib.hid (firstIx_none HN.out)
      go_wp2
      go_ret
      exact ⟨ret_int HF.out.symm, rfl⟩

set_option maxRecDepth 100000 in
theorem placesIn_any (row vals : List Int) (w : World) (v v' : Value) (h : RInts w v row) (h' : RInts w v' vals) (hs : row.length ≤ 1000000) (hs' : vals.length ≤ 1000000) :
    Calls Try.prog 48 #[v, v'] w fun e w' => ∃ u, e = .returned u ∧ OInts w' w.heap.size u (placesM row vals) ∧ Below w.heap.size w w' := by
  have H := Lib.hid h
  have H2 := Lib.hid h'
  obtain ⟨A, c, rfl, -⟩ := h.form
  obtain ⟨A2, c2, rfl, -⟩ := h'.form
  have HRL := Lib.hid (placesM_len row vals)
  clear h h'
  have hmk := run_make_row' (P := Try.prog) 25 3 (.int .i64 0) 8 Try.underlying25 Try.tinfo_int rfl .i64 .i64 vals.length (by omega) (by omega)
  go_enter Try.func48, Try.ntmps48
  go_wp2
  go_loopw [6, 7, 13] (fun a b i wr => ∃ k : Nat, k ≤ vals.length ∧ i = .int .i64 k ∧ Filling w wr (placesM row vals) k) (fun _ _ i _ => vals.length - (intOf i).toNat)
  case atStart => exact ⟨0, Nat.zero_le _, rfl, Filling.start w _ _ (by rw [HRL.out]; simp [madeCells])⟩
  case round =>
    obtain ⟨k, hk, rfl, hf⟩ := hrel
    have HF := Lib.hid hf
    have HB := Lib.hid (filling_below hf)
    clear hf hmk
    by_cases hlt : k < vals.length
    · have hlt' : (k : Int) < (vals.length : Int) := by omega
      obtain ⟨b, o, c', e, hx⟩ := (H2.out.keep HB.out).at_ hlt
      cases e
      obtain ⟨u, g1, g2⟩ := HF.out.cell (by rw [HRL.out]; exact hlt)
      have HX := Lib.hid (placesM_at (row := row) hlt (by rw [HRL.out]; exact hlt))
      generalize vals[k] = x at hx HX
      go_wp2_with fail
      refine (index_any row x _ _ (H.out.keep HB.out) hs).mono ?_
      rintro e w7 ⟨rfl, rfl⟩
      generalize firstIx row x = q at HX
      go_wp2
      go_roundw
      case rel => exact ⟨k + 1, by omega, by go_num, HF.out.step (by rw [HRL.out]; exact hlt) HX.out⟩
      case measure => simp [intOf]; omega
    · go_wp2
      go_ret
      obtain ⟨r1, r2⟩ := HF.out.done (by rw [HRL.out]; omega) (by omega)
      have hkn : k = vals.length := by omega
      subst hkn
      exact ⟨_, rfl, r1, r2⟩

set_option maxRecDepth 100000 in
theorem hasValue_any (set x : Int) (w : World) (h0 : 0 ≤ set) (h1 : set < 8) (h2 : 0 ≤ x) (h3 : x < 3) :
    Calls Try.prog 70 #[.int .i64 set, .int .i64 x] w fun e w' => e = .returned (.bool (decide (set / 2 ^ x.toNat % 2 = 1))) ∧ w = w' := by
  go_enter Try.func70, Try.ntmps70
  go_wp2
  go_ret
  refine ⟨ret_bool ?_, rfl⟩
  rcases val3 h2 h3 with rfl | rfl | rfl <;> rcases set8 h0 h1 with rfl | rfl | rfl | rfl | rfl | rfl | rfl | rfl <;> decide
end

section
open Go.RowKit
set_option linter.unusedVariables false
set_option linter.unusedSimpArgs false

set_option maxRecDepth 100000 in
theorem haveValues_any (sets takes vals : List Int) (w : World) (v v1 v2 : Value) (h : RInts w v sets) (h1 : RInts w v1 takes) (h2 : RInts w v2 vals) (hl : vals.length = takes.length) (hs : vals.length ≤ 1000)
    (hin : ∀ x ∈ takes, 0 ≤ x ∧ x < (sets.length : Int)) (hse : ∀ x ∈ sets, 0 ≤ x ∧ x < 8) (hva : ∀ x ∈ vals, 0 ≤ x ∧ x < 3) :
    Calls Try.prog 71 #[v, v1, v2] w fun e w' => e = .returned (.bool (haveB sets takes vals takes.length)) ∧ w = w' := by
  have H := Lib.hid h
  have H1 := Lib.hid h1
  have H2 := Lib.hid h2
  obtain ⟨A, c, rfl, -⟩ := h.form
  obtain ⟨A1, c1, rfl, -⟩ := h1.form
  obtain ⟨A2, c2, rfl, -⟩ := h2.form
  have HIN := Lib.hid hin
  have HSE := Lib.hid hse
  have HVA := Lib.hid hva
  have HL := Lib.hid hl
  have HDEF := Lib.hid (show haveB sets takes vals takes.length = allN (fun j => haveOne sets (takes.getD j 0) (vals.getD j 0)) takes.length from rfl)
  generalize haveB sets takes vals takes.length = R at HDEF ⊢
  clear h h1 h2 hin hse hva hl
  go_enter Try.func71, Try.ntmps71
  go_wp2
  go_loopw [7, 8, 11] (fun _ _ i wr => ∃ k : Nat, k ≤ vals.length ∧ i = .int .i64 k ∧ allN (fun j => haveOne sets (takes.getD j 0) (vals.getD j 0)) k = true ∧ w = wr) (fun _ _ i _ => vals.length - (intOf i).toNat)
  case atStart => exact ⟨0, Nat.zero_le _, rfl, rfl, rfl⟩
  case round =>
    obtain ⟨k, hk, rfl, hall, rfl⟩ := hrel
    have HALL := Lib.hid hall
    clear hall
    by_cases hlt : k < vals.length
    · have hlt' : (k : Int) < (vals.length : Int) := by omega
      have hkt : k < takes.length := by have := HL.out; omega
      have hkt' : (k : Int) < (takes.length : Int) := by omega
      obtain ⟨b, o, c', e, hx⟩ := H2.out.at_ hlt
      cases e
      obtain ⟨b1, o1, c1', e, hy⟩ := H1.out.at_ hkt
      cases e
      have HT := Lib.hid (allN_succ (fun j => haveOne sets (takes.getD j 0) (vals.getD j 0)) k)
      have HN := Lib.hid (fun e => allN_bad (p := fun j => haveOne sets (takes.getD j 0) (vals.getD j 0)) hkt e)
      simp only [getD_at _ hlt, getD_at _ hkt] at HT HN
      have HI := Lib.hid (HIN.out _ (List.getElem_mem hkt))
      have HV := Lib.hid (HVA.out _ (List.getElem_mem hlt))
      generalize takes[k] = t at hy HT HN HI
      generalize vals[k] = x at hx HT HN HV
      obtain ⟨n, rfl⟩ : ∃ n : Nat, t = (n : Int) := ⟨t.toNat, by have := HI.out; omega⟩
      have hn : n < sets.length := by have := HI.out; omega
      have hn' : (n : Int) < (sets.length : Int) := by omega
      obtain ⟨b2, o2, c2', e, hz⟩ := H.out.at_ hn
      cases e
      have HS := Lib.hid (HSE.out _ (List.getElem_mem hn))
      have HD := Lib.hid (show haveOne sets (n : Int) x = hasB sets[n] x by unfold haveOne; rw [Int.toNat_natCast, getD_at _ hn])
      rw [HD.out] at HT HN
      generalize sets[n] = y at hz HS HT HN HD
      have HQ := Lib.hid (show Calls Try.prog 70 #[.int .i64 y, .int .i64 x] w fun e w' => e = .returned (.bool (hasB y x)) ∧ w = w' from hasValue_any y x w HS.out.1 HS.out.2 HV.out.1 HV.out.2)
      cases hh : hasB y x with
      | true =>
        have HHB := Lib.hid hh
        rw [hh] at HT HN HQ
        clear hh
        go_wp2_with fail
        refine HQ.out.mono ?_
        rintro e w7 ⟨rfl, rfl⟩
        go_wp2
        go_roundw
        case rel => exact ⟨k + 1, by omega, by go_num, by rw [HT.out, HALL.out]; rfl, by first | trivial | rfl⟩
        case measure => simp [intOf]; omega
      | false =>
        rw [hh] at HN HQ
        have HF := Lib.hid (HN.out rfl)
        clear hh
        go_wp2_with fail
        refine HQ.out.mono ?_
        rintro e w7 ⟨rfl, rfl⟩
        go_wp2
        go_ret
        exact ⟨ret_bool (by rw [HDEF.out, HF.out]), rfl⟩
    · have hkn : k = takes.length := by have := HL.out; omega
      have hlt' : ¬ (k : Int) < (vals.length : Int) := by omega
      go_wp2
      go_ret
      exact ⟨ret_bool (by rw [HDEF.out, ← hkn, HALL.out]), rfl⟩

set_option maxRecDepth 100000 in
theorem setsOk_any (m : MModel) (sets : List Int) (w : World) (v v1 : Value) (h : RModel w v m) (h1 : RInts w v1 sets) (hz : Sizes m.sizes) (hm : m.sizes.length ≤ 3) :
    Calls Try.prog 50 #[v, v1] w fun e w' => e = .returned (.bool (setsB m sets)) ∧ Below w.heap.size w w' := by
  obtain ⟨Ama, cma, Amb, cmb, rfl⟩ := h.form
  have hb : Below w.heap.size w (w.alloc (.cells #[.slice Ama m.sizes.length cma, .slice Amb m.tables.length cmb] 34)) := below_alloc _ _
  have HB := Lib.hid hb
  have hsz : (w.alloc (.cells #[.slice Ama m.sizes.length cma, .slice Amb m.tables.length cmb] 34)).heap.size = w.heap.size + 1 := by simp
  have Hm := Lib.hid (h.keep hb)
  have m0 := bx_at (w) #[.slice Ama m.sizes.length cma, .slice Amb m.tables.length cmb] 34 (k := 0) rfl
  have m1 := bx_at (w) #[.slice Ama m.sizes.length cma, .slice Amb m.tables.length cmb] 34 (k := 1) rfl
  generalize hW : w.alloc (.cells #[.slice Ama m.sizes.length cma, .slice Amb m.tables.length cmb] 34) = W at HB hsz Hm m0 m1
  clear hb h
  have H1 := Lib.hid (h1.keep HB.out)
  obtain ⟨A1, c1, rfl, -⟩ := h1.form
  have HZ := Lib.hid hz
  have hl1 := h1.len
  clear h1 hz
  by_cases hlen : sets.length = m.sizes.length
  · have HLEN := Lib.hid hlen
    have e1 : ((sets.length : Int) != (m.sizes.length : Int)) = false := by simp [hlen]
    have hs3 : sets.length ≤ 3 := by omega
    have HNO := Lib.hid (fun (k : Nat) (hk : k < sets.length) e => setsB_no2 (m := m) hk e)
    have HYE := Lib.hid (fun e => setsB_yes (m := m) HLEN.out e)
    clear hlen
    have HC := Lib.hid m0
    go_enter Try.func50, Try.ntmps50
    go_wp2
    clear hW m0 m1
    go_loopw [5, 6, 15] (fun _ _ i wr => ∃ k : Nat, k ≤ sets.length ∧ i = .int .i64 k ∧ allN (setB m sets) k = true ∧ W = wr) (fun _ _ i _ => sets.length - (intOf i).toNat)
    case atStart => exact ⟨0, Nat.zero_le _, rfl, rfl, rfl⟩
    case round =>
      obtain ⟨k, hk, rfl, hall, rfl⟩ := hrel
      have HALL := Lib.hid hall
      clear hall
      by_cases hlt : k < sets.length
      · have hlt' : (k : Int) < (sets.length : Int) := by omega
        have hkm : k < m.sizes.length := by have := HLEN.out; omega
        have hkm' : (k : Int) < (m.sizes.length : Int) := by omega
        obtain ⟨b, o, c', e, hx⟩ := H1.out.at_ hlt
        cases e
        obtain ⟨b5, o5, c5, e, hy⟩ := Hm.out.of.1.at_ hkm
        cases e
        have HT := Lib.hid (allN_succ (setB m sets) k)
        have HN := Lib.hid (fun e => HNO.out k hlt e)
        have HD := Lib.hid (show setB m sets k = (decide (0 ≤ sets[k]) && decide (sets[k] < 2 ^ (m.sizes[k]).toNat)) by unfold setB; rw [getD_at _ hlt, getD_at _ hkm])
        rw [HD.out] at HT HN
        have HZK := Lib.hid (HZ.out _ (List.getElem_mem hkm))
        have m0 := HC.out
        generalize sets[k] = x at hx HT HN HD
        generalize m.sizes[k] = z at hy HT HN HZK HD
        have hz1 : (0 : Int) ≤ z := by have := HZK.out; omega
        have hsh := shl_pow (v := z) (by omega) (by have := HZK.out; omega)
        generalize (2 : Int) ^ z.toNat = p at HT HN HD hsh
        by_cases hx0 : x < 0
        · have hx0' : decide (x < 0) = true := by simpa using hx0
          have HF := Lib.hid (HN.out (by rw [decide_eq_false (by omega), Bool.false_and]))
          go_wp2
          go_ret
          exact ⟨ret_bool HF.out.symm, HB.out⟩
        · have hx0' : decide (x < 0) = false := by simpa using hx0
          by_cases hxp : p ≤ x
          · have HF := Lib.hid (HN.out (by rw [decide_eq_false (show ¬ x < p by omega), Bool.and_false]))
            go_wp2
            go_ret
            exact ⟨ret_bool HF.out.symm, HB.out⟩
          · have HT2 := Lib.hid (show allN (setB m sets) (k + 1) = true by rw [HT.out, HALL.out, decide_eq_true (show 0 ≤ x by omega), decide_eq_true (show x < p by omega)]; rfl)
            go_wp2
            go_roundw
            case rel => exact ⟨k + 1, by omega, by go_num, HT2.out, by first | trivial | rfl⟩
            case measure => simp [intOf]; omega
      · have hkn : k = sets.length := by omega
        have hlt' : ¬ (k : Int) < (sets.length : Int) := by omega
        have HF := Lib.hid (HYE.out (by rw [← hkn]; exact HALL.out))
        go_wp2
        go_ret
        exact ⟨ret_bool HF.out.symm, HB.out⟩
  · have HF := Lib.hid (setsB_no1 hlen)
    have e1 : ((sets.length : Int) != (m.sizes.length : Int)) = true := by simpa using (fun e : (sets.length : Int) = m.sizes.length => hlen (by omega))
    clear hlen
    go_enter Try.func50, Try.ntmps50
    go_wp2
    go_ret
    exact ⟨ret_bool HF.out.symm, HB.out⟩
end

section
open Go.RowKit
set_option linter.unusedVariables false
set_option linter.unusedSimpArgs false

theorem gr_cell {w w' : World} {g b o : Nat} {u : Value} (h : w.grownBy w' (some g)) (hb : b ≠ g) (hc : w.cell? ⟨b, o, none⟩ = some u) : w'.cell? ⟨b, o, none⟩ = some u := by
  have hl := World.block_lt_of_cell? w _ hc
  rw [World.cell?_of_block (h.block b hl (fun e => by injection e with e; exact hb e))]
  exact hc
theorem gr_below {w w' w2 : World} {row : Option Nat} (h : w.grownBy w' row) (hb : Below w'.heap.size w' w2) : w.grownBy w2 row :=
  ⟨hb.os.trans h.os, hb.tape.trans h.tape, hb.output.trans h.output, Nat.le_trans h.size hb.size, fun i hi hne => (hb.block i (Nat.lt_of_lt_of_le hi h.size)).trans (h.block i hi hne)⟩
theorem gr_of_below {w w2 : World} {row : Option Nat} (hb : Below w.heap.size w w2) : w.grownBy w2 row := gr_below (grown_refl w row) hb
theorem gr_base {w0 w w' : World} {g : Nat} (h0 : Below w0.heap.size w0 w) (hg : w0.heap.size ≤ g) (h : w.grownBy w' (some g)) : Below w0.heap.size w0 w' :=
  h0.grown h h0.size (fun k e => by cases e; exact hg)
theorem own_gr {w w' : World} {B g : Nat} {v : Value} {xs : List Int} (h : OInts w B v xs) (hg : w.grownBy w' (some g)) (hB : g < B) : OInts w' B v xs := by
  refine own_grown h hg ?_
  cases e : v.ownBlock with
  | none => exact .inl rfl
  | some k => right; intro e2; injection e2 with e2; have := (own_lt h k e).1; omega

set_option maxRecDepth 100000 in
theorem takesAndLeaves_base (s : MSig) (k : Nat) (w0 w : World) (v : Value) (h0 : Below w0.heap.size w0 w) (h : RSig w0 v s) (hv : validB s = true) (hk : k < s.ops.length) :
    Calls Try.prog 64 #[v, .int .i64 k] w fun e w' => ∃ u, e = .returned (.tuple #[u, .int .i64 ((opRow s k).getLastD (-1))]) ∧ RInts w0 u (opRow s k).dropLast ∧ Below w.heap.size w w' := by
  have h' := h.keep h0
  have h9 := h
  obtain ⟨Asa, csa, rfl⟩ := h'.form
  have hb : Below w.heap.size w (w.alloc (.cells #[.int .i64 s.sorts, .slice Asa s.ops.length csa] 32)) := below_alloc _ _
  have HB := Lib.hid hb
  have hsz : (w.alloc (.cells #[.int .i64 s.sorts, .slice Asa s.ops.length csa] 32)).heap.size = w.heap.size + 1 := by simp
  have Hs := Lib.hid (h'.keep hb)
  have s0 := bx_at (w) #[.int .i64 s.sorts, .slice Asa s.ops.length csa] 32 (k := 0) rfl
  have s1 := bx_at (w) #[.int .i64 s.sorts, .slice Asa s.ops.length csa] 32 (k := 1) rfl
  generalize hW : w.alloc (.cells #[.int .i64 s.sorts, .slice Asa s.ops.length csa] 32) = W at HB hsz Hs s0 s1
  clear hb h'
  have HB9 := Lib.hid (sz_keep h0 HB.out)
  have hk' : (k : Int) < (s.ops.length : Int) := by omega
  obtain ⟨r1, r2, -⟩ := opRow_valid hv hk
  obtain ⟨b, o, c, u, e, hx, hr⟩ := h9.of.2.at_ hk
  cases e
  replace hx := cell_keep HB9.out hx
  have HR : Hid (RInts w0 u (opRow s k)) := by rw [opRow_at hk]; exact hr
  clear hr hv h9
  generalize opRow s k = row at HR r1 r2
  obtain ⟨n, hn⟩ : ∃ n : Nat, row.length = n + 1 := ⟨row.length - 1, by omega⟩
  have hne : n < row.length := by omega
  obtain ⟨b1, o1, c1, rfl, hy⟩ := HR.out.at_ hne
  replace hy := cell_keep HB9.out hy
  have hcap : n ≤ c1 := by
    obtain ⟨A9, c9, e, h9, -⟩ := HR.out.form
    cases e
    omega
  have HLS : Hid (row.getLastD (-1) = row[n]) := by
    have := last_at (row := row) (by omega)
    simp only [hn, Nat.add_sub_cancel] at this
    exact this
  have HD := Lib.hid HR.out.dropLast
  rw [hn] at HD
  simp only [Nat.add_sub_cancel] at HD
  rw [HLS.out]
  generalize row[n] = last at hy
  have hw0 : IntKind.i64.wrap (((n + 1 : Nat) : Int) - 1) = (n : Int) := by rw [IntKind.wrap_i64]; omega
  have hnn : (n : Int) < (n : Int) + 1 := by omega
  rw [hn] at hx
  clear HR HLS hne h0
  go_enter Try.func64, Try.ntmps64
  go_wp2_with fail
  clear hW
  refine wp_region_held_drew (S := (fun w' => w'.cell? ⟨b1, o1 + n, none⟩ = some (.int .i64 last))) (by kernel_rfl) ?_ (fun hHeld => ?_)
  · exact hy
  refine wpAnyH_take (i := 0) (oi := _) (v := ?_) rfl (by kernel_rfl) (by kernel_rfl) (by kernel_rfl) (fun _ _ _ h => h) (Or.inl ⟨by rfl, ?_⟩) (by assumption) ?_
  rotate_left
  · first | (intro w' hSw; (try dsimp only at hSw); go_simp; done) | (intro w' hSw; (try dsimp only at hSw); go_simp; with_reducible rfl)
  try simp only [Act.put, List.getElem_toArray, List.getElem_cons_zero, List.getElem_cons_succ, List.setIfInBounds_toArray, List.set_cons_zero, List.set_cons_succ]
  refine wpAnyH_take (i := 1) (oi := _) (v := ?_) rfl (by kernel_rfl) (by kernel_rfl) (by kernel_rfl) (fun _ _ _ h => h) (Or.inl ⟨by rfl, ?_⟩) (by assumption) ?_
  rotate_left
  · first | (intro w' hSw; (try dsimp only at hSw); go_simp; done) | (intro w' hSw; (try dsimp only at hSw); go_simp; with_reducible rfl)
  try simp only [Act.put, List.getElem_toArray, List.getElem_cons_zero, List.getElem_cons_succ, List.setIfInBounds_toArray, List.set_cons_zero, List.set_cons_succ]
  refine wpAnyH_take (i := 2) (oi := _) (v := ?_) rfl (by kernel_rfl) (by kernel_rfl) (by kernel_rfl) (fun _ _ _ h => h) (Or.inl ⟨by rfl, ?_⟩) (by assumption) ?_
  rotate_left
  · first | (intro w' hSw; (try dsimp only at hSw); go_simp; done) | (intro w' hSw; (try dsimp only at hSw); go_simp; with_reducible rfl)
  try simp only [Act.put, List.getElem_toArray, List.getElem_cons_zero, List.getElem_cons_succ, List.setIfInBounds_toArray, List.set_cons_zero, List.set_cons_succ]
  refine wpAnyH_take (i := 3) (oi := _) (v := ?_) rfl (by kernel_rfl) (by kernel_rfl) (by kernel_rfl) (fun _ _ _ h => h) (Or.inl ⟨by rfl, ?_⟩) (by assumption) ?_
  rotate_left
  · first | (intro w' hSw; (try dsimp only at hSw); go_simp; done) | (intro w' hSw; (try dsimp only at hSw); go_simp; with_reducible rfl)
  try simp only [Act.put, List.getElem_toArray, List.getElem_cons_zero, List.getElem_cons_succ, List.setIfInBounds_toArray, List.set_cons_zero, List.set_cons_succ]
  refine wpAnyH_take (i := 4) (oi := _) (v := ?_) rfl (by kernel_rfl) (by kernel_rfl) (by kernel_rfl) (fun _ _ _ h => h) (Or.inl ⟨by rfl, ?_⟩) (by assumption) ?_
  rotate_left
  · first | (intro w' hSw; (try dsimp only at hSw); go_simp; done) | (intro w' hSw; (try dsimp only at hSw); go_simp; with_reducible rfl)
  try simp only [Act.put, List.getElem_toArray, List.getElem_cons_zero, List.getElem_cons_succ, List.setIfInBounds_toArray, List.set_cons_zero, List.set_cons_succ]
  refine wpAnyH_take (i := 5) (oi := _) (v := ?_) rfl (by kernel_rfl) (by kernel_rfl) (by kernel_rfl) (fun _ _ _ h => h) (Or.inl ⟨by rfl, ?_⟩) (by assumption) ?_
  rotate_left
  · first | (intro w' hSw; (try dsimp only at hSw); go_simp; done) | (intro w' hSw; (try dsimp only at hSw); go_simp; with_reducible rfl)
  try simp only [Act.put, List.getElem_toArray, List.getElem_cons_zero, List.getElem_cons_succ, List.setIfInBounds_toArray, List.set_cons_zero, List.set_cons_succ]
  refine wpAnyH_take (i := 6) (oi := _) (v := ?_) rfl (by kernel_rfl) (by kernel_rfl) (by kernel_rfl) (fun _ _ _ h => h) (Or.inl ⟨by rfl, ?_⟩) (by assumption) ?_
  rotate_left
  · first | (intro w' hSw; (try dsimp only at hSw); go_simp; done) | (intro w' hSw; (try dsimp only at hSw); go_simp; with_reducible rfl)
  try simp only [Act.put, List.getElem_toArray, List.getElem_cons_zero, List.getElem_cons_succ, List.setIfInBounds_toArray, List.set_cons_zero, List.set_cons_succ]
  refine wpAnyH_take (i := 7) (oi := _) (v := ?_) rfl (by kernel_rfl) (by kernel_rfl) (by kernel_rfl) (fun _ _ _ h => h) (Or.inl ⟨by rfl, ?_⟩) (by assumption) ?_
  rotate_left
  · first | (intro w' hSw; (try dsimp only at hSw); go_simp; done) | (intro w' hSw; (try dsimp only at hSw); go_simp; with_reducible rfl)
  try simp only [Act.put, List.getElem_toArray, List.getElem_cons_zero, List.getElem_cons_succ, List.setIfInBounds_toArray, List.set_cons_zero, List.set_cons_succ]
  refine wpAnyH_take (i := 8) (oi := _) (v := ?_) rfl (by kernel_rfl) (by kernel_rfl) (by kernel_rfl) (fun _ _ _ h => h) (Or.inl ⟨by rfl, ?_⟩) (by assumption) ?_
  rotate_left
  · first | (intro w' hSw; (try dsimp only at hSw); go_simp; done) | (intro w' hSw; (try dsimp only at hSw); go_simp; with_reducible rfl)
  try simp only [Act.put, List.getElem_toArray, List.getElem_cons_zero, List.getElem_cons_succ, List.setIfInBounds_toArray, List.set_cons_zero, List.set_cons_succ]
  refine wpAnyH_done (by kernel_rfl) ?_ _
  clear hx hy s0 s1
  go_wp2
  refine bodyPost_ret (v := .tuple #[.slice (some ⟨b1, o1, none⟩) n c1, .int .i64 last]) (by simp [results, Try.results64, go_sem]) rfl ?_
  exact ⟨_, rfl, HD.out, map_drew HB.out⟩

set_option maxHeartbeats 3200000 in
set_option maxRecDepth 100000 in
theorem addMade_any (s : MSig) (m : MModel) (f : ModFacts s m) (xs : List Int) (hxs : SetsIn m xs) (w0 w : World) (B g c : Nat) (v va : Value) (h0 : Below w0.heap.size w0 w) (hg : w0.heap.size ≤ g) (h1 : RSig w0 v s) (h2 : RModel w0 va m) (ho : OInts w B (.slice (some ⟨g, 0, none⟩) xs.length c) xs) :
    Calls Try.prog 52 #[v, va, .slice (some ⟨g, 0, none⟩) xs.length c] w fun e w' => e = .returned (.bool (roundM s m xs).2) ∧ OInts w' B (.slice (some ⟨g, 0, none⟩) xs.length c) (roundM s m xs).1 ∧ Below w0.heap.size w0 w' := by
  have hgw : g < w.heap.size := (own_lt ho g rfl).2
  have h1' := h1.keep h0
  have h2' := h2.keep h0
  have H1 := Lib.hid h1
  have H2 := Lib.hid h2
  obtain ⟨Asa, csa, rfl⟩ := h1'.form
  obtain ⟨Ama, cma, Amb, cmb, rfl⟩ := h2'.form
  have hb : Below w.heap.size w ((w.alloc (.cells #[.int .i64 s.sorts, .slice Asa s.ops.length csa] 32)).alloc (.cells #[.slice Ama m.sizes.length cma, .slice Amb m.tables.length cmb] 34)) := (below_alloc _ _).alloc (by simp) _
  have HB := Lib.hid hb
  have hsz : ((w.alloc (.cells #[.int .i64 s.sorts, .slice Asa s.ops.length csa] 32)).alloc (.cells #[.slice Ama m.sizes.length cma, .slice Amb m.tables.length cmb] 34)).heap.size = w.heap.size + 2 := by simp
  have Hs := Lib.hid (h1'.keep hb)
  have s0 := cell_keep (below_alloc (w.alloc (.cells #[.int .i64 s.sorts, .slice Asa s.ops.length csa] 32)) (.cells #[.slice Ama m.sizes.length cma, .slice Amb m.tables.length cmb] 34)) (bx_at (w) #[.int .i64 s.sorts, .slice Asa s.ops.length csa] 32 (k := 0) rfl)
  have s1 := cell_keep (below_alloc (w.alloc (.cells #[.int .i64 s.sorts, .slice Asa s.ops.length csa] 32)) (.cells #[.slice Ama m.sizes.length cma, .slice Amb m.tables.length cmb] 34)) (bx_at (w) #[.int .i64 s.sorts, .slice Asa s.ops.length csa] 32 (k := 1) rfl)
  have Hm := Lib.hid (h2'.keep hb)
  have m0 := bx_at (w.alloc (.cells #[.int .i64 s.sorts, .slice Asa s.ops.length csa] 32)) #[.slice Ama m.sizes.length cma, .slice Amb m.tables.length cmb] 34 (k := 0) rfl
  have m1 := bx_at (w.alloc (.cells #[.int .i64 s.sorts, .slice Asa s.ops.length csa] 32)) #[.slice Ama m.sizes.length cma, .slice Amb m.tables.length cmb] 34 (k := 1) rfl
  simp only [World.size_alloc] at m0 m1
  generalize hW : (w.alloc (.cells #[.int .i64 s.sorts, .slice Asa s.ops.length csa] 32)).alloc (.cells #[.slice Ama m.sizes.length cma, .slice Amb m.tables.length cmb] 34) = W at HB hsz Hs s0 s1 Hm m0 m1
  clear hb h1' h2'
  have H0W := Lib.hid (sz_keep h0 HB.out)
  have HO := Lib.hid (ho.keep HB.out)
  have HF := Lib.hid f
  have HXS := Lib.hid hxs
  have HCX := Lib.hid (And.intro s0 (And.intro s1 (And.intro m0 m1)))
  have HTL0 := Lib.hid f.tl
  have hto := (valid_sorts f.va).2.2
  have hxl : xs.length ≤ 3 := by rw [hxs.len]; exact f.sorts.1
  have HGW := Lib.hid (show g < W.heap.size by have := HB.out.size; omega)
  have HN1 := Lib.hid (show w.heap.size ≠ g ∧ w.heap.size + 1 ≠ g by omega)
  have HGB := Lib.hid hg
  obtain ⟨n, hn⟩ : ∃ n, n = xs.length := ⟨_, rfl⟩
  rw [← hn] at HO ⊢
  have HNL := Lib.hid hn
  clear h0 h1 h2 ho f hxs hg hgw hsz hn
  go_enter Try.func52, Try.ntmps52
  go_wp2
  clear hW s0 s1 m0 m1
  go_loopw [7, 8, 9, 10, 11, 12, 13, 14, 18] (fun q _ _ _ _ _ _ _ i wr => ∃ k : Nat, k ≤ m.tables.length ∧ i = .int .i64 k ∧ q = .bool (addOps s m k (xs, false)).2 ∧ OInts wr B (.slice (some ⟨g, 0, none⟩) n c) (addOps s m k (xs, false)).1 ∧ W.grownBy wr (some g)) (fun _ _ _ _ _ _ _ _ i _ => m.tables.length - (intOf i).toNat)
  case atStart => exact ⟨0, Nat.zero_le _, rfl, rfl, HO.out, grown_refl _ _⟩
  case round =>
    obtain ⟨k, hk, rfl, rfl, ho, hgr⟩ := hrel
    have HGR := Lib.hid hgr
    have HO := Lib.hid ho
    have HD := Lib.hid (gr_base H0W.out HGB.out hgr)
    have f0 := gr_cell hgr HN1.out.1 HCX.out.1
    have f1 := gr_cell hgr HN1.out.1 HCX.out.2.1
    have f2 := gr_cell hgr HN1.out.2 HCX.out.2.2.1
    have f3 := gr_cell hgr HN1.out.2 HCX.out.2.2.2
    clear hgr ho
    by_cases hlt : k < m.tables.length
    · have hlt' : (k : Int) < (m.tables.length : Int) := by omega
      have hks : k < s.ops.length := by have := HTL0.out; omega
      obtain ⟨b4, o4, c4, u4, e, hx, hr4⟩ := H2.out.of.2.at_ hlt
      cases e
      replace hx := cell_keep HD.out hx
      have HTB : Hid (RInts w0 u4 (m.tables.getD k [])) := by rw [getD_at _ hlt]; exact hr4
      have HTS := Lib.hid (addOps_succ s m k (xs, false))
      have HGO := Lib.hid ((addOps_grows HF.out (st := (xs, false)) HXS.out k (by omega)).ok)
      have HOA := Lib.hid (HF.out.op hks)
      have HTA := Lib.hid (takesAndLeaves_base s k w0 wr _ HD.out H1.out HF.out.va hks)
      have HAD := Lib.hid (fun st => (show addOp s m k st = addRows (ledM m.sizes (opRow s k).dropLast) (opRow s k).dropLast ((opRow s k).getLastD (-1)) (m.tables.getD k []) (m.tables.getD k []).length st from rfl))
      clear hr4
      obtain ⟨A5, c5, rfl, hl5, -⟩ := HTB.out.form
      generalize hst : addOps s m k (xs, false) = st at HO HTS HGO
      rw [HAD.out] at HTS
      generalize (opRow s k).dropLast = takes at HOA HTA HTS
      generalize (opRow s k).getLastD (-1) = last at HOA HTA HTS
      generalize m.tables.getD k [] = table at HTB HOA hx HTS hl5
      clear hst HAD
      go_wp2_with fail
      refine HTA.out.mono ?_
      rintro x w2 ⟨ut, rfl, hut, hb⟩
      have HUT := Lib.hid hut
      obtain ⟨At, ct, rfl, -⟩ := hut.form
      have HB2 := Lib.hid hb
      replace f2 := cell_keep hb f2
      replace f3 := cell_keep hb f3
      clear hut hb hx f0 f1
      go_wp2_with fail
      refine (sizesOf_any m takes _ _ _ (H2.out.keep (sz_keep HD.out HB2.out)) (HUT.out.keep (sz_keep HD.out HB2.out)) HOA.out.into (by have := HOA.out.tsm; omega)).mono ?_
      rintro x w3 ⟨u3, rfl, ho3, hb3⟩
      have HZO := Lib.hid (ho3.base HB2.out.size)
      obtain ⟨A3, c3, rfl, -⟩ := ho3.reads.form
      have HB3 := Lib.hid (sz_keep HB2.out hb3)
      have HO3 := Lib.hid (HO.out.keep HB3.out)
      have HG3 := Lib.hid (gr_below HGR.out HB3.out)
      have HGA := Lib.hid (show g < wr.heap.size by have := HGR.out.size; have := HGW.out; omega)
      have HZ4 := Lib.hid HOA.out.zlen
      have HFW := Lib.hid HOA.out.few
      have HSA := Lib.hid HOA.out.siz
      have HTI := Lib.hid HOA.out.tin
      have HTM := Lib.hid HOA.out.tsm
      have HLI := Lib.hid HOA.out.lin
      have HVL := Lib.hid HOA.out.val
      have HLZ := Lib.hid (ledM_len m.sizes takes)
      have HAG := Lib.hid (fun (zs : List Int) (j : Nat) (hj : j ≤ table.length) => (addRows_grows HF.out HOA.out (zs := zs) HGO.out j hj).ok)
      generalize ledM m.sizes takes = zs at HZO HZ4 HSA HTS HLZ
      clear ho3 hb3
      clear f2 f3
      go_wp2
      go_loopw [7, 13, 14, 34] (fun q _ _ i wk => ∃ j : Nat, j ≤ table.length ∧ i = .int .i64 j ∧ q = .bool (addRows zs takes last table j st).2 ∧ OInts wk B (.slice (some ⟨g, 0, none⟩) n c) (addRows zs takes last table j st).1 ∧ w3.grownBy wk (some g)) (fun _ _ _ i _ => table.length - (intOf i).toNat)
      case atStart => exact ⟨0, Nat.zero_le _, rfl, rfl, HO3.out, grown_refl _ _⟩
      case round =>
        obtain ⟨j, hj, rfl, rfl, hoj, hgj⟩ := hrel
        obtain ⟨wk, hwk⟩ : ∃ x : World, x = wr := ⟨_, rfl⟩
        subst hwk
        have HGJ := Lib.hid hgj
        have HOJ := Lib.hid hoj
        have HG9 := Lib.hid (grown_trans HG3.out hgj)
        have HDK := Lib.hid (gr_base H0W.out HGB.out HG9.out)
        clear hoj hgj
        by_cases hjt : j < table.length
        · have hjt' : (j : Int) < (table.length : Int) := by omega
          have hfw := HFW.out
          obtain ⟨b7, o7, c7, e, hv7⟩ := (HTB.out.keep HDK.out).at_ hjt
          cases e
          have HRS := Lib.hid (addRows_succ zs takes last table j st)
          have HOK := Lib.hid (HAG.out zs j (by omega))
          have HGT := Lib.hid (show table.getD j 0 = table[j] from getD_at _ hjt)
          have HVJ := Lib.hid (HVL.out _ (List.getElem_mem hjt))
          generalize hcu : addRows zs takes last table j st = cu at HOJ HRS HOK
          have HAT := Lib.hid (show addAt zs takes last table j cu = if !haveOne cu.1 last (table.getD j 0) && haveB cu.1 takes (digM zs j) takes.length then (cu.1.set last.toNat (cu.1.getD last.toNat 0 + 2 ^ (table.getD j 0).toNat), true) else cu from rfl)
          rw [HGT.out] at HAT
          generalize table[j] = x7 at hv7 HGT HVJ HAT
          obtain ⟨cs, cb⟩ := cu
          simp only at HOJ HOK HAT
          have HCL := Lib.hid (show cs.length = n by rw [HOK.out.len, HNL.out, HXS.out.len])
          obtain ⟨l, hl⟩ : ∃ l : Nat, last = (l : Int) := ⟨last.toNat, by have := HLI.out; omega⟩
          have hlc : l < cs.length := by have := HLI.out; have := HOK.out.len; omega
          have hlm : l < m.sizes.length := by have := HLI.out; omega
          have HZL := Lib.hid (HF.out.sz _ (List.getElem_mem hlm))
          rw [hl, Int.toNat_natCast] at HVJ
          rw [getD_at _ hlm] at HVJ
          have hx70 : 0 ≤ x7 := HVJ.out.1
          have hx73 : x7 < 3 := by have := HVJ.out.2; have := HZL.out.2; omega
          have hy8 := HOK.out.small HF.out hlc
          obtain ⟨q1, q2⟩ := own_cell HOJ.out (by exact hlc)
          have HH1 := Lib.hid (show haveOne cs last x7 = hasB cs[l] x7 by unfold haveOne; rw [hl, Int.toNat_natCast, getD_at _ hlc])
          have HG4 := Lib.hid (show cs.getD last.toNat 0 = cs[l] by rw [hl, Int.toNat_natCast, getD_at _ hlc])
          rw [HH1.out, HG4.out] at HAT
          have HSM := Lib.hid (fun x (hx : x ∈ cs) => (show 0 ≤ x ∧ x < 8 by obtain ⟨i, hi, e⟩ := List.getElem_of_mem hx; rw [← e]; exact HOK.out.small HF.out hi))
          have HTC := Lib.hid (fun x (hx : x ∈ takes) => (show 0 ≤ x ∧ x < (cs.length : Int) by have := HTI.out x hx; have := HOK.out.len; omega))
          have HQ := Lib.hid (fun w' => (show Calls Try.prog 70 #[.int .i64 cs[l], .int .i64 x7] w' fun e w'' => e = .returned (.bool (hasB cs[l] x7)) ∧ w' = w'' from hasValue_any cs[l] x7 w' hy8.1 hy8.2 hx70 hx73))
          subst hl
          have hlc' : (l : Int) < (n : Int) := by have := HCL.out; omega
          have hl0 : (0 : Int) ≤ (l : Int) := by omega
          have HSETX := Lib.hid (fun y => own_set HOJ.out HCL.out.symm l y)
          rw [Int.toNat_natCast] at HAT
          generalize cs[l] = y at q1 HAT HQ hy8 HH1 HG4
          have HDG := Lib.hid (dig_three HSA.out (j : Int))
          have HDL := Lib.hid (digM_len zs (j : Int))
          clear hcu
          cases hhv : hasB y x7 with
          | true =>
            rw [hhv] at HAT HQ
            have HAE := Lib.hid (HAT.out.trans (if_neg (by simp)))
            clear hhv
            go_wp2_with fail
            refine (HQ.out _).mono ?_
            rintro e w7 ⟨rfl, rfl⟩
            clear q1 q2 hv7
            go_wp2
            go_roundw
            case rel => exact ⟨j + 1, by omega, by go_num, by rw [HRS.out, HAE.out], by rw [HRS.out, HAE.out]; exact HOJ.out, HGJ.out⟩
            case measure => simp [intOf]; omega
          | false =>
            rw [hhv] at HAT HQ
            clear hhv
            go_wp2_with fail
            refine (HQ.out _).mono ?_
            rintro e w7 ⟨rfl, rfl⟩
            go_wp2_with fail
            refine (rowAt_any zs (j : Int) _ _ (own_gr HZO.out HGJ.out HGA.out).reads HSA.out HZ4.out (by omega) (by omega)).mono ?_
            rintro x w8 ⟨u8, rfl, ho8, hb8⟩
            have HO8 := Lib.hid ho8.reads
            obtain ⟨A8, c8, rfl, -⟩ := ho8.reads.form
            have HB8 := Lib.hid hb8
            replace q1 := cell_keep hb8 q1
            replace hv7 := cell_keep hb8 hv7
            have HO9 := Lib.hid (HOJ.out.keep hb8)
            have hq2 : w8.frozen? ⟨g, l, none⟩ = false := (own_cell HO9.out hlc).2
            clear ho8 hb8 q2
            generalize digM zs (j : Int) = ds at HO8 HAT HDG HDL
            cases hhb : haveB cs takes ds takes.length with
            | false =>
              rw [hhb] at HAT
              have HHB := Lib.hid hhb
              have HAE := Lib.hid (HAT.out.trans (if_neg (by simp)))
              have HOR := Lib.hid HO9.out.reads
              clear hhb
              go_wp2_with fail
              refine (haveValues_any cs takes ds _ _ _ _ HOR.out (HUT.out.keep (sz_keep HDK.out HB8.out)) HO8.out (by rw [HDL.out, HLZ.out]) (by rw [HDL.out]; have := HZ4.out; omega) HTC.out HSM.out HDG.out).mono ?_
              rw [HHB.out]
              rintro e w9 ⟨rfl, rfl⟩
              clear q1 hq2 hv7
              go_wp2
              go_roundw
              case rel => exact ⟨j + 1, by omega, by go_num, by rw [HRS.out, HAE.out], by rw [HRS.out, HAE.out]; exact HO9.out, gr_below HGJ.out HB8.out⟩
              case measure => simp [intOf]; omega
            | true =>
              rw [hhb] at HAT
              have HHB := Lib.hid hhb
              have HAE := Lib.hid (HAT.out.trans (if_pos (by simp)))
              have HOR := Lib.hid HO9.out.reads
              have HPW := Lib.hid (shl_add hy8.1 hy8.2 hx70 hx73)
              obtain ⟨p, hp⟩ : ∃ p, (2 : Int) ^ x7.toNat = p := ⟨_, rfl⟩
              have HPE := Lib.hid hp
              rw [hp] at HAE
              clear hp
              obtain ⟨o1, g1⟩ := own_set HO9.out HCL.out.symm l (y + p)
              have HO1 := Lib.hid (own_drew2 o1)
              have HG1 := Lib.hid (grown_drew2 g1)
              clear hhb o1 g1
              go_wp2_with fail
              refine (haveValues_any cs takes ds _ _ _ _ HOR.out (HUT.out.keep (sz_keep HDK.out HB8.out)) HO8.out (by rw [HDL.out, HLZ.out]) (by rw [HDL.out]; have := HZ4.out; omega) HTC.out HSM.out HDG.out).mono ?_
              rw [HHB.out]
              rintro e w9 ⟨rfl, rfl⟩
              clear hv7
              replace q1 : w8.drew.cell? ⟨g, l, none⟩ = some (.int .i64 y) := q1
              replace hq2 : w8.drew.frozen? ⟨g, l, none⟩ = false := hq2
              go_wp2_with fail
              go_still_tail 8, (by kernel_rfl)
              change wpList _ _ _ _ _ w8.drew
              generalize w8.drew = wd at HO1 HG1 q1 hq2
              go_wp2
              go_roundw
              case rel => exact ⟨j + 1, by omega, by go_num, by rw [HRS.out, HAE.out], by rw [HRS.out, HAE.out, HPW.out, HPE.out]; exact HO1.out, by rw [HPW.out, HPE.out]; exact grown_trans (gr_below HGJ.out HB8.out) HG1.out⟩
              case measure => simp [intOf]; omega
        · have hjn : j = table.length := by omega
          have hjt' : ¬ (j : Int) < (table.length : Int) := by omega
          subst hjn
          go_wp2
          go_roundw
          case rel => exact ⟨k + 1, by omega, by go_num, by rw [HTS.out], by rw [HTS.out]; exact HOJ.out, HG9.out⟩
          case measure => simp [intOf]; omega
    · have hkn : k = s.ops.length := by have := HTL0.out; omega
      have hlt' : ¬ (k : Int) < (m.tables.length : Int) := by omega
      subst hkn
      go_wp2
      go_ret
      exact ⟨rfl, HO.out, HD.out⟩
end

section
open Go.RowKit
set_option linter.unusedVariables false
set_option linter.unusedSimpArgs false

variable {w w' : World}
theorem own_cut {w w2 : World} {o : Obj} {A : Option Addr} {n c : Nat} (h : (w.alloc o).grownBy w2 (Value.slice A n c).ownBlock) (hr : ∀ k, (Value.slice A n c).ownBlock = some k → w.heap.size ≤ k) : Below w.heap.size w w2 :=
  (below_alloc w o).trans ⟨h.os, h.tape, h.output, h.size, fun k hk => h.block k (Nat.lt_of_lt_of_le hk (by show w.heap.size ≤ (w.alloc o).heap.size; simp)) (fun e => by have := hr k e.symm; omega)⟩

set_option maxRecDepth 100000 in
theorem clone_any (ad : Addr) (n c : Nat) (xs : List Int) (w : World) (h : RInts w (.slice (some ad) n c) xs) (hs : xs.length ≤ 1048576) :
    Calls Try.prog 51 #[.slice (some ad) n c] w fun e w' => ∃ u, e = .returned u ∧ OInts w' w.heap.size u xs ∧ Below w.heap.size w w' := by
  obtain ⟨i0, hi0, hz0, hz1, hz2⟩ := info_parts Try.tinfo_int
  have H := Lib.hid h
  obtain ⟨A, c', e, h1, h2, h3⟩ := h
  cases e
  have HNEWS := Lib.hid (news_any (H.out.keep (below_alloc w (.cells #[] 3))))
  clear h3
  have hcmp := Lib.run_eql_slice_nil (P := Try.prog) w 25 3 (some ad) xs.length c 0 0 Try.underlying25
  simp only [Option.isNone_some] at hcmp
  go_enter Try.func51, Try.ntmps51
  go_wp2_with (at_builtin; refine wpList_append_own _ rfl _ _ 25 rfl w.heap.size 3 i0 (.int .i64 0) 1 8 Try.underlying25 hi0 hz0 hz1 hz2 rfl (by decide) _ 0 [] rfl (own_empty w) ad xs.length c (xs.map (Value.int .i64)) rfl (by simp) HNEWS.out (ints_one _) (by rw [maxLen_eq]; omega) (by omega) (by simp) ?_)
  intro v' w4 hown4 hgrow4 _
  have HO := Lib.hid hown4
  have HG := Lib.hid (own_cut hgrow4 (fun k e => by injection e with e; exact Nat.le_of_eq e))
  clear hown4 hgrow4
  go_wp2
  go_ret
  refine ⟨_, rfl, ?_, HG.out⟩
  have h := HO.out
  unfold OInts
  simpa using h
end

section
open Go.RowKit
set_option linter.unusedVariables false
set_option linter.unusedSimpArgs false

def readN (w : World) (g n : Nat) : List Int := (readRow w g).take n
theorem readN_own {w : World} {B g n c : Nat} {xs : List Int} (h : OInts w B (.slice (some ⟨g, 0, none⟩) n c) xs) (hn : n = xs.length) : readN w g n = xs := by
  subst hn
  rcases h.2 with ⟨e, _⟩ | ⟨g', cap, cur, e, hg, hh, h1, h2, h3, h4⟩
  · cases e
  · injection e with e1 e2 e3
    injection e1 with e1
    injection e1 with e1
    subst e1 e3
    unfold readN readRow
    rw [hh]
    simp only
    rw [Nat.mul_one] at h4
    rw [← List.map_take, h4, List.map_map]
    conv => rhs; rw [← List.map_id xs]
    exact List.map_congr_left fun x _ => rfl
theorem own_at {w : World} {B : Nat} {v : Value} {xs : List Int} (h : OInts w B v xs) (hx : 0 < xs.length) : ∃ g c, v = .slice (some ⟨g, 0, none⟩) xs.length c ∧ B ≤ g := by
  rcases h.2 with ⟨e, e2⟩ | ⟨g', cap, cur, e, hg, r⟩
  · obtain ⟨b, o, c, e3, -⟩ := h.reads.at_ hx
    rw [e] at e3
    cases e3
  · exact ⟨g', cap, e, hg⟩
/-- how many values are still to come -/
def restM (n g : Nat) (w : World) : Nat := (22 - total (readN w g n)).toNat

set_option maxHeartbeats 1600000 in
set_option maxRecDepth 100000 in
theorem madeOf_any (s : MSig) (m : MModel) (sets : List Int) (w : World) (v va vs : Value) (h1 : RSig w v s) (h2 : RModel w va m) (h3 : RInts w vs sets) :
    Calls Try.prog 33 #[v, va, vs] w fun e w' => ∃ u, e = .returned u ∧ OInts w' w.heap.size u (madeM s m sets) ∧ Below w.heap.size w w' := by
  obtain ⟨Asa, csa, rfl⟩ := h1.form
  obtain ⟨Ama, cma, Amb, cmb, rfl⟩ := h2.form
  have hb : Below w.heap.size w ((w.alloc (.cells #[.int .i64 s.sorts, .slice Asa s.ops.length csa] 32)).alloc (.cells #[.slice Ama m.sizes.length cma, .slice Amb m.tables.length cmb] 34)) := (below_alloc _ _).alloc (by simp) _
  have HB := Lib.hid hb
  have hsz : ((w.alloc (.cells #[.int .i64 s.sorts, .slice Asa s.ops.length csa] 32)).alloc (.cells #[.slice Ama m.sizes.length cma, .slice Amb m.tables.length cmb] 34)).heap.size = w.heap.size + 2 := by simp
  have Hs := Lib.hid (h1.keep hb)
  have s0 := cell_keep (below_alloc (w.alloc (.cells #[.int .i64 s.sorts, .slice Asa s.ops.length csa] 32)) (.cells #[.slice Ama m.sizes.length cma, .slice Amb m.tables.length cmb] 34)) (bx_at (w) #[.int .i64 s.sorts, .slice Asa s.ops.length csa] 32 (k := 0) rfl)
  have s1 := cell_keep (below_alloc (w.alloc (.cells #[.int .i64 s.sorts, .slice Asa s.ops.length csa] 32)) (.cells #[.slice Ama m.sizes.length cma, .slice Amb m.tables.length cmb] 34)) (bx_at (w) #[.int .i64 s.sorts, .slice Asa s.ops.length csa] 32 (k := 1) rfl)
  have Hm := Lib.hid (h2.keep hb)
  have m0 := bx_at (w.alloc (.cells #[.int .i64 s.sorts, .slice Asa s.ops.length csa] 32)) #[.slice Ama m.sizes.length cma, .slice Amb m.tables.length cmb] 34 (k := 0) rfl
  have m1 := bx_at (w.alloc (.cells #[.int .i64 s.sorts, .slice Asa s.ops.length csa] 32)) #[.slice Ama m.sizes.length cma, .slice Amb m.tables.length cmb] 34 (k := 1) rfl
  simp only [World.size_alloc] at m0 m1
  generalize hW : (w.alloc (.cells #[.int .i64 s.sorts, .slice Asa s.ops.length csa] 32)).alloc (.cells #[.slice Ama m.sizes.length cma, .slice Amb m.tables.length cmb] 34) = W at HB hsz Hs s0 s1 Hm m0 m1
  clear hb h1 h2
  have HH := Lib.hid (h3.keep HB.out)
  obtain ⟨Ah, ch, rfl, -⟩ := h3.form
  clear h3
  cases hma : modelB s m with
  | false =>
    have HMA := Lib.hid hma
    have HE := Lib.hid (made_no1 (sets := sets) hma)
    clear hma
    go_enter Try.func33, Try.ntmps33
    go_wp2_with fail
    clear hW
    refine (modelOk_any s m _ _ _ Hs.out Hm.out).mono ?_
    rw [HMA.out]
    rintro x w1 ⟨rfl, hb⟩
    replace HB := Lib.hid (sz_keep HB.out hb)
    replace s0 := cell_keep hb s0
    replace s1 := cell_keep hb s1
    replace m0 := cell_keep hb m0
    replace m1 := cell_keep hb m1
    replace Hs := Lib.hid (Hs.out.keep hb)
    replace Hm := Lib.hid (Hm.out.keep hb)
    replace HH := Lib.hid (HH.out.keep hb)
    clear hb
    go_wp2
    go_ret
    rw [HE.out]
    exact ⟨_, rfl, OInts.nil _ _, HB.out⟩
  | true =>
    have HMA := Lib.hid hma
    have HF := Lib.hid (model_facts hma)
    clear hma
    cases hse : setsB m sets with
    | false =>
      have HSE := Lib.hid hse
      have HE := Lib.hid (made_no2 (s := s) hse)
      clear hse
      go_enter Try.func33, Try.ntmps33
      go_wp2_with fail
      clear hW
      refine (modelOk_any s m _ _ _ Hs.out Hm.out).mono ?_
      rw [HMA.out]
      rintro x w1 ⟨rfl, hb⟩
      replace HB := Lib.hid (sz_keep HB.out hb)
      replace s0 := cell_keep hb s0
      replace s1 := cell_keep hb s1
      replace m0 := cell_keep hb m0
      replace m1 := cell_keep hb m1
      replace Hs := Lib.hid (Hs.out.keep hb)
      replace Hm := Lib.hid (Hm.out.keep hb)
      replace HH := Lib.hid (HH.out.keep hb)
      clear hb
      go_wp2_with fail
      refine (setsOk_any m sets _ _ _ Hm.out HH.out HF.out.sz HF.out.sorts.1).mono ?_
      rw [HSE.out]
      rintro x w2 ⟨rfl, hb⟩
      replace HB := Lib.hid (sz_keep HB.out hb)
      replace s0 := cell_keep hb s0
      replace s1 := cell_keep hb s1
      replace m0 := cell_keep hb m0
      replace m1 := cell_keep hb m1
      replace Hs := Lib.hid (Hs.out.keep hb)
      replace Hm := Lib.hid (Hm.out.keep hb)
      replace HH := Lib.hid (HH.out.keep hb)
      clear hb
      go_wp2
      go_ret
      rw [HE.out]
      exact ⟨_, rfl, OInts.nil _ _, HB.out⟩
    | true =>
      have HSE := Lib.hid hse
      have HE := Lib.hid (made_yes HMA.out hse)
      have HIN := Lib.hid (setsB_iff.1 hse)
      have hs3 : sets.length ≤ 3 := by have := HIN.out.len; have := HF.out.sorts; omega
      have hs1 : 0 < sets.length := by have := HIN.out.len; have := HF.out.sorts; omega
      obtain ⟨b, o, c, e, -⟩ := HH.out.at_ hs1
      cases e
      clear hse
      go_enter Try.func33, Try.ntmps33
      go_wp2_with fail
      clear hW
      refine (modelOk_any s m _ _ _ Hs.out Hm.out).mono ?_
      rw [HMA.out]
      rintro x w1 ⟨rfl, hb⟩
      replace HB := Lib.hid (sz_keep HB.out hb)
      replace s0 := cell_keep hb s0
      replace s1 := cell_keep hb s1
      replace m0 := cell_keep hb m0
      replace m1 := cell_keep hb m1
      replace Hs := Lib.hid (Hs.out.keep hb)
      replace Hm := Lib.hid (Hm.out.keep hb)
      replace HH := Lib.hid (HH.out.keep hb)
      clear hb
      go_wp2_with fail
      refine (setsOk_any m sets _ _ _ Hm.out HH.out HF.out.sz HF.out.sorts.1).mono ?_
      rw [HSE.out]
      rintro x w2 ⟨rfl, hb⟩
      replace HB := Lib.hid (sz_keep HB.out hb)
      replace s0 := cell_keep hb s0
      replace s1 := cell_keep hb s1
      replace m0 := cell_keep hb m0
      replace m1 := cell_keep hb m1
      replace Hs := Lib.hid (Hs.out.keep hb)
      replace Hm := Lib.hid (Hm.out.keep hb)
      replace HH := Lib.hid (HH.out.keep hb)
      clear hb
      go_wp2_with fail
      refine (clone_any _ _ _ sets _ HH.out (by omega)).mono ?_
      rintro x w3 ⟨u, rfl, ho, hb⟩
      obtain ⟨g, cg, rfl, hg⟩ := own_at ho hs1
      have HO := Lib.hid ho
      have HB3 := Lib.hid hb
      have HG := Lib.hid hg
      have HCX := Lib.hid (And.intro s0 (And.intro s1 (And.intro m0 m1)))
      clear ho hb hg
      go_wp2
      clear s0 s1 m0 m1
      go_loopw [] (fun wr => ∃ now : List Int, Closing s m sets now ∧ OInts wr w2.heap.size (.slice (some ⟨g, 0, none⟩) sets.length cg) now ∧ Below w2.heap.size w2 wr) (fun wr => restM sets.length g wr)
      case atStart => exact ⟨sets, closing_start HF.out HIN.out, HO.out, HB3.out⟩
      case round =>
        obtain ⟨now, hcl, ho, hd⟩ := hrel
        have HCL := Lib.hid hcl
        have HO := Lib.hid ho
        have HD := Lib.hid hd
        have hnl : now.length = sets.length := by rw [hcl.1.len, HIN.out.len]
        have HNL := Lib.hid hnl
        have f0 := cell_keep hd HCX.out.1
        have f1 := cell_keep hd HCX.out.2.1
        have f2 := cell_keep hd HCX.out.2.2.1
        have f3 := cell_keep hd HCX.out.2.2.2
        have HAM := addMade_any s m HF.out now hcl.1 w2 wr w2.heap.size g cg _ _ hd HG.out Hs.out Hm.out (by rw [hnl]; exact ho)
        rw [hnl] at HAM
        replace HAM := Lib.hid HAM
        have HM0 := Lib.hid (show restM sets.length g wr = (22 - total now).toNat by unfold restM; rw [readN_own ho hnl.symm])
        clear hcl ho hd hnl
        go_wp2_with fail
        refine HAM.out.mono ?_
        cases hr : (roundM s m now).2 with
        | true =>
          obtain ⟨hmo, hup⟩ := HCL.out.more HF.out hr
          have HMO := Lib.hid hmo
          have HUP := Lib.hid hup
          rintro x w4 ⟨rfl, ho4, hd4⟩
          have HO4 := Lib.hid ho4
          have HD4 := Lib.hid hd4
          have HM1 := Lib.hid (show restM sets.length g w4 = (22 - total (roundM s m now).1).toNat by unfold restM; rw [readN_own ho4 (by rw [hmo.1.len, HIN.out.len])])
          have HT := Lib.hid (total_21 HF.out HMO.out.1)
          clear ho4 hd4 hmo hup f0 f1 f2 f3
          go_wp2
          go_roundw
          case rel => exact ⟨_, HMO.out, HO4.out, HD4.out⟩
          case measure => rw [HM0.out, HM1.out]; have := HUP.out; have := HT.out; omega
        | false =>
          obtain ⟨hdo, hsa⟩ := HCL.out.done HF.out hr
          have HDO := Lib.hid hdo
          have HSA := Lib.hid hsa
          rw [hsa]
          rintro x w4 ⟨rfl, ho4, hd4⟩
          have HO4 := Lib.hid ho4
          have HD4 := Lib.hid hd4
          clear ho4 hd4 hdo hsa f0 f1 f2 f3
          go_wp2
          go_ret
          rw [HE.out, HDO.out]
          exact ⟨_, rfl, HO4.out.base HB.out.size, sz_keep HB.out HD4.out⟩
end

section
open Go.RowKit
set_option linter.unusedVariables false
set_option linter.unusedSimpArgs false

def setsOkB (s : MSig) (m : MModel) (sets : List Int) : Bool := modelB s m && setsB m sets
theorem shl_less {z : Int} (h0 : 1 ≤ z) (h3 : z ≤ 3) : wrap64 (wrap64 (2 ^ min z.toNat 64) - 1) = 2 ^ z.toNat - 1 := by
  rcases (show z = 1 ∨ z = 2 ∨ z = 3 by omega) with rfl | rfl | rfl <;> simp [wrap64]
theorem setB_inB {x p : Int} : inB x 0 (p - 1) = (decide (0 ≤ x) && decide (x < p)) := by unfold inB; rw [← Bool.decide_and, ← Bool.decide_and, decide_eq_decide]; omega

set_option maxHeartbeats 1600000 in
set_option maxRecDepth 100000 in
theorem l6Sets_any (s : MSig) (m : MModel) (sets : List Int) (w : World) (v va vs : Value) (h1 : RSig w v s) (h2 : RModel w va m) (h3 : RInts w vs sets) :
    Calls Try.prog 49 #[v, va, vs] w fun e w' => e = .returned (.bool (setsOkB s m sets)) ∧ Below w.heap.size w w' := by
  obtain ⟨Asa, csa, rfl⟩ := h1.form
  obtain ⟨Ama, cma, Amb, cmb, rfl⟩ := h2.form
  have hb : Below w.heap.size w ((w.alloc (.cells #[.int .i64 s.sorts, .slice Asa s.ops.length csa] 32)).alloc (.cells #[.slice Ama m.sizes.length cma, .slice Amb m.tables.length cmb] 34)) := (below_alloc _ _).alloc (by simp) _
  have HB := Lib.hid hb
  have hsz : ((w.alloc (.cells #[.int .i64 s.sorts, .slice Asa s.ops.length csa] 32)).alloc (.cells #[.slice Ama m.sizes.length cma, .slice Amb m.tables.length cmb] 34)).heap.size = w.heap.size + 2 := by simp
  have Hs := Lib.hid (h1.keep hb)
  have s0 := cell_keep (below_alloc (w.alloc (.cells #[.int .i64 s.sorts, .slice Asa s.ops.length csa] 32)) (.cells #[.slice Ama m.sizes.length cma, .slice Amb m.tables.length cmb] 34)) (bx_at (w) #[.int .i64 s.sorts, .slice Asa s.ops.length csa] 32 (k := 0) rfl)
  have s1 := cell_keep (below_alloc (w.alloc (.cells #[.int .i64 s.sorts, .slice Asa s.ops.length csa] 32)) (.cells #[.slice Ama m.sizes.length cma, .slice Amb m.tables.length cmb] 34)) (bx_at (w) #[.int .i64 s.sorts, .slice Asa s.ops.length csa] 32 (k := 1) rfl)
  have Hm := Lib.hid (h2.keep hb)
  have m0 := bx_at (w.alloc (.cells #[.int .i64 s.sorts, .slice Asa s.ops.length csa] 32)) #[.slice Ama m.sizes.length cma, .slice Amb m.tables.length cmb] 34 (k := 0) rfl
  have m1 := bx_at (w.alloc (.cells #[.int .i64 s.sorts, .slice Asa s.ops.length csa] 32)) #[.slice Ama m.sizes.length cma, .slice Amb m.tables.length cmb] 34 (k := 1) rfl
  simp only [World.size_alloc] at m0 m1
  generalize hW : (w.alloc (.cells #[.int .i64 s.sorts, .slice Asa s.ops.length csa] 32)).alloc (.cells #[.slice Ama m.sizes.length cma, .slice Amb m.tables.length cmb] 34) = W at HB hsz Hs s0 s1 Hm m0 m1
  clear hb h1 h2
  have HH := Lib.hid (h3.keep HB.out)
  have hl1 := h3.len
  obtain ⟨Ah, ch, rfl, -⟩ := h3.form
  clear h3
  cases hma : modelB s m with
  | false =>
    have HMA := Lib.hid hma
    have HE := Lib.hid (show setsOkB s m sets = false by unfold setsOkB; rw [hma, Bool.false_and])
    clear hma
    go_enter Try.func49, Try.ntmps49
    go_wp2_with fail
    clear hW
    refine (specModelOk_any s m _ _ _ Hs.out Hm.out).mono ?_
    rw [HMA.out]
    rintro x w1 ⟨rfl, hb⟩
    replace HB := Lib.hid (sz_keep HB.out hb)
    replace s0 := cell_keep hb s0
    replace s1 := cell_keep hb s1
    replace m0 := cell_keep hb m0
    replace m1 := cell_keep hb m1
    replace Hs := Lib.hid (Hs.out.keep hb)
    replace Hm := Lib.hid (Hm.out.keep hb)
    replace HH := Lib.hid (HH.out.keep hb)
    clear hb
    go_wp2
    go_ret
    exact ⟨ret_bool HE.out.symm, HB.out⟩
  | true =>
    have HMA := Lib.hid hma
    have HF := Lib.hid (model_facts hma)
    have HEQ := Lib.hid (show setsOkB s m sets = setsB m sets by unfold setsOkB; rw [hma, Bool.true_and])
    clear hma
    by_cases hlen : (sets.length : Int) = s.sorts
    · have e1 : ((sets.length : Int) != s.sorts) = false := by simp [hlen]
      have HLEN := Lib.hid (show sets.length = m.sizes.length by have := HF.out.sl; omega)
      have hs3 : sets.length ≤ 3 := by have := HLEN.out; have := HF.out.sorts; omega
      have HNO := Lib.hid (fun (k : Nat) (hk : k < sets.length) e => setsB_no2 (m := m) hk e)
      have HYE := Lib.hid (fun e => setsB_yes (m := m) HLEN.out e)
      clear hlen
      go_enter Try.func49, Try.ntmps49
      go_wp2_with fail
      clear hW
      refine (specModelOk_any s m _ _ _ Hs.out Hm.out).mono ?_
      rw [HMA.out]
      rintro x w1 ⟨rfl, hb⟩
      replace HB := Lib.hid (sz_keep HB.out hb)
      replace s0 := cell_keep hb s0
      replace s1 := cell_keep hb s1
      replace m0 := cell_keep hb m0
      replace m1 := cell_keep hb m1
      replace Hs := Lib.hid (Hs.out.keep hb)
      replace Hm := Lib.hid (Hm.out.keep hb)
      replace HH := Lib.hid (HH.out.keep hb)
      clear hb
      have HC := Lib.hid m0
      go_wp2
      clear s0 s1 m0 m1
      go_loopw [7] (fun i wr => ∃ k : Nat, k ≤ sets.length ∧ i = .int .i64 k ∧ allN (setB m sets) k = true ∧ Below w1.heap.size w1 wr) (fun i _ => sets.length - (intOf i).toNat)
      case atStart => exact ⟨0, Nat.zero_le _, rfl, rfl, Below.refl _ _⟩
      case round =>
        obtain ⟨k, hk, rfl, hall, hd⟩ := hrel
        have HALL := Lib.hid hall
        have HD := Lib.hid hd
        have m0 := cell_keep hd HC.out
        clear hall hd
        by_cases hlt : k < sets.length
        · have hlt' : (k : Int) < (sets.length : Int) := by omega
          have hkm : k < m.sizes.length := by have := HLEN.out; omega
          have hkm' : (k : Int) < (m.sizes.length : Int) := by omega
          obtain ⟨b, o, c', e, hx⟩ := (HH.out.keep HD.out).at_ hlt
          cases e
          obtain ⟨b5, o5, c5, e, hy⟩ := (Hm.out.of.1.keep HD.out).at_ hkm
          cases e
          have HT := Lib.hid (allN_succ (setB m sets) k)
          have HN := Lib.hid (fun e => HNO.out k hlt e)
          have HDE := Lib.hid (show setB m sets k = (decide (0 ≤ sets[k]) && decide (sets[k] < 2 ^ (m.sizes[k]).toNat)) by unfold setB; rw [getD_at _ hlt, getD_at _ hkm])
          rw [HDE.out] at HT HN
          have HZK := Lib.hid (HF.out.sz _ (List.getElem_mem hkm))
          generalize sets[k] = x at hx HT HN HDE
          generalize m.sizes[k] = z at hy HT HN HZK HDE
          have hz1 : (0 : Int) ≤ z := by have := HZK.out; omega
          have HPS := Lib.hid (pow_size HZK.out.1 HZK.out.2)
          have hsh := shl_wrap (v := z) (by omega) (by have := HZK.out; omega)
          have HPP : Hid ((1 : Int) ≤ 2 ^ z.toNat) := Lib.hid (by rcases (show z = 1 ∨ z = 2 ∨ z = 3 by have := HZK.out; omega) with rfl | rfl | rfl <;> decide)
          rw [← setB_inB] at HT HN
          generalize (2 : Int) ^ z.toNat = p at HT HN HDE hsh HPP HPS
          have hpw : IntKind.i64.wrap (p - 1) = p - 1 := by have := HPP.out; have := HPS.out; rw [IntKind.wrap_i64]; omega
          obtain ⟨r, hr⟩ : ∃ r, inB x 0 (p - 1) = r := ⟨_, rfl⟩
          rw [hr] at HT HN
          have HR := Lib.hid hr
          clear hr
          go_wp2_with fail
          refine wp_region_held_drew (S := (fun w' => w'.cell? ⟨b, o + k, none⟩ = some (.int .i64 x) ∧ w'.cell? ⟨w.heap.size + 1, 0, none⟩ = some (.slice (some ⟨b5, o5, none⟩) m.sizes.length cma) ∧ w'.cell? ⟨b5, o5 + k, none⟩ = some (.int .i64 z))) (by kernel_rfl) ?_ (fun hHeld => ?_)
          · exact ⟨hx, m0, hy⟩
          refine wpAnyH_take (i := 0) (oi := _) (v := ?_) rfl (by kernel_rfl) (by kernel_rfl) (by kernel_rfl) (fun _ _ _ h => h) (Or.inl ⟨by rfl, ?_⟩) (by assumption) ?_
          rotate_left
          · first | (intro w' hSw; (try dsimp only at hSw); go_simp; done) | (intro w' hSw; (try dsimp only at hSw); go_simp; with_reducible rfl)
          try simp only [Act.put, List.getElem_toArray, List.getElem_cons_zero, List.getElem_cons_succ, List.setIfInBounds_toArray, List.set_cons_zero, List.set_cons_succ]
          refine wpAnyH_take (i := 1) (oi := _) (v := ?_) rfl (by kernel_rfl) (by kernel_rfl) (by kernel_rfl) (fun _ _ _ h => h) (Or.inl ⟨by rfl, ?_⟩) (by assumption) ?_
          rotate_left
          · first | (intro w' hSw; (try dsimp only at hSw); go_simp; done) | (intro w' hSw; (try dsimp only at hSw); go_simp; with_reducible rfl)
          try simp only [Act.put, List.getElem_toArray, List.getElem_cons_zero, List.getElem_cons_succ, List.setIfInBounds_toArray, List.set_cons_zero, List.set_cons_succ]
          refine wpAnyH_take (i := 2) (oi := _) (v := ?_) rfl (by kernel_rfl) (by kernel_rfl) (by kernel_rfl) (fun _ _ _ h => h) (Or.inl ⟨by rfl, ?_⟩) (by assumption) ?_
          rotate_left
          · first | (intro w' hSw; (try dsimp only at hSw); go_simp; done) | (intro w' hSw; (try dsimp only at hSw); go_simp; with_reducible rfl)
          try simp only [Act.put, List.getElem_toArray, List.getElem_cons_zero, List.getElem_cons_succ, List.setIfInBounds_toArray, List.set_cons_zero, List.set_cons_succ]
          refine wpAnyH_take (i := 3) (oi := _) (v := ?_) rfl (by kernel_rfl) (by kernel_rfl) (by kernel_rfl) (fun _ _ _ h => h) (Or.inl ⟨by rfl, ?_⟩) (by assumption) ?_
          rotate_left
          · first | (intro w' hSw; (try dsimp only at hSw); go_simp; done) | (intro w' hSw; (try dsimp only at hSw); go_simp; with_reducible rfl)
          try simp only [Act.put, List.getElem_toArray, List.getElem_cons_zero, List.getElem_cons_succ, List.setIfInBounds_toArray, List.set_cons_zero, List.set_cons_succ]
          refine wpAnyH_take (i := 4) (oi := _) (v := ?_) rfl (by kernel_rfl) (by kernel_rfl) (by kernel_rfl) (fun _ _ _ h => h) (Or.inl ⟨by rfl, ?_⟩) (by assumption) ?_
          rotate_left
          · first | (intro w' hSw; (try dsimp only at hSw); go_simp; done) | (intro w' hSw; (try dsimp only at hSw); go_simp; with_reducible rfl)
          try simp only [Act.put, List.getElem_toArray, List.getElem_cons_zero, List.getElem_cons_succ, List.setIfInBounds_toArray, List.set_cons_zero, List.set_cons_succ]
          refine wpAnyH_take (i := 5) (oi := _) (v := ?_) rfl (by kernel_rfl) (by kernel_rfl) (by kernel_rfl) (fun _ _ _ h => h) (Or.inl ⟨by rfl, ?_⟩) (by assumption) ?_
          rotate_left
          · first | (intro w' hSw; (try dsimp only at hSw); go_simp; done) | (intro w' hSw; (try dsimp only at hSw); go_simp; with_reducible rfl)
          try simp only [Act.put, List.getElem_toArray, List.getElem_cons_zero, List.getElem_cons_succ, List.setIfInBounds_toArray, List.set_cons_zero, List.set_cons_succ]
          refine wpAnyH_take (i := 6) (oi := _) (v := ?_) rfl (by kernel_rfl) (by kernel_rfl) (by kernel_rfl) (fun _ _ _ h => h) (Or.inl ⟨by rfl, ?_⟩) (by assumption) ?_
          rotate_left
          · first | (intro w' hSw; (try dsimp only at hSw); go_simp; done) | (intro w' hSw; (try dsimp only at hSw); go_simp; with_reducible rfl)
          try simp only [Act.put, List.getElem_toArray, List.getElem_cons_zero, List.getElem_cons_succ, List.setIfInBounds_toArray, List.set_cons_zero, List.set_cons_succ]
          refine wpAnyH_take (i := 7) (oi := _) (v := ?_) rfl (by kernel_rfl) (by kernel_rfl) (by kernel_rfl) (fun _ _ _ h => h) (Or.inl ⟨by rfl, ?_⟩) (by assumption) ?_
          rotate_left
          · first | (intro w' hSw; (try dsimp only at hSw); go_simp; done) | (intro w' hSw; (try dsimp only at hSw); go_simp; with_reducible rfl)
          try simp only [Act.put, List.getElem_toArray, List.getElem_cons_zero, List.getElem_cons_succ, List.setIfInBounds_toArray, List.set_cons_zero, List.set_cons_succ]
          refine wpAnyH_take (i := 8) (oi := _) (v := ?_) rfl (by kernel_rfl) (by kernel_rfl) (by kernel_rfl) (fun _ _ _ h => h) (Or.inl ⟨by rfl, ?_⟩) (by assumption) ?_
          rotate_left
          · first | (intro w' hSw; (try dsimp only at hSw); go_simp; done) | (intro w' hSw; (try dsimp only at hSw); go_simp; with_reducible rfl)
          try simp only [Act.put, List.getElem_toArray, List.getElem_cons_zero, List.getElem_cons_succ, List.setIfInBounds_toArray, List.set_cons_zero, List.set_cons_succ]
          refine wpAnyH_take (i := 9) (oi := _) (v := ?_) rfl (by kernel_rfl) (by kernel_rfl) (by kernel_rfl) (fun _ _ _ h => h) (Or.inl ⟨by rfl, ?_⟩) (by assumption) ?_
          rotate_left
          · first | (intro w' hSw; (try dsimp only at hSw); go_simp; done) | (intro w' hSw; (try dsimp only at hSw); go_simp; with_reducible rfl)
          try simp only [Act.put, List.getElem_toArray, List.getElem_cons_zero, List.getElem_cons_succ, List.setIfInBounds_toArray, List.set_cons_zero, List.set_cons_succ]
          refine wpAnyH_take (i := 10) (oi := _) (v := ?_) rfl (by kernel_rfl) (by kernel_rfl) (by kernel_rfl) (fun _ _ _ h => h) (Or.inl ⟨by rfl, ?_⟩) (by assumption) ?_
          rotate_left
          · first | (intro w' hSw; (try dsimp only at hSw); go_simp; done) | (intro w' hSw; (try dsimp only at hSw); go_simp; with_reducible rfl)
          try simp only [Act.put, List.getElem_toArray, List.getElem_cons_zero, List.getElem_cons_succ, List.setIfInBounds_toArray, List.set_cons_zero, List.set_cons_succ]
          refine wpAnyH_ready (rs := [11]) (by kernel_rfl) (by simp) ?_
          refine AllReadyH.cons (o := _) rfl (fun K hK => ?_) AllReadyH.nil
          go_simp
          refine (l1In_is x 0 (p - 1) _ r HR.out).mono ?_
          rintro e w7 ⟨rfl, rfl⟩
          go_wp2_with fail
          refine hK.out _ _ ?_ (fun hHeld => ?_)
          · exact ⟨hx, m0, hy⟩
          clear hK K
          try simp only [Act.put, List.getElem_toArray, List.getElem_cons_zero, List.getElem_cons_succ, List.setIfInBounds_toArray, List.set_cons_zero, List.set_cons_succ]
          refine wpAnyH_take (i := 12) (oi := _) (v := ?_) rfl (by kernel_rfl) (by kernel_rfl) (by kernel_rfl) (fun _ _ _ h => h) (Or.inl ⟨by rfl, ?_⟩) (by assumption) ?_
          rotate_left
          · first | (intro w' hSw; (try dsimp only at hSw); go_simp; done) | (intro w' hSw; (try dsimp only at hSw); go_simp; with_reducible rfl)
          try simp only [Act.put, List.getElem_toArray, List.getElem_cons_zero, List.getElem_cons_succ, List.setIfInBounds_toArray, List.set_cons_zero, List.set_cons_succ]
          refine wpAnyH_done (by kernel_rfl) ?_ _
          clear hx m0 hy
          cases r with
          | true =>
            go_wp2
            go_roundw
            case rel => exact ⟨k + 1, by omega, by go_num, by rw [HT.out, HALL.out]; rfl, map_drew HD.out⟩
            case measure => simp [intOf]; omega
          | false =>
            have HFF := Lib.hid (HN.out rfl)
            go_wp2
            go_ret
            exact ⟨ret_bool (by rw [HEQ.out, HFF.out]), map_drew (sz_keep HB.out HD.out)⟩
        · have hkn : k = sets.length := by omega
          have hlt' : ¬ (k : Int) < (sets.length : Int) := by omega
          have HFF := Lib.hid (HYE.out (by rw [← hkn]; exact HALL.out))
          go_wp2
          go_ret
          exact ⟨ret_bool (by rw [HEQ.out, HFF.out]), sz_keep HB.out HD.out⟩
    · have e1 : ((sets.length : Int) != s.sorts) = true := by simpa using hlen
      have HE := Lib.hid (setsB_no1 (m := m) (sets := sets) (by have := HF.out.sl; omega))
      clear hlen
      go_enter Try.func49, Try.ntmps49
      go_wp2_with fail
      clear hW
      refine (specModelOk_any s m _ _ _ Hs.out Hm.out).mono ?_
      rw [HMA.out]
      rintro x w1 ⟨rfl, hb⟩
      replace HB := Lib.hid (sz_keep HB.out hb)
      replace s0 := cell_keep hb s0
      replace s1 := cell_keep hb s1
      replace m0 := cell_keep hb m0
      replace m1 := cell_keep hb m1
      replace Hs := Lib.hid (Hs.out.keep hb)
      replace Hm := Lib.hid (Hm.out.keep hb)
      replace HH := Lib.hid (HH.out.keep hb)
      clear hb
      go_wp2
      go_ret
      exact ⟨ret_bool (by rw [HEQ.out, HE.out]), HB.out⟩
end
end Go.Proofs.Ytfomeommkfemkaa
