/- Rows that lead values to values; what a map of models is (plain). No walk. · Classes of values, put into one until no operation leaves them apart: what comes of it is one alone (plain). No walk. · The first places of values in rows; kernels and images of maps of models (plain). No walk. · Sets of values, and what operations make of them (plain). No walk. · Classes put into one: where operations leave them apart, and the end of the loop (plain). No walk. · raisedRow, OpTakes of both packages. · OpTakes of both packages. · Rows led by a map: ledRow (impl), l4Row, l4Term (spec). · slices.Equal on rows of numbers. · l1Same: rows compared (package spec). -/
import Derived.Test.YticldaddbljleaaKdb902a81
import Derived.Deep.RegionHeld3
import Derived.Deep.OwnRows
import Derived.Deep.AppendLies
import Derived.Deep.DeepMust
namespace Go.Proofs.Yticldaddbljleaa
section
open Go.RowKit
set_option linter.unusedVariables false
set_option linter.unusedSimpArgs false

/-- all numbers below one -/
def allN (p : Nat → Bool) (n : Nat) : Bool := (List.range n).all p
theorem allN_zero (p : Nat → Bool) : allN p 0 = true := rfl
theorem allN_succ (p : Nat → Bool) (n : Nat) : allN p (n + 1) = (allN p n && p n) := by
  unfold allN; rw [List.range_succ, List.all_append]; simp
theorem allN_bad {p : Nat → Bool} {k n : Nat} (hk : k < n) (h : p k = false) : allN p n = false := by
  unfold allN; rw [List.all_eq_false]; exact ⟨k, List.mem_range.2 hk, by simp [h]⟩
theorem allN_at {p : Nat → Bool} {n : Nat} (h : allN p n = true) {k : Nat} (hk : k < n) : p k = true := by
  unfold allN at h; rw [List.all_eq_true] at h; exact h k (List.mem_range.2 hk)
theorem allN_iff {p : Nat → Bool} {n : Nat} : allN p n = true ↔ ∀ k, k < n → p k = true := by
  unfold allN; rw [List.all_eq_true]
  exact ⟨fun h k hk => h k (List.mem_range.2 hk), fun h k hk => h k (List.mem_range.1 hk)⟩

/-- what stands for a value of a sort -/
def ledOne (h : List (List Int)) (s v : Int) : Int := (h.getD s.toNat []).getD v.toNat 0
/-- what stands for each value of a row -/
def ledV (h : List (List Int)) (sorts vals : List Int) : List Int := List.zipWith (ledOne h) sorts vals
def VIn (h : List (List Int)) (sorts vals : List Int) : Prop := vals.length = sorts.length ∧ ∀ (j : Nat) (hj : j < sorts.length) (hj' : j < vals.length), 0 ≤ sorts[j] ∧ sorts[j] < (h.length : Int) ∧ 0 ≤ vals[j] ∧ vals[j] < ((h.getD (sorts[j]).toNat []).length : Int)
theorem ledV_len {h : List (List Int)} {sorts vals : List Int} (he : vals.length = sorts.length) : (ledV h sorts vals).length = vals.length := by
  unfold ledV; rw [List.length_zipWith]; omega
theorem ledV_at {h : List (List Int)} {sorts vals : List Int} {k : Nat} (h1 : k < sorts.length) (h2 : k < vals.length) (h3 : k < (ledV h sorts vals).length) : (ledV h sorts vals)[k] = ledOne h sorts[k] vals[k] := by
  show (List.zipWith (ledOne h) sorts vals)[k]'(by simpa [ledV] using h3) = _
  rw [List.getElem_zipWith]
theorem ledV_take {h : List (List Int)} {sorts vals : List Int} {k : Nat} (h1 : k < sorts.length) (h2 : k < vals.length) : ledV h (sorts.take (k + 1)) (vals.take (k + 1)) = ledV h (sorts.take k) (vals.take k) ++ [ledOne h sorts[k] vals[k]] := by
  unfold ledV
  rw [List.take_succ_eq_append_getElem h1, List.take_succ_eq_append_getElem h2, List.zipWith_append (by rw [List.length_take, List.length_take]; omega)]
  rfl
/-- as many numbers as values -/
def Lens (h : List (List Int)) (zs : List Int) : Prop := h.length = zs.length ∧ ∀ (k : Nat) (hk : k < zs.length), ((h.getD k []).length : Int) = zs[k]
/-- each number is a value -/
def Vals (h : List (List Int)) (ys : List Int) : Prop := ∀ (k : Nat), k < h.length → ∀ x ∈ h.getD k [], 0 ≤ x ∧ x < ys.getD k 0
theorem led_get {zs sorts : List Int} {j : Nat} (hj : j < sorts.length) (h1 : sorts[j] < 100) (h2 : j < (ledM zs sorts).length) : (ledM zs sorts)[j] = zs.getD (sorts[j]).toNat 0 := by
  have e := ledM_at (tq := zs) hj
  rw [List.getElem?_eq_getElem h2] at e
  injection e with e
  rw [e, if_pos h1]
theorem vin_of {h : List (List Int)} {zs sorts vals : List Int} (hl : Lens h zs) (hs : ∀ x ∈ sorts, 0 ≤ x ∧ x < (zs.length : Int)) (hz : zs.length ≤ 3) (hin : InAll (ledM zs sorts) vals) : VIn h sorts vals := by
  refine ⟨by rw [hin.1, ledM_len], fun j hj hj' => ?_⟩
  have a := hs _ (List.getElem_mem hj)
  have hj2 : j < (ledM zs sorts).length := by rw [ledM_len]; exact hj
  have b := hin.2 j hj2 hj'
  rw [led_get hj (by omega) hj2] at b
  have c := hl.2 (sorts[j]).toNat (by omega)
  rw [getD_at _ (show (sorts[j]).toNat < zs.length by omega)] at b
  have d := hl.1
  exact ⟨a.1, by omega, b.1, by omega⟩
theorem ledV_in {h : List (List Int)} {zs ys sorts vals : List Int} (hl : Lens h zs) (hv : Vals h ys) (hy : ys.length = zs.length) (hs : ∀ x ∈ sorts, 0 ≤ x ∧ x < (zs.length : Int)) (hz : zs.length ≤ 3) (hin : InAll (ledM zs sorts) vals) : InAll (ledM ys sorts) (ledV h sorts vals) := by
  have hvi := vin_of hl hs hz hin
  have hlv := ledV_len (h := h) hvi.1
  refine ⟨by rw [hlv, hvi.1, ledM_len], fun j h1 h2 => ?_⟩
  have hj : j < sorts.length := by rw [ledM_len] at h1; exact h1
  have hj' : j < vals.length := by rw [hlv] at h2; exact h2
  have a := hs _ (List.getElem_mem hj)
  rw [led_get hj (by omega) h1, ledV_at hj hj' h2]
  obtain ⟨b1, b2, b3, b4⟩ := hvi.2 j hj hj'
  have hk : (vals[j]).toNat < (h.getD (sorts[j]).toNat []).length := by omega
  unfold ledOne
  rw [getD_at _ hk]
  exact hv (sorts[j]).toNat (by omega) _ (List.getElem_mem hk)

/-- a row leads each value of a sort to a value -/
def homRow (a b : MModel) (h : List (List Int)) (k : Nat) : Bool := decide (((h.getD k []).length : Int) = a.sizes.getD k 0) && belowB (h.getD k []) (b.sizes.getD k 0)
/-- the same, told by the operation's sorts and tables -/
def homTo (a b : MModel) (h : List (List Int)) (takes : List Int) (last : Int) (ta tb : List Int) (n : Nat) : Bool := decide (tb.getD (placeM 0 (ledM b.sizes takes) (ledV h takes (digM (ledM a.sizes takes) n))).toNat 0 = ledOne h last (ta.getD n 0))
/-- an operation goes along, at one row of values -/
def homAt (s : MSig) (a b : MModel) (h : List (List Int)) (k n : Nat) : Bool := decide ((b.tables.getD k []).getD (placeM 0 (takenM s b k) (ledV h (opRow s k).dropLast (digM (takenM s a k) n))).toNat 0 = ledOne h ((opRow s k).getLastD (-1)) ((a.tables.getD k []).getD n 0))
theorem homAt_to (s : MSig) (a b : MModel) (h : List (List Int)) (k : Nat) : homAt s a b h k = homTo a b h (opRow s k).dropLast ((opRow s k).getLastD (-1)) (a.tables.getD k []) (b.tables.getD k []) := rfl
def homOp (s : MSig) (a b : MModel) (h : List (List Int)) (k : Nat) : Bool := allN (homAt s a b h k) (a.tables.getD k []).length
def homOps (s : MSig) (a b : MModel) (h : List (List Int)) : Bool := allN (homOp s a b h) s.ops.length
def homB (s : MSig) (a b : MModel) (h : List (List Int)) : Bool := (((modelB s a && modelB s b) && decide ((h.length : Int) = s.sorts)) && allN (homRow a b h) h.length) && homOps s a b h
theorem hom_no1 {s : MSig} {a b : MModel} {h : List (List Int)} (e : modelB s a = false) : homB s a b h = false := by unfold homB; simp [e]
theorem hom_no2 {s : MSig} {a b : MModel} {h : List (List Int)} (e : modelB s b = false) : homB s a b h = false := by unfold homB; simp [e]
theorem hom_no3 {s : MSig} {a b : MModel} {h : List (List Int)} (e : ¬ (h.length : Int) = s.sorts) : homB s a b h = false := by unfold homB; simp [e]
theorem hom_no4 {s : MSig} {a b : MModel} {h : List (List Int)} {k : Nat} (hk : k < h.length) (e : homRow a b h k = false) : homB s a b h = false := by unfold homB; simp [allN_bad hk e]
theorem hom_no5 {s : MSig} {a b : MModel} {h : List (List Int)} (e : homOps s a b h = false) : homB s a b h = false := by unfold homB; simp [e]
theorem hom_is {s : MSig} {a b : MModel} {h : List (List Int)} (h1 : modelB s a = true) (h2 : modelB s b = true) (h3 : (h.length : Int) = s.sorts) (h4 : allN (homRow a b h) h.length = true) : homB s a b h = homOps s a b h := by unfold homB; simp [h1, h2, h3, h4]
theorem homRow_no1 {a b : MModel} {h : List (List Int)} {k : Nat} (e : ¬ ((h.getD k []).length : Int) = a.sizes.getD k 0) : homRow a b h k = false := by unfold homRow; rw [decide_eq_false e, Bool.false_and]
theorem homRow_no2 {a b : MModel} {h : List (List Int)} {k : Nat} (e : belowB (h.getD k []) (b.sizes.getD k 0) = false) : homRow a b h k = false := by unfold homRow; rw [e, Bool.and_false]
theorem homRow_yes {a b : MModel} {h : List (List Int)} {k : Nat} (e1 : ((h.getD k []).length : Int) = a.sizes.getD k 0) (e : belowB (h.getD k []) (b.sizes.getD k 0) = true) : homRow a b h k = true := by unfold homRow; rw [e, decide_eq_true e1]; rfl
/-- what a map of models needs, its operations aside -/
structure HomRows (s : MSig) (a b : MModel) (h : List (List Int)) : Prop where
  fa : ModFacts s a
  fb : ModFacts s b
  le : Lens h a.sizes
  va : Vals h b.sizes
theorem hom_rows {s : MSig} {a b : MModel} {h : List (List Int)} (h1 : modelB s a = true) (h2 : modelB s b = true) (h3 : (h.length : Int) = s.sorts) (h4 : allN (homRow a b h) h.length = true) : HomRows s a b h := by
  have fa := model_facts h1
  have fb := model_facts h2
  have hsl := fa.sl
  have hsb := fb.sl
  refine ⟨fa, fb, ⟨by omega, fun k hk => ?_⟩, fun k hk x hx => ?_⟩
  · have := allN_at h4 (show k < h.length by omega)
    unfold homRow at this
    simp only [Bool.and_eq_true, decide_eq_true_eq] at this
    rw [this.1, getD_at _ hk]
  · have := allN_at h4 hk
    unfold homRow belowB at this
    simp only [Bool.and_eq_true, decide_eq_true_eq, List.all_eq_true] at this
    exact this.2 x hx
theorem hom_facts {s : MSig} {a b : MModel} {h : List (List Int)} (e : homB s a b h = true) : HomRows s a b h ∧ homOps s a b h = true := by
  unfold homB at e
  simp only [Bool.and_eq_true, decide_eq_true_eq] at e
  obtain ⟨⟨⟨⟨h1, h2⟩, h3⟩, h4⟩, h5⟩ := e
  exact ⟨hom_rows h1 h2 h3 h4, h5⟩
section
variable {s : MSig} {a b : MModel} {h : List (List Int)}
theorem ModFacts.row_in (f : ModFacts s a) {k : Nat} (hk : k < s.ops.length) : ∀ x ∈ (opRow s k).dropLast, 0 ≤ x ∧ x < (a.sizes.length : Int) := fun x hx => by
  have := (opRow_valid f.va hk).2.2 x (List.mem_of_mem_dropLast' hx)
  have := f.sl
  omega
theorem ModFacts.last_in (f : ModFacts s a) {k : Nat} (hk : k < s.ops.length) : 0 ≤ (opRow s k).getLastD (-1) ∧ (opRow s k).getLastD (-1) < (a.sizes.length : Int) := by
  obtain ⟨h1, h2, h3⟩ := opRow_valid f.va hk
  rw [last_at (by omega)]
  have := h3 _ (List.getElem_mem (show (opRow s k).length - 1 < (opRow s k).length by omega))
  have := f.sl
  omega
/-- an operation's sorts and table in a model -/
structure OpAt (s : MSig) (m : MModel) (takes : List Int) (last : Int) (table : List Int) : Prop where
  tin : ∀ x ∈ takes, 0 ≤ x ∧ x < (m.sizes.length : Int)
  tsm : takes.length ≤ 2
  lin : 0 ≤ last ∧ last < (m.sizes.length : Int)
  len : (table.length : Int) = waysM (ledM m.sizes takes)
  val : ∀ x ∈ table, 0 ≤ x ∧ x < m.sizes.getD last.toNat 0
  siz : Sizes (ledM m.sizes takes)
  into : InTo m.sizes takes
theorem OpAt.zlen {s : MSig} {m : MModel} {takes : List Int} {last : Int} {table : List Int} (o : OpAt s m takes last table) : (ledM m.sizes takes).length ≤ 4 := by rw [ledM_len]; have := o.tsm; omega
theorem OpAt.few {s : MSig} {m : MModel} {takes : List Int} {last : Int} {table : List Int} (o : OpAt s m takes last table) : table.length ≤ 81 := by have := o.len; have := ways_few o.siz o.zlen; omega
theorem ModFacts.op (f : ModFacts s a) {k : Nat} (hk : k < s.ops.length) : OpAt s a (opRow s k).dropLast ((opRow s k).getLastD (-1)) (a.tables.getD k []) := by
  obtain ⟨q1, q2, q3, q4⟩ := f.table hk
  obtain ⟨h1, h2, h3⟩ := opRow_valid f.va hk
  refine ⟨f.row_in hk, by rw [List.length_dropLast]; omega, f.last_in hk, by rw [q2]; exact q3, by rw [q2]; exact q4, (f.taken hk).1, f.into fun x hx => h3 x (List.mem_of_mem_dropLast' hx)⟩
theorem HomRows.in_ (r : HomRows s a b h) {k : Nat} (hk : k < s.ops.length) (n : Int) : VIn h (opRow s k).dropLast (digM (ledM a.sizes (opRow s k).dropLast) n) ∧ InAll (ledM b.sizes (opRow s k).dropLast) (ledV h (opRow s k).dropLast (digM (ledM a.sizes (opRow s k).dropLast) n)) := by
  have h3 := r.fa.sorts
  have h0 := dig_in (r.fa.taken hk).1 n
  have hab : b.sizes.length = a.sizes.length := by have := r.fa.sl; have := r.fb.sl; omega
  exact ⟨vin_of r.le (r.fa.row_in hk) h3.1 h0, ledV_in r.le r.va hab (r.fa.row_in hk) h3.1 h0⟩
end
end

section
open Go.RowKit
set_option linter.unusedVariables false
set_option linter.unusedSimpArgs false

/-- a value of a sort -/
def InM (m : MModel) (s v : Int) : Prop := 0 ≤ s ∧ s < (m.sizes.length : Int) ∧ 0 ≤ v ∧ v < m.sizes.getD s.toNat 0
/-- classes, told by their least values -/
structure Cls (m : MModel) (c : List (List Int)) : Prop where
  le : Lens c m.sizes
  lo : ∀ s v, InM m s v → 0 ≤ ledOne c s v ∧ ledOne c s v ≤ v
  fix : ∀ s v, InM m s v → ledOne c s (ledOne c s v) = ledOne c s v
theorem Cls.in_ {m : MModel} {c : List (List Int)} (h : Cls m c) {s v : Int} (i : InM m s v) : InM m s (ledOne c s v) := ⟨i.1, i.2.1, (h.lo s v i).1, by have := (h.lo s v i).2; have := i.2.2.2; omega⟩
def joinRow (row : List Int) (x y : Int) : List Int := row.map fun v => if v = max (row.getD x.toNat 0) (row.getD y.toNat 0) then min (row.getD x.toNat 0) (row.getD y.toNat 0) else v
def joinM (c : List (List Int)) (s x y : Int) : List (List Int) := c.set s.toNat (joinRow (c.getD s.toNat []) x y)
theorem joinRow_len (row : List Int) (x y : Int) : (joinRow row x y).length = row.length := by simp [joinRow]
theorem joinM_len (c : List (List Int)) (s x y : Int) : (joinM c s x y).length = c.length := by simp [joinM]
theorem lens_in {m : MModel} {c : List (List Int)} (h : Lens c m.sizes) {s v : Int} (i : InM m s v) : s.toNat < c.length ∧ v.toNat < (c.getD s.toNat []).length := by
  have h1 := h.1
  have hs : s.toNat < m.sizes.length := by have := i.1; have := i.2.1; omega
  have h2 := h.2 s.toNat hs
  have h3 := i.2.2.2
  rw [getD_at _ hs] at h3
  have := i.2.2.1
  exact ⟨by omega, by omega⟩
theorem led_join {m : MModel} {c : List (List Int)} (h : Lens c m.sizes) {s x y : Int} (hs0 : 0 ≤ s) {s' v : Int} (i : InM m s' v) :
    ledOne (joinM c s x y) s' v = if s' = s then (if ledOne c s v = max (ledOne c s x) (ledOne c s y) then min (ledOne c s x) (ledOne c s y) else ledOne c s v) else ledOne c s' v := by
  obtain ⟨h1, h2⟩ := lens_in h i
  unfold joinM
  by_cases e : s' = s
  · subst e
    rw [if_pos rfl]
    show ((c.set s'.toNat _).getD s'.toNat []).getD v.toNat 0 = _
    rw [getD_at ([] : List Int) (show s'.toNat < (c.set s'.toNat _).length by rw [List.length_set]; exact h1), List.getElem_set_self, getD_at _ (by rw [joinRow_len]; exact h2)]
    simp only [joinRow, List.getElem_map]
    unfold ledOne
    rw [getD_at 0 h2]
  · rw [if_neg e]
    show ((c.set s.toNat _).getD s'.toNat []).getD v.toNat 0 = _
    have hne : s.toNat ≠ s'.toNat := by have := i.1; omega
    rw [getD_at ([] : List Int) (show s'.toNat < (c.set s.toNat _).length by rw [List.length_set]; exact h1), List.getElem_set_ne hne]
    unfold ledOne
    rw [getD_at [] h1]
theorem lens_join {m : MModel} {c : List (List Int)} (h : Lens c m.sizes) (s x y : Int) : Lens (joinM c s x y) m.sizes := by
  refine ⟨by rw [joinM_len]; exact h.1, fun k hk => ?_⟩
  have h1 := h.2 k hk
  have hkc : k < c.length := by have := h.1; omega
  unfold joinM
  by_cases e : s.toNat = k
  · subst e
    rw [getD_at _ (by rw [List.length_set]; exact hkc), List.getElem_set_self, joinRow_len]
    exact h1
  · rw [getD_at _ (by rw [List.length_set]; exact hkc), List.getElem_set_ne e]
    rw [getD_at _ hkc] at h1
    exact h1
theorem Cls.join {m : MModel} {c : List (List Int)} (h : Cls m c) {s x y : Int} (ix : InM m s x) (iy : InM m s y) : Cls m (joinM c s x y) := by
  have lj := fun {s' v : Int} (i : InM m s' v) => led_join h.le (x := x) (y := y) ix.1 i
  have hx := h.lo s x ix
  have hy := h.lo s y iy
  have lo' : ∀ s' v, InM m s' v → 0 ≤ ledOne (joinM c s x y) s' v ∧ ledOne (joinM c s x y) s' v ≤ v := fun s' v i => by
    rw [lj i]
    by_cases e : s' = s
    · subst e
      rw [if_pos rfl]
      have := h.lo s' v i
      split <;> omega
    · rw [if_neg e]; exact h.lo s' v i
  refine ⟨lens_join h.le s x y, lo', fun s' v i => ?_⟩
  have i' : InM m s' (ledOne (joinM c s x y) s' v) := ⟨i.1, i.2.1, (lo' s' v i).1, by have := (lo' s' v i).2; have := i.2.2.2; omega⟩
  rw [lj i', lj i]
  by_cases e : s' = s
  · subst e
    simp only [if_pos]
    have fx := h.fix s' x ix
    have fy := h.fix s' y iy
    have fv := h.fix s' v i
    by_cases ev : ledOne c s' v = max (ledOne c s' x) (ledOne c s' y)
    · rw [if_pos ev]
      have hm : ledOne c s' (min (ledOne c s' x) (ledOne c s' y)) = min (ledOne c s' x) (ledOne c s' y) := by
        rcases Int.le_total (ledOne c s' x) (ledOne c s' y) with q | q
        · rw [Int.min_eq_left q, fx]
        · rw [Int.min_eq_right q, fy]
      rw [hm]
      split
      · rfl
      · rfl
    · rw [if_neg ev, fv, if_neg ev]
  · simp only [if_neg e]
    exact h.fix s' v i
/-- what is one stays one -/
theorem join_stays {m : MModel} {c : List (List Int)} (h : Lens c m.sizes) {s x y : Int} (hs0 : 0 ≤ s) {s' v u : Int} (iv : InM m s' v) (iu : InM m s' u) (e : ledOne c s' v = ledOne c s' u) : ledOne (joinM c s x y) s' v = ledOne (joinM c s x y) s' u := by
  rw [led_join h hs0 iv, led_join h hs0 iu]
  by_cases es : s' = s
  · subst es; simp only [if_pos, e]
  · simp only [if_neg es]; exact e
theorem join_one {m : MModel} {c : List (List Int)} (h : Lens c m.sizes) {s x y : Int} (ix : InM m s x) (iy : InM m s y) : ledOne (joinM c s x y) s x = ledOne (joinM c s x y) s y := by
  rw [led_join h ix.1 ix, led_join h ix.1 iy]
  simp only [if_pos]
  split <;> split <;> omega
/-- coarser classes -/
def Into (m : MModel) (c d : List (List Int)) : Prop := ∀ s v, InM m s v → ledOne d s (ledOne c s v) = ledOne d s v
theorem Into.join {m : MModel} {c d : List (List Int)} (h : Into m c d) (hc : Cls m c) {s x y : Int} (ix : InM m s x) (iy : InM m s y) (e : ledOne d s x = ledOne d s y) : Into m (joinM c s x y) d := by
  intro s' v i
  rw [led_join hc.le ix.1 i]
  by_cases es : s' = s
  · subst es
    simp only [if_pos]
    have hx := h s' x ix
    have hy := h s' y iy
    have hv := h s' v i
    by_cases ev : ledOne c s' v = max (ledOne c s' x) (ledOne c s' y)
    · rw [if_pos ev]
      rw [ev] at hv
      rcases Int.le_total (ledOne c s' x) (ledOne c s' y) with q | q
      · rw [Int.min_eq_left q]; rw [Int.max_eq_right q] at hv; rw [hx, e, ← hy, hv]
      · rw [Int.min_eq_right q]; rw [Int.max_eq_left q] at hv; rw [hy, ← e, ← hx, hv]
    · rw [if_neg ev]; exact hv
  · rw [if_neg es]; exact h s' v i
/-- an operation leaves the same class of a row and of the row of its least values -/
def sameAt (m : MModel) (c : List (List Int)) (takes : List Int) (last : Int) (table : List Int) (n : Nat) : Bool := decide (ledOne c last (table.getD n 0) = ledOne c last (table.getD (placeM 0 (ledM m.sizes takes) (ledV c takes (digM (ledM m.sizes takes) n))).toNat 0))
def sameOp (s : MSig) (m : MModel) (c : List (List Int)) (k : Nat) : Nat → Bool := sameAt m c (opRow s k).dropLast ((opRow s k).getLastD (-1)) (m.tables.getD k [])
def Shut (s : MSig) (m : MModel) (c : List (List Int)) : Prop := ∀ k n, k < s.ops.length → n < (m.tables.getD k []).length → sameOp s m c k n = true
structure Least (s : MSig) (m : MModel) (s0 x0 y0 : Int) (c : List (List Int)) : Prop where
  cls : Cls m c
  one : ledOne c s0 x0 = ledOne c s0 y0
  min : ∀ d, Cls m d → Shut s m d → ledOne d s0 x0 = ledOne d s0 y0 → Into m c d
theorem Least.same {s : MSig} {m : MModel} {s0 x0 y0 : Int} {c d : List (List Int)} (h : Least s m s0 x0 y0 c) (hs : Shut s m c) (k : Least s m s0 x0 y0 d) (ks : Shut s m d) : c = d := by
  have h1 := h.min d k.cls ks k.one
  have h2 := k.min c h.cls hs h.one
  have hl : c.length = d.length := by rw [h.cls.le.1, k.cls.le.1]
  apply List.ext_getElem hl
  intro i hi hi'
  have him : i < m.sizes.length := by rw [← h.cls.le.1]; exact hi
  have hc := h.cls.le.2 i him
  have hd := k.cls.le.2 i him
  rw [getD_at _ hi] at hc
  rw [getD_at _ hi'] at hd
  apply List.ext_getElem (by omega)
  intro j hj hj'
  have ij : InM m (i : Int) (j : Int) := ⟨by omega, by omega, by omega, by rw [Int.toNat_natCast, getD_at _ him]; omega⟩
  have e1 : ledOne c (i : Int) (j : Int) = c[i][j] := by unfold ledOne; rw [Int.toNat_natCast, Int.toNat_natCast, getD_at _ hi, getD_at _ hj]
  have e2 : ledOne d (i : Int) (j : Int) = d[i][j] := by unfold ledOne; rw [Int.toNat_natCast, Int.toNat_natCast, getD_at _ hi', getD_at _ hj']
  have a := h1 _ _ ij
  have b := h2 _ _ ij
  have la := (k.cls.lo _ _ (h.cls.in_ ij)).2
  have lb := (h.cls.lo _ _ (k.cls.in_ ij)).2
  rw [a] at la
  rw [b] at lb
  rw [← e1, ← e2]
  omega
end

section
open Go.RowKit
set_option linter.unusedVariables false
set_option linter.unusedSimpArgs false

def firstIx (row : List Int) (v : Int) : Int := if v ∈ row then (row.idxOf v : Int) else -1
theorem firstIx_hit {row : List Int} {v : Int} {k : Nat} (hk : k < row.length) (hn : v ∉ row.take k) (he : row[k] = v) : firstIx row v = k := by
  have hm : v ∈ row := he ▸ List.getElem_mem hk
  unfold firstIx
  rw [if_pos hm]
  have hs : row = row.take k ++ (v :: row.drop (k + 1)) := by
    rw [← he, ← List.drop_eq_getElem_cons hk, List.take_append_drop]
  have : row.idxOf v = k := by
    conv => lhs; rw [hs]
    rw [List.idxOf_append, if_neg hn, List.idxOf_cons_self, List.length_take]
    omega
  rw [this]
theorem firstIx_none {row : List Int} {v : Int} (hn : v ∉ row) : firstIx row v = -1 := by unfold firstIx; rw [if_neg hn]
theorem not_take {row : List Int} {v : Int} {k : Nat} (hk : k < row.length) (hn : v ∉ row.take k) (he : row[k] ≠ v) : v ∉ row.take (k + 1) := by
  rw [List.take_succ_eq_append_getElem hk]
  simp only [List.mem_append, List.mem_singleton, not_or]
  exact ⟨hn, fun e => he e.symm⟩
def placesM (row vals : List Int) : List Int := vals.map (firstIx row)
theorem placesM_len (row vals : List Int) : (placesM row vals).length = vals.length := by simp [placesM]
theorem placesM_at {row vals : List Int} {k : Nat} (hk : k < vals.length) (h : k < (placesM row vals).length) : (placesM row vals)[k] = firstIx row vals[k] := by simp [placesM]
theorem placesM_take {row vals : List Int} {k : Nat} (hk : k < vals.length) : placesM row (vals.take (k + 1)) = placesM row (vals.take k) ++ [firstIx row vals[k]] := by
  unfold placesM; rw [List.take_succ_eq_append_getElem hk, List.map_append]; rfl
def kernelM (s : MSig) (a b : MModel) (h : List (List Int)) : List (List Int) := if homB s a b h then h.map (fun r => placesM r r) else []
theorem kernel_no {s : MSig} {a b : MModel} {h : List (List Int)} (e : homB s a b h = false) : kernelM s a b h = [] := by unfold kernelM; rw [e]; rfl
theorem kernel_yes {s : MSig} {a b : MModel} {h : List (List Int)} (e : homB s a b h = true) : kernelM s a b h = h.map (fun r => placesM r r) := by unfold kernelM; rw [e]; rfl

/-- a set and one value more -/
def addV (set v : Int) : Int := if set / 2 ^ v.toNat % 2 = 0 then set + 2 ^ v.toNat else set
theorem shl_pow {v : Int} (h0 : 0 ≤ v) (h3 : v ≤ 3) : wrap64 (2 ^ min v.toNat 64) = 2 ^ v.toNat := by
  rcases (show v = 0 ∨ v = 1 ∨ v = 2 ∨ v = 3 by omega) with rfl | rfl | rfl | rfl <;> simp [wrap64]
theorem shl_wrap {v : Int} (h0 : 0 ≤ v) (h3 : v ≤ 3) : IntKind.i64.wrap (2 ^ min v.toNat 64) = 2 ^ v.toNat := by
  rcases (show v = 0 ∨ v = 1 ∨ v = 2 ∨ v = 3 by omega) with rfl | rfl | rfl | rfl <;> simp [IntKind.wrap_i64]
def setM (row : List Int) : Int := row.foldl addV 0
theorem setM_take {row : List Int} {k : Nat} (hk : k < row.length) : setM (row.take (k + 1)) = addV (setM (row.take k)) row[k] := by
  unfold setM; rw [List.take_succ_eq_append_getElem hk, List.foldl_append]; rfl
theorem val3 {v : Int} (h0 : 0 ≤ v) (h1 : v < 3) : v = 0 ∨ v = 1 ∨ v = 2 := by omega
theorem set8 {x : Int} (h0 : 0 ≤ x) (h1 : x < 8) : x = 0 ∨ x = 1 ∨ x = 2 ∨ x = 3 ∨ x = 4 ∨ x = 5 ∨ x = 6 ∨ x = 7 := by omega
theorem addV_in {x v : Int} (h0 : 0 ≤ x) (h1 : x < 8) (h2 : 0 ≤ v) (h3 : v < 3) : 0 ≤ addV x v ∧ addV x v < 8 := by
  rcases val3 h2 h3 with rfl | rfl | rfl <;> rcases set8 h0 h1 with rfl | rfl | rfl | rfl | rfl | rfl | rfl | rfl <;> decide
theorem setM_in {row : List Int} (h : ∀ x ∈ row, 0 ≤ x ∧ x < 3) : 0 ≤ setM row ∧ setM row < 8 := by
  have : ∀ (row : List Int) (x : Int), (∀ y ∈ row, 0 ≤ y ∧ y < 3) → 0 ≤ x → x < 8 → 0 ≤ row.foldl addV x ∧ row.foldl addV x < 8 := by
    intro row
    induction row with
    | nil => intro x _ a b; exact ⟨a, b⟩
    | cons y row ih =>
      intro x hx a b
      have hy := hx y (List.mem_cons_self ..)
      have := addV_in a b hy.1 hy.2
      exact ih _ (fun z hz => hx z (List.mem_cons_of_mem _ hz)) this.1 this.2
  exact this row 0 h (by omega) (by omega)
def imageM (s : MSig) (a b : MModel) (h : List (List Int)) : List Int := if homB s a b h then h.map setM else []
theorem image_no {s : MSig} {a b : MModel} {h : List (List Int)} (e : homB s a b h = false) : imageM s a b h = [] := by unfold imageM; rw [e]; rfl
theorem image_yes {s : MSig} {a b : MModel} {h : List (List Int)} (e : homB s a b h = true) : imageM s a b h = h.map setM := by unfold imageM; rw [e]; rfl
/-- what a map of models is made of -/
structure HomUse (s : MSig) (b : MModel) (h : List (List Int)) : Prop where
  sor : (h.length : Int) = s.sorts
  few : h.length ≤ 3
  row : ∀ (k : Nat) (hk : k < h.length), (h[k]).length ≤ 3 ∧ ∀ x ∈ h[k], 0 ≤ x ∧ x < 3
theorem hom_use {s : MSig} {a b : MModel} {h : List (List Int)} (e : homB s a b h = true) : HomUse s b h := by
  obtain ⟨r, -⟩ := hom_facts e
  have h1 := r.fa.sl
  have h2 := r.le.1
  have h3 := r.fa.sorts
  refine ⟨by omega, by omega, fun k hk => ?_⟩
  have hka : k < a.sizes.length := by omega
  have hkb : k < b.sizes.length := by have := r.fb.sl; omega
  have l := r.le.2 k hka
  have v := r.va k hk
  rw [getD_at _ hk] at l v
  rw [getD_at _ hkb] at v
  have za := r.fa.sz _ (List.getElem_mem hka)
  have zb := r.fb.sz _ (List.getElem_mem hkb)
  exact ⟨by omega, fun x hx => by have := v x hx; omega⟩
end

section
open Go.RowKit
set_option linter.unusedVariables false
set_option linter.unusedSimpArgs false

def hasB (set v : Int) : Bool := decide (set / 2 ^ v.toNat % 2 = 1)
def haveOne (sets : List Int) (s v : Int) : Bool := hasB (sets.getD s.toNat 0) v
/-- the first n values are in their sets -/
def haveB (sets takes vals : List Int) (n : Nat) : Bool := allN (fun j => haveOne sets (takes.getD j 0) (vals.getD j 0)) n
/-- what one row of values adds -/
def addAt (zs takes : List Int) (last : Int) (table : List Int) (j : Nat) (st : List Int × Bool) : List Int × Bool :=
  if !haveOne st.1 last (table.getD j 0) && haveB st.1 takes (digM zs j) takes.length then (st.1.set last.toNat (st.1.getD last.toNat 0 + 2 ^ (table.getD j 0).toNat), true) else st
def addRows (zs takes : List Int) (last : Int) (table : List Int) (n : Nat) (st : List Int × Bool) : List Int × Bool := (List.range n).foldl (fun st j => addAt zs takes last table j st) st
theorem addRows_zero (zs takes : List Int) (last : Int) (table : List Int) (st : List Int × Bool) : addRows zs takes last table 0 st = st := rfl
theorem addRows_succ (zs takes : List Int) (last : Int) (table : List Int) (n : Nat) (st : List Int × Bool) : addRows zs takes last table (n + 1) st = addAt zs takes last table n (addRows zs takes last table n st) := by
  unfold addRows; rw [List.range_succ, List.foldl_append]; rfl
def addOp (s : MSig) (m : MModel) (k : Nat) (st : List Int × Bool) : List Int × Bool := addRows (ledM m.sizes (opRow s k).dropLast) (opRow s k).dropLast ((opRow s k).getLastD (-1)) (m.tables.getD k []) (m.tables.getD k []).length st
def addOps (s : MSig) (m : MModel) (n : Nat) (st : List Int × Bool) : List Int × Bool := (List.range n).foldl (fun st k => addOp s m k st) st
theorem addOps_zero (s : MSig) (m : MModel) (st : List Int × Bool) : addOps s m 0 st = st := rfl
theorem addOps_succ (s : MSig) (m : MModel) (n : Nat) (st : List Int × Bool) : addOps s m (n + 1) st = addOp s m n (addOps s m n st) := by
  unfold addOps; rw [List.range_succ, List.foldl_append]; rfl
/-- all operations once -/
def roundM (s : MSig) (m : MModel) (sets : List Int) : List Int × Bool := addOps s m s.ops.length (sets, false)
def closeM (s : MSig) (m : MModel) : Nat → List Int → List Int
  | 0, sets => sets
  | f + 1, sets => if (roundM s m sets).2 then closeM s m f (roundM s m sets).1 else (roundM s m sets).1
/-- a set for each sort -/
structure SetsIn (m : MModel) (sets : List Int) : Prop where
  len : sets.length = m.sizes.length
  val : ∀ (k : Nat) (hk : k < sets.length), 0 ≤ sets[k] ∧ sets[k] < 2 ^ (m.sizes.getD k 0).toNat
def setB (m : MModel) (sets : List Int) (k : Nat) : Bool := decide (0 ≤ sets.getD k 0) && decide (sets.getD k 0 < 2 ^ (m.sizes.getD k 0).toNat)
def setsB (m : MModel) (sets : List Int) : Bool := decide (sets.length = m.sizes.length) && allN (setB m sets) sets.length
theorem setsB_iff {m : MModel} {sets : List Int} : setsB m sets = true ↔ SetsIn m sets := by
  unfold setsB
  rw [Bool.and_eq_true, decide_eq_true_eq, allN_iff]
  constructor
  · rintro ⟨h1, h2⟩
    refine ⟨h1, fun k hk => ?_⟩
    have := h2 k hk
    unfold setB at this
    rw [Bool.and_eq_true, decide_eq_true_eq, decide_eq_true_eq, getD_at _ hk] at this
    exact this
  · rintro ⟨h1, h2⟩
    refine ⟨h1, fun k hk => ?_⟩
    unfold setB
    rw [Bool.and_eq_true, decide_eq_true_eq, decide_eq_true_eq, getD_at _ hk]
    exact h2 k hk
theorem setsB_no1 {m : MModel} {sets : List Int} (h : ¬ sets.length = m.sizes.length) : setsB m sets = false := by unfold setsB; rw [decide_eq_false h, Bool.false_and]
theorem setsB_no2 {m : MModel} {sets : List Int} {k : Nat} (hk : k < sets.length) (h : setB m sets k = false) : setsB m sets = false := by unfold setsB; rw [allN_bad hk h, Bool.and_false]
theorem setsB_yes {m : MModel} {sets : List Int} (h1 : sets.length = m.sizes.length) (h : allN (setB m sets) sets.length = true) : setsB m sets = true := by unfold setsB; rw [h, decide_eq_true h1]; rfl
theorem pow_size {z : Int} (h0 : 1 ≤ z) (h1 : z ≤ 3) : (2 : Int) ^ z.toNat ≤ 8 := by
  rcases (show z = 1 ∨ z = 2 ∨ z = 3 by omega) with rfl | rfl | rfl <;> decide
theorem pow_in {v : Int} (h0 : 0 ≤ v) (h3 : v < 3) : 1 ≤ (2 : Int) ^ v.toNat ∧ (2 : Int) ^ v.toNat ≤ 4 := by
  rcases val3 h0 h3 with rfl | rfl | rfl <;> decide
theorem dig_three {zs : List Int} (hz : Sizes zs) (n : Int) : ∀ x ∈ digM zs n, 0 ≤ x ∧ x < 3 := by
  intro x hx
  obtain ⟨k, hk, rfl⟩ := List.getElem_of_mem hx
  have h := dig_in hz n
  have hk' : k < zs.length := by rw [← h.1]; exact hk
  have := h.2 k hk' hk
  have := hz _ (List.getElem_mem hk')
  omega
theorem shl_add {x v : Int} (h0 : 0 ≤ x) (h1 : x < 8) (h2 : 0 ≤ v) (h3 : v < 3) : wrap64 (x + wrap64 (2 ^ v.toNat)) = x + 2 ^ v.toNat := by
  rcases val3 h2 h3 with rfl | rfl | rfl <;> simp [wrap64] <;> omega
theorem add_new {x v z : Int} (h0 : 0 ≤ x) (h2 : 0 ≤ v) (h3 : v < z) (hz : z ≤ 3) (hx : x < 2 ^ z.toNat) (hn : hasB x v = false) : x < x + 2 ^ v.toNat ∧ x + 2 ^ v.toNat < 2 ^ z.toNat := by
  rcases (show z = 1 ∨ z = 2 ∨ z = 3 by omega) with rfl | rfl | rfl <;> rcases val3 h2 (by omega) with rfl | rfl | rfl <;> (try omega) <;> rcases set8 h0 (by have : (2 : Int) ^ (1 : Int).toNat = 2 := by decide
                                                                                                                                                              have : (2 : Int) ^ (2 : Int).toNat = 4 := by decide
                                                                                                                                                              have : (2 : Int) ^ (3 : Int).toNat = 8 := by decide
                                                                                                                                                              omega) with rfl | rfl | rfl | rfl | rfl | rfl | rfl | rfl <;> revert hn hx <;> decide
section
variable {s : MSig} {m : MModel}
theorem SetsIn.small (f : ModFacts s m) {sets : List Int} (h : SetsIn m sets) {k : Nat} (hk : k < sets.length) : 0 ≤ sets[k] ∧ sets[k] < 8 := by
  have := h.val k hk
  have hk' : k < m.sizes.length := by rw [← h.len]; exact hk
  rw [getD_at _ hk'] at this
  have z := f.sz _ (List.getElem_mem hk')
  have := pow_size z.1 z.2
  omega
def total (sets : List Int) : Int := sets.foldl (· + ·) 0
theorem foldl_add (xs : List Int) (a : Int) : xs.foldl (· + ·) a = a + total xs := by
  unfold total
  induction xs generalizing a with
  | nil => simp
  | cons x xs ih => simp only [List.foldl_cons]; rw [ih (a + x), ih (0 + x)]; omega
theorem total_cons (x : Int) (xs : List Int) : total (x :: xs) = x + total xs := by
  have := foldl_add xs (0 + x)
  unfold total at this ⊢
  simp only [List.foldl_cons]
  rw [this]; omega
theorem total_set : ∀ {xs : List Int} {k : Nat} (hk : k < xs.length) (y : Int), total (xs.set k y) = total xs - xs[k] + y
  | x :: xs, 0, _, y => by simp only [List.set_cons_zero, total_cons, List.getElem_cons_zero]; omega
  | x :: xs, k + 1, hk, y => by
    simp only [List.set_cons_succ, total_cons, List.getElem_cons_succ]
    rw [total_set (xs := xs) (by simpa using hk) y]; omega
theorem total_le : ∀ {xs : List Int}, (∀ x ∈ xs, 0 ≤ x ∧ x < 8) → 0 ≤ total xs ∧ total xs ≤ 7 * xs.length
  | [], _ => by simp [total]
  | x :: xs, h => by
    have a := h x (List.mem_cons_self ..)
    have b := total_le (xs := xs) (fun y hy => h y (List.mem_cons_of_mem _ hy))
    rw [total_cons, List.length_cons]
    omega
/-- what a row of values adds keeps sets, and adds to their sum if it tells so -/
structure Grows (m : MModel) (a b : List Int × Bool) : Prop where
  ok : SetsIn m b.1
  le : total a.1 ≤ total b.1
  up : b.2 = true → a.2 = true ∨ total a.1 < total b.1
  fl : a.2 = true → b.2 = true
  st : b.2 = false → b.1 = a.1
theorem Grows.refl {a : List Int × Bool} (h : SetsIn m a.1) : Grows m a a := ⟨h, Int.le_refl _, fun h => .inl h, fun h => h, fun _ => rfl⟩
theorem Grows.trans {a b c : List Int × Bool} (h : Grows m a b) (g : Grows m b c) : Grows m a c := by
  refine ⟨g.ok, Int.le_trans h.le g.le, fun hc => ?_, fun ha => g.fl (h.fl ha), fun hc => ?_⟩
  · rcases g.up hc with hb | hb
    · rcases h.up hb with ha | ha
      · exact .inl ha
      · exact .inr (Int.lt_of_lt_of_le ha g.le)
    · exact .inr (Int.lt_of_le_of_lt h.le hb)
  · have hb : b.2 = false := by cases hb : b.2 with
      | false => rfl
      | true => rw [g.fl hb] at hc; cases hc
    rw [g.st hc, h.st hb]
theorem addAt_grows (f : ModFacts s m) {takes : List Int} {last : Int} {table : List Int} (o : OpAt s m takes last table) {zs : List Int} {j : Nat} (hj : j < table.length) {st : List Int × Bool} (h : SetsIn m st.1) :
    Grows m st (addAt zs takes last table j st) := by
  unfold addAt
  split
  · rename_i hc
    rw [Bool.and_eq_true] at hc
    have hn : haveOne st.1 last (table.getD j 0) = false := by simpa using hc.1
    have hl := o.lin
    have hlk : last.toNat < st.1.length := by rw [h.len]; omega
    have hlm : last.toNat < m.sizes.length := by omega
    rw [getD_at _ hj] at *
    have hv := o.val _ (List.getElem_mem hj)
    rw [getD_at _ hlm] at hv
    have hx := h.val _ hlk
    rw [getD_at _ hlm] at hx
    unfold haveOne at hn
    rw [getD_at _ hlk] at *
    have hz := f.sz _ (List.getElem_mem hlm)
    obtain ⟨n1, n2⟩ := add_new hx.1 hv.1 hv.2 hz.2 hx.2 hn
    refine ⟨⟨by simp [h.len], fun k hk => ?_⟩, ?_, fun _ => .inr ?_, fun _ => rfl, fun e => by cases e⟩
    · simp only [List.length_set] at hk
      simp only [List.getElem_set]
      split
      · rename_i e
        subst e
        rw [getD_at _ hlm]
        omega
      · exact h.val k hk
    · simp only; rw [total_set hlk]; omega
    · simp only; rw [total_set hlk]; omega
  · exact Grows.refl h
theorem addRows_grows (f : ModFacts s m) {takes : List Int} {last : Int} {table : List Int} (o : OpAt s m takes last table) {zs : List Int} {st : List Int × Bool} (h : SetsIn m st.1) : ∀ n, n ≤ table.length → Grows m st (addRows zs takes last table n st) := by
  intro n
  induction n with
  | zero => intro _; exact Grows.refl h
  | succ n ih =>
    intro hn
    have g := ih (by omega)
    rw [addRows_succ]
    exact g.trans (addAt_grows f o (by omega) g.ok)
theorem addOps_grows (f : ModFacts s m) {st : List Int × Bool} (h : SetsIn m st.1) : ∀ n, n ≤ s.ops.length → Grows m st (addOps s m n st) := by
  intro n
  induction n with
  | zero => intro _; exact Grows.refl h
  | succ n ih =>
    intro hn
    have g := ih (by omega)
    rw [addOps_succ]
    exact g.trans (addRows_grows f (f.op (by omega)) g.ok _ (Nat.le_refl _))
theorem roundM_grows (f : ModFacts s m) {sets : List Int} (h : SetsIn m sets) : SetsIn m (roundM s m sets).1 ∧ ((roundM s m sets).2 = true → total sets < total (roundM s m sets).1) ∧ ((roundM s m sets).2 = false → (roundM s m sets).1 = sets) := by
  have g := addOps_grows f (st := (sets, false)) h s.ops.length (Nat.le_refl _)
  refine ⟨g.ok, fun e => ?_, g.st⟩
  rcases g.up e with x | x
  · cases x
  · exact x
theorem total_21 (f : ModFacts s m) {sets : List Int} (h : SetsIn m sets) : 0 ≤ total sets ∧ total sets ≤ 21 := by
  have := total_le (xs := sets) (fun x hx => by obtain ⟨k, hk, rfl⟩ := List.getElem_of_mem hx; exact h.small f hk)
  have := h.len
  have := f.sorts
  omega
end
/-- what is made of sets, with operations and themselves -/
def madeM (s : MSig) (m : MModel) (sets : List Int) : List Int := if modelB s m && setsB m sets then closeM s m 22 sets else []
theorem made_no1 {s : MSig} {m : MModel} {sets : List Int} (h : modelB s m = false) : madeM s m sets = [] := by unfold madeM; rw [h]; rfl
theorem made_no2 {s : MSig} {m : MModel} {sets : List Int} (h : setsB m sets = false) : madeM s m sets = [] := by unfold madeM; rw [h, Bool.and_false]; rfl
theorem made_yes {s : MSig} {m : MModel} {sets : List Int} (h : modelB s m = true) (h2 : setsB m sets = true) : madeM s m sets = closeM s m 22 sets := by unfold madeM; rw [h, h2]; rfl
/-- some rounds have been gone through -/
def Closing (s : MSig) (m : MModel) (sets now : List Int) : Prop := SetsIn m now ∧ ∃ f : Nat, closeM s m 22 sets = closeM s m (f + 1) now ∧ 21 - total now ≤ (f : Int)
theorem closing_start {s : MSig} {m : MModel} (f : ModFacts s m) {sets : List Int} (h : SetsIn m sets) : Closing s m sets sets := ⟨h, 21, rfl, by have := total_21 f h; omega⟩
theorem Closing.more {s : MSig} {m : MModel} (f : ModFacts s m) {sets now : List Int} (h : Closing s m sets now) (e : (roundM s m now).2 = true) : Closing s m sets (roundM s m now).1 ∧ total now < total (roundM s m now).1 := by
  obtain ⟨h1, n, h2, h3⟩ := h
  obtain ⟨g1, g2, -⟩ := roundM_grows f h1
  have g3 := g2 e
  have g4 := total_21 f g1
  refine ⟨⟨g1, n - 1, ?_, by omega⟩, g3⟩
  rw [h2]
  obtain ⟨k, rfl⟩ : ∃ k, n = k + 1 := ⟨n - 1, by omega⟩
  rw [closeM, if_pos e]
  rfl
theorem Closing.done {s : MSig} {m : MModel} (f : ModFacts s m) {sets now : List Int} (h : Closing s m sets now) (e : (roundM s m now).2 = false) : closeM s m 22 sets = now ∧ (roundM s m now).1 = now := by
  obtain ⟨h1, n, h2, h3⟩ := h
  obtain ⟨g1, -, g2⟩ := roundM_grows f h1
  rw [h2, closeM, if_neg (by rw [e]; simp)]
  exact ⟨g2 e, g2 e⟩
theorem closeM_len {s : MSig} {m : MModel} (f : ModFacts s m) : ∀ (n : Nat) {sets : List Int}, SetsIn m sets → SetsIn m (closeM s m n sets)
  | 0, _, h => h
  | n + 1, sets, h => by
    rw [closeM]
    split
    · exact closeM_len f n (roundM_grows f h).1
    · exact (roundM_grows f h).1
theorem made_len (s : MSig) (m : MModel) (sets : List Int) : (madeM s m sets).length ≤ 3 := by
  unfold madeM
  split
  · rename_i h
    rw [Bool.and_eq_true] at h
    have f := model_facts h.1
    have := (closeM_len f 22 (setsB_iff.1 h.2)).len
    have := f.sorts
    omega
  · simp
end

section
open Go.RowKit
set_option linter.unusedVariables false
set_option linter.unusedSimpArgs false

/-- the first of the numbers below n at which something is told -/
def firstFrom {α : Type} (f : Nat → Option α) : Nat → Option α
  | 0 => none
  | n + 1 => match firstFrom f n with
    | some a => some a
    | none => f n
theorem firstFrom_none {α : Type} {f : Nat → Option α} {n : Nat} : firstFrom f n = none ↔ ∀ i, i < n → f i = none := by
  induction n with
  | zero => exact ⟨fun _ i h => by omega, fun _ => rfl⟩
  | succ n ih =>
    simp only [firstFrom]
    cases h : firstFrom f n with
    | some a =>
      refine ⟨fun e => (by cases e), fun e => ?_⟩
      rw [ih.2 fun i hi => e i (by omega)] at h
      cases h
    | none =>
      refine ⟨fun e i hi => ?_, fun e => e n (by omega)⟩
      rcases Nat.lt_or_ge i n with q | q
      · exact ih.1 h i q
      · rw [show i = n by omega]; exact e
theorem firstFrom_hit {α : Type} {f : Nat → Option α} {n i : Nat} {a : α} (hi : i < n) (h0 : ∀ j, j < i → f j = none) (h : f i = some a) : firstFrom f n = some a := by
  induction n with
  | zero => omega
  | succ n ih =>
    simp only [firstFrom]
    rcases Nat.lt_or_ge i n with q | q
    · rw [ih q]
    · have e : i = n := by omega
      subst e
      rw [firstFrom_none.2 h0]
      exact h
theorem firstFrom_some {α : Type} {f : Nat → Option α} {n : Nat} {a : α} (h : firstFrom f n = some a) : ∃ i, i < n ∧ f i = some a := by
  induction n with
  | zero => cases h
  | succ n ih =>
    simp only [firstFrom] at h
    cases e : firstFrom f n with
    | some b =>
      rw [e] at h
      obtain ⟨i, hi, hf⟩ := ih (e.trans h)
      exact ⟨i, by omega, hf⟩
    | none => rw [e] at h; exact ⟨n, by omega, h⟩

/-- the other row's number -/
def otherN (m : MModel) (c : List (List Int)) (takes : List Int) (n : Nat) : Int := placeM 0 (ledM m.sizes takes) (ledV c takes (digM (ledM m.sizes takes) n))
def apartAt (m : MModel) (c : List (List Int)) (takes : List Int) (last : Int) (table : List Int) (n : Nat) : Option (Int × Int × Int) :=
  if sameAt m c takes last table n then none else some (last, table.getD n 0, table.getD (otherN m c takes n).toNat 0)
def apartIn (s : MSig) (m : MModel) (c : List (List Int)) (k : Nat) : Option (Int × Int × Int) := firstFrom (apartAt m c (opRow s k).dropLast ((opRow s k).getLastD (-1)) (m.tables.getD k [])) (m.tables.getD k []).length
def firstApart (s : MSig) (m : MModel) (c : List (List Int)) : Option (Int × Int × Int) := firstFrom (apartIn s m c) s.ops.length
theorem shut_iff {s : MSig} {m : MModel} {c : List (List Int)} : firstApart s m c = none ↔ Shut s m c := by
  unfold firstApart Shut
  rw [firstFrom_none]
  constructor
  · intro h k n hk hn
    have := firstFrom_none.1 (h k hk) n hn
    unfold apartAt at this
    unfold sameOp
    cases e : sameAt m c (opRow s k).dropLast ((opRow s k).getLastD (-1)) (m.tables.getD k []) n with
    | true => rfl
    | false => rw [e] at this; cases this
  · intro h k hk
    refine firstFrom_none.2 fun n hn => ?_
    unfold apartAt
    rw [if_pos (show sameAt m c (opRow s k).dropLast ((opRow s k).getLastD (-1)) (m.tables.getD k []) n = true from h k n hk hn)]
theorem dig_place {zs : List Int} (hz : Sizes zs) : ∀ (vs : List Int) (p : Int), 0 ≤ p → InAll zs vs → digM zs (placeM p zs vs) = vs := by
  induction zs with
  | nil =>
    intro vs p _ h
    cases vs with
    | nil => rfl
    | cons v vs => have := h.1; simp at this
  | cons z zs ih =>
    intro vs p hp h
    cases vs with
    | nil => have := h.1; simp at this
    | cons v vs =>
      obtain ⟨⟨h1, h2⟩, h3⟩ := h.tail
      have hz1 := hz z (List.mem_cons_self ..)
      have hw := ways_pos hz.tail
      have hp0 : 0 ≤ p * z := Int.mul_nonneg hp (by omega)
      obtain ⟨b1, b2⟩ := place_bound hz.tail h3 (p * z + v) (by omega)
      simp only [placeM, digM]
      rw [ih hz.tail vs (p * z + v) (by omega) h3]
      congr 1
      have e : placeM (p * z + v) zs vs / waysM zs = p * z + v := by
        have q1 : p * z + v ≤ placeM (p * z + v) zs vs / waysM zs := Int.le_ediv_of_mul_le (by omega) b1
        have q2 : placeM (p * z + v) zs vs / waysM zs < p * z + v + 1 := Int.ediv_lt_of_lt_mul (by omega) b2
        omega
      rw [e, Int.add_comm, Int.add_mul_emod_self_right, Int.emod_eq_of_lt h1 h2]
theorem ledV_into {m : MModel} {c d : List (List Int)} (h : Into m c d) {takes vals : List Int} (ht : ∀ x ∈ takes, 0 ≤ x ∧ x < (m.sizes.length : Int)) (hm : m.sizes.length ≤ 3) (hv : InAll (ledM m.sizes takes) vals) (hl : Lens c m.sizes) : ledV d takes (ledV c takes vals) = ledV d takes vals := by
  have e1 : vals.length = takes.length := by rw [hv.1, ledM_len]
  have e2 : (ledV c takes vals).length = takes.length := by rw [ledV_len e1, e1]
  apply List.ext_getElem
  · rw [ledV_len e2, e2, ledV_len e1, e1]
  · intro j h1 h2
    have hj : j < takes.length := by rw [ledV_len e1, e1] at h2; exact h2
    rw [ledV_at hj (by omega) h1, ledV_at hj (by omega) h2, ledV_at hj (by omega) (by omega)]
    have a := ht _ (List.getElem_mem hj)
    have b := hv.2 j (by rw [ledM_len]; exact hj) (by omega)
    rw [led_get hj (by omega) (by rw [ledM_len]; exact hj)] at b
    exact h _ _ ⟨a.1, a.2, b.1, b.2⟩
theorem Cls.vals {m : MModel} {c : List (List Int)} (h : Cls m c) : Vals c m.sizes := by
  intro k hk x hx
  obtain ⟨j, hj, rfl⟩ := List.getElem_of_mem hx
  have hkm : k < m.sizes.length := by have := h.le.1; omega
  have hl := h.le.2 k hkm
  have i : InM m (k : Int) (j : Int) := ⟨by omega, by omega, by omega, by rw [Int.toNat_natCast, getD_at _ hkm]; omega⟩
  have q := h.lo _ _ i
  have e : ledOne c (k : Int) (j : Int) = (c.getD k [])[j] := by unfold ledOne; rw [Int.toNat_natCast, Int.toNat_natCast, getD_at _ hj]
  rw [e] at q
  rw [getD_at _ hkm]
  omega
section
variable {s : MSig} {m : MModel}
/-- the other row of an operation's table -/
theorem other_in (f : ModFacts s m) {c : List (List Int)} (h : Cls m c) {takes : List Int} {last : Int} {table : List Int} (o : OpAt s m takes last table) (n : Nat) :
    InAll (ledM m.sizes takes) (ledV c takes (digM (ledM m.sizes takes) n)) ∧ 0 ≤ otherN m c takes n ∧ otherN m c takes n < (table.length : Int) := by
  have a := ledV_in h.le h.vals rfl o.tin f.sorts.1 (dig_in o.siz n)
  have b := place_in o.siz a
  exact ⟨a, b.1, by rw [o.len]; exact b.2⟩
theorem forced {c d : List (List Int)} (f : ModFacts s m) (hc : Cls m c) (hd : Cls m d) (hi : Into m c d) (hs : Shut s m d) {k n : Nat} (hk : k < s.ops.length) (hn : n < (m.tables.getD k []).length) :
    ledOne d ((opRow s k).getLastD (-1)) ((m.tables.getD k []).getD n 0) = ledOne d ((opRow s k).getLastD (-1)) ((m.tables.getD k []).getD (otherN m c (opRow s k).dropLast n).toNat 0) := by
  have o := f.op hk
  obtain ⟨a1, a2, a3⟩ := other_in f hc o n
  have e1 := hs k n hk hn
  have hn2 : (otherN m c (opRow s k).dropLast n).toNat < (m.tables.getD k []).length := by omega
  have e2 := hs k _ hk hn2
  unfold sameOp sameAt at e1 e2
  rw [decide_eq_true_eq] at e1 e2
  rw [e1, e2]
  have hcast : (((otherN m c (opRow s k).dropLast n).toNat : Nat) : Int) = otherN m c (opRow s k).dropLast n := by omega
  rw [hcast]
  unfold otherN
  rw [dig_place o.siz _ 0 (Int.le_refl _) a1, ledV_into hi o.tin f.sorts.1 (dig_in o.siz n) hc.le]
structure Run (s : MSig) (m : MModel) (s0 x0 y0 : Int) (c : List (List Int)) (so x y : Int) : Prop where
  cls : Cls m c
  into : ∀ d, Cls m d → Shut s m d → ledOne d s0 x0 = ledOne d s0 y0 → Into m c d ∧ ledOne d so x = ledOne d so y
  ix : InM m so x
  iy : InM m so y
  one : ledOne c s0 x0 = ledOne c s0 y0 ∨ (so = s0 ∧ x = x0 ∧ y = y0)
theorem Run.least {s0 x0 y0 : Int} {c : List (List Int)} {so x y : Int} (h : Run s m s0 x0 y0 c so x y) (i0 : InM m s0 x0) (i1 : InM m s0 y0) : Least s m s0 x0 y0 (joinM c so x y) := by
  refine ⟨h.cls.join h.ix h.iy, ?_, fun d a b e => (h.into d a b e).1.join h.cls h.ix h.iy (h.into d a b e).2⟩
  rcases h.one with e | ⟨rfl, rfl, rfl⟩
  · exact join_stays h.cls.le h.ix.1 i0 i1 e
  · exact join_one h.cls.le h.ix h.iy
theorem Least.run (f : ModFacts s m) {s0 x0 y0 : Int} {c : List (List Int)} (h : Least s m s0 x0 y0 c) {so x y : Int} (e : firstApart s m c = some (so, x, y)) : Run s m s0 x0 y0 c so x y ∧ ledOne c so x ≠ ledOne c so y := by
  obtain ⟨k, hk, e⟩ := firstFrom_some e
  obtain ⟨n, hn, e⟩ := firstFrom_some e
  have o := f.op hk
  obtain ⟨a1, a2, a3⟩ := other_in f h.cls o n
  unfold apartAt at e
  split at e
  · cases e
  · rename_i hne
    injection e with e
    injection e with e1 e
    injection e with e2 e3
    subst e1 e2 e3
    have hn2 : (otherN m c (opRow s k).dropLast n).toNat < (m.tables.getD k []).length := by omega
    have v1 := o.val _ (List.getElem_mem hn)
    have v2 := o.val _ (List.getElem_mem hn2)
    rw [← getD_at 0 hn] at v1
    rw [← getD_at 0 hn2] at v2
    refine ⟨⟨h.cls, fun d a b q => ⟨h.min d a b q, forced f h.cls a (h.min d a b q) b hk hn⟩, ⟨o.lin.1, o.lin.2, v1⟩, ⟨o.lin.1, o.lin.2, v2⟩, .inl h.one⟩, ?_⟩
    unfold sameAt at hne
    rw [decide_eq_true_eq] at hne
    exact hne
/-- the sum of all classes -/
def sumC (c : List (List Int)) : Int := total (c.map total)
theorem total_map_le {f : Int → Int} (hf : ∀ x, f x ≤ x) : ∀ xs : List Int, total (xs.map f) ≤ total xs
  | [] => Int.le_refl _
  | x :: xs => by
    simp only [List.map_cons, total_cons]
    have := hf x
    have := total_map_le hf xs
    omega
theorem total_map_lt {f : Int → Int} (hf : ∀ x, f x ≤ x) : ∀ {xs : List Int} {v : Int}, v ∈ xs → f v < v → total (xs.map f) < total xs
  | x :: xs, v, hm, hv => by
    simp only [List.map_cons, total_cons]
    have a := hf x
    have b := total_map_le hf xs
    rcases List.mem_cons.1 hm with rfl | hm
    · omega
    · have := total_map_lt hf hm hv
      omega
theorem sum_join {c : List (List Int)} (h : Cls m c) {so x y : Int} (ix : InM m so x) (iy : InM m so y) (hne : ledOne c so x ≠ ledOne c so y) : sumC (joinM c so x y) < sumC c := by
  obtain ⟨h1, h2⟩ := lens_in h.le ix
  obtain ⟨-, h3⟩ := lens_in h.le iy
  unfold sumC joinM
  rw [List.map_set, total_set (by rw [List.length_map]; exact h1), List.getElem_map]
  have e : c.getD so.toNat [] = c[so.toNat] := getD_at _ h1
  rw [e] at h2 h3 ⊢
  have key : total (joinRow c[so.toNat] x y) < total c[so.toNat] := by
    unfold joinRow
    have ex : ledOne c so x = c[so.toNat].getD x.toNat 0 := by unfold ledOne; rw [e]
    have ey : ledOne c so y = c[so.toNat].getD y.toNat 0 := by unfold ledOne; rw [e]
    rw [← ex, ← ey]
    refine total_map_lt (v := max (ledOne c so x) (ledOne c so y)) (fun v => ?_) ?_ ?_
    · split <;> omega
    · rcases Int.le_total (ledOne c so x) (ledOne c so y) with q | q
      · rw [Int.max_eq_right q, ey, getD_at _ h3]; exact List.getElem_mem h3
      · rw [Int.max_eq_left q, ex, getD_at _ h2]; exact List.getElem_mem h2
    · rw [if_pos rfl]; omega
  omega
theorem total_pos : ∀ {xs : List Int}, (∀ x ∈ xs, 0 ≤ x) → 0 ≤ total xs
  | [], _ => by simp [total]
  | x :: xs, h => by
    rw [total_cons]
    have a := h x (List.mem_cons_self ..)
    have b := total_pos (xs := xs) fun y hy => h y (List.mem_cons_of_mem _ hy)
    omega
theorem sum_pos {c : List (List Int)} (h : Cls m c) : 0 ≤ sumC c := by
  refine total_pos fun x hx => ?_
  obtain ⟨r, hr, rfl⟩ := List.mem_map.1 hx
  obtain ⟨k, hk, rfl⟩ := List.getElem_of_mem hr
  refine total_pos fun y hy => ?_
  have := h.vals k hk y (by rw [getD_at _ hk]; exact hy)
  exact this.1
theorem sum_join_le {c : List (List Int)} (h : Cls m c) {so x y : Int} (ix : InM m so x) : sumC (joinM c so x y) ≤ sumC c := by
  obtain ⟨h1, h2⟩ := lens_in h.le ix
  unfold sumC joinM
  rw [List.map_set, total_set (by rw [List.length_map]; exact h1), List.getElem_map, getD_at ([] : List Int) h1]
  have key : total (joinRow c[so.toNat] x y) ≤ total c[so.toNat] := by
    unfold joinRow
    refine total_map_le (fun v => ?_) _
    split <;> omega
  omega
/-- each value alone -/
def startM (m : MModel) : List (List Int) := m.sizes.map fun z => countM z.toNat
theorem start_cls (f : ModFacts s m) : Cls m (startM m) := by
  have le : Lens (startM m) m.sizes := by
    refine ⟨by simp [startM], fun k hk => ?_⟩
    have hk' : k < (startM m).length := by simp [startM]; exact hk
    rw [getD_at _ hk']
    simp only [startM, List.getElem_map, countM_len]
    have := (f.sz _ (List.getElem_mem hk)).1
    omega
  have at_ : ∀ so v, InM m so v → ledOne (startM m) so v = v := fun so v i => by
    obtain ⟨h1, h2⟩ := lens_in le i
    unfold ledOne
    rw [getD_at _ h2]
    have e : (startM m).getD so.toNat [] = countM (m.sizes[so.toNat]'(by rw [← le.1]; exact h1)).toNat := by rw [getD_at _ h1]; simp [startM]
    have h3 := countM_at (n := (m.sizes[so.toNat]'(by rw [← le.1]; exact h1)).toNat) (k := v.toNat) (by rw [e, countM_len] at h2; exact h2)
    rw [← e, List.getElem?_eq_getElem h2] at h3
    injection h3 with h3
    rw [h3]
    have := i.2.2.1
    omega
  exact ⟨le, fun so v i => by rw [at_ so v i]; exact ⟨i.2.2.1, Int.le_refl _⟩, fun so v i => by rw [at_ so v i, at_ so v i]⟩
theorem start_into (f : ModFacts s m) (d : List (List Int)) : Into m (startM m) d := by
  intro so v i
  have h := start_cls f
  have a := h.lo so v i
  have le := h.le
  obtain ⟨h1, h2⟩ := lens_in le i
  have e : (startM m).getD so.toNat [] = countM (m.sizes[so.toNat]'(by rw [← le.1]; exact h1)).toNat := by rw [getD_at _ h1]; simp [startM]
  have h3 := countM_at (n := (m.sizes[so.toNat]'(by rw [← le.1]; exact h1)).toNat) (k := v.toNat) (by rw [e, countM_len] at h2; exact h2)
  rw [← e, List.getElem?_eq_getElem h2] at h3
  injection h3 with h3
  have e2 : ledOne (startM m) so v = v := by unfold ledOne; rw [getD_at _ h2, h3]; have := i.2.2.1; omega
  rw [e2]
theorem sum_start (f : ModFacts s m) : sumC (startM m) ≤ 9 := by
  have key : ∀ xs : List Int, (∀ z ∈ xs, 1 ≤ z ∧ z ≤ 3) → total ((xs.map fun z => countM z.toNat).map total) ≤ 3 * xs.length := by
    intro xs
    induction xs with
    | nil => intro _; simp [total]
    | cons z xs ih =>
      intro h
      have a := h z (List.mem_cons_self ..)
      have b := ih fun y hy => h y (List.mem_cons_of_mem _ hy)
      simp only [List.map_cons, total_cons, List.length_cons]
      have c : total (countM z.toNat) ≤ 3 := by
        rcases (show z = 1 ∨ z = 2 ∨ z = 3 by omega) with rfl | rfl | rfl <;> decide
      omega
  have := key m.sizes f.sz
  have := f.sorts
  unfold sumC startM
  omega
theorem start_run (f : ModFacts s m) {so x y : Int} (ix : InM m so x) (iy : InM m so y) : Run s m so x y (startM m) so x y :=
  ⟨start_cls f, fun d a b e => ⟨start_into f d, e⟩, ix, iy, .inr ⟨rfl, rfl, rfl⟩⟩
def sameLoop (s : MSig) (m : MModel) : Nat → List (List Int) → Int → Int → Int → List (List Int)
  | 0, c, _, _, _ => c
  | f + 1, c, so, x, y => match firstApart s m (joinM c so x y) with
    | none => joinM c so x y
    | some (so', x', y') => sameLoop s m f (joinM c so x y) so' x' y'
theorem loop_end (f : ModFacts s m) {s0 x0 y0 : Int} (i0 : InM m s0 x0) (i1 : InM m s0 y0) : ∀ (n : Nat) (c : List (List Int)) (so x y : Int), Run s m s0 x0 y0 c so x y → 0 ≤ sumC (joinM c so x y) → sumC (joinM c so x y) < (n : Int) →
    Least s m s0 x0 y0 (sameLoop s m n c so x y) ∧ Shut s m (sameLoop s m n c so x y) := by
  intro n
  induction n with
  | zero => intro c so x y h a b; omega
  | succ n ih =>
    intro c so x y h a b
    have hl := h.least i0 i1
    simp only [sameLoop]
    cases e : firstApart s m (joinM c so x y) with
    | none => exact ⟨hl, shut_iff.1 e⟩
    | some t =>
      obtain ⟨so', x', y'⟩ := t
      obtain ⟨hr, hne⟩ := hl.run f e
      have := sum_join hr.cls hr.ix hr.iy hne
      have hpos : 0 ≤ sumC (joinM (joinM c so x y) so' x' y') := sum_pos (hr.least i0 i1).cls
      exact ih _ _ _ _ hr hpos (by omega)
end
def sameOkB (s : MSig) (m : MModel) (so x y : Int) : Bool := (((modelB s m && decide (0 ≤ so)) && decide (so < s.sorts)) && (decide (0 ≤ x) && decide (x < m.sizes.getD so.toNat 0))) && (decide (0 ≤ y) && decide (y < m.sizes.getD so.toNat 0))
def sameM (s : MSig) (m : MModel) (so x y : Int) : List (List Int) := if sameOkB s m so x y then sameLoop s m 10 (startM m) so x y else []
theorem sameOk_facts {s : MSig} {m : MModel} {so x y : Int} (h : sameOkB s m so x y = true) : ModFacts s m ∧ InM m so x ∧ InM m so y := by
  unfold sameOkB at h
  simp only [Bool.and_eq_true, decide_eq_true_eq] at h
  obtain ⟨⟨⟨⟨h1, h2⟩, h3⟩, h4, h5⟩, h6, h7⟩ := h
  have f := model_facts h1
  have := f.sl
  exact ⟨f, ⟨h2, by omega, h4, h5⟩, ⟨h2, by omega, h6, h7⟩⟩
/-- whatever is least and shut is what SameMade answers -/
theorem same_is {s : MSig} {m : MModel} {so x y : Int} {c : List (List Int)} (h : sameOkB s m so x y = true) (hl : Least s m so x y c) (hs : Shut s m c) : c = sameM s m so x y := by
  obtain ⟨f, ix, iy⟩ := sameOk_facts h
  have r := start_run f ix iy
  have e := loop_end f ix iy 10 _ _ _ _ r (sum_pos (r.least ix iy).cls) (by have := sum_join_le r.cls (y := y) ix; have := sum_start f; omega)
  unfold sameM
  rw [if_pos h]
  exact hl.same hs e.1 e.2
end

section
open Go.RowKit
set_option linter.unusedVariables false

def raised (xs : List Int) (d : Int) : List Int := xs.map fun x => wrap64 (x + d)
theorem raised_at {xs : List Int} {d : Int} {k : Nat} (hk : k < xs.length) (h : k < (raised xs d).length) : (raised xs d)[k] = wrap64 (xs[k] + d) := by simp [raised]
end

section
open Go.RowKit
set_option linter.unusedVariables false

theorem RInts.dropLast {w : World} {A : Option Addr} {c : Nat} {row : List Int} (h : RInts w (.slice A row.length c) row) : RInts w (.slice A (row.length - 1) c) row.dropLast := by
  obtain ⟨A', c', e, h1, h2, h3⟩ := h
  cases e
  refine ⟨A, c, by rw [List.length_dropLast], by rw [List.length_dropLast]; omega, h2, fun j x hj => h3 j x ?_⟩
  rw [List.getElem?_dropLast] at hj
  split at hj
  · exact hj
  · cases hj
theorem raised_zero {xs : List Int} (h : ∀ x ∈ xs, 0 ≤ x ∧ x < 4) : raised xs 0 = xs := by
  unfold raised
  rw [List.map_congr_left (g := id) (fun x hx => ?_), List.map_id]
  have := h x hx
  rw [IntWalk.wrap64_in _ ⟨by omega, by omega⟩]; simp

theorem add_spot (b o j : Nat) : (⟨b, o, none⟩ : Addr).add j = ⟨b, o + j, none⟩ := by
  unfold Addr.add
  split
  · rename_i h; subst h; rfl
  · rfl
theorem news_of {w : World} {b o n c : Nat} {xs : List Int} (h : RInts w (.slice (some ⟨b, o, none⟩) n c) xs) : ∀ (j : Nat) (u : Value), (xs.map (Value.int .i64))[j]? = some u → w.cell? ((⟨b, o, none⟩ : Addr).add j) = some u := by
  intro j u hj
  rw [List.getElem?_map] at hj
  obtain ⟨x, hx, rfl⟩ := Option.map_eq_some_iff.1 hj
  obtain ⟨A, c', e, h1, h2, h3⟩ := h
  cases e
  obtain ⟨b', o', e, hc⟩ := h3 j x hx
  cases e
  rw [add_spot]; exact hc
theorem news_any {w : World} {ad : Addr} {n c : Nat} {xs : List Int} (h : RInts w (.slice (some ad) n c) xs) : ∀ (j : Nat) (u : Value), (xs.map (Value.int .i64))[j]? = some u → w.cell? (ad.add j) = some u := by
  intro j u hj
  obtain ⟨b, o, s⟩ := ad
  have hx := hj
  rw [List.getElem?_map] at hx
  obtain ⟨x, hx, -⟩ := Option.map_eq_some_iff.1 hx
  have hh := h
  obtain ⟨A, c', e, h1, h2, h3⟩ := hh
  cases e
  obtain ⟨b', o', e, hc⟩ := h3 j x hx
  cases e
  exact news_of h j u hj
theorem ints_one (xs : List Int) : ∀ u ∈ xs.map (Value.int .i64), u.oneCell' = true := by
  intro u hu; simp at hu; obtain ⟨x, -, rfl⟩ := hu; rfl

theorem bel_grow {w w2 : World} {o : Obj} {A : Option Addr} {n c : Nat} (h : (w.alloc o).drew.grownBy w2 (Value.slice A n c).ownBlock) (hr : ∀ k, (Value.slice A n c).ownBlock = some k → w.heap.size ≤ k) : Below w.heap.size w w2 :=
  (below_alloc w o).trans ⟨h.os, h.tape, h.output, h.size, fun k hk => h.block k (Nat.lt_of_lt_of_le hk (by show w.heap.size ≤ (w.alloc o).heap.size; simp)) (fun e => by have := hr k e.symm; omega)⟩
theorem own_empty (w : World) : OInts (w.alloc (.cells #[] 3)) w.heap.size (.slice (some ⟨w.heap.size, 0, none⟩) 0 0) [] := World.ownsRow_lit w #[] 0 (Nat.le_refl _) (Nat.zero_le _) rfl

theorem step_append_own {P : Program} {ops : Array Oper} {o : Oper} {a : Act} {w : World} {K : Act → World → Prop} {Q : Exit → Act → World → Prop} {E : Prop} (hgd : o.guard = none) (s x : Operand) (t : TypeId)
    (ho : o.op = .call { callee := .builtin .append, args := #[s, x], argTypes := #[t, t] })
    (base : Nat) (e : TypeId) (i : TypeInfo) (z : Value) (size bytes : Nat) (ht : P.underlying t = some (.slice e)) (hi : P.info? e = some i) (hz : i.zero = some z)
    (hsize : i.size = size) (hby : i.bytes = bytes) (hzs : z.cells.size = size) (hsz : 0 < size)
    (v : Value) (n : Nat) (xs : List Value) (hs : a.eval s = v) (hown : w.ownsRow base e size v n xs)
    (ad : Addr) (m c : Nat) (news : List Value) (hx : a.eval x = .slice (some ad) m c) (hl : news.length = m * size) (hnews : ∀ j u, news[j]? = some u → w.cell? (ad.add j) = some u) (h1 : ∀ u ∈ news, u.oneCell' = true)
    (h63 : n + m ≤ maxLen) (hbytes : (n + m) * bytes ≤ 140737488355328) (hbase : base ≤ w.heap.size)
    (h : ∀ v' w', w'.ownsRow base e size v' (n + m) (xs ++ news) → w.grownBy w' v.ownBlock → K (a.put o.dst v') w') :
    if Region.wanted o (yielded ops a.tmps) = true then Oper.wp P o a w K Q else E := by
  have hw : Region.wanted o (yielded ops a.tmps) = true := by simp [Region.wanted, hgd]
  rw [if_pos hw]
  exact wp_append_own w s x t ho base e i z size bytes ht hi hz hsize hby hzs hsz v n xs hs hown ad m c news hx hl hnews h1 h63 hbytes hbase fun v' w' h2 h3 _ => h v' w' h2 h3
end

section
open Go.RowKit
set_option linter.unusedVariables false
set_option linter.unusedSimpArgs false

theorem led_app {w : World} {B m : Nat} {v : Value} {ps rs : List Int} (hm : rs.length = m) (h : w.ownsRow B 3 1 v (ps.length + m) (ps.map (Value.int .i64) ++ rs.map (Value.int .i64))) : OInts w B v (ps ++ rs) := by
  unfold OInts; rw [List.length_append, List.map_append, hm]; exact h
theorem led_new (w : World) (n : Int) : ∀ (j : Nat) (u : Value), ([n].map (Value.int .i64))[j]? = some u → (w.alloc (.cells #[.int .i64 n] 3)).cell? ((⟨w.heap.size, 0, none⟩ : Addr).add j) = some u := by
  intro j u hj
  match j, hj with
  | 0, hj =>
    simp at hj
    subst hj
    rw [show (⟨w.heap.size, 0, none⟩ : Addr).add 0 = ⟨w.heap.size, 0, none⟩ by simp [Addr.add], World.cell?_alloc_at _ _ _ _ rfl]; rfl
theorem filling_below {w wr : World} {zs : List Int} {k : Nat} (h : Filling w wr zs k) : Below w.heap.size w wr := by
  obtain ⟨_, _, _, _, hb⟩ := h; exact hb

theorem led_below {W wr w6 : World} {o : Obj} {A : Option Addr} {n c : Nat} (h : Below W.heap.size W wr) (hg : (wr.alloc o).drew.grownBy w6 (Value.slice A n c).ownBlock) (hr : ∀ k, (Value.slice A n c).ownBlock = some k → W.heap.size ≤ k) : Below W.heap.size W w6 := by
  have h1 := h.alloc h.size o
  have h2 : Below W.heap.size W (wr.alloc o).drew := ⟨h1.os, h1.tape, h1.output, h1.size, h1.block⟩
  exact h2.grown hg h2.size hr

set_option maxRecDepth 100000 in
theorem ledRow_any (v v' : Value) (row tq : List Int) (w : World) (h : RInts w v row) (h' : RInts w v' tq) (hin : InTo tq row) (hs : row.length ≤ 1048576) :
    Calls Try.prog 87 #[v, v'] w fun e w' => ∃ u, e = .returned u ∧ OInts w' w.heap.size u (ledM tq row) ∧ Below w.heap.size w w' := by
  have H := Lib.hid h
  have H' := Lib.hid h'
  have HIN := Lib.hid hin
  have hn' := h'.len
  obtain ⟨A, c, rfl, -⟩ := h.form
  obtain ⟨A', c', rfl, -⟩ := h'.form
  clear h h' hin
  have hmk := run_make_row' (P := Try.prog) 26 3 (.int .i64 0) 8 Try.underlying26 Try.tinfo_int rfl .i64 .i64 row.length (by omega) (by omega)
  go_enter Try.func87, Try.ntmps87
  go_wp2
  go_loopw [6, 7, 13] (fun a b i wr => ∃ k : Nat, k ≤ row.length ∧ i = .int .i64 k ∧ Filling w wr (ledM tq row) k) (fun _ _ i _ => row.length - (intOf i).toNat)
  case atStart => exact ⟨0, Nat.zero_le _, rfl, Filling.start w _ _ (by rw [ledM_len]; simp [madeCells])⟩
  case round =>
    obtain ⟨k, hk, rfl, hf⟩ := hrel
    have HF := Lib.hid hf
    clear hf hmk
    by_cases hlt : k < row.length
    · have hlt' : (k : Int) < (row.length : Int) := by omega
      obtain ⟨b, o, c', e, hx⟩ := (H.out.keep (filling_below HF.out)).at_ hlt
      cases e
      obtain ⟨u, g1, g2⟩ := HF.out.cell (by rw [ledM_len]; exact hlt)
      have HX := Lib.hid (ledM_at (tq := tq) hlt)
      have HI := Lib.hid (HIN.out _ (List.getElem_mem hlt))
      generalize row[k] = x at hx HX HI
      by_cases hl : x < 100
      · obtain ⟨n, rfl⟩ : ∃ n : Nat, x = (n : Int) := ⟨x.toNat, by have := HI.out hl; omega⟩
        have hnl : n < tq.length := by have := HI.out hl; omega
        have hnl' : (n : Int) < (tq.length : Int) := by omega
        have hn0 : (0 : Int) ≤ (n : Int) := by omega
        obtain ⟨b2, o2, c2, e2, hy⟩ := (H'.out.keep (filling_below HF.out)).at_ hnl
        cases e2
        have HY := Lib.hid (show (if (n : Int) < 100 then tq.getD (n : Int).toNat 0 else (n : Int)) = tq[n] by rw [if_pos hl, Int.toNat_natCast, getD_at _ hnl])
        generalize tq[n] = y at hy HY
        go_wp2
        go_roundw
        case rel => exact ⟨k + 1, by omega, by go_num, HF.out.step (by rw [ledM_len]; exact hlt) (by have h := HX.out; rw [HY.out] at h; exact (List.getElem?_eq_some_iff.1 h).2)⟩
        case measure => simp [intOf]; omega
      · have hl' : 100 ≤ x := by omega
        have HY := Lib.hid (show (if x < 100 then tq.getD x.toNat 0 else x) = x by rw [if_neg hl])
        go_wp2
        go_roundw
        case rel => exact ⟨k + 1, by omega, by go_num, HF.out.step (by rw [ledM_len]; exact hlt) (by have h := HX.out; rw [HY.out] at h; exact (List.getElem?_eq_some_iff.1 h).2)⟩
        case measure => simp [intOf]; omega
    · go_wp2
      go_ret
      obtain ⟨r1, r2⟩ := HF.out.done (by rw [ledM_len]; omega) (by omega)
      have hkn : k = row.length := by omega
      subst hkn
      exact ⟨_, rfl, r1, r2⟩

set_option maxHeartbeats 800000 in
set_option maxRecDepth 100000 in
theorem l4Row_any (v v' : Value) (row : List Int) (m : MMap) (w : World) (h : RMap w v m) (h' : RInts w v' row) (hin : ∀ x ∈ row, 0 ≤ x ∧ x < (m.sorts.length : Int)) (hs : row.length ≤ 1048576) :
    Calls Try.prog 83 #[v, v'] w fun e w' => ∃ u, e = .returned u ∧ OInts w' w.heap.size u (rowLed m.sorts row) ∧ Below w.heap.size w w' := by
  obtain ⟨i0, hi0, hz0, hz1, hz2⟩ := info_parts Try.tinfo_int
  obtain ⟨Ama, cma, Amb, cmb, rfl⟩ := h.form
  have hb : Below w.heap.size w (w.alloc (.cells #[.slice Ama m.sorts.length cma, .slice Amb m.ops.length cmb] 39)) := below_alloc _ _
  have HB := Lib.hid hb
  have hsz : (w.alloc (.cells #[.slice Ama m.sorts.length cma, .slice Amb m.ops.length cmb] 39)).heap.size = w.heap.size + 1 := by simp
  have Hm := Lib.hid (h.keep hb)
  have m0 := bx_at (w) #[.slice Ama m.sorts.length cma, .slice Amb m.ops.length cmb] 39 (k := 0) rfl
  have m1 := bx_at (w) #[.slice Ama m.sorts.length cma, .slice Amb m.ops.length cmb] 39 (k := 1) rfl
  generalize hW : w.alloc (.cells #[.slice Ama m.sorts.length cma, .slice Amb m.ops.length cmb] 39) = W at HB hsz Hm m0 m1
  clear hb h
  have HV := Lib.hid (h'.keep HB.out)
  have HIN := Lib.hid hin
  obtain ⟨r0, r1⟩ := Hm.out.of
  have R0 := Lib.hid r0
  have hm0 := r0.len
  obtain ⟨A', c', rfl, -⟩ := h'.form
  have HC := Lib.hid m0
  have HSZ := Lib.hid hsz
  clear h' hin r0 r1 m0 m1 hsz
  go_enter Try.func83, Try.ntmps83
  go_wp2
  clear hW
  go_loopw [5, 6] (fun p i wr => ∃ k : Nat, k ≤ row.length ∧ i = .int .i64 k ∧ OInts wr W.heap.size p (rowLed m.sorts (row.take k)) ∧ Below W.heap.size W wr) (fun _ i _ => row.length - (intOf i).toNat)
  case atStart => exact ⟨0, Nat.zero_le _, rfl, by first | exact own_empty W | (have h := own_empty W; rw [HSZ.out] at h ⊢; exact h), below_alloc _ _⟩
  case round =>
    obtain ⟨k, hk, rfl, ho, hb⟩ := hrel
    obtain ⟨A9, c9, rfl, -⟩ := own_reads ho
    have HO := Lib.hid ho
    have HBW := Lib.hid hb
    have f0 := cell_keep hb HC.out
    clear ho hb
    by_cases hlt : k < row.length
    · have hlt' : (k : Int) < (row.length : Int) := by omega
      obtain ⟨b, o, c4, e, hx⟩ := HV.out.at_ hlt
      cases e
      have HTK := Lib.hid (rowLed_take (tq := m.sorts) hlt)
      have HI := Lib.hid (HIN.out _ (List.getElem_mem hlt))
      generalize row[k] = x at hx HTK HI
      obtain ⟨n, rfl⟩ : ∃ n : Nat, x = (n : Int) := ⟨x.toNat, by have := HI.out; omega⟩
      have hnl : n < m.sorts.length := by have := HI.out; omega
      have hnl' : (n : Int) < (m.sorts.length : Int) := by omega
      have hn0 : (0 : Int) ≤ (n : Int) := by omega
      obtain ⟨b2, o2, c2, e2, hy⟩ := R0.out.at_ hnl
      cases e2
      have HY := Lib.hid (show m.sorts.getD (n : Int).toNat 0 = m.sorts[n] by rw [Int.toNat_natCast, getD_at _ hnl])
      generalize m.sorts[n] = y at hy HY
      have HXY := Lib.hid (And.intro hx hy)
      replace hx := cell_keep HBW.out hx
      replace hy := cell_keep HBW.out hy
      have hlen : (rowLed m.sorts (row.take k)).length = k := by rw [rowLed_len, List.length_take]; omega
      have HLEN := Lib.hid hlen
      generalize hps : rowLed m.sorts (row.take k) = ps at HO HTK HLEN
      clear hps hlen
      have hs1 := HBW.out.size
      have hp1 : ps.length + 1 ≤ maxLen := by rw [HLEN.out, maxLen_eq]; omega
      have hp2 : (ps.length + 1) * 8 ≤ 140737488355328 := by rw [HLEN.out]; omega
      have HP := Lib.hid (And.intro hp1 hp2)
      have hs3 : W.heap.size ≤ (wr.alloc (.cells #[.int .i64 y] 3)).heap.size := by simp; omega
      have HS3 := Lib.hid hs3
      have HO1 := Lib.hid (own_keep HO.out (below_alloc wr (.cells #[.int .i64 y] 3)))
      have HN1 := Lib.hid (led_new wr y)
      have ea := World.new_ne wr _ f0
      have eb := World.new_ne wr _ hx
      have ec := World.new_ne wr _ hy
      clear hp1 hp2 hs3
      go_wp2_with fail
      go_region_held3 (fun w' => w'.cell? ⟨w.heap.size, 0, none⟩ = some (.slice (some ⟨b2, o2, none⟩) m.sorts.length cma) ∧ w'.cell? ⟨b, o + k, none⟩ = some (.int .i64 (n : Int)) ∧ w'.cell? ⟨b2, o2 + n, none⟩ = some (.int .i64 y)) (first | go_keep | exact ⟨cell_keep HB6.out HC.out, cell_keep HB6.out HXY.out.1, cell_keep HB6.out HXY.out.2⟩)
        (first
          | (refine step_append_own rfl (.tmp 14) (.tmp 23) 26 rfl W.heap.size 3 i0 (.int .i64 0) 1 8 Try.underlying26 hi0 hz0 hz1 hz2 rfl (by omega) _ ps.length (ps.map (Value.int .i64)) rfl HO1.out.drew ⟨wr.heap.size, 0, none⟩ 1 1 ([y].map (Value.int .i64)) rfl (by simp) HN1.out (ints_one _) HP.out.1 HP.out.2 HS3.out ?_; intro v6 w6 hv6 hg6; have HB6 := Lib.hid (led_below HBW.out hg6 (fun k e => (own_lt HO.out k e).1)); have HO6 := Lib.hid (led_app (rs := [y]) rfl hv6); clear hv6 hg6))
      have hsl : (ps ++ [y]).length = k + 1 := by rw [List.length_append, HLEN.out]; rfl
      clear f0 hx hy ea eb ec hsl
      obtain ⟨A6, c6, rfl, -⟩ := own_reads HO6.out
      go_wp2
      go_roundw
      case rel => exact ⟨k + 1, by omega, by go_num, by rw [HTK.out, HY.out]; exact HO6.out, HB6.out⟩
      case measure => simp [intOf]; omega
    · have hkn : k = row.length := by omega
      have hlt' : ¬ (k : Int) < (row.length : Int) := by omega
      have HTA := Lib.hid (show row.take k = row from take_all (by omega))
      rw [HTA.out] at HO
      go_wp2
      go_ret
      exact ⟨_, rfl, HO.out.base HB.out.size, HB.out.trans (HBW.out.mono HB.out.size)⟩
set_option maxHeartbeats 800000 in
set_option maxRecDepth 100000 in
theorem l4Term_any (v v' : Value) (row : List Int) (m : MMap) (w : World) (h : RMap w v m) (h' : RInts w v' row) (hin : InTo m.ops row) (hs : row.length ≤ 1048576) :
    Calls Try.prog 84 #[v, v'] w fun e w' => ∃ u, e = .returned u ∧ OInts w' w.heap.size u (ledM m.ops row) ∧ Below w.heap.size w w' := by
  obtain ⟨i0, hi0, hz0, hz1, hz2⟩ := info_parts Try.tinfo_int
  obtain ⟨Ama, cma, Amb, cmb, rfl⟩ := h.form
  have hb : Below w.heap.size w (w.alloc (.cells #[.slice Ama m.sorts.length cma, .slice Amb m.ops.length cmb] 39)) := below_alloc _ _
  have HB := Lib.hid hb
  have hsz : (w.alloc (.cells #[.slice Ama m.sorts.length cma, .slice Amb m.ops.length cmb] 39)).heap.size = w.heap.size + 1 := by simp
  have Hm := Lib.hid (h.keep hb)
  have m0 := bx_at (w) #[.slice Ama m.sorts.length cma, .slice Amb m.ops.length cmb] 39 (k := 0) rfl
  have m1 := bx_at (w) #[.slice Ama m.sorts.length cma, .slice Amb m.ops.length cmb] 39 (k := 1) rfl
  generalize hW : w.alloc (.cells #[.slice Ama m.sorts.length cma, .slice Amb m.ops.length cmb] 39) = W at HB hsz Hm m0 m1
  clear hb h
  have HV := Lib.hid (h'.keep HB.out)
  have HIN := Lib.hid hin
  obtain ⟨r0, r1⟩ := Hm.out.of
  have R0 := Lib.hid r1
  have hm0 := r1.len
  obtain ⟨A', c', rfl, -⟩ := h'.form
  have HC := Lib.hid m1
  have HSZ := Lib.hid hsz
  clear h' hin r0 r1 m0 m1 hsz
  go_enter Try.func84, Try.ntmps84
  go_wp2
  clear hW
  go_loopw [5, 6] (fun p i wr => ∃ k : Nat, k ≤ row.length ∧ i = .int .i64 k ∧ OInts wr W.heap.size p (ledM m.ops (row.take k)) ∧ Below W.heap.size W wr) (fun _ i _ => row.length - (intOf i).toNat)
  case atStart => exact ⟨0, Nat.zero_le _, rfl, by first | exact own_empty W | (have h := own_empty W; rw [HSZ.out] at h ⊢; exact h), below_alloc _ _⟩
  case round =>
    obtain ⟨k, hk, rfl, ho, hb⟩ := hrel
    obtain ⟨A9, c9, rfl, -⟩ := own_reads ho
    have HO := Lib.hid ho
    have HBW := Lib.hid hb
    have f0 := cell_keep hb HC.out
    clear ho hb
    by_cases hlt : k < row.length
    · have hlt' : (k : Int) < (row.length : Int) := by omega
      obtain ⟨b, o, c4, e, hx⟩ := HV.out.at_ hlt
      cases e
      have HTK := Lib.hid (ledM_take (tq := m.ops) hlt)
      have HI := Lib.hid (HIN.out _ (List.getElem_mem hlt))
      generalize row[k] = x at hx HTK HI
      by_cases hl : x < 100
      · obtain ⟨n, rfl⟩ : ∃ n : Nat, x = (n : Int) := ⟨x.toNat, by have := HI.out hl; omega⟩
        have hnl : n < m.ops.length := by have := HI.out hl; omega
        have hnl' : (n : Int) < (m.ops.length : Int) := by omega
        have hn0 : (0 : Int) ≤ (n : Int) := by omega
        obtain ⟨b2, o2, c2, e2, hy⟩ := R0.out.at_ hnl
        cases e2
        have HY := Lib.hid (show (if (n : Int) < 100 then m.ops.getD (n : Int).toNat 0 else (n : Int)) = m.ops[n] by rw [if_pos hl, Int.toNat_natCast, getD_at _ hnl])
        generalize m.ops[n] = y at hy HY
        have HXY := Lib.hid (And.intro hx hy)
        replace hx := cell_keep HBW.out hx
        replace hy := cell_keep HBW.out hy
        have hlen : (ledM m.ops (row.take k)).length = k := by rw [ledM_len, List.length_take]; omega
        have HLEN := Lib.hid hlen
        generalize hps : ledM m.ops (row.take k) = ps at HO HTK HLEN
        clear hps hlen
        have hs1 := HBW.out.size
        have hp1 : ps.length + 1 ≤ maxLen := by rw [HLEN.out, maxLen_eq]; omega
        have hp2 : (ps.length + 1) * 8 ≤ 140737488355328 := by rw [HLEN.out]; omega
        have HP := Lib.hid (And.intro hp1 hp2)
        have hs3 : W.heap.size ≤ (wr.alloc (.cells #[.int .i64 y] 3)).heap.size := by simp; omega
        have HS3 := Lib.hid hs3
        have HO1 := Lib.hid (own_keep HO.out (below_alloc wr (.cells #[.int .i64 y] 3)))
        have HN1 := Lib.hid (led_new wr y)
        have ea := World.new_ne wr _ f0
        have eb := World.new_ne wr _ hx
        have ec := World.new_ne wr _ hy
        clear hp1 hp2 hs3
        go_wp2_with fail
        go_region_held3 (fun w' => w'.cell? ⟨w.heap.size, 1, none⟩ = some (.slice (some ⟨b2, o2, none⟩) m.ops.length cmb) ∧ w'.cell? ⟨b, o + k, none⟩ = some (.int .i64 (n : Int)) ∧ w'.cell? ⟨b2, o2 + n, none⟩ = some (.int .i64 y)) (first | go_keep | exact ⟨cell_keep HB6.out HC.out, cell_keep HB6.out HXY.out.1, cell_keep HB6.out HXY.out.2⟩)
          (first
            | (refine step_append_own rfl (.tmp 26) (.tmp 35) 26 rfl W.heap.size 3 i0 (.int .i64 0) 1 8 Try.underlying26 hi0 hz0 hz1 hz2 rfl (by omega) _ ps.length (ps.map (Value.int .i64)) rfl HO1.out.drew ⟨wr.heap.size, 0, none⟩ 1 1 ([y].map (Value.int .i64)) rfl (by simp) HN1.out (ints_one _) HP.out.1 HP.out.2 HS3.out ?_; intro v6 w6 hv6 hg6; have HB6 := Lib.hid (led_below HBW.out hg6 (fun k e => (own_lt HO.out k e).1)); have HO6 := Lib.hid (led_app (rs := [y]) rfl hv6); clear hv6 hg6))
        have hsl : (ps ++ [y]).length = k + 1 := by rw [List.length_append, HLEN.out]; rfl
        clear f0 hx hy ea eb ec hsl
        obtain ⟨A6, c6, rfl, -⟩ := own_reads HO6.out
        go_wp2
        go_roundw
        case rel => exact ⟨k + 1, by omega, by go_num, by rw [HTK.out, HY.out]; exact HO6.out, HB6.out⟩
        case measure => simp [intOf]; omega
      · have hl' : 100 ≤ x := by omega
        have HY := Lib.hid (show (if x < 100 then m.ops.getD x.toNat 0 else x) = x by rw [if_neg hl])
        replace hx := cell_keep HBW.out hx
        have hlen : (ledM m.ops (row.take k)).length = k := by rw [ledM_len, List.length_take]; omega
        have HLEN := Lib.hid hlen
        generalize hps : ledM m.ops (row.take k) = ps at HO HTK HLEN
        clear hps hlen
        have hs1 := HBW.out.size
        go_wp2_with (at_builtin; refine wpList_append_own _ rfl _ _ 26 rfl W.heap.size 3 i0 (.int .i64 0) 1 8 Try.underlying26 hi0 hz0 hz1 hz2 rfl (by decide) _ ps.length (ps.map (Value.int .i64)) rfl (own_keep HO.out (below_alloc wr _)) ⟨wr.heap.size, 0, none⟩ 1 1 ([x].map (Value.int .i64)) rfl (by simp) (led_new wr x) (ints_one _) (by rw [HLEN.out, maxLen_eq]; omega) (by rw [HLEN.out]; omega) (by simp; omega) ?_)
        intro v6 w6 hv6 hg6 _
        have HO6 := Lib.hid (led_app (rs := [x]) rfl hv6)
        have HB6 := Lib.hid ((HBW.out.alloc hs1 (.cells #[.int .i64 x] 3)).grown hg6 (by simp; omega) (fun k e => (own_lt HO.out k e).1))
        clear hv6 hg6
        obtain ⟨A6, c6, rfl, -⟩ := own_reads HO6.out
        clear f0 hx
        go_wp2
        go_roundw
        case rel => exact ⟨k + 1, by omega, by go_num, by rw [HTK.out, HY.out]; exact HO6.out, HB6.out⟩
        case measure => simp [intOf]; omega
    · have hkn : k = row.length := by omega
      have hlt' : ¬ (k : Int) < (row.length : Int) := by omega
      have HTA := Lib.hid (show row.take k = row from take_all (by omega))
      rw [HTA.out] at HO
      go_wp2
      go_ret
      exact ⟨_, rfl, HO.out.base HB.out.size, HB.out.trans (HBW.out.mono HB.out.size)⟩
end

section
open Go.RowKit
set_option linter.unusedVariables false

theorem slEqual_any (v v' : Value) (xs ys : List Int) (w : World) (h : RInts w v xs) (h' : RInts w v' ys) :
    Calls Try.prog 136 #[v, v'] w fun e w' => e = .returned (.bool (decide (xs = ys))) ∧ Drawn w w' := by
  have H := Lib.hid h
  have H' := Lib.hid h'
  have hn := h.len
  have hn' := h'.len
  obtain ⟨A, c, rfl, -⟩ := h.form
  obtain ⟨A', c', rfl, -⟩ := h'.form
  clear h h'
  by_cases hl : xs.length = ys.length
  · have hl' : ((xs.length : Int) != (ys.length : Int)) = false := by simp [hl]
    have HL := Lib.hid hl
    have hle : xs.length ≤ ys.length := by omega
    have hge : ys.length ≤ xs.length := by omega
    clear hl
    go_enter Try.func136, Try.ntmps136
    go_wp2
    go_loopw [13] (fun i wr => ∃ k : Nat, k ≤ xs.length ∧ i = .int .i64 k ∧ xs.take k = ys.take k ∧ Drawn w wr) (fun i _ => xs.length - (intOf i).toNat)
    case atStart => exact ⟨0, Nat.zero_le _, rfl, rfl, Drawn.refl _⟩
    case round =>
      obtain ⟨k, hk, rfl, hb0, hd⟩ := hrel
      have hb := Lib.hid hb0
      have HD := Lib.hid hd
      clear hb0 hd
      by_cases hlt : k < xs.length
      · obtain ⟨b, o, c3, e, hx⟩ := (H.out.keep HD.out.below).at_ hlt
        cases e
        obtain ⟨b', o', c4, e, hy⟩ := (H'.out.keep HD.out.below).at_ (show k < ys.length by omega)
        cases e
        have hs1 : (k : Int) < (xs.length : Int) := by omega
        have hs2 : (k : Int) < (ys.length : Int) := by omega
        have HT := Lib.hid (take_succ_eq hlt (show k < ys.length by omega) hb.out)
        have HN := Lib.hid (ne_of_at hlt (show k < ys.length by omega))
        generalize xs[k] = x at hx HT HN
        generalize ys[k]'(by omega) = y at hy HT HN
        by_cases hxy : x = y
        · subst hxy
          have e1 : (x != x) = false := by simp
          have e2 : (x == x) = true := by simp
          go_wp2_with fail
          go_quiet (fail)
          go_wp2
          go_roundw
          case rel => exact ⟨k + 1, by omega, by go_num, HT.out (by simp), HD.out.more _⟩
          case measure => simp [intOf]; omega
        · have e1 : (x != y) = true := by simpa using hxy
          have e2 : (x == y) = false := by simpa using hxy
          have HXY := Lib.hid hxy
          clear hxy
          go_wp2_with fail
          go_quiet (fail)
          go_wp2
          go_ret
          exact ⟨ret_bool (by simpa using (HN.out HXY.out)), HD.out.more _⟩
      · go_wp2
        go_ret
        have h := hb.out
        rw [take_all (by omega), take_all (by omega)] at h
        exact ⟨ret_bool (by simpa using h), HD.out⟩
  · have hl' : ((xs.length : Int) != (ys.length : Int)) = true := by simp; omega
    have HL := Lib.hid hl
    clear hl
    go_enter Try.func136, Try.ntmps136
    go_wp2
    go_ret
    exact ⟨ret_bool (by simp; rintro rfl; exact HL.out rfl), Drawn.refl _⟩
end

section
open Go.RowKit
set_option linter.unusedVariables false

theorem l1Same_any (v v' : Value) (xs ys : List Int) (w : World) (h : RInts w v xs) (h' : RInts w v' ys) :
    Calls Try.prog 137 #[v, v'] w fun e w' => e = .returned (.bool (decide (xs = ys))) ∧ Drawn w w' := by
  have H := Lib.hid h
  have H' := Lib.hid h'
  have hn := h.len
  have hn' := h'.len
  obtain ⟨A, c, rfl, -⟩ := h.form
  obtain ⟨A', c', rfl, -⟩ := h'.form
  clear h h'
  go_enter Try.func137, Try.ntmps137
  go_wp2
  go_loopw [5] (fun i wr => ∃ k : Nat, k ≤ xs.length ∧ k ≤ ys.length ∧ i = .int .i64 k ∧ xs.take k = ys.take k ∧ Drawn w wr) (fun i _ => xs.length - (intOf i).toNat)
  case atStart => exact ⟨0, Nat.zero_le _, Nat.zero_le _, rfl, rfl, Drawn.refl _⟩
  case round =>
    obtain ⟨k, hk, hk2, rfl, hb0, hd⟩ := hrel
    have hb := Lib.hid hb0
    have HD := Lib.hid hd
    clear hb0 hd
    by_cases hlt : k < xs.length
    · have hs1 : (k : Int) < (xs.length : Int) := by omega
      by_cases hlt2 : k < ys.length
      · have hs2 : (k : Int) < (ys.length : Int) := by omega
        obtain ⟨b, o, c3, e, hx⟩ := (H.out.keep HD.out.below).at_ hlt
        cases e
        obtain ⟨b', o', c4, e, hy⟩ := (H'.out.keep HD.out.below).at_ hlt2
        cases e
        have HT := Lib.hid (take_succ_eq hlt hlt2 hb.out)
        have HN := Lib.hid (ne_of_at hlt hlt2)
        generalize xs[k] = x at hx HT HN
        generalize ys[k] = y at hy HT HN
        by_cases hxy : x = y
        · subst hxy
          have e1 : (x != x) = false := by simp
          have e2 : (x == x) = true := by simp
          go_wp2_with fail
          go_quiet (fail)
          go_wp2
          go_roundw
          case rel => exact ⟨k + 1, by omega, by omega, by go_num, HT.out (by simp), HD.out.more _⟩
          case measure => simp [intOf]; omega
        · have e1 : (x != y) = true := by simpa using hxy
          have e2 : (x == y) = false := by simpa using hxy
          have HXY := Lib.hid hxy
          clear hxy
          go_wp2_with fail
          go_quiet (fail)
          go_wp2
          go_ret
          exact ⟨ret_bool (by simpa using (HN.out HXY.out)), HD.out.more _⟩
      · have hs2 : ¬ (k : Int) < (ys.length : Int) := by omega
        have e3 : ((xs.length : Int) == (ys.length : Int)) = false := by rw [beq_eq_false_iff_ne]; omega
        have HNE := Lib.hid (show decide (xs = ys) = false by simp; rintro rfl; omega)
        go_wp2
        go_ret
        exact ⟨ret_bool HNE.out.symm, HD.out⟩
    · have hs1 : ¬ (k : Int) < (xs.length : Int) := by omega
      by_cases hle : xs.length = ys.length
      · have e3 : ((xs.length : Int) == (ys.length : Int)) = true := by rw [beq_iff_eq]; omega
        have HEQ := Lib.hid (show decide (xs = ys) = true by
          have h := hb.out
          rw [take_all (by omega), take_all (by omega)] at h
          simpa using h)
        clear hle
        go_wp2
        go_ret
        exact ⟨ret_bool HEQ.out.symm, HD.out⟩
      · have e3 : ((xs.length : Int) == (ys.length : Int)) = false := by rw [beq_eq_false_iff_ne]; omega
        have HNE := Lib.hid (show decide (xs = ys) = false by simp; rintro rfl; omega)
        clear hle
        go_wp2
        go_ret
        exact ⟨ret_bool HNE.out.symm, HD.out⟩
end
end Go.Proofs.Yticldaddbljleaa
