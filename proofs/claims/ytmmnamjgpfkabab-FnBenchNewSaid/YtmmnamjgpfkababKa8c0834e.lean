/- The plain functions of models: tables, values of terms, rows of values by their numbers. No walk. · What a model of a signature is (plain), the values of terms in it, where an equation fails, models along maps, pairs. No walk. · Rows led by a map: ledRow (impl), l4Row, l4Term (spec). · slices.Equal on rows of numbers. · l1Same: rows compared (package spec). · MapOk of both packages. · isValue, sizesOf, rowsOf of package impl. · tableOk of package impl. · ModelOk of package impl. · A local struct whose rows are filled, one after the other, by append. No walk. -/
import Derived.Test.YtmmnamjgpfkababK40e6ab92
namespace Go.Proofs.Ytmmnamjgpfkabab
section
open Go.RowKit
set_option linter.unusedVariables false
set_option linter.unusedSimpArgs false

/-- how many rows of values -/
def waysM : List Int → Int
  | [] => 1
  | z :: zs => z * waysM zs
theorem waysM_append (xs ys : List Int) : waysM (xs ++ ys) = waysM xs * waysM ys := by
  induction xs with
  | nil => simp [waysM]
  | cons x xs ih => simp only [List.cons_append, waysM, ih, Int.mul_assoc]
theorem waysM_take {xs : List Int} {k : Nat} (hk : k < xs.length) : waysM (xs.take (k + 1)) = waysM (xs.take k) * xs[k] := by
  rw [List.take_succ_eq_append_getElem hk, waysM_append]; simp [waysM]
/-- sizes of sorts -/
def Sizes (zs : List Int) : Prop := ∀ z ∈ zs, 1 ≤ z ∧ z ≤ 3
theorem Sizes.take {zs : List Int} (h : Sizes zs) (k : Nat) : Sizes (zs.take k) := fun z hz => h z (List.mem_of_mem_take hz)
theorem Sizes.tail {z : Int} {zs : List Int} (h : Sizes (z :: zs)) : Sizes zs := fun x hx => h x (List.mem_cons_of_mem _ hx)
theorem ways_pos {zs : List Int} (h : Sizes zs) : 1 ≤ waysM zs := by
  induction zs with
  | nil => simp [waysM]
  | cons z zs ih =>
    have h1 := h z (List.mem_cons_self ..)
    have h2 := ih h.tail
    simp only [waysM]
    have := Int.mul_le_mul h1.1 h2 (by omega) (by omega)
    omega
theorem ways_le {zs : List Int} (h : Sizes zs) : waysM zs ≤ 3 ^ zs.length := by
  induction zs with
  | nil => simp [waysM]
  | cons z zs ih =>
    have h1 := h z (List.mem_cons_self ..)
    have h2 := ih h.tail
    have h3 := ways_pos h.tail
    simp only [waysM, List.length_cons]
    rw [Int.pow_succ, Int.mul_comm (3 ^ zs.length) 3]
    exact Int.mul_le_mul h1.2 h2 (by omega) (by omega)
theorem ways_few {zs : List Int} (h : Sizes zs) (hl : zs.length ≤ 4) : waysM zs ≤ 81 := by
  have h1 := ways_le h
  have : ∀ n : Nat, n ≤ 4 → (3 : Int) ^ n ≤ 81 := by
    intro n hn
    match n, hn with
    | 0, _ => decide
    | 1, _ => decide
    | 2, _ => decide
    | 3, _ => decide
    | 4, _ => decide
  exact Int.le_trans h1 (this _ hl)

/-- the number that a row of values has -/
def placeM : Int → List Int → List Int → Int
  | p, z :: zs, v :: vs => placeM (p * z + v) zs vs
  | p, _, _ => p
def InAll (zs vs : List Int) : Prop := vs.length = zs.length ∧ ∀ (j : Nat) (h : j < zs.length) (h' : j < vs.length), 0 ≤ vs[j] ∧ vs[j] < zs[j]
theorem InAll.tail {z v : Int} {zs vs : List Int} (h : InAll (z :: zs) (v :: vs)) : (0 ≤ v ∧ v < z) ∧ InAll zs vs := by
  obtain ⟨h1, h2⟩ := h
  refine ⟨h2 0 (by simp) (by simp), by simpa using h1, fun j a b => ?_⟩
  exact h2 (j + 1) (by simpa using a) (by simpa using b)
theorem InAll.cons {z v : Int} {zs vs : List Int} (h : 0 ≤ v ∧ v < z) (h2 : InAll zs vs) : InAll (z :: zs) (v :: vs) := by
  refine ⟨by simp [h2.1], fun j a b => ?_⟩
  cases j with
  | zero => exact h
  | succ j => exact h2.2 j (by simpa using a) (by simpa using b)
theorem InAll.nil : InAll [] [] := ⟨rfl, fun j h => by simp at h⟩
theorem InAll.take {zs vs : List Int} (h : InAll zs vs) (k : Nat) : InAll (zs.take k) (vs.take k) := by
  refine ⟨by simp [h.1], fun j a b => ?_⟩
  simp only [List.length_take] at a b
  simp only [List.getElem_take]
  exact h.2 j (by omega) (by omega)
theorem place_bound {zs vs : List Int} (hz : Sizes zs) (h : InAll zs vs) : ∀ p : Int, 0 ≤ p → p * waysM zs ≤ placeM p zs vs ∧ placeM p zs vs < (p + 1) * waysM zs := by
  induction zs generalizing vs with
  | nil =>
    intro p hp
    cases vs with
    | nil => simp [placeM, waysM]; omega
    | cons v vs => have := h.1; simp at this
  | cons z zs ih =>
    intro p hp
    cases vs with
    | nil => have := h.1; simp at this
    | cons v vs =>
      obtain ⟨⟨h1, h2⟩, h3⟩ := h.tail
      have hz1 := hz z (List.mem_cons_self ..)
      have hw := ways_pos hz.tail
      have hp0 : 0 ≤ p * z := Int.mul_nonneg hp (by omega)
      obtain ⟨i1, i2⟩ := ih hz.tail h3 (p * z + v) (by omega)
      simp only [placeM, waysM]
      refine ⟨Int.le_trans ?_ i1, Int.lt_of_lt_of_le i2 ?_⟩
      · rw [← Int.mul_assoc]
        exact Int.mul_le_mul_of_nonneg_right (by omega) (by omega)
      · rw [← Int.mul_assoc]
        refine Int.mul_le_mul_of_nonneg_right ?_ (by omega)
        rw [Int.add_mul]; omega
theorem place_in {zs vs : List Int} (hz : Sizes zs) (h : InAll zs vs) : 0 ≤ placeM 0 zs vs ∧ placeM 0 zs vs < waysM zs := by
  have := place_bound hz h 0 (Int.le_refl _)
  simpa using this
theorem placeM_snoc : ∀ (zs vs : List Int) (z v p : Int), zs.length = vs.length → placeM p (zs ++ [z]) (vs ++ [v]) = placeM p zs vs * z + v
  | [], [], z, v, p, _ => by simp [placeM]
  | a :: zs, b :: vs, z, v, p, h => by
    simp only [List.cons_append, placeM]
    exact placeM_snoc zs vs z v _ (by simpa using h)
  | [], b :: vs, z, v, p, h => by simp at h
  | a :: zs, [], z, v, p, h => by simp at h
theorem placeM_take {zs vs : List Int} {k : Nat} (hz : k < zs.length) (hv : k < vs.length) : placeM 0 (zs.take (k + 1)) (vs.take (k + 1)) = placeM 0 (zs.take k) (vs.take k) * zs[k] + vs[k] := by
  rw [List.take_succ_eq_append_getElem hz, List.take_succ_eq_append_getElem hv, placeM_snoc _ _ _ _ _ (by simp; omega)]

/-- the row of values with a number -/
def digM : List Int → Int → List Int
  | [], _ => []
  | z :: zs, n => (n / waysM zs) % z :: digM zs n
theorem digM_len (zs : List Int) (n : Int) : (digM zs n).length = zs.length := by
  induction zs with
  | nil => rfl
  | cons z zs ih => simp [digM, ih]
theorem digM_at : ∀ {zs : List Int} {n : Int} {k : Nat} (h : k < zs.length), (digM zs n)[k]? = some ((n / waysM (zs.drop (k + 1))) % zs[k])
  | z :: zs, n, 0, h => by simp [digM]
  | z :: zs, n, k + 1, h => by
    simp only [digM, List.getElem?_cons_succ, List.drop_succ_cons, List.getElem_cons_succ]
    exact digM_at (by simpa using h)
theorem dig_in {zs : List Int} (hz : Sizes zs) (n : Int) : InAll zs (digM zs n) := by
  induction zs with
  | nil => exact InAll.nil
  | cons z zs ih =>
    have := hz z (List.mem_cons_self ..)
    exact InAll.cons ⟨Int.emod_nonneg _ (by omega), Int.emod_lt_of_pos _ (by omega)⟩ (ih hz.tail)
/-- behind the last place that is told: what is left of the number -/
theorem dig_left {zs : List Int} (hz : Sizes zs) {n : Int} {k : Nat} (h : k < zs.length) : (n / waysM (zs.drop (k + 1))) / zs[k] = n / waysM (zs.drop k) := by
  have hw := ways_pos (zs := zs.drop (k + 1)) (fun z hz' => hz z (List.mem_of_mem_drop hz'))
  rw [List.drop_eq_getElem_cons h]
  simp only [waysM]
  rw [Int.mul_comm, Int.ediv_ediv, if_neg (by omega), Int.sub_zero]

/-- the next row of values -/
def nextM : List Int → List Int → List Int × Bool
  | z :: zs, x :: xs => if (nextM zs xs).2 then (x :: (nextM zs xs).1, true) else if x + 1 < z then ((x + 1) :: (nextM zs xs).1, true) else (0 :: (nextM zs xs).1, false)
  | _, _ => ([], false)
theorem nextM_len : ∀ {zs xs : List Int}, xs.length = zs.length → (nextM zs xs).1.length = xs.length
  | [], [], _ => rfl
  | z :: zs, x :: xs, h => by
    have ih := nextM_len (zs := zs) (xs := xs) (by simpa using h)
    simp only [nextM]
    split
    · simp [ih]
    · split <;> simp [ih]
  | [], x :: xs, h => by simp at h
  | z :: zs, [], h => by simp at h
theorem next_dig {zs : List Int} (hz : Sizes zs) (n : Int) (hn : 0 ≤ n) : nextM zs (digM zs n) = (digM zs (n + 1), !((n + 1) % waysM zs == 0)) := by
  induction zs with
  | nil => simp [nextM, digM, waysM, Int.emod_one]
  | cons z zs ih =>
    have hz1 := hz z (List.mem_cons_self ..)
    have hw := ways_pos hz.tail
    have ih := ih hz.tail
    simp only [digM, nextM, ih, waysM]
    clear ih
    generalize waysM zs = W at *
    have hd := Int.emod_add_mul_ediv n W
    have hd1 := Int.emod_add_mul_ediv (n + 1) W
    have b1 := Int.emod_nonneg n (show W ≠ 0 by omega)
    have b2 := Int.emod_lt_of_pos n (show 0 < W by omega)
    have b3 := Int.emod_nonneg (n + 1) (show W ≠ 0 by omega)
    have b4 := Int.emod_lt_of_pos (n + 1) (show 0 < W by omega)
    have hq0 : 0 ≤ n / W := Int.ediv_nonneg hn (by omega)
    have key : (n + 1) % (z * W) = W * ((n + 1) / W % z) + (n + 1) % W := by
      generalize (n + 1) / W = q at *
      have c1 := Int.emod_nonneg q (show z ≠ 0 by omega)
      have c2 := Int.emod_lt_of_pos q (show 0 < z by omega)
      have c3 := Int.emod_add_mul_ediv q z
      have c4 : W * (q % z) ≤ W * (z - 1) := Int.mul_le_mul_of_nonneg_left (by omega) (by omega)
      have c5 : 0 ≤ W * (q % z) := Int.mul_nonneg (by omega) c1
      rw [Int.mul_sub] at c4
      have e : n + 1 = (W * (q % z) + (n + 1) % W) + z * W * (q / z) := by
        have : W * q = W * (q % z) + z * W * (q / z) := by
          conv => lhs; rw [← c3]
          rw [Int.mul_add, Int.mul_comm z W, Int.mul_assoc]
        omega
      conv => lhs; rw [e]
      rw [Int.add_mul_emod_self_left, Int.emod_eq_of_lt (by omega) (by rw [Int.mul_comm z W]; omega)]
    by_cases hm : (n + 1) % W = 0
    · have h1 : n % W + 1 = W := by
        rcases Int.lt_trichotomy (n % W + 1) W with hh | hh | hh
        · exfalso
          have : (n + 1) % W = n % W + 1 := by
            have e : n + 1 = (n % W + 1) + W * (n / W) := by omega
            rw [e, Int.add_mul_emod_self_left, Int.emod_eq_of_lt (by omega) hh]
          omega
        · exact hh
        · omega
      have h2 : n + 1 = W * (n / W + 1) := by rw [Int.mul_add]; omega
      have hq : (n + 1) / W = n / W + 1 := by rw [h2, Int.mul_ediv_cancel_left _ (by omega)]
      rw [hm, hq] at key
      rw [hm, hq, key]
      clear key hd1 b3 b4 h2
      have c1 := Int.emod_nonneg (n / W) (show z ≠ 0 by omega)
      have c2 := Int.emod_lt_of_pos (n / W) (show 0 < z by omega)
      have c3 := Int.emod_add_mul_ediv (n / W) z
      generalize n / W = q at *
      by_cases hc : q % z + 1 < z
      · have e1 : (q + 1) % z = q % z + 1 := by
          have e : q + 1 = (q % z + 1) + z * (q / z) := by omega
          rw [e, Int.add_mul_emod_self_left, Int.emod_eq_of_lt (by omega) hc]
        have hpos : 0 < W * (q % z + 1) := Int.mul_pos (by omega) (by omega)
        rw [e1]
        have hne : ¬ W * (q % z + 1) + 0 = 0 := by omega
        simp [hc, hne]
        omega
      · have e1 : (q + 1) % z = 0 := by
          have e : q + 1 = z * (q / z + 1) := by rw [Int.mul_add]; omega
          rw [e, Int.mul_emod_right]
        rw [e1]
        simp [hc]
    · have h1 : ¬ n % W + 1 = W := by
        intro h1
        apply hm
        have : n + 1 = W * (n / W + 1) := by rw [Int.mul_add]; omega
        rw [this, Int.mul_emod_right]
      have hq : (n + 1) / W = n / W := by
        have h2 : n + 1 = (n % W + 1) + W * (n / W) := by omega
        rw [h2, Int.add_mul_ediv_left _ _ (by omega), Int.ediv_eq_zero_of_lt (by omega) (by omega)]
        omega
      have c1 := Int.emod_nonneg ((n + 1) / W) (show z ≠ 0 by omega)
      have hnn : 0 ≤ W * ((n + 1) / W % z) := Int.mul_nonneg (by omega) c1
      have hm2 : ¬ (n + 1) % (z * W) = 0 := by rw [key]; omega
      simp [hm, hm2, hq]
end

section
open Go.RowKit
theorem List.mem_of_mem_dropLast' {x : Int} {l : List Int} (h : x ∈ l.dropLast) : x ∈ l := List.dropLast_subset l h
set_option linter.unusedVariables false
set_option linter.unusedSimpArgs false

theorem sizes_led {sizes row : List Int} (hz : Sizes sizes) (hin : ∀ x ∈ row, 0 ≤ x ∧ x < 100 ∧ x < (sizes.length : Int)) : Sizes (ledM sizes row) := by
  intro z hzm
  unfold ledM at hzm
  obtain ⟨x, hx, rfl⟩ := List.mem_map.1 hzm
  obtain ⟨h0, h1, h2⟩ := hin x hx
  rw [if_pos h1, getD_at _ (show x.toNat < sizes.length by omega)]
  exact hz _ (List.getElem_mem _)
def tableB (sizes row table : List Int) : Bool := decide ((table.length : Int) = waysM (ledM sizes row.dropLast)) && belowB table (sizes.getD (row.getLastD (-1)).toNat 0)
def tabB (s : MSig) (m : MModel) (k : Nat) : Bool := tableB m.sizes (s.ops.getD k []) (m.tables.getD k [])
def allTab (s : MSig) (m : MModel) (n : Nat) : Bool := (List.range n).all (tabB s m)
theorem allTab_zero (s : MSig) (m : MModel) : allTab s m 0 = true := rfl
theorem allTab_succ (s : MSig) (m : MModel) (n : Nat) : allTab s m (n + 1) = (allTab s m n && tabB s m n) := by
  unfold allTab; rw [List.range_succ, List.all_append]; simp
theorem allTab_bad {s : MSig} {m : MModel} {k n : Nat} (hk : k < n) (h : tabB s m k = false) : allTab s m n = false := by
  unfold allTab; rw [List.all_eq_false]; exact ⟨k, List.mem_range.2 hk, by simp [h]⟩
def sizesB (zs : List Int) : Bool := zs.all fun z => inB z 1 3
theorem sizesB_iff {zs : List Int} : sizesB zs = true ↔ Sizes zs := by unfold sizesB Sizes inB; simp
theorem sizesB_bad {zs : List Int} {k : Nat} (hk : k < zs.length) (h : inB zs[k] 1 3 = false) : sizesB zs = false := all_bad hk h
def modelB (s : MSig) (m : MModel) : Bool := (((validB s && decide ((m.sizes.length : Int) = s.sorts)) && decide (m.tables.length = s.ops.length)) && sizesB m.sizes) && allTab s m m.tables.length
theorem model_no1 {s : MSig} {m : MModel} (h : validB s = false) : modelB s m = false := by unfold modelB; simp [h]
theorem model_no2 {s : MSig} {m : MModel} (h : ¬ (m.sizes.length : Int) = s.sorts) : modelB s m = false := by unfold modelB; simp [h]
theorem model_no3 {s : MSig} {m : MModel} (h : ¬ m.tables.length = s.ops.length) : modelB s m = false := by unfold modelB; simp [h]
theorem model_no4 {s : MSig} {m : MModel} (h : sizesB m.sizes = false) : modelB s m = false := by unfold modelB; simp [h]
theorem model_no5 {s : MSig} {m : MModel} {k : Nat} (hk : k < m.tables.length) (h : tabB s m k = false) : modelB s m = false := by unfold modelB; simp [allTab_bad hk h]
theorem model_yes {s : MSig} {m : MModel} (h1 : validB s = true) (h2 : (m.sizes.length : Int) = s.sorts) (h3 : m.tables.length = s.ops.length) (h4 : sizesB m.sizes = true) (h5 : allTab s m m.tables.length = true) : modelB s m = true := by
  unfold modelB; simp only [h1, h2, h3, h4, decide_true, Bool.true_and]; rw [← h3]; exact h5
structure ModFacts (s : MSig) (m : MModel) : Prop where
  va : validB s = true
  sl : (m.sizes.length : Int) = s.sorts
  tl : m.tables.length = s.ops.length
  sz : Sizes m.sizes
  tb : ∀ k, k < s.ops.length → tableB m.sizes (opRow s k) (m.tables.getD k []) = true
theorem model_facts {s : MSig} {m : MModel} (h : modelB s m = true) : ModFacts s m := by
  unfold modelB at h
  simp only [Bool.and_eq_true, decide_eq_true_eq] at h
  obtain ⟨⟨⟨⟨h1, h2⟩, h3⟩, h4⟩, h5⟩ := h
  refine ⟨h1, h2, h3, sizesB_iff.1 h4, fun k hk => ?_⟩
  unfold allTab at h5
  rw [List.all_eq_true] at h5
  exact h5 k (List.mem_range.2 (by omega))
theorem facts_model {s : MSig} {m : MModel} (h : ModFacts s m) : modelB s m = true :=
  model_yes h.va h.sl h.tl (sizesB_iff.2 h.sz) (by
    unfold allTab
    rw [List.all_eq_true]
    exact fun k hk => h.tb k (by have := List.mem_range.1 hk; have := h.tl; omega))
/-- the sizes of what an operation takes -/
def takenM (s : MSig) (m : MModel) (k : Nat) : List Int := ledM m.sizes (opRow s k).dropLast
section
variable {s : MSig} {m : MModel}
theorem ModFacts.sorts (h : ModFacts s m) : m.sizes.length ≤ 3 ∧ 1 ≤ m.sizes.length := by have := valid_sorts h.va; have := h.sl; omega
theorem ModFacts.size (h : ModFacts s m) {x : Int} (h0 : 0 ≤ x) (h1 : x < s.sorts) : ∃ hx : x.toNat < m.sizes.length, m.sizes.getD x.toNat 0 = m.sizes[x.toNat] ∧ 1 ≤ m.sizes[x.toNat] ∧ m.sizes[x.toNat] ≤ 3 := by
  have := h.sl
  have hx : x.toNat < m.sizes.length := by omega
  exact ⟨hx, getD_at _ hx, h.sz _ (List.getElem_mem _)⟩
theorem ModFacts.led (h : ModFacts s m) {row : List Int} (hr : ∀ x ∈ row, 0 ≤ x ∧ x < s.sorts) : Sizes (ledM m.sizes row) := by
  have h1 := valid_sorts h.va
  have h2 := h.sl
  exact sizes_led h.sz fun x hx => by have := hr x hx; omega
theorem ModFacts.into (h : ModFacts s m) {row : List Int} (hr : ∀ x ∈ row, 0 ≤ x ∧ x < s.sorts) : InTo m.sizes row := fun x hx _ => by have := hr x hx; have := h.sl; omega
theorem ModFacts.taken (h : ModFacts s m) {k : Nat} (hk : k < s.ops.length) : Sizes (takenM s m k) ∧ (takenM s m k).length ≤ 2 := by
  obtain ⟨h1, h2, h3⟩ := opRow_valid h.va hk
  refine ⟨h.led fun x hx => h3 x (List.mem_of_mem_dropLast' hx), ?_⟩
  unfold takenM; rw [ledM_len, List.length_dropLast]; omega
theorem ModFacts.table (h : ModFacts s m) {k : Nat} (hk : k < s.ops.length) : ∃ hk' : k < m.tables.length, m.tables.getD k [] = m.tables[k] ∧ (m.tables[k].length : Int) = waysM (takenM s m k) ∧ ∀ x ∈ m.tables[k], 0 ≤ x ∧ x < m.sizes.getD ((opRow s k).getLastD (-1)).toNat 0 := by
  have hk' : k < m.tables.length := by rw [h.tl]; exact hk
  have := h.tb k hk
  rw [getD_at _ hk'] at this
  unfold tableB belowB at this
  simp only [Bool.and_eq_true, decide_eq_true_eq, List.all_eq_true] at this
  exact ⟨hk', getD_at _ hk', this.1, this.2⟩
end

/-! values of terms -/
def sizesT (m : MModel) (ts : List Tm) : List Int := ts.map fun t => m.sizes.getD t.sort.toNat 0
mutual
def valT (m : MModel) (vals : List Int) : Tm → Int
  | .leaf k _ => vals.getD k 0
  | .node op _ ts => (m.tables.getD op []).getD (placeM 0 (sizesT m ts) (valTs m vals ts)).toNat 0
def valTs (m : MModel) (vals : List Int) : List Tm → List Int
  | [] => []
  | t :: ts => valT m vals t :: valTs m vals ts
end
theorem valTs_map (m : MModel) (vals : List Int) : ∀ ts, valTs m vals ts = ts.map (valT m vals)
  | [] => by simp [valTs]
  | t :: ts => by simp [valTs, valTs_map m vals ts]
theorem valTs_len (m : MModel) (vals : List Int) (ts : List Tm) : (valTs m vals ts).length = ts.length := by rw [valTs_map]; simp
theorem sizesT_len (m : MModel) (ts : List Tm) : (sizesT m ts).length = ts.length := by simp [sizesT]
theorem valT_node (m : MModel) (vals : List Int) (op : Nat) (lv : Int) (ts : List Tm) : valT m vals (.node op lv ts) = (m.tables.getD op []).getD (placeM 0 (sizesT m ts) (valTs m vals ts)).toNat 0 := by simp [valT]
theorem wfTs_sorts {s : MSig} {vars : List Int} : ∀ {ss : List Int} {ts : List Tm}, wfTs s vars ss ts → ss = ts.map Tm.sort
  | ss, [], h => by unfold wfTs at h; simp [h]
  | ss, t :: ts, h => by
    unfold wfTs at h
    obtain ⟨x, ss', rfl, rfl, -, h2⟩ := h
    simp [wfTs_sorts h2]
/-- the sizes of the terms that an operation takes are those of its row -/
theorem sizesT_taken {s : MSig} {m : MModel} {vars : List Int} (h : ModFacts s m) {op : Nat} {lv : Int} {ts : List Tm} (hw : wfT s vars (.node op lv ts)) : sizesT m ts = takenM s m op := by
  unfold wfT at hw
  obtain ⟨hk, -, hts⟩ := hw
  have hs := wfTs_sorts hts
  unfold takenM ledM
  rw [hs, List.map_map]
  unfold sizesT
  refine List.map_congr_left fun t ht => ?_
  have hm : t.sort ∈ (opRow s op).dropLast := by rw [hs]; exact List.mem_map_of_mem ht
  have := (opRow_valid h.va hk).2.2 _ (List.mem_of_mem_dropLast' hm)
  have h3 := valid_sorts h.va
  show m.sizes.getD t.sort.toNat 0 = if t.sort < 100 then m.sizes.getD t.sort.toNat 0 else t.sort
  rw [if_pos (by omega)]
/-- values of letters -/
def ValsOk (m : MModel) (vars vals : List Int) : Prop := vals.length = vars.length ∧ ∀ (k : Nat) (h : k < vars.length) (h' : k < vals.length), 0 ≤ vals[k] ∧ vals[k] < m.sizes.getD (vars[k]).toNat 0
mutual
theorem valT_in {s : MSig} {m : MModel} {vars vals : List Int} (h : ModFacts s m) (hv : ValsOk m vars vals) : ∀ tm : Tm, wfT s vars tm → 0 ≤ valT m vals tm ∧ valT m vals tm < m.sizes.getD tm.sort.toNat 0
  | .leaf k of, hw => by
    unfold wfT at hw
    obtain ⟨hk, rfl⟩ := hw
    have hk' : k < vals.length := by rw [hv.1]; exact hk
    simp only [valT, Tm.sort]
    rw [getD_at _ hk', getD_at _ hk]
    exact hv.2 k hk hk'
  | .node op lv ts, hw => by
    have hw0 := hw
    unfold wfT at hw
    obtain ⟨hk, rfl, hts⟩ := hw
    have hin := valTs_in h hv ts _ hts
    rw [valT_node]
    obtain ⟨hk', e, hl, hx⟩ := h.table hk
    obtain ⟨p0, p1⟩ := place_in (zs := sizesT m ts) (by rw [sizesT_taken h hw0]; exact (h.taken hk).1) hin
    rw [sizesT_taken h hw0, ← hl] at p1
    rw [sizesT_taken h hw0] at p0
    rw [sizesT_taken h hw0]
    rw [e, getD_at _ (show (placeM 0 (takenM s m op) (valTs m vals ts)).toNat < m.tables[op].length by omega)]
    exact hx _ (List.getElem_mem _)
theorem valTs_in {s : MSig} {m : MModel} {vars vals : List Int} (h : ModFacts s m) (hv : ValsOk m vars vals) : ∀ (ts : List Tm) (ss : List Int), wfTs s vars ss ts → InAll (sizesT m ts) (valTs m vals ts)
  | [], ss, hw => by unfold sizesT valTs; exact InAll.nil
  | t :: ts, ss, hw => by
    unfold wfTs at hw
    obtain ⟨x, ss', rfl, rfl, h1, h2⟩ := hw
    have := valTs_in h hv ts _ h2
    unfold valTs
    exact InAll.cons (valT_in h hv t h1) this
end
theorem place_table {s : MSig} {m : MModel} {vars vals : List Int} (h : ModFacts s m) (hv : ValsOk m vars vals) {op : Nat} {lv : Int} {ts : List Tm} (hw : wfT s vars (.node op lv ts)) :
    ∃ (n : Nat) (hk : op < m.tables.length) (hn : n < m.tables[op].length), placeM 0 (sizesT m ts) (valTs m vals ts) = (n : Int) ∧ valT m vals (.node op lv ts) = m.tables[op][n] := by
  have hw0 := hw
  unfold wfT at hw
  obtain ⟨hk, rfl, hts⟩ := hw
  have hin := valTs_in h hv ts _ hts
  obtain ⟨hk', e, hl, hx⟩ := h.table hk
  obtain ⟨p0, p1⟩ := place_in (zs := sizesT m ts) (by rw [sizesT_taken h hw0]; exact (h.taken hk).1) hin
  rw [sizesT_taken h hw0, ← hl] at p1
  rw [sizesT_taken h hw0] at p0
  rw [valT_node, e]
  rw [sizesT_taken h hw0]
  exact ⟨(placeM 0 (takenM s m op) (valTs m vals ts)).toNat, hk', by omega, by omega, getD_at _ _⟩
def valsB (s : MSig) (m : MModel) (vars vals : List Int) : Bool := ((varsB s vars && modelB s m) && decide (vals.length = vars.length)) && (List.range vals.length).all fun k => decide (0 ≤ vals.getD k 0) && decide (vals.getD k 0 < m.sizes.getD (vars.getD k 0).toNat 0)
def valOkAt (m : MModel) (vars vals : List Int) (k : Nat) : Bool := decide (0 ≤ vals.getD k 0) && decide (vals.getD k 0 < m.sizes.getD (vars.getD k 0).toNat 0)
def allVal (m : MModel) (vars vals : List Int) (n : Nat) : Bool := (List.range n).all (valOkAt m vars vals)
theorem allVal_zero (m : MModel) (vars vals : List Int) : allVal m vars vals 0 = true := rfl
theorem allVal_succ (m : MModel) (vars vals : List Int) (n : Nat) : allVal m vars vals (n + 1) = (allVal m vars vals n && valOkAt m vars vals n) := by
  unfold allVal; rw [List.range_succ, List.all_append]; simp
theorem allVal_bad {m : MModel} {vars vals : List Int} {k n : Nat} (hk : k < n) (h : valOkAt m vars vals k = false) : allVal m vars vals n = false := by
  unfold allVal; rw [List.all_eq_false]; exact ⟨k, List.mem_range.2 hk, by simp [h]⟩
theorem valsB_eq (s : MSig) (m : MModel) (vars vals : List Int) : valsB s m vars vals = (((varsB s vars && modelB s m) && decide (vals.length = vars.length)) && allVal m vars vals vals.length) := rfl
theorem vals_no1 {s : MSig} {m : MModel} {vars vals : List Int} (h : varsB s vars = false) : valsB s m vars vals = false := by rw [valsB_eq]; simp [h]
theorem vals_no2 {s : MSig} {m : MModel} {vars vals : List Int} (h : modelB s m = false) : valsB s m vars vals = false := by rw [valsB_eq]; simp [h]
theorem vals_no3 {s : MSig} {m : MModel} {vars vals : List Int} (h : ¬ vals.length = vars.length) : valsB s m vars vals = false := by rw [valsB_eq]; simp [h]
theorem vals_no4 {s : MSig} {m : MModel} {vars vals : List Int} {k : Nat} (hk : k < vals.length) (h : valOkAt m vars vals k = false) : valsB s m vars vals = false := by rw [valsB_eq]; simp [allVal_bad hk h]
theorem vals_yes {s : MSig} {m : MModel} {vars vals : List Int} (h1 : varsB s vars = true) (h2 : modelB s m = true) (h3 : vals.length = vars.length) (h4 : allVal m vars vals vals.length = true) : valsB s m vars vals = true := by
  rw [valsB_eq]; simp only [h1, h2, h3, decide_true, Bool.true_and]; rw [← h3]; exact h4
theorem vals_facts {s : MSig} {m : MModel} {vars vals : List Int} (h : valsB s m vars vals = true) : varsB s vars = true ∧ modelB s m = true ∧ ValsOk m vars vals := by
  rw [valsB_eq] at h
  simp only [Bool.and_eq_true, decide_eq_true_eq] at h
  obtain ⟨⟨⟨h1, h2⟩, h3⟩, h4⟩ := h
  refine ⟨h1, h2, h3, fun k hk hk' => ?_⟩
  unfold allVal at h4
  rw [List.all_eq_true] at h4
  have := h4 k (List.mem_range.2 hk')
  unfold valOkAt at this
  rw [getD_at _ hk', getD_at _ hk] at this
  simpa using this
def valueM (s : MSig) (m : MModel) (vars t vals : List Int) : Int :=
  match termM s vars t with
  | some tm => if valsB s m vars vals then valT m vals tm else -1
  | none => -1
/-- the numbers of the row of values are those of the letters -/
theorem dig_vals {s : MSig} {m : MModel} {vars : List Int} (h : ModFacts s m) (hv : varsB s vars = true) (n : Int) : ValsOk m vars (digM (ledM m.sizes vars) n) := by
  obtain ⟨-, -, h3⟩ := vars_valid hv
  have hz : Sizes (ledM m.sizes vars) := h.led fun x hx => by obtain ⟨k, hk, rfl⟩ := List.getElem_of_mem hx; exact h3 k hk
  obtain ⟨h1, h2⟩ := dig_in hz n
  rw [ledM_len] at h1
  refine ⟨h1, fun k hk hk' => ?_⟩
  have hl : k < (ledM m.sizes vars).length := by rw [ledM_len]; exact hk
  have := h2 k hl hk'
  have e := ledM_at (tq := m.sizes) hk
  rw [List.getElem?_eq_getElem hl] at e
  have hx := h3 k hk
  have hvs := valid_sorts h.va
  rw [if_pos (by omega)] at e
  injection e with e
  rw [e] at this
  exact this

/-! where an equation fails -/
def failAt (m : MModel) (zs : List Int) (l r : Tm) (n : Nat) : Bool := valT m (digM zs n) l != valT m (digM zs n) r
/-- from the number n on -/
def failFrom (m : MModel) (zs : List Int) (l r : Tm) : Nat → Nat → Option (List Int)
  | 0, _ => none
  | f + 1, n => if failAt m zs l r n then some (digM zs n) else failFrom m zs l r f (n + 1)
def failRow (m : MModel) (zs : List Int) (l r : Tm) : Option (List Int) := failFrom m zs l r (waysM zs).toNat 0
theorem failFrom_step {m : MModel} {zs : List Int} {l r : Tm} {f n : Nat} (h : failAt m zs l r n = false) : failFrom m zs l r (f + 1) n = failFrom m zs l r f (n + 1) := by
  simp [failFrom, h]
theorem failFrom_hit {m : MModel} {zs : List Int} {l r : Tm} {f n : Nat} (h : failAt m zs l r n = true) : failFrom m zs l r (f + 1) n = some (digM zs n) := by
  simp [failFrom, h]
def failsM (s : MSig) (m : MModel) (e : MEq) : List Int × Bool :=
  if eqOkB s e && modelB s m then
    match termM s e.vars e.left, termM s e.vars e.right with
    | some l, some r =>
      match failRow m (ledM m.sizes e.vars) l r with
      | some row => (row, true)
      | none => ([], false)
    | _, _ => ([], false)
  else ([], false)
def holdsB (s : MSig) (m : MModel) (e : MEq) : Bool := (eqOkB s e && modelB s m) && !(failsM s m e).2
def isModelB (t : MThy) (m : MModel) : Bool := (thyB t && modelB t.over m) && t.eqs.all (holdsB t.over m)

/-! along a map; pairs -/
def modBackM (a b : MSig) (f : MMap) (m : MModel) : MModel :=
  if mapOkB a b f && modelB b m then ⟨ledM m.sizes f.sorts, f.ops.map fun o => m.tables.getD o.toNat []⟩ else ⟨[], []⟩
def timesM (xs ys : List Int) : List Int := List.zipWith (· * ·) xs ys
end

section
open Go.RowKit
set_option linter.unusedVariables false
set_option linter.unusedSimpArgs false

theorem led_app {w : World} {B m : Nat} {v : Value} {ps rs : List Int} (hm : rs.length = m) (h : w.ownsRow B 3 1 v (ps.length + m) (ps.map (Value.int .i64) ++ rs.map (Value.int .i64))) : OInts w B v (ps ++ rs) := by
  unfold OInts; rw [List.length_append, List.map_append, hm]; exact h
theorem led_new (w : World) (n : Int) : ∀ (j : Nat) (u : Value), ([n].map (Value.int .i64))[j]? = some u → (w.alloc (.cells #[.int .i64 n] 3)).cell? ((⟨w.heap.size, 0, none⟩ : Addr).add j) = some u := by
  intro j u hj
  match j, hj with
  | 0, hj =>
    simp at hj
    subst hj
    rw [show (⟨w.heap.size, 0, none⟩ : Addr).add 0 = ⟨w.heap.size, 0, none⟩ by simp [Addr.add], World.cell?_alloc_at _ _ _ _ rfl]; rfl
theorem filling_below {w wr : World} {zs : List Int} {k : Nat} (h : Filling w wr zs k) : Below w.heap.size w wr := by
  obtain ⟨_, _, _, _, hb⟩ := h; exact hb

theorem led_below {W wr w6 : World} {o : Obj} {A : Option Addr} {n c : Nat} (h : Below W.heap.size W wr) (hg : (wr.alloc o).drew.grownBy w6 (Value.slice A n c).ownBlock) (hr : ∀ k, (Value.slice A n c).ownBlock = some k → W.heap.size ≤ k) : Below W.heap.size W w6 := by
  have h1 := h.alloc h.size o
  have h2 : Below W.heap.size W (wr.alloc o).drew := ⟨h1.os, h1.tape, h1.output, h1.size, h1.block⟩
  exact h2.grown hg h2.size hr

set_option maxRecDepth 100000 in
theorem ledRow_any (v v' : Value) (row tq : List Int) (w : World) (h : RInts w v row) (h' : RInts w v' tq) (hin : InTo tq row) (hs : row.length ≤ 1048576) :
    Calls Try.prog 128 #[v, v'] w fun e w' => ∃ u, e = .returned u ∧ OInts w' w.heap.size u (ledM tq row) ∧ Below w.heap.size w w' := by
  have H := Lib.hid h
  have H' := Lib.hid h'
  have HIN := Lib.hid hin
  have hn' := h'.len
  obtain ⟨A, c, rfl, -⟩ := h.form
  obtain ⟨A', c', rfl, -⟩ := h'.form
  clear h h' hin
  have hmk := run_make_row' (P := Try.prog) 55 3 (.int .i64 0) 8 Try.underlying55 Try.tinfo_int rfl .i64 .i64 row.length (by omega) (by omega)
  go_enter Try.func128, Try.ntmps128
  go_wp2
  go_loopw [6, 7, 13] (fun a b i wr => ∃ k : Nat, k ≤ row.length ∧ i = .int .i64 k ∧ Filling w wr (ledM tq row) k) (fun _ _ i _ => row.length - (intOf i).toNat)
  case atStart => exact ⟨0, Nat.zero_le _, rfl, Filling.start w _ _ (by rw [ledM_len]; simp [madeCells])⟩
  case round =>
    obtain ⟨k, hk, rfl, hf⟩ := hrel
    have HF := Lib.hid hf
    clear hf hmk
    by_cases hlt : k < row.length
    · have hlt' : (k : Int) < (row.length : Int) := by omega
      obtain ⟨b, o, c', e, hx⟩ := (H.out.keep (filling_below HF.out)).at_ hlt
      cases e
      obtain ⟨u, g1, g2⟩ := HF.out.cell (by rw [ledM_len]; exact hlt)
      have HX := Lib.hid (ledM_at (tq := tq) hlt)
      have HI := Lib.hid (HIN.out _ (List.getElem_mem hlt))
      generalize row[k] = x at hx HX HI
      by_cases hl : x < 100
      · obtain ⟨n, rfl⟩ : ∃ n : Nat, x = (n : Int) := ⟨x.toNat, by have := HI.out hl; omega⟩
        have hnl : n < tq.length := by have := HI.out hl; omega
        have hnl' : (n : Int) < (tq.length : Int) := by omega
        have hn0 : (0 : Int) ≤ (n : Int) := by omega
        obtain ⟨b2, o2, c2, e2, hy⟩ := (H'.out.keep (filling_below HF.out)).at_ hnl
        cases e2
        have HY := Lib.hid (show (if (n : Int) < 100 then tq.getD (n : Int).toNat 0 else (n : Int)) = tq[n] by rw [if_pos hl, Int.toNat_natCast, getD_at _ hnl])
        generalize tq[n] = y at hy HY
        go_wp2
        go_roundw
        case rel => exact ⟨k + 1, by omega, by go_num, HF.out.step (by rw [ledM_len]; exact hlt) (by have h := HX.out; rw [HY.out] at h; exact (List.getElem?_eq_some_iff.1 h).2)⟩
        case measure => simp [intOf]; omega
      · have hl' : 100 ≤ x := by omega
        have HY := Lib.hid (show (if x < 100 then tq.getD x.toNat 0 else x) = x by rw [if_neg hl])
        go_wp2
        go_roundw
        case rel => exact ⟨k + 1, by omega, by go_num, HF.out.step (by rw [ledM_len]; exact hlt) (by have h := HX.out; rw [HY.out] at h; exact (List.getElem?_eq_some_iff.1 h).2)⟩
        case measure => simp [intOf]; omega
    · go_wp2
      go_ret
      obtain ⟨r1, r2⟩ := HF.out.done (by rw [ledM_len]; omega) (by omega)
      have hkn : k = row.length := by omega
      subst hkn
      exact ⟨_, rfl, r1, r2⟩
end

section
open Go.RowKit
set_option linter.unusedVariables false

theorem slEqual_any (v v' : Value) (xs ys : List Int) (w : World) (h : RInts w v xs) (h' : RInts w v' ys) :
    Calls Try.prog 110 #[v, v'] w fun e w' => e = .returned (.bool (decide (xs = ys))) ∧ Drawn w w' := by
  have H := Lib.hid h
  have H' := Lib.hid h'
  have hn := h.len
  have hn' := h'.len
  obtain ⟨A, c, rfl, -⟩ := h.form
  obtain ⟨A', c', rfl, -⟩ := h'.form
  clear h h'
  by_cases hl : xs.length = ys.length
  · have hl' : ((xs.length : Int) != (ys.length : Int)) = false := by simp [hl]
    have HL := Lib.hid hl
    have hle : xs.length ≤ ys.length := by omega
    have hge : ys.length ≤ xs.length := by omega
    clear hl
    go_enter Try.func110, Try.ntmps110
    go_wp2
    go_loopw [13] (fun i wr => ∃ k : Nat, k ≤ xs.length ∧ i = .int .i64 k ∧ xs.take k = ys.take k ∧ Drawn w wr) (fun i _ => xs.length - (intOf i).toNat)
    case atStart => exact ⟨0, Nat.zero_le _, rfl, rfl, Drawn.refl _⟩
    case round =>
      obtain ⟨k, hk, rfl, hb0, hd⟩ := hrel
      have hb := Lib.hid hb0
      have HD := Lib.hid hd
      clear hb0 hd
      by_cases hlt : k < xs.length
      · obtain ⟨b, o, c3, e, hx⟩ := (H.out.keep HD.out.below).at_ hlt
        cases e
        obtain ⟨b', o', c4, e, hy⟩ := (H'.out.keep HD.out.below).at_ (show k < ys.length by omega)
        cases e
        have hs1 : (k : Int) < (xs.length : Int) := by omega
        have hs2 : (k : Int) < (ys.length : Int) := by omega
        have HT := Lib.hid (take_succ_eq hlt (show k < ys.length by omega) hb.out)
        have HN := Lib.hid (ne_of_at hlt (show k < ys.length by omega))
        generalize xs[k] = x at hx HT HN
        generalize ys[k]'(by omega) = y at hy HT HN
        by_cases hxy : x = y
        · subst hxy
          have e1 : (x != x) = false := by simp
          have e2 : (x == x) = true := by simp
          go_wp2_with fail
          go_quiet (fail)
          go_wp2
          go_roundw
          case rel => exact ⟨k + 1, by omega, by go_num, HT.out (by simp), HD.out.more _⟩
          case measure => simp [intOf]; omega
        · have e1 : (x != y) = true := by simpa using hxy
          have e2 : (x == y) = false := by simpa using hxy
          have HXY := Lib.hid hxy
          clear hxy
          go_wp2_with fail
          go_quiet (fail)
          go_wp2
          go_ret
          exact ⟨ret_bool (by simpa using (HN.out HXY.out)), HD.out.more _⟩
      · go_wp2
        go_ret
        have h := hb.out
        rw [take_all (by omega), take_all (by omega)] at h
        exact ⟨ret_bool (by simpa using h), HD.out⟩
  · have hl' : ((xs.length : Int) != (ys.length : Int)) = true := by simp; omega
    have HL := Lib.hid hl
    clear hl
    go_enter Try.func110, Try.ntmps110
    go_wp2
    go_ret
    exact ⟨ret_bool (by simp; rintro rfl; exact HL.out rfl), Drawn.refl _⟩
end

section
open Go.RowKit
set_option linter.unusedVariables false

theorem l1Same_any (v v' : Value) (xs ys : List Int) (w : World) (h : RInts w v xs) (h' : RInts w v' ys) :
    Calls Try.prog 103 #[v, v'] w fun e w' => e = .returned (.bool (decide (xs = ys))) ∧ Drawn w w' := by
  have H := Lib.hid h
  have H' := Lib.hid h'
  have hn := h.len
  have hn' := h'.len
  obtain ⟨A, c, rfl, -⟩ := h.form
  obtain ⟨A', c', rfl, -⟩ := h'.form
  clear h h'
  go_enter Try.func103, Try.ntmps103
  go_wp2
  go_loopw [5] (fun i wr => ∃ k : Nat, k ≤ xs.length ∧ k ≤ ys.length ∧ i = .int .i64 k ∧ xs.take k = ys.take k ∧ Drawn w wr) (fun i _ => xs.length - (intOf i).toNat)
  case atStart => exact ⟨0, Nat.zero_le _, Nat.zero_le _, rfl, rfl, Drawn.refl _⟩
  case round =>
    obtain ⟨k, hk, hk2, rfl, hb0, hd⟩ := hrel
    have hb := Lib.hid hb0
    have HD := Lib.hid hd
    clear hb0 hd
    by_cases hlt : k < xs.length
    · have hs1 : (k : Int) < (xs.length : Int) := by omega
      by_cases hlt2 : k < ys.length
      · have hs2 : (k : Int) < (ys.length : Int) := by omega
        obtain ⟨b, o, c3, e, hx⟩ := (H.out.keep HD.out.below).at_ hlt
        cases e
        obtain ⟨b', o', c4, e, hy⟩ := (H'.out.keep HD.out.below).at_ hlt2
        cases e
        have HT := Lib.hid (take_succ_eq hlt hlt2 hb.out)
        have HN := Lib.hid (ne_of_at hlt hlt2)
        generalize xs[k] = x at hx HT HN
        generalize ys[k] = y at hy HT HN
        by_cases hxy : x = y
        · subst hxy
          have e1 : (x != x) = false := by simp
          have e2 : (x == x) = true := by simp
          go_wp2_with fail
          go_quiet (fail)
          go_wp2
          go_roundw
          case rel => exact ⟨k + 1, by omega, by omega, by go_num, HT.out (by simp), HD.out.more _⟩
          case measure => simp [intOf]; omega
        · have e1 : (x != y) = true := by simpa using hxy
          have e2 : (x == y) = false := by simpa using hxy
          have HXY := Lib.hid hxy
          clear hxy
          go_wp2_with fail
          go_quiet (fail)
          go_wp2
          go_ret
          exact ⟨ret_bool (by simpa using (HN.out HXY.out)), HD.out.more _⟩
      · have hs2 : ¬ (k : Int) < (ys.length : Int) := by omega
        have e3 : ((xs.length : Int) == (ys.length : Int)) = false := by rw [beq_eq_false_iff_ne]; omega
        have HNE := Lib.hid (show decide (xs = ys) = false by simp; rintro rfl; omega)
        go_wp2
        go_ret
        exact ⟨ret_bool HNE.out.symm, HD.out⟩
    · have hs1 : ¬ (k : Int) < (xs.length : Int) := by omega
      by_cases hle : xs.length = ys.length
      · have e3 : ((xs.length : Int) == (ys.length : Int)) = true := by rw [beq_iff_eq]; omega
        have HEQ := Lib.hid (show decide (xs = ys) = true by
          have h := hb.out
          rw [take_all (by omega), take_all (by omega)] at h
          simpa using h)
        clear hle
        go_wp2
        go_ret
        exact ⟨ret_bool HEQ.out.symm, HD.out⟩
      · have e3 : ((xs.length : Int) == (ys.length : Int)) = false := by rw [beq_eq_false_iff_ne]; omega
        have HNE := Lib.hid (show decide (xs = ys) = false by simp; rintro rfl; omega)
        clear hle
        go_wp2
        go_ret
        exact ⟨ret_bool HNE.out.symm, HD.out⟩
end

section
open Go.RowKit
set_option linter.unusedVariables false
set_option linter.unusedSimpArgs false

theorem map_drew {a w : World} {B : Nat} (h : Below B a w) : Below B a w.drew := ⟨h.os, h.tape, h.output, h.size, h.block⟩
theorem map_undrew {w w' : World} (h : Below w.drew.heap.size w.drew w') : Below w.heap.size w w' := ⟨h.os, h.tape, h.output, h.size, h.block⟩
theorem ledOp_neg {a b : MSig} {m : MMap} {k : Nat} (hk : k < m.ops.length) (h : m.ops[k] < 0) : ledOp a b m k = false := by
  unfold ledOp; rw [getD_at _ hk]; simp; omega
theorem ledOp_big {a b : MSig} {m : MMap} {k : Nat} (hk : k < m.ops.length) (h : (b.ops.length : Int) ≤ m.ops[k]) : ledOp a b m k = false := by
  unfold ledOp; rw [getD_at _ hk]; simp; omega
theorem ledOp_in {a b : MSig} {m : MMap} {k n : Nat} (hk : k < m.ops.length) (ha : k < a.ops.length) (hn : m.ops[k] = (n : Int)) (hb : n < b.ops.length) : ledOp a b m k = decide (ledM m.sorts a.ops[k] = b.ops[n]) := by
  unfold ledOp
  rw [getD_at _ hk, getD_at _ ha, hn, Int.toNat_natCast, getD_at _ hb]
  simp; omega
end

section
open Go.RowKit
set_option linter.unusedVariables false
set_option linter.unusedSimpArgs false

def inSize (z v : Int) : Bool := decide (0 ≤ v) && decide (v < z)
theorem inSize_neg {z v : Int} (h : v < 0) : inSize z v = false := by unfold inSize; simp; omega
theorem inSize_pos {z v : Int} (h : 0 ≤ v) : inSize z v = decide (v < z) := by unfold inSize; simp [h]
theorem inSize_inB {z v q : Int} (hq : q = z - 1) : inB v 0 q = inSize z v := by unfold inB inSize; rw [← Bool.decide_and, ← Bool.decide_and, decide_eq_decide]; omega
theorem belowB_step {xs : List Int} {z : Int} {k : Nat} (hk : k < xs.length) : belowB (xs.take (k+1)) z = (belowB (xs.take k) z && inSize z xs[k]) := belowB_take hk
theorem belowB_no {xs : List Int} {z : Int} {k : Nat} (hk : k < xs.length) (h : inSize z xs[k] = false) : belowB xs z = false := belowB_bad hk (by unfold inSize at h; simpa using h)

set_option maxRecDepth 100000 in
theorem isValue_any (m : MModel) (sort value : Int) (w : World) (v : Value) (h : RModel w v m) (hs : 0 ≤ sort) (hl : sort < (m.sizes.length : Int)) :
    Calls Try.prog 120 #[v, .int .i64 sort, .int .i64 value] w fun e w' => e = .returned (.bool (inSize (m.sizes.getD sort.toNat 0) value)) ∧ Below w.heap.size w w' := by
  obtain ⟨n, rfl⟩ : ∃ n : Nat, sort = (n : Int) := ⟨sort.toNat, by omega⟩
  have hn : n < m.sizes.length := by omega
  have hml := h.form
  obtain ⟨Ama, cma, Amb, cmb, rfl⟩ := h.form
  have hb : Below w.heap.size w (w.alloc (.cells #[.slice Ama m.sizes.length cma, .slice Amb m.tables.length cmb] 57)) := below_alloc _ _
  have HB := Lib.hid hb
  have hsz : (w.alloc (.cells #[.slice Ama m.sizes.length cma, .slice Amb m.tables.length cmb] 57)).heap.size = w.heap.size + 1 := by simp
  have Hm := Lib.hid (h.keep hb)
  have m0 := bx_at (w) #[.slice Ama m.sizes.length cma, .slice Amb m.tables.length cmb] 57 (k := 0) rfl
  have m1 := bx_at (w) #[.slice Ama m.sizes.length cma, .slice Amb m.tables.length cmb] 57 (k := 1) rfl
  generalize hW : w.alloc (.cells #[.slice Ama m.sizes.length cma, .slice Amb m.tables.length cmb] 57) = W at HB hsz Hm m0 m1
  clear hb h
  have hml1 := Hm.out.of.1.len
  obtain ⟨b, o, c, e, hx⟩ := Hm.out.of.1.at_ hn
  cases e
  rw [Int.toNat_natCast, getD_at _ hn]
  generalize m.sizes[n] = z at hx ⊢
  by_cases hv : value < 0
  · have HE := Lib.hid (inSize_neg (z := z) hv)
    have hv' : ¬ 0 ≤ value := by omega
    go_enter Try.func120, Try.ntmps120
    go_wp2
    go_ret
    exact ⟨ret_bool HE.out.symm, HB.out⟩
  · have hv' : 0 ≤ value := by omega
    have HE := Lib.hid (inSize_pos (z := z) hv')
    go_enter Try.func120, Try.ntmps120
    go_wp2
    go_ret
    exact ⟨ret_bool HE.out.symm, HB.out⟩

set_option maxRecDepth 100000 in
theorem sizesOf_any (m : MModel) (row : List Int) (w : World) (v v' : Value) (h : RModel w v m) (h' : RInts w v' row) (hin : InTo m.sizes row) (hs : row.length ≤ 1048576) :
    Calls Try.prog 119 #[v, v'] w fun e w' => ∃ u, e = .returned u ∧ OInts w' w.heap.size u (ledM m.sizes row) ∧ Below w.heap.size w w' := by
  obtain ⟨Ama, cma, Amb, cmb, rfl⟩ := h.form
  have hb : Below w.heap.size w (w.alloc (.cells #[.slice Ama m.sizes.length cma, .slice Amb m.tables.length cmb] 57)) := below_alloc _ _
  have HB := Lib.hid hb
  have hsz : (w.alloc (.cells #[.slice Ama m.sizes.length cma, .slice Amb m.tables.length cmb] 57)).heap.size = w.heap.size + 1 := by simp
  have Hm := Lib.hid (h.keep hb)
  have m0 := bx_at (w) #[.slice Ama m.sizes.length cma, .slice Amb m.tables.length cmb] 57 (k := 0) rfl
  have m1 := bx_at (w) #[.slice Ama m.sizes.length cma, .slice Amb m.tables.length cmb] 57 (k := 1) rfl
  generalize hW : w.alloc (.cells #[.slice Ama m.sizes.length cma, .slice Amb m.tables.length cmb] 57) = W at HB hsz Hm m0 m1
  clear hb h
  have H1 := Lib.hid (h'.keep HB.out)
  have HI := Lib.hid hin
  obtain ⟨A', c', rfl, -⟩ := h'.form
  clear h' hin
  go_enter Try.func119, Try.ntmps119
  go_wp2_with fail
  clear hW
  refine (ledRow_any _ _ row m.sizes _ H1.out Hm.out.of.1 HI.out hs).mono ?_
  rintro e w1 ⟨u, rfl, ho, hb⟩
  have HO := Lib.hid ho
  have HX := Lib.hid hb
  clear ho hb m0 m1
  go_wp2
  go_ret
  exact ⟨u, rfl, HO.out.base HB.out.size, sz_keep HB.out HX.out⟩

theorem ways_wrap {zs : List Int} (hz : Sizes zs) (hl : zs.length ≤ 4) {k : Nat} (hk : k < zs.length) : IntKind.i64.wrap (waysM (zs.take k) * zs[k]) = waysM (zs.take (k + 1)) := by
  have h1 := ways_few (hz.take (k + 1)) (by simp; omega)
  have h2 := ways_pos (hz.take (k + 1))
  rw [← waysM_take hk, IntKind.wrap_i64]; omega
set_option maxRecDepth 100000 in
theorem rowsOf_any (zs : List Int) (w : World) (v : Value) (h : RInts w v zs) (hz : Sizes zs) (hl : zs.length ≤ 4) :
    Calls Try.prog 118 #[v] w fun e w' => e = .returned (.int .i64 (waysM zs)) ∧ w = w' := by
  have H := Lib.hid h
  obtain ⟨A, c, rfl, -⟩ := h.form
  have HW := Lib.hid (fun (k : Nat) (hk : k < zs.length) => ways_wrap hz hl hk)
  clear h hz
  go_enter Try.func118, Try.ntmps118
  go_wp2
  go_loopw [3, 5, 8] (fun p _ i wr => ∃ k : Nat, k ≤ zs.length ∧ i = .int .i64 k ∧ p = .int .i64 (waysM (zs.take k)) ∧ w = wr) (fun _ _ i _ => zs.length - (intOf i).toNat)
  case atStart => exact ⟨0, Nat.zero_le _, rfl, rfl, rfl⟩
  case round =>
    obtain ⟨k, hk, rfl, rfl, rfl⟩ := hrel
    by_cases hlt : k < zs.length
    · obtain ⟨b, o, c', e, hx⟩ := H.out.at_ hlt
      cases e
      have hlt' : (k : Int) < (zs.length : Int) := by omega
      have hw := HW.out k hlt
      generalize zs[k] = z at hx hw
      generalize hq : waysM (zs.take (k + 1)) = q at hw
      have HQ := Lib.hid hq
      clear hq
      go_wp2
      go_roundw
      case rel => exact ⟨k + 1, by omega, by go_num, by rw [HQ.out], by first | trivial | rfl⟩
      case measure => simp [intOf]; omega
    · have hkn : k = zs.length := by omega
      have hlt' : ¬ (k : Int) < (zs.length : Int) := by omega
      have HT := Lib.hid (show zs.take k = zs from take_all (by omega))
      go_wp2
      go_ret
      exact ⟨rfl, rfl⟩
end

section
open Go.RowKit
set_option linter.unusedVariables false
set_option linter.unusedSimpArgs false

theorem tableB_len {sizes row table : List Int} (h : ¬ (table.length : Int) = waysM (ledM sizes row.dropLast)) : tableB sizes row table = false := by unfold tableB; simp [h]
theorem tableB_val {sizes row table : List Int} (h : belowB table (sizes.getD (row.getLastD (-1)).toNat 0) = false) : tableB sizes row table = false := by unfold tableB; rw [h, Bool.and_false]
theorem tableB_yes {sizes row table : List Int} (h1 : (table.length : Int) = waysM (ledM sizes row.dropLast)) (h : belowB table (sizes.getD (row.getLastD (-1)).toNat 0) = true) : tableB sizes row table = true := by unfold tableB; rw [h]; simp [h1]

set_option maxHeartbeats 1600000 in
set_option maxRecDepth 100000 in
theorem tableOk_any (m : MModel) (row table : List Int) (w : World) (v v1 v2 : Value) (h : RModel w v m) (h1 : RInts w v1 row) (h2 : RInts w v2 table) (hr1 : 1 ≤ row.length) (hr3 : row.length ≤ 3) (hz : Sizes m.sizes) (hin : ∀ x ∈ row, 0 ≤ x ∧ x < (m.sizes.length : Int)) (hms : m.sizes.length ≤ 3) :
    Calls Try.prog 100 #[v, v1, v2] w fun e w' => e = .returned (.bool (tableB m.sizes row table)) ∧ Below w.heap.size w w' := by
  obtain ⟨Ama, cma, Amb, cmb, rfl⟩ := h.form
  have hb : Below w.heap.size w (w.alloc (.cells #[.slice Ama m.sizes.length cma, .slice Amb m.tables.length cmb] 57)) := below_alloc _ _
  have HB := Lib.hid hb
  have hsz : (w.alloc (.cells #[.slice Ama m.sizes.length cma, .slice Amb m.tables.length cmb] 57)).heap.size = w.heap.size + 1 := by simp
  have Hm := Lib.hid (h.keep hb)
  have m0 := bx_at (w) #[.slice Ama m.sizes.length cma, .slice Amb m.tables.length cmb] 57 (k := 0) rfl
  have m1 := bx_at (w) #[.slice Ama m.sizes.length cma, .slice Amb m.tables.length cmb] 57 (k := 1) rfl
  generalize hW : w.alloc (.cells #[.slice Ama m.sizes.length cma, .slice Amb m.tables.length cmb] 57) = W at HB hsz Hm m0 m1
  clear hb h
  have H1 := Lib.hid (h1.keep HB.out)
  have H2 := Lib.hid (h2.keep HB.out)
  have hl2 := h2.len
  obtain ⟨n, hn⟩ : ∃ n : Nat, row.length = n + 1 := ⟨row.length - 1, by omega⟩
  have hne : n < row.length := by omega
  obtain ⟨b1, o1, c1, e, hx⟩ := H1.out.at_ hne
  obtain ⟨A2, c2, e2, -⟩ := H2.out.form
  cases e
  cases e2
  have hcap : n ≤ c1 := by
    obtain ⟨A9, c9, e, h9, -⟩ := H1.out.form
    cases e
    omega
  have HLB := Lib.hid (last_at (row := row) (by omega))
  have HLS : Hid (row.getLastD (-1) = row[n]) := by
    have := HLB.out
    simp only [hn, Nat.add_sub_cancel] at this
    exact this
  have HIL := Lib.hid (hin _ (List.getElem_mem hne))
  have HD := Lib.hid H1.out.dropLast
  rw [hn] at HD
  simp only [Nat.add_sub_cancel] at HD
  have HSZ : Hid (Sizes (ledM m.sizes row.dropLast)) := sizes_led hz fun x hx => by have := hin x (List.mem_of_mem_dropLast' hx); omega
  have HIN : Hid (InTo m.sizes row.dropLast) := fun x hx _ => hin x (List.mem_of_mem_dropLast' hx)
  have hdl : row.dropLast.length = n := by rw [List.length_dropLast, hn]; rfl
  have HDL := Lib.hid hdl
  generalize row[n] = last at hx HLS HIL
  have hw0 : IntKind.i64.wrap (((n + 1 : Nat) : Int) - 1) = (n : Int) := by rw [IntKind.wrap_i64]; omega
  have HCX := Lib.hid (And.intro m0 (And.intro m1 hx))
  obtain ⟨q, hq⟩ : ∃ q, waysM (ledM m.sizes row.dropLast) = q := ⟨_, rfl⟩
  have HQ := Lib.hid hq
  have hn3 : n ≤ 2 := by omega
  have hnn : (n : Int) < (n : Int) + 1 := by omega
  rw [hn]
  clear h1 h2 HLB hz hin hq hdl hne
  by_cases hlen : (table.length : Int) = q
  · have HLEN := Lib.hid hlen
    have e1 : ((table.length : Int) != q) = false := by simp [hlen]
    clear hlen
    go_enter Try.func100, Try.ntmps100
    go_wp2_with fail
    clear hW
    refine wp_region_held_drew (S := (fun w' => w'.cell? ⟨w.heap.size, 0, none⟩ = some (.slice Ama m.sizes.length cma) ∧ w'.cell? ⟨w.heap.size, 1, none⟩ = some (.slice Amb m.tables.length cmb))) (by kernel_rfl) ?_ (fun hHeld => ?_)
    · exact ⟨m0, m1⟩
    refine wpAnyH_take (i := 0) (oi := _) (v := ?_) rfl (by kernel_rfl) (by kernel_rfl) (by kernel_rfl) (fun _ _ _ h => h) (Or.inl ⟨by rfl, ?_⟩) (by assumption) ?_
    rotate_left
    · first | (intro w' hSw; (try dsimp only at hSw); go_simp; done) | (intro w' hSw; (try dsimp only at hSw); go_simp; with_reducible rfl)
    try simp only [Act.put, List.getElem_toArray, List.getElem_cons_zero, List.getElem_cons_succ, List.setIfInBounds_toArray, List.set_cons_zero, List.set_cons_succ]
    refine wpAnyH_take (i := 1) (oi := _) (v := ?_) rfl (by kernel_rfl) (by kernel_rfl) (by kernel_rfl) (fun _ _ _ h => h) (Or.inl ⟨by rfl, ?_⟩) (by assumption) ?_
    rotate_left
    · first | (intro w' hSw; (try dsimp only at hSw); go_simp; done) | (intro w' hSw; (try dsimp only at hSw); go_simp; with_reducible rfl)
    try simp only [Act.put, List.getElem_toArray, List.getElem_cons_zero, List.getElem_cons_succ, List.setIfInBounds_toArray, List.set_cons_zero, List.set_cons_succ]
    refine wpAnyH_take (i := 2) (oi := _) (v := ?_) rfl (by kernel_rfl) (by kernel_rfl) (by kernel_rfl) (fun _ _ _ h => h) (Or.inl ⟨by rfl, ?_⟩) (by assumption) ?_
    rotate_left
    · first | (intro w' hSw; (try dsimp only at hSw); go_simp; done) | (intro w' hSw; (try dsimp only at hSw); go_simp; with_reducible rfl)
    try simp only [Act.put, List.getElem_toArray, List.getElem_cons_zero, List.getElem_cons_succ, List.setIfInBounds_toArray, List.set_cons_zero, List.set_cons_succ]
    refine wpAnyH_take (i := 3) (oi := _) (v := ?_) rfl (by kernel_rfl) (by kernel_rfl) (by kernel_rfl) (fun _ _ _ h => h) (Or.inl ⟨by rfl, ?_⟩) (by assumption) ?_
    rotate_left
    · first | (intro w' hSw; (try dsimp only at hSw); go_simp; done) | (intro w' hSw; (try dsimp only at hSw); go_simp; with_reducible rfl)
    try simp only [Act.put, List.getElem_toArray, List.getElem_cons_zero, List.getElem_cons_succ, List.setIfInBounds_toArray, List.set_cons_zero, List.set_cons_succ]
    refine wpAnyH_take (i := 4) (oi := _) (v := ?_) rfl (by kernel_rfl) (by kernel_rfl) (by kernel_rfl) (fun _ _ _ h => h) (Or.inl ⟨by rfl, ?_⟩) (by assumption) ?_
    rotate_left
    · first | (intro w' hSw; (try dsimp only at hSw); go_simp; done) | (intro w' hSw; (try dsimp only at hSw); go_simp; with_reducible rfl)
    try simp only [Act.put, List.getElem_toArray, List.getElem_cons_zero, List.getElem_cons_succ, List.setIfInBounds_toArray, List.set_cons_zero, List.set_cons_succ]
    refine wpAnyH_take (i := 5) (oi := _) (v := ?_) rfl (by kernel_rfl) (by kernel_rfl) (by kernel_rfl) (fun _ _ _ h => h) (Or.inl ⟨by rfl, ?_⟩) (by assumption) ?_
    rotate_left
    · first | (intro w' hSw; (try dsimp only at hSw); go_simp; done) | (intro w' hSw; (try dsimp only at hSw); go_simp; with_reducible rfl)
    try simp only [Act.put, List.getElem_toArray, List.getElem_cons_zero, List.getElem_cons_succ, List.setIfInBounds_toArray, List.set_cons_zero, List.set_cons_succ]
    refine wpAnyH_ready (rs := [6]) (by kernel_rfl) (by simp) ?_
    refine AllReadyH.cons (o := _) rfl (fun K hK => ?_) AllReadyH.nil
    go_simp
    refine (sizesOf_any m row.dropLast _ _ _ (Hm.out.keep (map_drew (Below.refl _ _))) (HD.out.keep (map_drew (Below.refl _ _))) HIN.out (by rw [HDL.out]; omega)).mono ?_
    rintro x w4 ⟨u4, rfl, ho4, hb4⟩
    have hx4 := map_undrew hb4
    obtain ⟨A4, c4, rfl, -⟩ := ho4.reads.form
    have HO4 := Lib.hid ho4.reads
    have HX4 := Lib.hid hx4
    have j1 := cell_keep hx4 m0
    have j2 := cell_keep hx4 m1
    clear ho4 hb4 hx4
    go_wp2_with fail
    refine hK.out _ _ ?_ (fun hHeld => ?_)
    · exact ⟨j1, j2⟩
    clear hK K
    try simp only [Act.put, List.getElem_toArray, List.getElem_cons_zero, List.getElem_cons_succ, List.setIfInBounds_toArray, List.set_cons_zero, List.set_cons_succ]
    refine wpAnyH_ready (rs := [7]) (by kernel_rfl) (by simp) ?_
    refine AllReadyH.cons (o := _) rfl (fun K hK => ?_) AllReadyH.nil
    go_simp
    refine (rowsOf_any _ w4 _ HO4.out HSZ.out (by rw [ledM_len, HDL.out]; omega)).mono ?_
    rw [HQ.out]
    rintro x w5 ⟨rfl, rfl⟩
    go_wp2_with fail
    refine hK.out _ _ ?_ (fun hHeld => ?_)
    · exact ⟨j1, j2⟩
    clear hK K
    try simp only [Act.put, List.getElem_toArray, List.getElem_cons_zero, List.getElem_cons_succ, List.setIfInBounds_toArray, List.set_cons_zero, List.set_cons_succ]
    refine wpAnyH_take (i := 8) (oi := _) (v := ?_) rfl (by kernel_rfl) (by kernel_rfl) (by kernel_rfl) (fun _ _ _ h => h) (Or.inl ⟨by rfl, ?_⟩) (by assumption) ?_
    rotate_left
    · first | (intro w' hSw; (try dsimp only at hSw); go_simp; done) | (intro w' hSw; (try dsimp only at hSw); go_simp; with_reducible rfl)
    try simp only [Act.put, List.getElem_toArray, List.getElem_cons_zero, List.getElem_cons_succ, List.setIfInBounds_toArray, List.set_cons_zero, List.set_cons_succ]
    refine wpAnyH_done (by kernel_rfl) ?_ _
    clear m0 m1 j1 j2 hx
    go_wp2
    go_loopw [9, 24] (fun p i wr => ∃ k : Nat, k ≤ table.length ∧ i = .int .i64 k ∧ belowB (table.take k) (m.sizes.getD last.toNat 0) = true ∧ Below W.heap.size W wr) (fun _ i _ => table.length - (intOf i).toNat)
    case atStart => exact ⟨0, Nat.zero_le _, rfl, rfl, HX4.out⟩
    case round =>
      obtain ⟨k, hk, rfl, hb0, hd⟩ := hrel
      have HB0 := Lib.hid hb0
      have HBW := Lib.hid hd
      have f0 := cell_keep hd HCX.out.1
      have f1 := cell_keep hd HCX.out.2.1
      have f2 := cell_keep hd HCX.out.2.2
      clear hb0 hd
      by_cases hlt : k < table.length
      · obtain ⟨b3, o3, c3, e, hy⟩ := (H2.out.keep HBW.out).at_ hlt
        cases e
        have hlt' : (k : Int) < (table.length : Int) := by omega
        have HT := Lib.hid (belowB_step (z := m.sizes.getD last.toNat 0) hlt)
        have HN := Lib.hid (belowB_no (z := m.sizes.getD last.toNat 0) hlt)
        generalize table[k] = y at hy HT HN
        obtain ⟨r, hr⟩ : ∃ r, inSize (m.sizes.getD last.toNat 0) y = r := ⟨_, rfl⟩
        have HR := Lib.hid hr
        have hil := HIL.out
        clear hr
        go_wp2_with fail
        refine wp_region_held_drew (S := (fun w' => w'.cell? ⟨w.heap.size, 0, none⟩ = some (.slice Ama m.sizes.length cma) ∧ w'.cell? ⟨w.heap.size, 1, none⟩ = some (.slice Amb m.tables.length cmb) ∧ w'.cell? ⟨b1, o1 + n, none⟩ = some (.int .i64 last))) (by kernel_rfl) ?_ (fun hHeld => ?_)
        · exact ⟨f0, f1, f2⟩
        refine wpAnyH_take (i := 0) (oi := _) (v := ?_) rfl (by kernel_rfl) (by kernel_rfl) (by kernel_rfl) (fun _ _ _ h => h) (Or.inl ⟨by rfl, ?_⟩) (by assumption) ?_
        rotate_left
        · first | (intro w' hSw; (try dsimp only at hSw); go_simp; done) | (intro w' hSw; (try dsimp only at hSw); go_simp; with_reducible rfl)
        try simp only [Act.put, List.getElem_toArray, List.getElem_cons_zero, List.getElem_cons_succ, List.setIfInBounds_toArray, List.set_cons_zero, List.set_cons_succ]
        refine wpAnyH_take (i := 1) (oi := _) (v := ?_) rfl (by kernel_rfl) (by kernel_rfl) (by kernel_rfl) (fun _ _ _ h => h) (Or.inl ⟨by rfl, ?_⟩) (by assumption) ?_
        rotate_left
        · first | (intro w' hSw; (try dsimp only at hSw); go_simp; done) | (intro w' hSw; (try dsimp only at hSw); go_simp; with_reducible rfl)
        try simp only [Act.put, List.getElem_toArray, List.getElem_cons_zero, List.getElem_cons_succ, List.setIfInBounds_toArray, List.set_cons_zero, List.set_cons_succ]
        refine wpAnyH_take (i := 2) (oi := _) (v := ?_) rfl (by kernel_rfl) (by kernel_rfl) (by kernel_rfl) (fun _ _ _ h => h) (Or.inl ⟨by rfl, ?_⟩) (by assumption) ?_
        rotate_left
        · first | (intro w' hSw; (try dsimp only at hSw); go_simp; done) | (intro w' hSw; (try dsimp only at hSw); go_simp; with_reducible rfl)
        try simp only [Act.put, List.getElem_toArray, List.getElem_cons_zero, List.getElem_cons_succ, List.setIfInBounds_toArray, List.set_cons_zero, List.set_cons_succ]
        refine wpAnyH_take (i := 3) (oi := _) (v := ?_) rfl (by kernel_rfl) (by kernel_rfl) (by kernel_rfl) (fun _ _ _ h => h) (Or.inl ⟨by rfl, ?_⟩) (by assumption) ?_
        rotate_left
        · first | (intro w' hSw; (try dsimp only at hSw); go_simp; done) | (intro w' hSw; (try dsimp only at hSw); go_simp; with_reducible rfl)
        try simp only [Act.put, List.getElem_toArray, List.getElem_cons_zero, List.getElem_cons_succ, List.setIfInBounds_toArray, List.set_cons_zero, List.set_cons_succ]
        refine wpAnyH_take (i := 4) (oi := _) (v := ?_) rfl (by kernel_rfl) (by kernel_rfl) (by kernel_rfl) (fun _ _ _ h => h) (Or.inl ⟨by rfl, ?_⟩) (by assumption) ?_
        rotate_left
        · first | (intro w' hSw; (try dsimp only at hSw); go_simp; done) | (intro w' hSw; (try dsimp only at hSw); go_simp; with_reducible rfl)
        try simp only [Act.put, List.getElem_toArray, List.getElem_cons_zero, List.getElem_cons_succ, List.setIfInBounds_toArray, List.set_cons_zero, List.set_cons_succ]
        refine wpAnyH_take (i := 5) (oi := _) (v := ?_) rfl (by kernel_rfl) (by kernel_rfl) (by kernel_rfl) (fun _ _ _ h => h) (Or.inl ⟨by rfl, ?_⟩) (by assumption) ?_
        rotate_left
        · first | (intro w' hSw; (try dsimp only at hSw); go_simp; done) | (intro w' hSw; (try dsimp only at hSw); go_simp; with_reducible rfl)
        try simp only [Act.put, List.getElem_toArray, List.getElem_cons_zero, List.getElem_cons_succ, List.setIfInBounds_toArray, List.set_cons_zero, List.set_cons_succ]
        refine wpAnyH_ready (rs := [6]) (by kernel_rfl) (by simp) ?_
        refine AllReadyH.cons (o := _) rfl (fun K hK => ?_) AllReadyH.nil
        go_simp
        refine (isValue_any m last y _ _ ((Hm.out.keep HBW.out).keep (map_drew (Below.refl _ _))) hil.1 hil.2).mono ?_
        rw [HR.out]
        rintro x w6 ⟨rfl, hb6⟩
        have hx6 := map_undrew hb6
        have HX6 := Lib.hid (sz_keep HBW.out hx6)
        have j1 := cell_keep hx6 f0
        have j2 := cell_keep hx6 f1
        have j3 := cell_keep hx6 f2
        clear hb6 hx6
        go_wp2_with fail
        refine hK.out _ _ ?_ (fun hHeld => ?_)
        · exact ⟨j1, j2, j3⟩
        clear hK K
        try simp only [Act.put, List.getElem_toArray, List.getElem_cons_zero, List.getElem_cons_succ, List.setIfInBounds_toArray, List.set_cons_zero, List.set_cons_succ]
        refine wpAnyH_take (i := 7) (oi := _) (v := ?_) rfl (by kernel_rfl) (by kernel_rfl) (by kernel_rfl) (fun _ _ _ h => h) (Or.inl ⟨by rfl, ?_⟩) (by assumption) ?_
        rotate_left
        · first | (intro w' hSw; (try dsimp only at hSw); go_simp; done) | (intro w' hSw; (try dsimp only at hSw); go_simp; with_reducible rfl)
        try simp only [Act.put, List.getElem_toArray, List.getElem_cons_zero, List.getElem_cons_succ, List.setIfInBounds_toArray, List.set_cons_zero, List.set_cons_succ]
        refine wpAnyH_done (by kernel_rfl) ?_ _
        clear f0 f1 f2 j1 j2 j3 hy hil
        cases r with
        | true =>
          go_wp2
          go_roundw
          case rel => exact ⟨k + 1, by omega, by go_num, by rw [HT.out, HB0.out, HR.out]; rfl, HX6.out⟩
          case measure => simp [intOf]; omega
        | false =>
          have HF := Lib.hid (tableB_val (row := row) (by rw [HLS.out]; exact HN.out HR.out))
          go_wp2
          go_ret
          exact ⟨ret_bool HF.out.symm, sz_keep HB.out HX6.out⟩
      · have hkn : k = table.length := by omega
        have hlt' : ¬ (k : Int) < (table.length : Int) := by omega
        have HT := Lib.hid (show table.take k = table from take_all (by omega))
        rw [HT.out] at HB0
        have HF := Lib.hid (tableB_yes (sizes := m.sizes) (row := row) (by rw [HQ.out]; exact HLEN.out) (by rw [HLS.out]; exact HB0.out))
        clear f0 f1 f2
        go_wp2
        go_ret
        exact ⟨ret_bool HF.out.symm, sz_keep HB.out HBW.out⟩
  · have HF := Lib.hid (tableB_len (by rw [HQ.out]; exact hlen))
    have e1 : ((table.length : Int) != q) = true := by simpa using hlen
    clear hlen
    go_enter Try.func100, Try.ntmps100
    go_wp2_with fail
    clear hW
    refine wp_region_held_drew (S := (fun w' => w'.cell? ⟨w.heap.size, 0, none⟩ = some (.slice Ama m.sizes.length cma) ∧ w'.cell? ⟨w.heap.size, 1, none⟩ = some (.slice Amb m.tables.length cmb))) (by kernel_rfl) ?_ (fun hHeld => ?_)
    · exact ⟨m0, m1⟩
    refine wpAnyH_take (i := 0) (oi := _) (v := ?_) rfl (by kernel_rfl) (by kernel_rfl) (by kernel_rfl) (fun _ _ _ h => h) (Or.inl ⟨by rfl, ?_⟩) (by assumption) ?_
    rotate_left
    · first | (intro w' hSw; (try dsimp only at hSw); go_simp; done) | (intro w' hSw; (try dsimp only at hSw); go_simp; with_reducible rfl)
    try simp only [Act.put, List.getElem_toArray, List.getElem_cons_zero, List.getElem_cons_succ, List.setIfInBounds_toArray, List.set_cons_zero, List.set_cons_succ]
    refine wpAnyH_take (i := 1) (oi := _) (v := ?_) rfl (by kernel_rfl) (by kernel_rfl) (by kernel_rfl) (fun _ _ _ h => h) (Or.inl ⟨by rfl, ?_⟩) (by assumption) ?_
    rotate_left
    · first | (intro w' hSw; (try dsimp only at hSw); go_simp; done) | (intro w' hSw; (try dsimp only at hSw); go_simp; with_reducible rfl)
    try simp only [Act.put, List.getElem_toArray, List.getElem_cons_zero, List.getElem_cons_succ, List.setIfInBounds_toArray, List.set_cons_zero, List.set_cons_succ]
    refine wpAnyH_take (i := 2) (oi := _) (v := ?_) rfl (by kernel_rfl) (by kernel_rfl) (by kernel_rfl) (fun _ _ _ h => h) (Or.inl ⟨by rfl, ?_⟩) (by assumption) ?_
    rotate_left
    · first | (intro w' hSw; (try dsimp only at hSw); go_simp; done) | (intro w' hSw; (try dsimp only at hSw); go_simp; with_reducible rfl)
    try simp only [Act.put, List.getElem_toArray, List.getElem_cons_zero, List.getElem_cons_succ, List.setIfInBounds_toArray, List.set_cons_zero, List.set_cons_succ]
    refine wpAnyH_take (i := 3) (oi := _) (v := ?_) rfl (by kernel_rfl) (by kernel_rfl) (by kernel_rfl) (fun _ _ _ h => h) (Or.inl ⟨by rfl, ?_⟩) (by assumption) ?_
    rotate_left
    · first | (intro w' hSw; (try dsimp only at hSw); go_simp; done) | (intro w' hSw; (try dsimp only at hSw); go_simp; with_reducible rfl)
    try simp only [Act.put, List.getElem_toArray, List.getElem_cons_zero, List.getElem_cons_succ, List.setIfInBounds_toArray, List.set_cons_zero, List.set_cons_succ]
    refine wpAnyH_take (i := 4) (oi := _) (v := ?_) rfl (by kernel_rfl) (by kernel_rfl) (by kernel_rfl) (fun _ _ _ h => h) (Or.inl ⟨by rfl, ?_⟩) (by assumption) ?_
    rotate_left
    · first | (intro w' hSw; (try dsimp only at hSw); go_simp; done) | (intro w' hSw; (try dsimp only at hSw); go_simp; with_reducible rfl)
    try simp only [Act.put, List.getElem_toArray, List.getElem_cons_zero, List.getElem_cons_succ, List.setIfInBounds_toArray, List.set_cons_zero, List.set_cons_succ]
    refine wpAnyH_take (i := 5) (oi := _) (v := ?_) rfl (by kernel_rfl) (by kernel_rfl) (by kernel_rfl) (fun _ _ _ h => h) (Or.inl ⟨by rfl, ?_⟩) (by assumption) ?_
    rotate_left
    · first | (intro w' hSw; (try dsimp only at hSw); go_simp; done) | (intro w' hSw; (try dsimp only at hSw); go_simp; with_reducible rfl)
    try simp only [Act.put, List.getElem_toArray, List.getElem_cons_zero, List.getElem_cons_succ, List.setIfInBounds_toArray, List.set_cons_zero, List.set_cons_succ]
    refine wpAnyH_ready (rs := [6]) (by kernel_rfl) (by simp) ?_
    refine AllReadyH.cons (o := _) rfl (fun K hK => ?_) AllReadyH.nil
    go_simp
    refine (sizesOf_any m row.dropLast _ _ _ (Hm.out.keep (map_drew (Below.refl _ _))) (HD.out.keep (map_drew (Below.refl _ _))) HIN.out (by rw [HDL.out]; omega)).mono ?_
    rintro x w4 ⟨u4, rfl, ho4, hb4⟩
    have hx4 := map_undrew hb4
    obtain ⟨A4, c4, rfl, -⟩ := ho4.reads.form
    have HO4 := Lib.hid ho4.reads
    have HX4 := Lib.hid hx4
    have j1 := cell_keep hx4 m0
    have j2 := cell_keep hx4 m1
    clear ho4 hb4 hx4
    go_wp2_with fail
    refine hK.out _ _ ?_ (fun hHeld => ?_)
    · exact ⟨j1, j2⟩
    clear hK K
    try simp only [Act.put, List.getElem_toArray, List.getElem_cons_zero, List.getElem_cons_succ, List.setIfInBounds_toArray, List.set_cons_zero, List.set_cons_succ]
    refine wpAnyH_ready (rs := [7]) (by kernel_rfl) (by simp) ?_
    refine AllReadyH.cons (o := _) rfl (fun K hK => ?_) AllReadyH.nil
    go_simp
    refine (rowsOf_any _ w4 _ HO4.out HSZ.out (by rw [ledM_len, HDL.out]; omega)).mono ?_
    rw [HQ.out]
    rintro x w5 ⟨rfl, rfl⟩
    go_wp2_with fail
    refine hK.out _ _ ?_ (fun hHeld => ?_)
    · exact ⟨j1, j2⟩
    clear hK K
    try simp only [Act.put, List.getElem_toArray, List.getElem_cons_zero, List.getElem_cons_succ, List.setIfInBounds_toArray, List.set_cons_zero, List.set_cons_succ]
    refine wpAnyH_take (i := 8) (oi := _) (v := ?_) rfl (by kernel_rfl) (by kernel_rfl) (by kernel_rfl) (fun _ _ _ h => h) (Or.inl ⟨by rfl, ?_⟩) (by assumption) ?_
    rotate_left
    · first | (intro w' hSw; (try dsimp only at hSw); go_simp; done) | (intro w' hSw; (try dsimp only at hSw); go_simp; with_reducible rfl)
    try simp only [Act.put, List.getElem_toArray, List.getElem_cons_zero, List.getElem_cons_succ, List.setIfInBounds_toArray, List.set_cons_zero, List.set_cons_succ]
    refine wpAnyH_done (by kernel_rfl) ?_ _
    clear m0 m1 j1 j2 hx
    go_wp2
    go_ret
    exact ⟨ret_bool HF.out.symm, sz_keep HB.out HX4.out⟩
end

section
open Go.RowKit
set_option linter.unusedVariables false
set_option linter.unusedSimpArgs false

theorem inB13 {z : Int} : inB z 1 3 = (decide (1 ≤ z) && decide (z ≤ 3)) := rfl
theorem inB13_low {z : Int} (h : z < 1) : inB z 1 3 = false := by unfold inB; simp; omega
theorem inB13_high {z : Int} (h : 3 < z) : inB z 1 3 = false := by unfold inB; simp; omega
theorem inB13_yes {z : Int} (h1 : 1 ≤ z) (h2 : z ≤ 3) : inB z 1 3 = true := by unfold inB; simp [h1, h2]
theorem tabB_at {s : MSig} {m : MModel} {k : Nat} (hs : k < s.ops.length) (hm : k < m.tables.length) : tabB s m k = tableB m.sizes s.ops[k] m.tables[k] := by
  unfold tabB; rw [getD_at _ hs, getD_at _ hm]

set_option maxHeartbeats 3200000 in
set_option maxRecDepth 100000 in
theorem modelOk_any (s : MSig) (m : MModel) (w : World) (v v' : Value) (h1 : RSig w v s) (h2 : RModel w v' m) :
    Calls Try.prog 66 #[v, v'] w fun e w' => e = .returned (.bool (modelB s m)) ∧ Below w.heap.size w w' := by
  obtain ⟨Asa, csa, rfl⟩ := h1.form
  obtain ⟨Ama, cma, Amb, cmb, rfl⟩ := h2.form
  have hb : Below w.heap.size w ((w.alloc (.cells #[.int .i64 s.sorts, .slice Asa s.ops.length csa] 33)).alloc (.cells #[.slice Ama m.sizes.length cma, .slice Amb m.tables.length cmb] 57)) := (below_alloc _ _).alloc (by simp) _
  have HB := Lib.hid hb
  have hsz : ((w.alloc (.cells #[.int .i64 s.sorts, .slice Asa s.ops.length csa] 33)).alloc (.cells #[.slice Ama m.sizes.length cma, .slice Amb m.tables.length cmb] 57)).heap.size = w.heap.size + 2 := by simp
  have Hs := Lib.hid (h1.keep hb)
  have s0 := cell_keep (below_alloc (w.alloc (.cells #[.int .i64 s.sorts, .slice Asa s.ops.length csa] 33)) (.cells #[.slice Ama m.sizes.length cma, .slice Amb m.tables.length cmb] 57)) (bx_at (w) #[.int .i64 s.sorts, .slice Asa s.ops.length csa] 33 (k := 0) rfl)
  have s1 := cell_keep (below_alloc (w.alloc (.cells #[.int .i64 s.sorts, .slice Asa s.ops.length csa] 33)) (.cells #[.slice Ama m.sizes.length cma, .slice Amb m.tables.length cmb] 57)) (bx_at (w) #[.int .i64 s.sorts, .slice Asa s.ops.length csa] 33 (k := 1) rfl)
  have Hm := Lib.hid (h2.keep hb)
  have m0 := bx_at (w.alloc (.cells #[.int .i64 s.sorts, .slice Asa s.ops.length csa] 33)) #[.slice Ama m.sizes.length cma, .slice Amb m.tables.length cmb] 57 (k := 0) rfl
  have m1 := bx_at (w.alloc (.cells #[.int .i64 s.sorts, .slice Asa s.ops.length csa] 33)) #[.slice Ama m.sizes.length cma, .slice Amb m.tables.length cmb] 57 (k := 1) rfl
  simp only [World.size_alloc] at m0 m1
  generalize hW : (w.alloc (.cells #[.int .i64 s.sorts, .slice Asa s.ops.length csa] 33)).alloc (.cells #[.slice Ama m.sizes.length cma, .slice Amb m.tables.length cmb] 57) = W at HB hsz Hs s0 s1 Hm m0 m1
  clear hb h1 h2
  have hl1 := Hs.out.of.2.len
  have hl2 := Hm.out.of.1.len
  have hl3 := Hm.out.of.2.len
  cases hv : validB s with
  | false =>
    have HV := Lib.hid hv
    have HE := Lib.hid (model_no1 (m := m) hv)
    clear hv
    go_enter Try.func66, Try.ntmps66
    go_wp2_with fail
    clear hW
    refine (sigValid_any _ s _ Hs.out).mono ?_
    rw [HV.out]
    rintro e w1 ⟨rfl, hb⟩
    replace HB := Lib.hid (sz_keep HB.out hb)
    replace s0 := cell_keep hb s0
    replace s1 := cell_keep hb s1
    replace m0 := cell_keep hb m0
    replace m1 := cell_keep hb m1
    replace Hs := Lib.hid (Hs.out.keep hb)
    replace Hm := Lib.hid (Hm.out.keep hb)
    clear hb
    go_wp2
    go_ret
    exact ⟨ret_bool HE.out.symm, HB.out⟩
  | true =>
    have HV := Lib.hid hv
    have hsv := valid_sorts hv
    clear hv
    by_cases hs : (m.sizes.length : Int) = s.sorts
    · have e1 : ((m.sizes.length : Int) != s.sorts) = false := by simp [hs]
      have HSL := Lib.hid hs
      have hms3 : m.sizes.length ≤ 3 := by omega
      by_cases ho : m.tables.length = s.ops.length
      · have e2 : ((m.tables.length : Int) != (s.ops.length : Int)) = false := by simp [ho]
        have HOL := Lib.hid ho
        have hle : m.tables.length ≤ s.ops.length := by omega
        clear ho hs
        go_enter Try.func66, Try.ntmps66
        go_wp2_with fail
        clear hW
        refine (sigValid_any _ s _ Hs.out).mono ?_
        rw [HV.out]
        rintro e w1 ⟨rfl, hb⟩
        replace HB := Lib.hid (sz_keep HB.out hb)
        replace s0 := cell_keep hb s0
        replace s1 := cell_keep hb s1
        replace m0 := cell_keep hb m0
        replace m1 := cell_keep hb m1
        replace Hs := Lib.hid (Hs.out.keep hb)
        replace Hm := Lib.hid (Hm.out.keep hb)
        clear hb
        have HC := Lib.hid (And.intro s0 (And.intro s1 (And.intro m0 m1)))
        go_wp2
        clear s0 s1 m0 m1
        go_loopw [6, 32] (fun p i wr => ∃ k : Nat, k ≤ m.sizes.length ∧ i = .int .i64 k ∧ sizesB (m.sizes.take k) = true ∧ w1 = wr) (fun _ i _ => m.sizes.length - (intOf i).toNat)
        case atStart => exact ⟨0, Nat.zero_le _, rfl, rfl, rfl⟩
        case round =>
          obtain ⟨k, hk, rfl, hb0, rfl⟩ := hrel
          have HB0 := Lib.hid hb0
          clear hb0
          by_cases hlt : k < m.sizes.length
          · obtain ⟨b3, o3, c3, e, hx⟩ := Hm.out.of.1.at_ hlt
            cases e
            have hlt' : (k : Int) < (m.sizes.length : Int) := by omega
            have HT := Lib.hid (all_take (p := fun z => inB z 1 3) hlt)
            have HN := Lib.hid (sizesB_bad hlt)
            generalize m.sizes[k] = z at hx HT HN
            by_cases hz1 : z < 1
            · have HF := Lib.hid (model_no4 (s := s) (HN.out (inB13_low hz1)))
              go_wp2
              go_ret
              exact ⟨ret_bool HF.out.symm, HB.out⟩
            · by_cases hz3 : 3 < z
              · have HF := Lib.hid (model_no4 (s := s) (HN.out (inB13_high hz3)))
                go_wp2
                go_ret
                exact ⟨ret_bool HF.out.symm, HB.out⟩
              · have hz1' : 1 ≤ z := by omega
                have hz3' : z ≤ 3 := by omega
                have HR := Lib.hid (inB13_yes hz1' hz3')
                go_wp2
                go_roundw
                case rel => exact ⟨k + 1, by omega, by go_num, by unfold sizesB; rw [HT.out, HR.out]; have := HB0.out; unfold sizesB at this; rw [this]; rfl, by first | trivial | rfl⟩
                case measure => simp [intOf]; omega
          · have hkn : k = m.sizes.length := by omega
            have hlt' : ¬ (k : Int) < (m.sizes.length : Int) := by omega
            have HT := Lib.hid (show m.sizes.take k = m.sizes from take_all (by omega))
            rw [HT.out] at HB0
            have HZ := Lib.hid (sizesB_iff.1 HB0.out)
            have m1 := HC.out.2.2.2
            go_wp2
            clear m1
            go_loopw [7, 8, 46] (fun p q i wr => ∃ k : Nat, k ≤ m.tables.length ∧ i = .int .i64 k ∧ allTab s m k = true ∧ Below w1.heap.size w1 wr) (fun _ _ i _ => m.tables.length - (intOf i).toNat)
            case atStart => exact ⟨0, Nat.zero_le _, rfl, allTab_zero _ _, Below.refl _ _⟩
            case round =>
              obtain ⟨j, hj, rfl, hal, hd⟩ := hrel
              have HAL := Lib.hid hal
              have HD := Lib.hid hd
              have f1 := cell_keep hd HC.out.2.1
              have f2 := cell_keep hd HC.out.2.2.1
              have f3 := cell_keep hd HC.out.2.2.2
              clear hal hd
              by_cases hjl : j < m.tables.length
              · have hjl' : (j : Int) < (m.tables.length : Int) := by omega
                have hja : j < s.ops.length := by omega
                have hja' : (j : Int) < (s.ops.length : Int) := by omega
                have hj0 : (0 : Int) ≤ (j : Int) := by omega
                obtain ⟨b7, o7, c7, u7, e, hra, hri⟩ := (Hs.out.of.2.keep HD.out).at_ hja
                cases e
                obtain ⟨b8, o8, c8, u8, e, hrb, hrj⟩ := (Hm.out.of.2.keep HD.out).at_ hjl
                cases e
                have hvr := valid_row HV.out hja
                have HIN := Lib.hid (show ∀ x ∈ s.ops[j], 0 ≤ x ∧ x < (m.sizes.length : Int) from fun y hy => by have := hvr.2.2 y hy; have := HSL.out; omega)
                have HR13 := Lib.hid (And.intro hvr.1 hvr.2.1)
                have HTA := Lib.hid (tabB_at hja hjl)
                have HBAD := Lib.hid (fun h => model_no5 (s := s) hjl h)
                have HSUC := Lib.hid (allTab_succ s m j)
                generalize s.ops[j] = row at hri hra HIN HTA HR13
                generalize m.tables[j] = table at hrj hrb HTA
                have HRI := Lib.hid hri
                have HRJ := Lib.hid hrj
                obtain ⟨A7, d7, rfl, -⟩ := hri.form
                obtain ⟨A8, d8, rfl, -⟩ := hrj.form
                obtain ⟨r, hr⟩ : ∃ r, tableB m.sizes row table = r := ⟨_, rfl⟩
                rw [hr] at HTA
                have HR := Lib.hid hr
                clear hr hri hrj hvr
                go_wp2_with fail
                refine wp_region_held_drew (S := (fun w' => w'.cell? ⟨w.heap.size, 1, none⟩ = some (.slice (some ⟨b7, o7, none⟩) s.ops.length csa) ∧ w'.cell? ⟨w.heap.size + 1, 0, none⟩ = some (.slice Ama m.sizes.length cma) ∧ w'.cell? ⟨w.heap.size + 1, 1, none⟩ = some (.slice (some ⟨b8, o8, none⟩) m.tables.length cmb) ∧ w'.cell? ⟨b7, o7 + j, none⟩ = some (.slice A7 row.length d7))) (by kernel_rfl) ?_ (fun hHeld => ?_)
                · exact ⟨f1, f2, f3, hra⟩
                refine wpAnyH_take (i := 0) (oi := _) (v := ?_) rfl (by kernel_rfl) (by kernel_rfl) (by kernel_rfl) (fun _ _ _ h => h) (Or.inl ⟨by rfl, ?_⟩) (by assumption) ?_
                rotate_left
                · first | (intro w' hSw; (try dsimp only at hSw); go_simp; done) | (intro w' hSw; (try dsimp only at hSw); go_simp; with_reducible rfl)
                try simp only [Act.put, List.getElem_toArray, List.getElem_cons_zero, List.getElem_cons_succ, List.setIfInBounds_toArray, List.set_cons_zero, List.set_cons_succ]
                refine wpAnyH_take (i := 1) (oi := _) (v := ?_) rfl (by kernel_rfl) (by kernel_rfl) (by kernel_rfl) (fun _ _ _ h => h) (Or.inl ⟨by rfl, ?_⟩) (by assumption) ?_
                rotate_left
                · first | (intro w' hSw; (try dsimp only at hSw); go_simp; done) | (intro w' hSw; (try dsimp only at hSw); go_simp; with_reducible rfl)
                try simp only [Act.put, List.getElem_toArray, List.getElem_cons_zero, List.getElem_cons_succ, List.setIfInBounds_toArray, List.set_cons_zero, List.set_cons_succ]
                refine wpAnyH_take (i := 2) (oi := _) (v := ?_) rfl (by kernel_rfl) (by kernel_rfl) (by kernel_rfl) (fun _ _ _ h => h) (Or.inl ⟨by rfl, ?_⟩) (by assumption) ?_
                rotate_left
                · first | (intro w' hSw; (try dsimp only at hSw); go_simp; done) | (intro w' hSw; (try dsimp only at hSw); go_simp; with_reducible rfl)
                try simp only [Act.put, List.getElem_toArray, List.getElem_cons_zero, List.getElem_cons_succ, List.setIfInBounds_toArray, List.set_cons_zero, List.set_cons_succ]
                refine wpAnyH_take (i := 3) (oi := _) (v := ?_) rfl (by kernel_rfl) (by kernel_rfl) (by kernel_rfl) (fun _ _ _ h => h) (Or.inl ⟨by rfl, ?_⟩) (by assumption) ?_
                rotate_left
                · first | (intro w' hSw; (try dsimp only at hSw); go_simp; done) | (intro w' hSw; (try dsimp only at hSw); go_simp; with_reducible rfl)
                try simp only [Act.put, List.getElem_toArray, List.getElem_cons_zero, List.getElem_cons_succ, List.setIfInBounds_toArray, List.set_cons_zero, List.set_cons_succ]
                refine wpAnyH_take (i := 4) (oi := _) (v := ?_) rfl (by kernel_rfl) (by kernel_rfl) (by kernel_rfl) (fun _ _ _ h => h) (Or.inl ⟨by rfl, ?_⟩) (by assumption) ?_
                rotate_left
                · first | (intro w' hSw; (try dsimp only at hSw); go_simp; done) | (intro w' hSw; (try dsimp only at hSw); go_simp; with_reducible rfl)
                try simp only [Act.put, List.getElem_toArray, List.getElem_cons_zero, List.getElem_cons_succ, List.setIfInBounds_toArray, List.set_cons_zero, List.set_cons_succ]
                refine wpAnyH_take (i := 5) (oi := _) (v := ?_) rfl (by kernel_rfl) (by kernel_rfl) (by kernel_rfl) (fun _ _ _ h => h) (Or.inl ⟨by rfl, ?_⟩) (by assumption) ?_
                rotate_left
                · first | (intro w' hSw; (try dsimp only at hSw); go_simp; done) | (intro w' hSw; (try dsimp only at hSw); go_simp; with_reducible rfl)
                try simp only [Act.put, List.getElem_toArray, List.getElem_cons_zero, List.getElem_cons_succ, List.setIfInBounds_toArray, List.set_cons_zero, List.set_cons_succ]
                refine wpAnyH_take (i := 6) (oi := _) (v := ?_) rfl (by kernel_rfl) (by kernel_rfl) (by kernel_rfl) (fun _ _ _ h => h) (Or.inl ⟨by rfl, ?_⟩) (by assumption) ?_
                rotate_left
                · first | (intro w' hSw; (try dsimp only at hSw); go_simp; done) | (intro w' hSw; (try dsimp only at hSw); go_simp; with_reducible rfl)
                try simp only [Act.put, List.getElem_toArray, List.getElem_cons_zero, List.getElem_cons_succ, List.setIfInBounds_toArray, List.set_cons_zero, List.set_cons_succ]
                refine wpAnyH_ready (rs := [7]) (by kernel_rfl) (by simp) ?_
                refine AllReadyH.cons (o := _) rfl (fun K hK => ?_) AllReadyH.nil
                go_simp
                refine (tableOk_any m row table _ _ _ _ ((Hm.out.keep HD.out).keep (map_drew (Below.refl _ _))) (HRI.out.keep (map_drew (Below.refl _ _))) (HRJ.out.keep (map_drew (Below.refl _ _))) HR13.out.1 HR13.out.2 HZ.out HIN.out hms3).mono ?_
                rw [HR.out]
                rintro x w5 ⟨rfl, hb5⟩
                have hx5 := map_undrew hb5
                have HX5 := Lib.hid (sz_keep HD.out hx5)
                have q1 := cell_keep hx5 f1
                have q2 := cell_keep hx5 f2
                have q3 := cell_keep hx5 f3
                have q4 := cell_keep hx5 hra
                clear hx5 hb5
                go_wp2_with fail
                refine hK.out _ _ ?_ (fun hHeld => ?_)
                · exact ⟨q1, q2, q3, q4⟩
                clear hK K
                try simp only [Act.put, List.getElem_toArray, List.getElem_cons_zero, List.getElem_cons_succ, List.setIfInBounds_toArray, List.set_cons_zero, List.set_cons_succ]
                refine wpAnyH_take (i := 8) (oi := _) (v := ?_) rfl (by kernel_rfl) (by kernel_rfl) (by kernel_rfl) (fun _ _ _ h => h) (Or.inl ⟨by rfl, ?_⟩) (by assumption) ?_
                rotate_left
                · first | (intro w' hSw; (try dsimp only at hSw); go_simp; done) | (intro w' hSw; (try dsimp only at hSw); go_simp; with_reducible rfl)
                try simp only [Act.put, List.getElem_toArray, List.getElem_cons_zero, List.getElem_cons_succ, List.setIfInBounds_toArray, List.set_cons_zero, List.set_cons_succ]
                refine wpAnyH_done (by kernel_rfl) ?_ _
                clear f1 f2 f3 hra hrb q1 q2 q3 q4
                cases r with
                | true =>
                  go_wp2
                  go_roundw
                  case rel => exact ⟨j + 1, by omega, by go_num, by rw [HSUC.out, HAL.out, HTA.out]; rfl, HX5.out⟩
                  case measure => simp [intOf]; omega
                | false =>
                  have HF := Lib.hid (HBAD.out HTA.out)
                  go_wp2
                  go_ret
                  exact ⟨ret_bool HF.out.symm, sz_keep HB.out HX5.out⟩
              · have hkn2 : j = m.tables.length := by omega
                have hlt2 : ¬ (j : Int) < (m.tables.length : Int) := by omega
                have HE := Lib.hid (model_yes HV.out HSL.out HOL.out (sizesB_iff.2 HZ.out) (by rw [← hkn2]; exact HAL.out))
                clear f1 f2 f3
                go_wp2
                go_ret
                exact ⟨ret_bool HE.out.symm, sz_keep HB.out HD.out⟩
      · have e2 : ((m.tables.length : Int) != (s.ops.length : Int)) = true := by simp; omega
        have HE := Lib.hid (model_no3 ho)
        clear ho hs
        go_enter Try.func66, Try.ntmps66
        go_wp2_with fail
        clear hW
        refine (sigValid_any _ s _ Hs.out).mono ?_
        rw [HV.out]
        rintro e w1 ⟨rfl, hb⟩
        replace HB := Lib.hid (sz_keep HB.out hb)
        replace s0 := cell_keep hb s0
        replace s1 := cell_keep hb s1
        replace m0 := cell_keep hb m0
        replace m1 := cell_keep hb m1
        replace Hs := Lib.hid (Hs.out.keep hb)
        replace Hm := Lib.hid (Hm.out.keep hb)
        clear hb
        go_wp2
        go_ret
        exact ⟨ret_bool HE.out.symm, HB.out⟩
    · have e1 : ((m.sizes.length : Int) != s.sorts) = true := by simpa using hs
      have HE := Lib.hid (model_no2 hs)
      clear hs
      go_enter Try.func66, Try.ntmps66
      go_wp2_with fail
      clear hW
      refine (sigValid_any _ s _ Hs.out).mono ?_
      rw [HV.out]
      rintro e w1 ⟨rfl, hb⟩
      replace HB := Lib.hid (sz_keep HB.out hb)
      replace s0 := cell_keep hb s0
      replace s1 := cell_keep hb s1
      replace m0 := cell_keep hb m0
      replace m1 := cell_keep hb m1
      replace Hs := Lib.hid (Hs.out.keep hb)
      replace Hm := Lib.hid (Hm.out.keep hb)
      clear hb
      go_wp2
      go_ret
      exact ⟨ret_bool HE.out.symm, HB.out⟩
end

section
open Go.RowKit
set_option linter.unusedVariables false

/-- the struct's box lies at lb, ahead of wv; of it the row u is being filled -/
structure Loc (T : TypeId) (wv wr : World) (lb : Nat) (cs : Array Value) (u : Value) (xs : List Int) : Prop where
  loc : wr.heap[lb]? = some (.cells cs T (0, 0))
  own : OInts wr wv.heap.size u xs
  gr : wv.grownBy wr (some lb)
  lt : lb < wv.heap.size
theorem Loc.start {T : TypeId} {wv : World} {lb : Nat} {cs : Array Value} (h : wv.heap[lb]? = some (.cells cs T (0, 0))) : Loc T wv wv lb cs (.slice none 0 0) [] :=
  ⟨h, OInts.nil _ _, ⟨rfl, rfl, rfl, Nat.le_refl _, fun _ _ _ => rfl⟩, (Array.getElem?_eq_some_iff.1 h).1⟩
theorem Loc.push {T : TypeId} {wv wr w6 : World} {lb : Nat} {cs cs' : Array Value} {u v' : Value} {xs : List Int} {y : Int} {o : Obj} (h : Loc T wv wr lb cs u xs) (hg : (wr.alloc o).grownBy w6 u.ownBlock) (ho : OInts w6 wv.heap.size v' (xs ++ [y])) (i : Nat) (hc : cs.setIfInBounds i v' = cs') :
    Loc T wv (w6.setCell ⟨lb, i, none⟩ v') lb cs' v' (xs ++ [y]) := by
  have hlr : lb < wr.heap.size := (Array.getElem?_eq_some_iff.1 h.loc).1
  have hne : ∀ k, k < wv.heap.size → some k ≠ u.ownBlock := fun k hk e => by have := own_lt h.own k e.symm; omega
  have hl6 : w6.heap[lb]? = some (.cells cs T (0, 0)) := ((hg.block lb (by simp; omega) (hne lb h.lt)).trans (heap_alloc_old wr _ hlr)).trans h.loc
  refine ⟨by rw [← hc]; exact blk_set hl6 i v', ho.setLow h.lt i v', ⟨hg.os.trans h.gr.os, hg.tape.trans h.gr.tape, hg.output.trans h.gr.output, ?_, fun k hk hkl => ?_⟩, h.lt⟩
  · have e : (w6.setCell ⟨lb, i, none⟩ v').heap.size = w6.heap.size := by simp [World.setCell]
    have h2 := h.gr.size
    rw [e]
    have h3 := hg.size
    simp at h3
    omega
  · have hkr : k < wr.heap.size := Nat.lt_of_lt_of_le hk h.gr.size
    exact (((Below.heap_setCell w6 ⟨lb, i, none⟩ v' k (by show k ≠ lb; intro e; exact hkl (by rw [e]))).trans (hg.block k (by simp; omega) (hne k hk))).trans (heap_alloc_old wr _ hkr)).trans (h.gr.block k hk hkl)
theorem Loc.below {T : TypeId} {w2 wv wr : World} {lb : Nat} {cs : Array Value} {u : Value} {xs : List Int} (h : Loc T wv wr lb cs u xs) (hb : Below w2.heap.size w2 wv) (hl : w2.heap.size ≤ lb) : Below w2.heap.size w2 wr :=
  ⟨h.gr.os.trans hb.os, h.gr.tape.trans hb.tape, h.gr.output.trans hb.output, Nat.le_trans hb.size h.gr.size, fun k hk => (h.gr.block k (by have := hb.size; omega) (by intro e; injection e with e; omega)).trans (hb.block k hk)⟩
theorem Loc.grown {T : TypeId} {wv wr w6 : World} {lb : Nat} {cs : Array Value} {u : Value} {xs : List Int} {o : Obj} (h : Loc T wv wr lb cs u xs) (hg : (wr.alloc o).grownBy w6 u.ownBlock) : w6.heap[lb]? = some (.cells cs T (0, 0)) := by
  have hlr : lb < wr.heap.size := (Array.getElem?_eq_some_iff.1 h.loc).1
  exact ((hg.block lb (by simp; omega) (fun e => by have := own_lt h.own lb e.symm; have := h.lt; omega)).trans (heap_alloc_old wr _ hlr)).trans h.loc
theorem Loc.keep {T : TypeId} {wv wr w1 : World} {lb : Nat} {cs : Array Value} {u : Value} {xs : List Int} (h : Loc T wv wr lb cs u xs) (hb : Below wr.heap.size wr w1) : Loc T wv w1 lb cs u xs :=
  ⟨(hb.block _ (Array.getElem?_eq_some_iff.1 h.loc).1).trans h.loc, h.own.keep hb, ⟨hb.os.trans h.gr.os, hb.tape.trans h.gr.tape, hb.output.trans h.gr.output, Nat.le_trans h.gr.size hb.size, fun k hk hn => (hb.block k (Nat.lt_of_lt_of_le hk h.gr.size)).trans (h.gr.block k hk hn)⟩, h.lt⟩
theorem Loc.other {T : TypeId} {wv wr : World} {lb B : Nat} {cs : Array Value} {u v : Value} {xs ys : List Int} (h : Loc T wv wr lb cs u xs) (ho : OInts wv B v ys) (hB : lb < B) : OInts wr B v ys :=
  own_grown ho h.gr (by
    cases hv : v.ownBlock with
    | none => exact .inl rfl
    | some k => right; intro e; injection e with e; have := own_lt ho k hv; omega)
theorem Loc.apart {T : TypeId} {wv wr : World} {lb B : Nat} {cs : Array Value} {u v : Value} {xs ys : List Int} (h : Loc T wv wr lb cs u xs) (ho : OInts wv B v ys) : Apart v u := apart_later ho h.own
theorem grown_undrew {w w' : World} {r : Option Nat} (h : w.drew.grownBy w' r) : w.grownBy w' r := ⟨h.os, h.tape, h.output, h.size, h.block⟩
theorem grown_undrewA {w w' : World} {o : Obj} {r : Option Nat} (h : (w.drew.alloc o).grownBy w' r) : (w.alloc o).grownBy w' r := ⟨h.os, h.tape, h.output, h.size, h.block⟩
end
end Go.Proofs.Ytmmnamjgpfkabab
