/- The plain functions of models: tables, values of terms, rows of values by their numbers. No walk. -/
import Derived.Test.YteccjnnhihbdhaaModT
import Derived.Test.YteccjnnhihbdhaaMapM
import Derived.Test.YteccjnnhihbdhaaTerm2
import Derived.Test.YteccjnnhihbdhaaEqM
namespace Go.Proofs.Yteccjnnhihbdhaa
open Go.RowKit
set_option linter.unusedVariables false
set_option linter.unusedSimpArgs false

/-- how many rows of values -/
def waysM : List Int → Int
  | [] => 1
  | z :: zs => z * waysM zs
theorem waysM_append (xs ys : List Int) : waysM (xs ++ ys) = waysM xs * waysM ys := by
  induction xs with
  | nil => simp [waysM]
  | cons x xs ih => simp only [List.cons_append, waysM, ih, Int.mul_assoc]
theorem waysM_take {xs : List Int} {k : Nat} (hk : k < xs.length) : waysM (xs.take (k + 1)) = waysM (xs.take k) * xs[k] := by
  rw [List.take_succ_eq_append_getElem hk, waysM_append]; simp [waysM]
/-- sizes of sorts -/
def Sizes (zs : List Int) : Prop := ∀ z ∈ zs, 1 ≤ z ∧ z ≤ 3
theorem Sizes.take {zs : List Int} (h : Sizes zs) (k : Nat) : Sizes (zs.take k) := fun z hz => h z (List.mem_of_mem_take hz)
theorem Sizes.tail {z : Int} {zs : List Int} (h : Sizes (z :: zs)) : Sizes zs := fun x hx => h x (List.mem_cons_of_mem _ hx)
theorem ways_pos {zs : List Int} (h : Sizes zs) : 1 ≤ waysM zs := by
  induction zs with
  | nil => simp [waysM]
  | cons z zs ih =>
    have h1 := h z (List.mem_cons_self ..)
    have h2 := ih h.tail
    simp only [waysM]
    have := Int.mul_le_mul h1.1 h2 (by omega) (by omega)
    omega
theorem ways_le {zs : List Int} (h : Sizes zs) : waysM zs ≤ 3 ^ zs.length := by
  induction zs with
  | nil => simp [waysM]
  | cons z zs ih =>
    have h1 := h z (List.mem_cons_self ..)
    have h2 := ih h.tail
    have h3 := ways_pos h.tail
    simp only [waysM, List.length_cons]
    rw [Int.pow_succ, Int.mul_comm (3 ^ zs.length) 3]
    exact Int.mul_le_mul h1.2 h2 (by omega) (by omega)
theorem ways_few {zs : List Int} (h : Sizes zs) (hl : zs.length ≤ 4) : waysM zs ≤ 81 := by
  have h1 := ways_le h
  have : ∀ n : Nat, n ≤ 4 → (3 : Int) ^ n ≤ 81 := by
    intro n hn
    match n, hn with
    | 0, _ => decide
    | 1, _ => decide
    | 2, _ => decide
    | 3, _ => decide
    | 4, _ => decide
  exact Int.le_trans h1 (this _ hl)

/-- the number that a row of values has -/
def placeM : Int → List Int → List Int → Int
  | p, z :: zs, v :: vs => placeM (p * z + v) zs vs
  | p, _, _ => p
def InAll (zs vs : List Int) : Prop := vs.length = zs.length ∧ ∀ (j : Nat) (h : j < zs.length) (h' : j < vs.length), 0 ≤ vs[j] ∧ vs[j] < zs[j]
theorem InAll.tail {z v : Int} {zs vs : List Int} (h : InAll (z :: zs) (v :: vs)) : (0 ≤ v ∧ v < z) ∧ InAll zs vs := by
  obtain ⟨h1, h2⟩ := h
  refine ⟨h2 0 (by simp) (by simp), by simpa using h1, fun j a b => ?_⟩
  exact h2 (j + 1) (by simpa using a) (by simpa using b)
theorem InAll.cons {z v : Int} {zs vs : List Int} (h : 0 ≤ v ∧ v < z) (h2 : InAll zs vs) : InAll (z :: zs) (v :: vs) := by
  refine ⟨by simp [h2.1], fun j a b => ?_⟩
  cases j with
  | zero => exact h
  | succ j => exact h2.2 j (by simpa using a) (by simpa using b)
theorem InAll.nil : InAll [] [] := ⟨rfl, fun j h => by simp at h⟩
theorem InAll.take {zs vs : List Int} (h : InAll zs vs) (k : Nat) : InAll (zs.take k) (vs.take k) := by
  refine ⟨by simp [h.1], fun j a b => ?_⟩
  simp only [List.length_take] at a b
  simp only [List.getElem_take]
  exact h.2 j (by omega) (by omega)
theorem place_bound {zs vs : List Int} (hz : Sizes zs) (h : InAll zs vs) : ∀ p : Int, 0 ≤ p → p * waysM zs ≤ placeM p zs vs ∧ placeM p zs vs < (p + 1) * waysM zs := by
  induction zs generalizing vs with
  | nil =>
    intro p hp
    cases vs with
    | nil => simp [placeM, waysM]; omega
    | cons v vs => have := h.1; simp at this
  | cons z zs ih =>
    intro p hp
    cases vs with
    | nil => have := h.1; simp at this
    | cons v vs =>
      obtain ⟨⟨h1, h2⟩, h3⟩ := h.tail
      have hz1 := hz z (List.mem_cons_self ..)
      have hw := ways_pos hz.tail
      have hp0 : 0 ≤ p * z := Int.mul_nonneg hp (by omega)
      obtain ⟨i1, i2⟩ := ih hz.tail h3 (p * z + v) (by omega)
      simp only [placeM, waysM]
      refine ⟨Int.le_trans ?_ i1, Int.lt_of_lt_of_le i2 ?_⟩
      · rw [← Int.mul_assoc]
        exact Int.mul_le_mul_of_nonneg_right (by omega) (by omega)
      · rw [← Int.mul_assoc]
        refine Int.mul_le_mul_of_nonneg_right ?_ (by omega)
        rw [Int.add_mul]; omega
theorem place_in {zs vs : List Int} (hz : Sizes zs) (h : InAll zs vs) : 0 ≤ placeM 0 zs vs ∧ placeM 0 zs vs < waysM zs := by
  have := place_bound hz h 0 (Int.le_refl _)
  simpa using this
theorem placeM_snoc : ∀ (zs vs : List Int) (z v p : Int), zs.length = vs.length → placeM p (zs ++ [z]) (vs ++ [v]) = placeM p zs vs * z + v
  | [], [], z, v, p, _ => by simp [placeM]
  | a :: zs, b :: vs, z, v, p, h => by
    simp only [List.cons_append, placeM]
    exact placeM_snoc zs vs z v _ (by simpa using h)
  | [], b :: vs, z, v, p, h => by simp at h
  | a :: zs, [], z, v, p, h => by simp at h
theorem placeM_take {zs vs : List Int} {k : Nat} (hz : k < zs.length) (hv : k < vs.length) : placeM 0 (zs.take (k + 1)) (vs.take (k + 1)) = placeM 0 (zs.take k) (vs.take k) * zs[k] + vs[k] := by
  rw [List.take_succ_eq_append_getElem hz, List.take_succ_eq_append_getElem hv, placeM_snoc _ _ _ _ _ (by simp; omega)]

/-- the row of values with a number -/
def digM : List Int → Int → List Int
  | [], _ => []
  | z :: zs, n => (n / waysM zs) % z :: digM zs n
theorem digM_len (zs : List Int) (n : Int) : (digM zs n).length = zs.length := by
  induction zs with
  | nil => rfl
  | cons z zs ih => simp [digM, ih]
theorem digM_at : ∀ {zs : List Int} {n : Int} {k : Nat} (h : k < zs.length), (digM zs n)[k]? = some ((n / waysM (zs.drop (k + 1))) % zs[k])
  | z :: zs, n, 0, h => by simp [digM]
  | z :: zs, n, k + 1, h => by
    simp only [digM, List.getElem?_cons_succ, List.drop_succ_cons, List.getElem_cons_succ]
    exact digM_at (by simpa using h)
theorem dig_in {zs : List Int} (hz : Sizes zs) (n : Int) : InAll zs (digM zs n) := by
  induction zs with
  | nil => exact InAll.nil
  | cons z zs ih =>
    have := hz z (List.mem_cons_self ..)
    exact InAll.cons ⟨Int.emod_nonneg _ (by omega), Int.emod_lt_of_pos _ (by omega)⟩ (ih hz.tail)
/-- behind the last place that is told: what is left of the number -/
theorem dig_left {zs : List Int} (hz : Sizes zs) {n : Int} {k : Nat} (h : k < zs.length) : (n / waysM (zs.drop (k + 1))) / zs[k] = n / waysM (zs.drop k) := by
  have hw := ways_pos (zs := zs.drop (k + 1)) (fun z hz' => hz z (List.mem_of_mem_drop hz'))
  rw [List.drop_eq_getElem_cons h]
  simp only [waysM]
  rw [Int.mul_comm, Int.ediv_ediv, if_neg (by omega), Int.sub_zero]

/-- the next row of values -/
def nextM : List Int → List Int → List Int × Bool
  | z :: zs, x :: xs => if (nextM zs xs).2 then (x :: (nextM zs xs).1, true) else if x + 1 < z then ((x + 1) :: (nextM zs xs).1, true) else (0 :: (nextM zs xs).1, false)
  | _, _ => ([], false)
theorem nextM_len : ∀ {zs xs : List Int}, xs.length = zs.length → (nextM zs xs).1.length = xs.length
  | [], [], _ => rfl
  | z :: zs, x :: xs, h => by
    have ih := nextM_len (zs := zs) (xs := xs) (by simpa using h)
    simp only [nextM]
    split
    · simp [ih]
    · split <;> simp [ih]
  | [], x :: xs, h => by simp at h
  | z :: zs, [], h => by simp at h
theorem next_dig {zs : List Int} (hz : Sizes zs) (n : Int) (hn : 0 ≤ n) : nextM zs (digM zs n) = (digM zs (n + 1), !((n + 1) % waysM zs == 0)) := by
  induction zs with
  | nil => simp [nextM, digM, waysM, Int.emod_one]
  | cons z zs ih =>
    have hz1 := hz z (List.mem_cons_self ..)
    have hw := ways_pos hz.tail
    have ih := ih hz.tail
    simp only [digM, nextM, ih, waysM]
    clear ih
    generalize waysM zs = W at *
    have hd := Int.emod_add_mul_ediv n W
    have hd1 := Int.emod_add_mul_ediv (n + 1) W
    have b1 := Int.emod_nonneg n (show W ≠ 0 by omega)
    have b2 := Int.emod_lt_of_pos n (show 0 < W by omega)
    have b3 := Int.emod_nonneg (n + 1) (show W ≠ 0 by omega)
    have b4 := Int.emod_lt_of_pos (n + 1) (show 0 < W by omega)
    have hq0 : 0 ≤ n / W := Int.ediv_nonneg hn (by omega)
    have key : (n + 1) % (z * W) = W * ((n + 1) / W % z) + (n + 1) % W := by
      generalize (n + 1) / W = q at *
      have c1 := Int.emod_nonneg q (show z ≠ 0 by omega)
      have c2 := Int.emod_lt_of_pos q (show 0 < z by omega)
      have c3 := Int.emod_add_mul_ediv q z
      have c4 : W * (q % z) ≤ W * (z - 1) := Int.mul_le_mul_of_nonneg_left (by omega) (by omega)
      have c5 : 0 ≤ W * (q % z) := Int.mul_nonneg (by omega) c1
      rw [Int.mul_sub] at c4
      have e : n + 1 = (W * (q % z) + (n + 1) % W) + z * W * (q / z) := by
        have : W * q = W * (q % z) + z * W * (q / z) := by
          conv => lhs; rw [← c3]
          rw [Int.mul_add, Int.mul_comm z W, Int.mul_assoc]
        omega
      conv => lhs; rw [e]
      rw [Int.add_mul_emod_self_left, Int.emod_eq_of_lt (by omega) (by rw [Int.mul_comm z W]; omega)]
    by_cases hm : (n + 1) % W = 0
    · have h1 : n % W + 1 = W := by
        rcases Int.lt_trichotomy (n % W + 1) W with hh | hh | hh
        · exfalso
          have : (n + 1) % W = n % W + 1 := by
            have e : n + 1 = (n % W + 1) + W * (n / W) := by omega
            rw [e, Int.add_mul_emod_self_left, Int.emod_eq_of_lt (by omega) hh]
          omega
        · exact hh
        · omega
      have h2 : n + 1 = W * (n / W + 1) := by rw [Int.mul_add]; omega
      have hq : (n + 1) / W = n / W + 1 := by rw [h2, Int.mul_ediv_cancel_left _ (by omega)]
      rw [hm, hq] at key
      rw [hm, hq, key]
      clear key hd1 b3 b4 h2
      have c1 := Int.emod_nonneg (n / W) (show z ≠ 0 by omega)
      have c2 := Int.emod_lt_of_pos (n / W) (show 0 < z by omega)
      have c3 := Int.emod_add_mul_ediv (n / W) z
      generalize n / W = q at *
      by_cases hc : q % z + 1 < z
      · have e1 : (q + 1) % z = q % z + 1 := by
          have e : q + 1 = (q % z + 1) + z * (q / z) := by omega
          rw [e, Int.add_mul_emod_self_left, Int.emod_eq_of_lt (by omega) hc]
        have hpos : 0 < W * (q % z + 1) := Int.mul_pos (by omega) (by omega)
        rw [e1]
        have hne : ¬ W * (q % z + 1) + 0 = 0 := by omega
        simp [hc, hne]
        omega
      · have e1 : (q + 1) % z = 0 := by
          have e : q + 1 = z * (q / z + 1) := by rw [Int.mul_add]; omega
          rw [e, Int.mul_emod_right]
        rw [e1]
        simp [hc]
    · have h1 : ¬ n % W + 1 = W := by
        intro h1
        apply hm
        have : n + 1 = W * (n / W + 1) := by rw [Int.mul_add]; omega
        rw [this, Int.mul_emod_right]
      have hq : (n + 1) / W = n / W := by
        have h2 : n + 1 = (n % W + 1) + W * (n / W) := by omega
        rw [h2, Int.add_mul_ediv_left _ _ (by omega), Int.ediv_eq_zero_of_lt (by omega) (by omega)]
        omega
      have c1 := Int.emod_nonneg ((n + 1) / W) (show z ≠ 0 by omega)
      have hnn : 0 ≤ W * ((n + 1) / W % z) := Int.mul_nonneg (by omega) c1
      have hm2 : ¬ (n + 1) % (z * W) = 0 := by rw [key]; omega
      simp [hm, hm2, hq]
end Go.Proofs.Yteccjnnhihbdhaa
