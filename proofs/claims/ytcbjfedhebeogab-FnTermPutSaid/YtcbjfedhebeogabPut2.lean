/- What holds of replaced letters. No walk. -/
import Derived.Test.YtcbjfedhebeogabPut
import Derived.Test.YtcbjfedhebeogabSelf
namespace Go.Proofs.Ytcbjfedhebeogab
open Go.RowKit
set_option linter.unusedVariables false

theorem getD_past {l : List (List Int)} {k : Nat} (h : l.length ≤ k) : l.getD k [] = [] := by rw [List.getD_eq_getElem?_getD, List.getElem?_eq_none h]; rfl
theorem self_at {n k : Nat} (hk : k < n) : (selfRows n).getD k [] = [100 + (k : Int)] := by unfold selfRows; rw [List.getD_eq_getElem?_getD]; simp [hk]
theorem putRow_app (σ : List (List Int)) (a b : List Int) : putRow σ (a ++ b) = putRow σ a ++ putRow σ b := by unfold putRow; rw [List.flatMap_append]
theorem putRow_cons (σ : List (List Int)) (n : Int) (b : List Int) : putRow σ (n :: b) = putOne σ n ++ putRow σ b := by unfold putRow putOne; rw [List.flatMap_cons]
theorem put_one_twice (σ : List (List Int)) (n : Int) : putRow σ (putOne σ n) = putOne (σ.map (putRow σ)) n := by
  unfold putOne
  by_cases h : 100 ≤ n
  · rw [if_pos h, if_pos h]
    by_cases hk : (n - 100).toNat < σ.length
    · rw [getD_at _ hk, getD_at _ (by rw [List.length_map]; exact hk), List.getElem_map]
    · rw [getD_past (by omega), getD_past (by rw [List.length_map]; omega)]; rfl
  · rw [if_neg h, if_neg h]
    unfold putRow
    rw [List.flatMap_cons, List.flatMap_nil, if_neg h]; rfl
theorem put_twice (σ : List (List Int)) : ∀ t : List Int, putRow σ (putRow σ t) = putRow (σ.map (putRow σ)) t
  | [] => rfl
  | n :: t => by rw [putRow_cons, putRow_app, put_one_twice, put_twice σ t, putRow_cons]
theorem put_self {n : Nat} : ∀ {t : List Int}, (∀ x ∈ t, x < 100 ∨ (100 ≤ x ∧ x < 100 + (n : Int))) → putRow (selfRows n) t = t
  | [], _ => rfl
  | x :: t, h => by
    rw [putRow_cons, put_self (fun y hy => h y (List.mem_cons_of_mem _ hy))]
    have hx := h x (List.mem_cons_self)
    unfold putOne
    by_cases h1 : 100 ≤ x
    · rw [if_pos h1, self_at (by omega), show (100 : Int) + ((x - 100).toNat : Int) = x by omega]; rfl
    · rw [if_neg h1]; rfl
theorem putM_ok {s : MSig} {vars t others : List Int} {terms : List (List Int)} (h : (putM s vars t others terms).2 = true) :
    0 ≤ sortM s vars t ∧ fitsB s others terms vars = true ∧ (putRow terms t).length ≤ 30 ∧ putM s vars t others terms = (putRow terms t, true) := by
  by_cases hc : 0 ≤ sortM s vars t ∧ fitsB s others terms vars = true ∧ (putRow terms t).length ≤ 30
  · exact ⟨hc.1, hc.2.1, hc.2.2, putM_yes hc⟩
  · rw [putM_no hc] at h; cases h
theorem put_sort {s : MSig} {vars t others : List Int} {terms : List (List Int)} (h : (putM s vars t others terms).2 = true) : sortM s others (putRow terms t) = sortM s vars t := by
  obtain ⟨h1, h2, h3, -⟩ := putM_ok h
  obtain ⟨tm, a, b, c, rfl, e⟩ := sortM_to h1
  obtain ⟨f1, f2, f3⟩ := fits_len h2
  obtain ⟨tm', p, q, r⟩ := put_t (ops_few (vars_valid a).1) (others := others) (terms := terms) (fun k hk => by
    obtain ⟨u, ua, ub, uc, ud, ue⟩ := sortM_to (f3 k (by omega)).2
    refine ⟨u, uc, ?_, by rw [ud, getD_at _ (by omega)]⟩
    rw [← ue, (f3 k (by omega)).1]) tm c
  rw [← r] at h3 ⊢
  rw [sortM_of f2 h3 p, q, e]
theorem put_stays {s : MSig} {vars t : List Int} (h : 0 ≤ sortM s vars t) : putM s vars t vars (selfRows vars.length) = (t, true) := by
  obtain ⟨tm, a, b, c, d, e⟩ := sortM_to h
  have hp := put_self (n := vars.length) (sort_nums h)
  rw [putM_yes ⟨h, by rw [fits_self]; exact a, by rw [hp]; exact b⟩, hp]
theorem small_put {t : List Int} {terms : List (List Int)} (h : Small t) (hs : ∀ r ∈ terms, Small r) : Small (putRow terms t) := fun x hx => by
  unfold putRow at hx
  rw [List.mem_flatMap] at hx
  obtain ⟨n, hn, hx⟩ := hx
  by_cases h1 : 100 ≤ n
  · rw [if_pos h1] at hx
    by_cases hk : (n - 100).toNat < terms.length
    · rw [getD_at _ hk] at hx; exact hs _ (List.getElem_mem hk) x hx
    · rw [getD_past (by omega)] at hx; cases hx
  · rw [if_neg h1] at hx
    simp at hx; subst hx; exact h _ hn
def innerM (s : MSig) (vars : List Int) (terms : List (List Int)) (k : Nat) : List (List Int) := (terms.take k).map fun r => (putM s vars r vars terms).1
def allFit (s : MSig) (vars : List Int) (terms : List (List Int)) (k : Nat) : Bool := (terms.take k).all fun r => (putM s vars r vars terms).2
theorem innerM_succ {s : MSig} {vars : List Int} {terms : List (List Int)} {k : Nat} (hk : k < terms.length) : innerM s vars terms (k + 1) = innerM s vars terms k ++ [(putM s vars terms[k] vars terms).1] := by
  unfold innerM; rw [List.take_succ_eq_append_getElem hk, List.map_append]; rfl
theorem allFit_succ {s : MSig} {vars : List Int} {terms : List (List Int)} {k : Nat} (hk : k < terms.length) : allFit s vars terms (k + 1) = (allFit s vars terms k && (putM s vars terms[k] vars terms).2) := by
  unfold allFit; rw [List.take_succ_eq_append_getElem hk, List.all_append]; simp
theorem innerM_len {s : MSig} {vars : List Int} {terms : List (List Int)} {k : Nat} (hk : k ≤ terms.length) : (innerM s vars terms k).length = k := by
  unfold innerM; rw [List.length_map, List.length_take]; omega
theorem putM_small {s : MSig} {vars t others : List Int} {terms : List (List Int)} (h : Small t) (hs : ∀ r ∈ terms, Small r) : Small (putM s vars t others terms).1 := by
  unfold putM
  split
  · exact small_put h hs
  · intro x hx; cases hx
theorem inner_small {s : MSig} {vars : List Int} {terms : List (List Int)} {k : Nat} (hs : ∀ r ∈ terms, Small r) : ∀ r ∈ innerM s vars terms k, Small r := fun r hr => by
  unfold innerM at hr
  rw [List.mem_map] at hr
  obtain ⟨q, hq, rfl⟩ := hr
  exact putM_small (hs q (List.mem_of_mem_take hq)) hs
theorem again_once {s : MSig} {vars t : List Int} {terms : List (List Int)} (ha : (putM s vars (putRow terms t) vars terms).2 = true) (hf : allFit s vars terms terms.length = true) (hb : (putM s vars t vars (innerM s vars terms terms.length)).2 = true) :
    (putM s vars (putRow terms t) vars terms).1 = (putM s vars t vars (innerM s vars terms terms.length)).1 := by
  have hi : innerM s vars terms terms.length = terms.map (putRow terms) := by
    unfold innerM allFit at *
    rw [List.take_length] at hf ⊢
    refine List.map_congr_left fun r hr => ?_
    rw [List.all_eq_true] at hf
    rw [(putM_ok (hf r hr)).2.2.2]
  rw [(putM_ok ha).2.2.2, (putM_ok hb).2.2.2, hi]
  exact put_twice terms t
end Go.Proofs.Ytcbjfedhebeogab
