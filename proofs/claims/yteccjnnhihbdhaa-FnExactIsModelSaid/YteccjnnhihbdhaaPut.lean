/- TermPut of both packages. -/
import Derived.Test.YteccjnnhihbdhaaAt
namespace Go.Proofs.Yteccjnnhihbdhaa
open Go.RowKit
set_option linter.unusedVariables false

def putM (s : MSig) (vars t others : List Int) (terms : List (List Int)) : List Int × Bool :=
  if 0 ≤ sortM s vars t ∧ fitsB s others terms vars = true ∧ (putRow terms t).length ≤ 30 then (putRow terms t, true) else ([], false)
def putOne (terms : List (List Int)) (n : Int) : List Int := if 100 ≤ n then terms.getD (n - 100).toNat [] else [n]
theorem putRow_take {terms : List (List Int)} {t : List Int} {k : Nat} (hk : k < t.length) : putRow terms (t.take (k + 1)) = putRow terms (t.take k) ++ putOne terms t[k] := by
  unfold putRow putOne
  rw [List.take_succ_eq_append_getElem hk, List.flatMap_append]; simp
theorem fits_len {s : MSig} {others sorts : List Int} {terms : List (List Int)} (h : fitsB s others terms sorts = true) : terms.length = sorts.length ∧ varsB s others = true ∧ ∀ k (hk : k < terms.length), sortM s others terms[k] = sorts.getD k 0 ∧ 0 ≤ sortM s others terms[k] := by
  rw [fitsB_eq] at h
  simp only [Bool.and_eq_true, decide_eq_true_eq, List.all_eq_true] at h
  refine ⟨h.2.1, h.1, fun k hk => ?_⟩
  have hz : k < (terms.zip sorts).length := by rw [List.length_zip]; omega
  have hp := h.2.2 _ (List.getElem_mem hz)
  rw [List.getElem_zip] at hp
  unfold fitP at hp
  simp only [Bool.and_eq_true, decide_eq_true_eq] at hp
  rw [getD_at _ (by omega)]
  exact ⟨hp.2, by rw [hp.2]; exact hp.1⟩
theorem fits_rows {s : MSig} {others sorts : List Int} {terms : List (List Int)} (h : fitsB s others terms sorts = true) : ∀ k (hk : k < terms.length), 1 ≤ terms[k].length ∧ terms[k].length ≤ 30 := fun k hk => by
  obtain ⟨tm, a, b, c, d, e⟩ := sortM_to ((fits_len h).2.2 k hk).2
  have := row_pos tm
  rw [d] at this
  exact ⟨this, b⟩
theorem sort_nums {s : MSig} {vars t : List Int} (h : 0 ≤ sortM s vars t) : ∀ n ∈ t, n < 100 ∨ (100 ≤ n ∧ n < 100 + (vars.length : Int)) := fun n hn => by
  obtain ⟨tm, a, b, c, d, e⟩ := sortM_to h
  subst d
  have hv := (vars_valid a).1
  rcases nums_t (ops_few hv) tm c n hn with hh | hh
  · have := (valid_sorts hv).2.2; omega
  · exact .inr hh
/-- what the loops of both need: each number an operation or a letter, each row neither empty nor long -/
structure PutOk (t : List Int) (terms : List (List Int)) : Prop where
  few : t.length ≤ 30
  nums : ∀ n ∈ t, n < 100 ∨ (100 ≤ n ∧ n < 100 + (terms.length : Int))
  rows : ∀ k (hk : k < terms.length), 1 ≤ terms[k].length ∧ terms[k].length ≤ 30
theorem putOk_of {s : MSig} {vars t others : List Int} {terms : List (List Int)} (h1 : 0 ≤ sortM s vars t) (h2 : fitsB s others terms vars = true) : PutOk t terms := by
  obtain ⟨tm, a, b, c, d, e⟩ := sortM_to h1
  exact ⟨b, fun n hn => by have := sort_nums h1 n hn; rw [(fits_len h2).1]; exact this, fits_rows h2⟩
theorem PutOk.one {t : List Int} {terms : List (List Int)} (h : PutOk t terms) {n : Int} (hn : n ∈ t) : 1 ≤ (putOne terms n).length ∧ (putOne terms n).length ≤ 30 := by
  unfold putOne
  rcases h.nums n hn with hh | hh
  · rw [if_neg (by omega)]; simp
  · rw [if_pos hh.1, getD_at _ (by omega)]; exact h.rows _ (by omega)
theorem PutOk.short {t : List Int} {terms : List (List Int)} (h : PutOk t terms) : ∀ k, k ≤ t.length → (putRow terms (t.take k)).length ≤ 30 * k := fun k => by
  induction k with
  | zero => intro _; simp [putRow]
  | succ k ih =>
    intro hk
    rw [putRow_take (by omega), List.length_append]
    have := ih (by omega)
    have := (h.one (List.getElem_mem (show k < t.length by omega))).2
    omega
theorem app_ints {w : World} {B m : Nat} {v : Value} {ps rs : List Int} (hm : rs.length = m) (h : w.ownsRow B 3 1 v (ps.length + m) (ps.map (Value.int .i64) ++ rs.map (Value.int .i64))) : OInts w B v (ps ++ rs) := by
  unfold OInts; rw [List.length_append, List.map_append, hm]; exact h
theorem one_new (w : World) (n : Int) : ∀ (j : Nat) (u : Value), ([n].map (Value.int .i64))[j]? = some u → (w.alloc (.cells #[.int .i64 n] 3)).cell? ((⟨w.heap.size, 0, none⟩ : Addr).add j) = some u := by
  intro j u hj
  match j, hj with
  | 0, hj =>
    simp at hj
    subst hj
    rw [show (⟨w.heap.size, 0, none⟩ : Addr).add 0 = ⟨w.heap.size, 0, none⟩ by simp [Addr.add], World.cell?_alloc_at _ _ _ _ rfl]; rfl

theorem putM_no {s : MSig} {vars t others : List Int} {terms : List (List Int)} (h : ¬ (0 ≤ sortM s vars t ∧ fitsB s others terms vars = true ∧ (putRow terms t).length ≤ 30)) : putM s vars t others terms = ([], false) := by unfold putM; rw [if_neg h]
theorem putM_yes {s : MSig} {vars t others : List Int} {terms : List (List Int)} (h : 0 ≤ sortM s vars t ∧ fitsB s others terms vars = true ∧ (putRow terms t).length ≤ 30) : putM s vars t others terms = (putRow terms t, true) := by unfold putM; rw [if_pos h]

/-- what a function that makes a row and tells whether it could answers -/
def PairPost (R : List Int × Bool) (w : World) (e : Ending) (w' : World) : Prop := ∃ u, e = .returned (.tuple #[u, .bool R.2]) ∧ OInts w' w.heap.size u R.1 ∧ Below w.heap.size w w'

end Go.Proofs.Yteccjnnhihbdhaa
