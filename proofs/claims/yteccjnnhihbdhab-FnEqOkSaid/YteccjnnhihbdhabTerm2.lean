/- The plain functions on rows that read as terms: sorts, parts, what is put there; and what holds of them. No walk. -/
import Derived.Test.YteccjnnhihbdhabTerm
namespace Go.Proofs.Yteccjnnhihbdhab
open Go.RowKit
set_option linter.unusedVariables false

/-- numbers that an int holds -/
def Small (r : List Int) : Prop := ∀ x ∈ r, x ≤ 9223372036854775807
def varsB (s : MSig) (vars : List Int) : Bool := validB s && decide (vars.length ≤ 4) && belowB vars s.sorts
def termM (s : MSig) (vars t : List Int) : Option Tm :=
  if varsB s vars = true ∧ t.length ≤ 30 then
    match firstM s vars 30 t with
    | some (tm, []) => some tm
    | _ => none
  else none
def sortM (s : MSig) (vars t : List Int) : Int :=
  match termM s vars t with
  | some tm => tm.sort
  | none => -1
def fitM (s : MSig) (vars : List Int) (terms : List (List Int)) (sorts : List Int) : Bool :=
  decide (terms.length = sorts.length) && (terms.zip sorts).all fun q => decide (0 ≤ q.2) && decide (sortM s vars q.1 = q.2)
def fitsB (s : MSig) (vars : List Int) (terms : List (List Int)) (sorts : List Int) : Bool := varsB s vars && fitM s vars terms sorts
def putRow (terms : List (List Int)) (t : List Int) : List Int := t.flatMap fun n => if 100 ≤ n then terms.getD (n - 100).toNat [] else [n]
def partM (s : MSig) (vars t : List Int) (k : Nat) : List Int :=
  match firstM s vars 30 (t.drop k) with
  | some (tm, _) => tm.row
  | none => []
def atM (s : MSig) (vars t : List Int) (at_ : Int) : List Int :=
  if 0 ≤ sortM s vars t ∧ 0 ≤ at_ ∧ at_ < t.length then partM s vars t at_.toNat else []

theorem vars_valid {s : MSig} {vars : List Int} (h : varsB s vars = true) : validB s = true ∧ vars.length ≤ 4 ∧ ∀ k (hk : k < vars.length), 0 ≤ vars[k] ∧ vars[k] < s.sorts := by
  unfold varsB belowB at h
  simp only [Bool.and_eq_true, decide_eq_true_eq, List.all_eq_true] at h
  exact ⟨h.1.1, h.1.2, fun k hk => h.2 _ (List.getElem_mem hk)⟩
theorem opRow_at {s : MSig} {k : Nat} (hk : k < s.ops.length) : opRow s k = s.ops[k] := getD_at _ hk
theorem opRow_valid {s : MSig} (h : validB s = true) {k : Nat} (hk : k < s.ops.length) : 1 ≤ (opRow s k).length ∧ (opRow s k).length ≤ 3 ∧ ∀ x ∈ opRow s k, 0 ≤ x ∧ x < s.sorts := by
  rw [opRow_at hk]; exact valid_row h hk
theorem ops_few {s : MSig} (h : validB s = true) : s.ops.length ≤ 100 := by have := valid_sorts h; omega
/-- the sort of a tree is one of the signature -/
theorem sort_ok {s : MSig} {vars : List Int} (h : varsB s vars = true) {tm : Tm} (hw : wfT s vars tm) : 0 ≤ tm.sort ∧ tm.sort < s.sorts := by
  obtain ⟨h1, h2, h3⟩ := vars_valid h
  cases tm with
  | leaf k of =>
    unfold wfT at hw
    obtain ⟨hk, rfl⟩ := hw
    simp only [Tm.sort]
    rw [getD_at _ hk]; exact h3 k hk
  | node op lv ts =>
    unfold wfT at hw
    obtain ⟨hk, rfl, -⟩ := hw
    simp only [Tm.sort]
    obtain ⟨a, b, c⟩ := opRow_valid h1 hk
    rw [last_at (by omega)]
    exact c _ (List.getElem_mem _)

theorem termM_to {s : MSig} {vars t : List Int} {tm : Tm} (h : termM s vars t = some tm) : varsB s vars = true ∧ t.length ≤ 30 ∧ wfT s vars tm ∧ tm.row = t := by
  unfold termM at h
  by_cases h1 : varsB s vars = true ∧ t.length ≤ 30
  · rw [if_pos h1] at h
    cases hf : firstM s vars 30 t with
    | none => rw [hf] at h; cases h
    | some q =>
      obtain ⟨tm', b⟩ := q
      rw [hf] at h
      cases b with
      | nil =>
        simp only at h
        cases h
        obtain ⟨h2, h3⟩ := firstM_sound _ _ _ _ hf
        exact ⟨h1.1, h1.2, h3, by rw [h2]; simp⟩
      | cons a b => cases h
  · rw [if_neg h1] at h; cases h
theorem termM_of {s : MSig} {vars : List Int} {tm : Tm} (h1 : varsB s vars = true) (h2 : tm.row.length ≤ 30) (h3 : wfT s vars tm) : termM s vars tm.row = some tm := by
  unfold termM
  rw [if_pos ⟨h1, h2⟩]
  have := firstM_full (ops_few (vars_valid h1).1) tm 30 [] h3 h2
  rw [List.append_nil] at this
  rw [this]
theorem sortM_to {s : MSig} {vars t : List Int} (h : 0 ≤ sortM s vars t) : ∃ tm, varsB s vars = true ∧ t.length ≤ 30 ∧ wfT s vars tm ∧ tm.row = t ∧ sortM s vars t = tm.sort := by
  unfold sortM at h ⊢
  cases ht : termM s vars t with
  | none => rw [ht] at h; simp at h
  | some tm =>
    obtain ⟨a, b, c, d⟩ := termM_to ht
    exact ⟨tm, a, b, c, d, rfl⟩
theorem sortM_of {s : MSig} {vars : List Int} {tm : Tm} (h1 : varsB s vars = true) (h2 : tm.row.length ≤ 30) (h3 : wfT s vars tm) : sortM s vars tm.row = tm.sort := by
  unfold sortM; rw [termM_of h1 h2 h3]
theorem sortM_neg {s : MSig} {vars t : List Int} (h : sortM s vars t < 0) : sortM s vars t = -1 := by
  unfold sortM at h ⊢
  cases ht : termM s vars t with
  | none => rfl
  | some tm =>
    obtain ⟨a, b, c, d⟩ := termM_to ht
    rw [ht] at h
    have := sort_ok a c
    simp only at h
    omega
theorem sortM_lt {s : MSig} {vars t : List Int} (h : validB s = true) : sortM s vars t < s.sorts ∧ -1 ≤ sortM s vars t := by
  have hv := valid_sorts h
  unfold sortM
  cases ht : termM s vars t with
  | none => simp only; omega
  | some tm =>
    obtain ⟨a, b, c, d⟩ := termM_to ht
    have := sort_ok a c
    simp only
    omega

/-! a part, and what is put there -/
mutual
theorem hole_t {s : MSig} {vars : List Int} : ∀ (tm : Tm) (at_ : Nat), wfT s vars tm → at_ < tm.row.length →
    ∃ (pre : List Int) (sub : Tm) (post : List Int), tm.row = pre ++ sub.row ++ post ∧ pre.length = at_ ∧ wfT s vars sub ∧ ∀ u : Tm, wfT s vars u → u.sort = sub.sort → ∃ tm' : Tm, wfT s vars tm' ∧ tm'.sort = tm.sort ∧ tm'.row = pre ++ u.row ++ post
  | .leaf k of, at_, hw, ha => by
    simp only [Tm.row, List.length_singleton] at ha
    refine ⟨[], .leaf k of, [], by simp, by simp; omega, hw, fun u hu hs => ⟨u, hu, hs, by simp⟩⟩
  | .node op lv ts, 0, hw, ha => ⟨[], .node op lv ts, [], by simp, rfl, hw, fun u hu hs => ⟨u, hu, hs, by simp⟩⟩
  | .node op lv ts, n + 1, hw, ha => by
    unfold wfT at hw
    simp only [Tm.row, List.length_cons] at ha
    obtain ⟨pre, sub, post, h1, h2, h3, h4⟩ := hole_ts ts n _ hw.2.2 (by omega)
    refine ⟨(op : Int) :: pre, sub, post, by simp only [Tm.row]; rw [h1]; simp, by simp [h2], h3, fun u hu hs => ?_⟩
    obtain ⟨ts', a, b⟩ := h4 u hu hs
    refine ⟨.node op lv ts', ?_, rfl, by simp only [Tm.row]; rw [b]; simp⟩
    unfold wfT
    exact ⟨hw.1, hw.2.1, a⟩
theorem hole_ts {s : MSig} {vars : List Int} : ∀ (ts : List Tm) (at_ : Nat) (ss : List Int), wfTs s vars ss ts → at_ < (rowsOf ts).length →
    ∃ (pre : List Int) (sub : Tm) (post : List Int), rowsOf ts = pre ++ sub.row ++ post ∧ pre.length = at_ ∧ wfT s vars sub ∧ ∀ u : Tm, wfT s vars u → u.sort = sub.sort → ∃ ts' : List Tm, wfTs s vars ss ts' ∧ rowsOf ts' = pre ++ u.row ++ post
  | [], at_, ss, hw, ha => by simp [rowsOf] at ha
  | t :: ts, at_, ss, hw, ha => by
    unfold wfTs at hw
    obtain ⟨x, ss', rfl, h1, h2, h3⟩ := hw
    by_cases hlt : at_ < t.row.length
    · obtain ⟨pre, sub, post, a, b, c, d⟩ := hole_t t at_ h2 hlt
      refine ⟨pre, sub, post ++ rowsOf ts, by simp only [rowsOf]; rw [a]; simp, b, c, fun u hu hs => ?_⟩
      obtain ⟨t', e1, e2, e3⟩ := d u hu hs
      refine ⟨t' :: ts, ?_, by simp only [rowsOf]; rw [e3]; simp⟩
      unfold wfTs
      exact ⟨x, ss', rfl, by rw [e2, h1], e1, h3⟩
    · simp only [rowsOf, List.length_append] at ha
      obtain ⟨pre, sub, post, a, b, c, d⟩ := hole_ts ts (at_ - t.row.length) ss' h3 (by omega)
      refine ⟨t.row ++ pre, sub, post, by simp only [rowsOf]; rw [a]; simp, by simp [b]; omega, c, fun u hu hs => ?_⟩
      obtain ⟨ts', e1, e2⟩ := d u hu hs
      refine ⟨t :: ts', ?_, by simp only [rowsOf]; rw [e2]; simp⟩
      unfold wfTs
      exact ⟨x, ss', rfl, h1, h2, e1⟩
end

/-- of a term: the part at k, what lies ahead of it and behind, and what comes of another part -/
theorem part_of {s : MSig} {vars t : List Int} {k : Nat} (h : 0 ≤ sortM s vars t) (hk : k < t.length) :
    ∃ (pre : List Int) (sub : Tm) (post : List Int), t = pre ++ sub.row ++ post ∧ pre.length = k ∧ wfT s vars sub ∧ firstM s vars 30 (t.drop k) = some (sub, post) ∧ partM s vars t k = sub.row ∧ sortM s vars sub.row = sub.sort ∧ 0 ≤ sub.sort ∧
      ∀ u : Tm, wfT s vars u → u.sort = sub.sort → (pre ++ u.row ++ post).length ≤ 30 → sortM s vars (pre ++ u.row ++ post) = sortM s vars t := by
  obtain ⟨tm, h1, h2, h3, h4, h5⟩ := sortM_to h
  subst h4
  obtain ⟨pre, sub, post, a, b, c, d⟩ := hole_t tm k h3 hk
  have hl : pre.length + sub.row.length + post.length = tm.row.length := by rw [a]; simp; omega
  have hd : tm.row.drop k = sub.row ++ post := by rw [a, List.append_assoc, ← b]; simp
  have hf : firstM s vars 30 (tm.row.drop k) = some (sub, post) := by
    rw [hd]; exact firstM_full (ops_few (vars_valid h1).1) sub 30 post c (by omega)
  refine ⟨pre, sub, post, a, b, c, hf, by unfold partM; rw [hf], sortM_of h1 (by omega) c, (sort_ok h1 c).1, fun u hu hs hlen => ?_⟩
  obtain ⟨tm', e1, e2, e3⟩ := d u hu hs
  rw [← e3, sortM_of h1 (by rw [e3]; exact hlen) e1, h5, e2]

/-! letters replaced -/
mutual
theorem put_t {s : MSig} {vars others : List Int} {terms : List (List Int)} (hop : s.ops.length ≤ 100)
    (hσ : ∀ k, k < vars.length → ∃ u : Tm, wfT s others u ∧ u.sort = vars.getD k 0 ∧ u.row = terms.getD k []) : ∀ tm : Tm, wfT s vars tm → ∃ tm' : Tm, wfT s others tm' ∧ tm'.sort = tm.sort ∧ tm'.row = putRow terms tm.row
  | .leaf k of, hw => by
    unfold wfT at hw
    obtain ⟨u, a, b, c⟩ := hσ k hw.1
    refine ⟨u, a, by rw [b]; exact hw.2.symm, ?_⟩
    rw [c]
    simp only [Tm.row, putRow, List.flatMap_cons, List.flatMap_nil, List.append_nil]
    rw [if_pos (by omega), show ((100 : Int) + (k : Int) - 100).toNat = k by omega]
  | .node op lv ts, hw => by
    unfold wfT at hw
    obtain ⟨ts', a, b⟩ := put_ts hop hσ ts _ hw.2.2
    refine ⟨.node op lv ts', ?_, rfl, ?_⟩
    · unfold wfT; exact ⟨hw.1, hw.2.1, a⟩
    · simp only [Tm.row]
      rw [b]
      simp only [putRow, List.flatMap_cons]
      rw [if_neg (by omega)]
      rfl
theorem put_ts {s : MSig} {vars others : List Int} {terms : List (List Int)} (hop : s.ops.length ≤ 100)
    (hσ : ∀ k, k < vars.length → ∃ u : Tm, wfT s others u ∧ u.sort = vars.getD k 0 ∧ u.row = terms.getD k []) : ∀ (ts : List Tm) (ss : List Int), wfTs s vars ss ts → ∃ ts' : List Tm, wfTs s others ss ts' ∧ rowsOf ts' = putRow terms (rowsOf ts)
  | [], ss, hw => by
    unfold wfTs at hw
    subst hw
    exact ⟨[], by unfold wfTs; rfl, by simp [rowsOf, putRow]⟩
  | t :: ts, ss, hw => by
    unfold wfTs at hw
    obtain ⟨x, ss', rfl, h1, h2, h3⟩ := hw
    obtain ⟨t', a, b, c⟩ := put_t hop hσ t h2
    obtain ⟨ts', d, e⟩ := put_ts hop hσ ts ss' h3
    refine ⟨t' :: ts', ?_, by simp only [rowsOf]; rw [c, e]; simp [putRow]⟩
    unfold wfTs
    exact ⟨x, ss', rfl, by rw [b, h1], a, d⟩
end

/-! the numbers of a term: operations, and letters that there are -/
mutual
theorem nums_t {s : MSig} {vars : List Int} (hop : s.ops.length ≤ 100) : ∀ tm : Tm, wfT s vars tm → ∀ n ∈ tm.row, (0 ≤ n ∧ n < s.ops.length) ∨ (100 ≤ n ∧ n < 100 + vars.length)
  | .leaf k of, hw, n, hn => by
    unfold wfT at hw
    simp only [Tm.row, List.mem_singleton] at hn
    omega
  | .node op lv ts, hw, n, hn => by
    unfold wfT at hw
    simp only [Tm.row, List.mem_cons] at hn
    rcases hn with rfl | hn
    · omega
    · exact nums_ts hop ts _ hw.2.2 n hn
theorem nums_ts {s : MSig} {vars : List Int} (hop : s.ops.length ≤ 100) : ∀ (ts : List Tm) (ss : List Int), wfTs s vars ss ts → ∀ n ∈ rowsOf ts, (0 ≤ n ∧ n < s.ops.length) ∨ (100 ≤ n ∧ n < 100 + vars.length)
  | [], ss, hw, n, hn => by simp [rowsOf] at hn
  | t :: ts, ss, hw, n, hn => by
    unfold wfTs at hw
    obtain ⟨x, ss', rfl, h1, h2, h3⟩ := hw
    simp only [rowsOf, List.mem_append] at hn
    rcases hn with hn | hn
    · exact nums_t hop t h2 n hn
    · exact nums_ts hop ts ss' h3 n hn
end
end Go.Proofs.Yteccjnnhihbdhab
