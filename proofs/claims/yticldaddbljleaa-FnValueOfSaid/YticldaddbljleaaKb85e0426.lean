/- What holds of maps of signatures: themselves, one behind the other, terms along them. No walk. -/
import Derived.Test.YticldaddbljleaaK6463223a
namespace Go.Proofs.Yticldaddbljleaa
section
open Go.RowKit
set_option linter.unusedVariables false
set_option linter.unusedSimpArgs false

theorem countM_getD {n k : Nat} (h : k < n) : (countM n).getD k 0 = (k : Int) := by
  rw [List.getD_eq_getElem?_getD, countM_at h]; rfl
theorem ledM_count {n : Nat} {row : List Int} (h : ∀ x ∈ row, (0 ≤ x ∧ x < (n : Int)) ∨ 100 ≤ x) : ledM (countM n) row = row := by
  unfold ledM
  conv => rhs; rw [← List.map_id row]
  refine List.map_congr_left fun x hx => ?_
  rcases h x hx with h | h
  · by_cases h1 : x < 100
    · rw [if_pos h1, countM_getD (by omega)]; simp; omega
    · rw [if_neg h1]; rfl
  · rw [if_neg (by omega)]; rfl
theorem ledM_mem {tq row : List Int} (h : InTo tq row) (x : Int) (hx : x ∈ ledM tq row) : x ∈ tq ∨ (x ∈ row ∧ 100 ≤ x) := by
  unfold ledM at hx
  obtain ⟨y, hy, rfl⟩ := List.mem_map.1 hx
  by_cases h1 : y < 100
  · left
    rw [if_pos h1, getD_at _ (by have := h y hy h1; omega)]
    exact List.getElem_mem _
  · right
    rw [if_neg h1]
    exact ⟨hy, by omega⟩
/-- one behind the other -/
theorem ledM_led {t1 t2 row : List Int} (h1 : InTo t1 row) (h2 : ∀ x ∈ t1, x < 100) : ledM t2 (ledM t1 row) = ledM (ledM t2 t1) row := by
  unfold ledM
  rw [List.map_map]
  refine List.map_congr_left fun x hx => ?_
  simp only [Function.comp]
  by_cases h : x < 100
  · have hb := h1 x hx h
    have hk : x.toNat < t1.length := by omega
    rw [if_pos h, if_pos h, getD_at _ hk, if_pos (h2 _ (List.getElem_mem hk)), List.getD_eq_getElem?_getD (l := List.map _ t1), List.getElem?_map, List.getElem?_eq_getElem hk]
    simp only [Option.map_some, Option.getD_some]
    rw [if_pos (h2 _ (List.getElem_mem hk))]
  · rw [if_neg h, if_neg h, if_neg h]
theorem MapFacts.ss {a b : MSig} {m : MMap} (h : MapFacts a b m) : ∀ x ∈ m.sorts, x < 100 := fun x hx => by
  have := h.sb x hx; have := valid_sorts h.vb; omega
theorem MapFacts.os {a b : MSig} {m : MMap} (h : MapFacts a b m) : ∀ x ∈ m.ops, x < 100 := fun x hx => by
  have := h.ob x hx; have := valid_sorts h.vb; omega
theorem selfM_ok {s : MSig} (h : validB s = true) : selfM s = ⟨countM s.sorts.toNat, countM s.ops.length⟩ := by unfold selfM; rw [if_pos h]
theorem self_facts {s : MSig} (h : validB s = true) : MapFacts s s (selfM s) := by
  rw [selfM_ok h]
  have hv := valid_sorts h
  refine ⟨h, h, by simp only [countM_len]; omega, countM_len _, fun x hx => ?_, fun x hx => ?_, fun k h1 h2 => ?_⟩
  · simp [countM] at hx; obtain ⟨i, hi, rfl⟩ := hx; omega
  · simp [countM] at hx; obtain ⟨i, hi, rfl⟩ := hx; omega
  · have he : (countM s.ops.length)[k] = (k : Int) := by
      have := countM_at h1; rw [List.getElem?_eq_getElem h2] at this; injection this
    simp only [he, Int.toNat_natCast]
    rw [List.getElem?_eq_getElem h1, ledM_count]
    intro x hx
    have := (valid_row h h1).2.2 x hx
    left; omega
theorem self_okB (s : MSig) : mapOkB s s (selfM s) = validB s := by
  cases h : validB s with
  | true => exact facts_ok (self_facts h)
  | false => exact mapOk_no1 h
theorem then_facts {a b c : MSig} {m n : MMap} (h : MapFacts a b m) (k : MapFacts b c n) : MapFacts a c ⟨ledM n.sorts m.sorts, ledM n.ops m.ops⟩ := by
  have is : InTo n.sorts m.sorts := k.sorts_in h.sb
  have io : InTo n.ops m.ops := fun x hx _ => by have := h.ob x hx; rw [k.ol]; exact this
  refine ⟨h.va, k.vb, by simp only [ledM_len]; exact h.sl, by simp only [ledM_len]; exact h.ol, fun x hx => ?_, fun x hx => ?_, fun i h1 h2 => ?_⟩
  · rcases ledM_mem is x hx with hx | hx
    · exact k.sb x hx
    · have := h.ss x hx.1; omega
  · rcases ledM_mem io x hx with hx | hx
    · exact k.ob x hx
    · have := h.os x hx.1; omega
  · have hm : i < m.ops.length := by rw [h.ol]; exact h1
    have e1 := h.oo i h1 hm
    have hb := h.ob _ (List.getElem_mem hm)
    have hos := h.os _ (List.getElem_mem hm)
    have hbl : (m.ops[i]).toNat < b.ops.length := by omega
    have hnl : (m.ops[i]).toNat < n.ops.length := by rw [k.ol]; exact hbl
    have e2 := k.oo _ hbl hnl
    have e3 : (ledM n.ops m.ops)[i] = n.ops[(m.ops[i]).toNat] := by
      have := ledM_at (tq := n.ops) hm
      rw [List.getElem?_eq_getElem h2] at this
      injection this with this
      rw [this, if_pos hos, getD_at _ hnl]
    simp only [e3]
    rw [e2]
    rw [List.getElem?_eq_getElem hbl] at e1
    injection e1 with e1
    rw [e1, ledM_led (h.op_in h1) h.ss]
theorem thenM_self {a c : MSig} {x : MMap} (h : mapOkB a c x = true) : thenM a a c (selfM a) x = (x, true) ∧ thenM a c c x (selfM c) = (x, true) := by
  have f := mapOk_facts h
  have fa := self_facts f.va
  have fc := self_facts f.vb
  have va := valid_sorts f.va
  have vc := valid_sorts f.vb
  obtain ⟨xs, xo⟩ := x
  constructor
  · unfold thenM
    rw [facts_ok fa, h, selfM_ok f.va]
    simp only [Bool.and_self, if_true]
    have e1 : ledM xs (countM a.sorts.toNat) = xs := by
      apply List.ext_getElem?
      intro i
      have hl : xs.length = a.sorts.toNat := by have := f.sl; simp only at this; omega
      by_cases hi : i < xs.length
      · have hc : i < (countM a.sorts.toNat).length := by rw [countM_len]; omega
        have hce : (countM a.sorts.toNat)[i] = (i : Int) := by have := countM_at (n := a.sorts.toNat) (k := i) (by omega); rw [List.getElem?_eq_getElem hc] at this; injection this
        rw [ledM_at hc, hce, if_pos (by omega), Int.toNat_natCast, getD_at _ hi, List.getElem?_eq_getElem hi]
      · rw [List.getElem?_eq_none (by rw [ledM_len, countM_len]; omega), List.getElem?_eq_none (by omega)]
    have e2 : ledM xo (countM a.ops.length) = xo := by
      apply List.ext_getElem?
      intro i
      have hl : xo.length = a.ops.length := f.ol
      by_cases hi : i < xo.length
      · have hc : i < (countM a.ops.length).length := by rw [countM_len]; omega
        have hce : (countM a.ops.length)[i] = (i : Int) := by have := countM_at (n := a.ops.length) (k := i) (by omega); rw [List.getElem?_eq_getElem hc] at this; injection this
        rw [ledM_at hc, hce, if_pos (by omega), Int.toNat_natCast, getD_at _ hi, List.getElem?_eq_getElem hi]
      · rw [List.getElem?_eq_none (by rw [ledM_len, countM_len]; omega), List.getElem?_eq_none (by omega)]
    rw [e1, e2]
  · unfold thenM
    rw [facts_ok fc, h, selfM_ok f.vb]
    simp only [Bool.and_self, if_true]
    rw [ledM_count (fun x hx => by have := f.sb x hx; left; omega), ledM_count (fun x hx => by have := f.ob x hx; left; omega)]
theorem thenM_ok {a b c : MSig} {m n : MMap} (h : (thenM a b c m n).2 = true) : mapOkB a c (thenM a b c m n).1 = true := by
  unfold thenM at h ⊢
  split at h
  · rename_i hc
    rw [if_pos hc]
    simp only [Bool.and_eq_true] at hc
    exact facts_ok (then_facts (mapOk_facts hc.1) (mapOk_facts hc.2))
  · cases h
theorem one_ok (b : MSig) : mapOkB ⟨1, []⟩ b ⟨[0], []⟩ = validB b := by
  cases h : validB b with
  | false => exact mapOk_no2 h
  | true =>
    have hv := valid_sorts h
    refine mapOk_yes rfl h rfl rfl ?_ rfl
    simp [belowB]; omega

/-! terms along maps -/
theorem led_last {tq row : List Int} (h : 0 < row.length) (hr : ∀ x ∈ row, x < 100) : (ledM tq row).getLastD (-1) = tq.getD (row.getLastD (-1)).toNat 0 := by
  have hl : row.length - 1 < row.length := by omega
  have := ledM_at (tq := tq) hl
  rw [last_at (by rw [ledM_len]; exact h), last_at h]
  rw [if_pos (hr _ (List.getElem_mem hl))] at this
  have h2 : (ledM tq row).length - 1 < (ledM tq row).length := by rw [ledM_len]; omega
  have e : (ledM tq row)[(ledM tq row).length - 1]? = some (tq.getD (row[row.length - 1]).toNat 0) := by rw [ledM_len]; exact this
  rw [List.getElem?_eq_getElem h2] at e
  injection e
theorem led_drop (tq row : List Int) : (ledM tq row).dropLast = ledM tq row.dropLast := by unfold ledM; rw [List.map_dropLast]
theorem led_cons {tq row : List Int} {x : Int} (h : x < 100) : ledM tq (x :: row) = tq.getD x.toNat 0 :: ledM tq row := by unfold ledM; simp [h]
theorem led_append (tq r s : List Int) : ledM tq (r ++ s) = ledM tq r ++ ledM tq s := by unfold ledM; simp
theorem led_getD {tq row : List Int} {k : Nat} (hk : k < row.length) (h : row[k] < 100) : (ledM tq row).getD k 0 = tq.getD (row[k]).toNat 0 := by
  rw [List.getD_eq_getElem?_getD, ledM_at hk, if_pos h]; rfl
mutual
theorem led_t {a b : MSig} {m : MMap} (f : MapFacts a b m) {vars : List Int} (hv : ∀ x ∈ vars, 0 ≤ x ∧ x < a.sorts) : ∀ tm : Tm, wfT a vars tm → ∃ tm' : Tm, wfT b (ledM m.sorts vars) tm' ∧ tm'.sort = m.sorts.getD tm.sort.toNat 0 ∧ tm'.row = ledM m.ops tm.row
  | .leaf k of, hw => by
    unfold wfT at hw
    obtain ⟨hk, rfl⟩ := hw
    have hx : vars[k] < 100 := by have := hv _ (List.getElem_mem hk); have := valid_sorts f.va; omega
    refine ⟨.leaf k (m.sorts.getD (vars.getD k 0).toNat 0), ?_, rfl, ?_⟩
    · unfold wfT
      refine ⟨by rw [ledM_len]; exact hk, ?_⟩
      rw [led_getD hk hx, getD_at _ hk]
    · simp only [Tm.row, ledM, List.map_cons, List.map_nil]
      rw [if_neg (by omega)]
  | .node op lv ts, hw => by
    unfold wfT at hw
    obtain ⟨ho, hl, hts⟩ := hw
    have hvr := valid_row f.va ho
    have hs := valid_sorts f.va
    have hom : op < m.ops.length := by rw [f.ol]; exact ho
    have e := f.oo op ho hom
    have hob := f.ob _ (List.getElem_mem hom)
    have hob2 := f.os _ (List.getElem_mem hom)
    have hbl : (m.ops[op]).toNat < b.ops.length := by omega
    have hrow : opRow b (m.ops[op]).toNat = ledM m.sorts (opRow a op) := by
      rw [opRow_at hbl, opRow_at ho]
      rw [List.getElem?_eq_getElem hbl] at e
      injection e
    rw [opRow_at ho] at hl hts
    obtain ⟨ts', h1, h2⟩ := led_ts f hv ts _ hts
    refine ⟨.node (m.ops[op]).toNat (m.sorts.getD lv.toNat 0) ts', ?_, rfl, ?_⟩
    · unfold wfT
      refine ⟨hbl, ?_, ?_⟩
      · rw [hrow, opRow_at ho, led_last (by omega) (fun x hx => by have := hvr.2.2 x hx; omega), hl]
      · rw [hrow, opRow_at ho, led_drop]; exact h1
    · simp only [Tm.row]
      rw [led_cons (by have := valid_sorts f.va; omega), Int.toNat_natCast, getD_at _ hom, h2, Int.toNat_of_nonneg hob.1]
theorem led_ts {a b : MSig} {m : MMap} (f : MapFacts a b m) {vars : List Int} (hv : ∀ x ∈ vars, 0 ≤ x ∧ x < a.sorts) : ∀ (ts : List Tm) (ss : List Int), wfTs a vars ss ts → ∃ ts' : List Tm, wfTs b (ledM m.sorts vars) (ledM m.sorts ss) ts' ∧ rowsOf ts' = ledM m.ops (rowsOf ts)
  | [], ss, hw => by
    unfold wfTs at hw
    subst hw
    exact ⟨[], by unfold wfTs; rfl, rfl⟩
  | t :: ts, ss, hw => by
    unfold wfTs at hw
    obtain ⟨x, ss', rfl, h1, h2, h3⟩ := hw
    obtain ⟨t', q1, q2, q3⟩ := led_t f hv t h2
    obtain ⟨ts', q4, q5⟩ := led_ts f hv ts ss' h3
    have hx : x < 100 := by
      subst h1
      cases t with
      | leaf k of =>
        unfold wfT at h2
        obtain ⟨hk, rfl⟩ := h2
        simp only [Tm.sort]
        rw [getD_at _ hk]
        have := hv _ (List.getElem_mem hk); have := valid_sorts f.va; omega
      | node op lv us =>
        unfold wfT at h2
        obtain ⟨hk, rfl, -⟩ := h2
        simp only [Tm.sort]
        have hr := valid_row f.va hk
        rw [opRow_at hk, last_at (by omega)]
        have := hr.2.2 _ (List.getElem_mem (show a.ops[op].length - 1 < a.ops[op].length by omega)); have := valid_sorts f.va; omega
    refine ⟨t' :: ts', ?_, by simp only [rowsOf]; rw [q3, q5, led_append]⟩
    unfold wfTs
    refine ⟨m.sorts.getD x.toNat 0, ledM m.sorts ss', led_cons hx, by rw [q2, h1], q1, q4⟩
end
theorem varsB_led {a b : MSig} {m : MMap} (f : MapFacts a b m) {vars : List Int} (h : varsB a vars = true) : varsB b (ledM m.sorts vars) = true := by
  obtain ⟨h1, h2, h3⟩ := vars_valid h
  unfold varsB
  rw [f.vb, decide_eq_true (by rw [ledM_len]; exact h2)]
  simp only [Bool.and_self, Bool.true_and]
  unfold belowB
  rw [List.all_eq_true]
  intro x hx
  have hin : InTo m.sorts vars := f.sorts_in (fun x hx => by obtain ⟨k, hk, rfl⟩ := List.getElem_of_mem hx; exact h3 k hk)
  rcases ledM_mem hin x hx with h | h
  · have := f.sb x h; simpa using this
  · obtain ⟨k, hk, rfl⟩ := List.getElem_of_mem h.1
    have := h3 k hk; have := valid_sorts f.va; omega
theorem vars_mem {s : MSig} {vars : List Int} (h : varsB s vars = true) : ∀ x ∈ vars, 0 ≤ x ∧ x < s.sorts := fun x hx => by
  obtain ⟨k, hk, rfl⟩ := List.getElem_of_mem hx; exact (vars_valid h).2.2 k hk
/-- the sort of a term along a map -/
theorem sortM_led {a b : MSig} {m : MMap} (f : MapFacts a b m) {vars t : List Int} (h : 0 ≤ sortM a vars t) : sortM b (ledM m.sorts vars) (ledM m.ops t) = m.sorts.getD (sortM a vars t).toNat 0 ∧ (sortM a vars t).toNat < m.sorts.length := by
  obtain ⟨tm, h1, h2, h3, rfl, h5⟩ := sortM_to h
  obtain ⟨tm', q1, q2, q3⟩ := led_t f (vars_mem h1) tm h3
  have hlt := sortM_lt (vars := vars) (t := tm.row) f.va
  refine ⟨?_, by have := f.sl; omega⟩
  rw [← q3, sortM_of (varsB_led f h1) (by rw [q3, ledM_len]; exact h2) q1, q2, h5]
theorem sorts_nonneg {a b : MSig} {m : MMap} (f : MapFacts a b m) {k : Nat} (hk : k < m.sorts.length) : 0 ≤ m.sorts.getD k 0 := by
  rw [getD_at _ hk]; exact (f.sb _ (List.getElem_mem hk)).1
/-- the numbers of a term are led -/
theorem term_in {a b : MSig} {m : MMap} (f : MapFacts a b m) {vars t : List Int} (h : 0 ≤ sortM a vars t) : InTo m.ops t ∧ t.length ≤ 30 ∧ InTo m.sorts vars ∧ vars.length ≤ 4 ∧ (∀ x ∈ vars, x < 100) := by
  obtain ⟨tm, h1, h2, h3, rfl, h5⟩ := sortM_to h
  refine ⟨fun x hx hlt => ?_, h2, f.sorts_in (vars_mem h1), (vars_valid h1).2.1, fun x hx => by have := vars_mem h1 x hx; have := valid_sorts f.va; omega⟩
  have := nums_t (ops_few f.va) tm h3 x hx
  have := f.ol
  omega
/-- by the map that leaves all a term is itself -/
theorem self_term {s : MSig} {vars t : List Int} (h : 0 ≤ sortM s vars t) (hv : validB s = true) : ledM (selfM s).ops t = t ∧ ledM (selfM s).sorts vars = vars := by
  obtain ⟨tm, h1, h2, h3, rfl, h5⟩ := sortM_to h
  rw [selfM_ok hv]
  constructor
  · refine ledM_count fun x hx => ?_
    have := nums_t (ops_few hv) tm h3 x hx
    omega
  · refine ledM_count fun x hx => ?_
    have := vars_mem h1 x hx; have := valid_sorts hv
    left; omega
end
end Go.Proofs.Yticldaddbljleaa
