/- TermPut of both packages. · A row of numbers at the end of an own one, whatever its address. · MadeOf of package impl. · l6Sets of package spec. · MadeOf of package spec. -/
import Derived.Test.YticldaddbljleaaKac935b45
import Derived.Lib.AppendZeros
import Derived.Deep.AppendSrc
import Derived.Deep.Upon
namespace Go.Proofs.Yticldaddbljleaa
section
open Go.RowKit
set_option linter.unusedVariables false

def putM (s : MSig) (vars t others : List Int) (terms : List (List Int)) : List Int × Bool :=
  if 0 ≤ sortM s vars t ∧ fitsB s others terms vars = true ∧ (putRow terms t).length ≤ 30 then (putRow terms t, true) else ([], false)
def putOne (terms : List (List Int)) (n : Int) : List Int := if 100 ≤ n then terms.getD (n - 100).toNat [] else [n]
theorem putRow_take {terms : List (List Int)} {t : List Int} {k : Nat} (hk : k < t.length) : putRow terms (t.take (k + 1)) = putRow terms (t.take k) ++ putOne terms t[k] := by
  unfold putRow putOne
  rw [List.take_succ_eq_append_getElem hk, List.flatMap_append]; simp
theorem fits_len {s : MSig} {others sorts : List Int} {terms : List (List Int)} (h : fitsB s others terms sorts = true) : terms.length = sorts.length ∧ varsB s others = true ∧ ∀ k (hk : k < terms.length), sortM s others terms[k] = sorts.getD k 0 ∧ 0 ≤ sortM s others terms[k] := by
  rw [fitsB_eq] at h
  simp only [Bool.and_eq_true, decide_eq_true_eq, List.all_eq_true] at h
  refine ⟨h.2.1, h.1, fun k hk => ?_⟩
  have hz : k < (terms.zip sorts).length := by rw [List.length_zip]; omega
  have hp := h.2.2 _ (List.getElem_mem hz)
  rw [List.getElem_zip] at hp
  unfold fitP at hp
  simp only [Bool.and_eq_true, decide_eq_true_eq] at hp
  rw [getD_at _ (by omega)]
  exact ⟨hp.2, by rw [hp.2]; exact hp.1⟩
theorem fits_rows {s : MSig} {others sorts : List Int} {terms : List (List Int)} (h : fitsB s others terms sorts = true) : ∀ k (hk : k < terms.length), 1 ≤ terms[k].length ∧ terms[k].length ≤ 30 := fun k hk => by
  obtain ⟨tm, a, b, c, d, e⟩ := sortM_to ((fits_len h).2.2 k hk).2
  have := row_pos tm
  rw [d] at this
  exact ⟨this, b⟩
theorem sort_nums {s : MSig} {vars t : List Int} (h : 0 ≤ sortM s vars t) : ∀ n ∈ t, n < 100 ∨ (100 ≤ n ∧ n < 100 + (vars.length : Int)) := fun n hn => by
  obtain ⟨tm, a, b, c, d, e⟩ := sortM_to h
  subst d
  have hv := (vars_valid a).1
  rcases nums_t (ops_few hv) tm c n hn with hh | hh
  · have := (valid_sorts hv).2.2; omega
  · exact .inr hh
/-- what the loops of both need: each number an operation or a letter, each row neither empty nor long -/
structure PutOk (t : List Int) (terms : List (List Int)) : Prop where
  few : t.length ≤ 30
  nums : ∀ n ∈ t, n < 100 ∨ (100 ≤ n ∧ n < 100 + (terms.length : Int))
  rows : ∀ k (hk : k < terms.length), 1 ≤ terms[k].length ∧ terms[k].length ≤ 30
theorem putOk_of {s : MSig} {vars t others : List Int} {terms : List (List Int)} (h1 : 0 ≤ sortM s vars t) (h2 : fitsB s others terms vars = true) : PutOk t terms := by
  obtain ⟨tm, a, b, c, d, e⟩ := sortM_to h1
  exact ⟨b, fun n hn => by have := sort_nums h1 n hn; rw [(fits_len h2).1]; exact this, fits_rows h2⟩
theorem PutOk.one {t : List Int} {terms : List (List Int)} (h : PutOk t terms) {n : Int} (hn : n ∈ t) : 1 ≤ (putOne terms n).length ∧ (putOne terms n).length ≤ 30 := by
  unfold putOne
  rcases h.nums n hn with hh | hh
  · rw [if_neg (by omega)]; simp
  · rw [if_pos hh.1, getD_at _ (by omega)]; exact h.rows _ (by omega)
theorem PutOk.short {t : List Int} {terms : List (List Int)} (h : PutOk t terms) : ∀ k, k ≤ t.length → (putRow terms (t.take k)).length ≤ 30 * k := fun k => by
  induction k with
  | zero => intro _; simp [putRow]
  | succ k ih =>
    intro hk
    rw [putRow_take (by omega), List.length_append]
    have := ih (by omega)
    have := (h.one (List.getElem_mem (show k < t.length by omega))).2
    omega
theorem app_ints {w : World} {B m : Nat} {v : Value} {ps rs : List Int} (hm : rs.length = m) (h : w.ownsRow B 3 1 v (ps.length + m) (ps.map (Value.int .i64) ++ rs.map (Value.int .i64))) : OInts w B v (ps ++ rs) := by
  unfold OInts; rw [List.length_append, List.map_append, hm]; exact h
theorem one_new (w : World) (n : Int) : ∀ (j : Nat) (u : Value), ([n].map (Value.int .i64))[j]? = some u → (w.alloc (.cells #[.int .i64 n] 3)).cell? ((⟨w.heap.size, 0, none⟩ : Addr).add j) = some u := by
  intro j u hj
  match j, hj with
  | 0, hj =>
    simp at hj
    subst hj
    rw [show (⟨w.heap.size, 0, none⟩ : Addr).add 0 = ⟨w.heap.size, 0, none⟩ by simp [Addr.add], World.cell?_alloc_at _ _ _ _ rfl]; rfl

set_option maxHeartbeats 800000 in
set_option maxRecDepth 100000 in
theorem l2Put_any (t : List Int) (terms : List (List Int)) (w : World) (v tv : Value) (hok : PutOk t terms) (h1 : RInts w v t) (h2 : RRows w tv terms) :
    Calls Try.prog 105 #[v, tv] w fun e w' => ∃ u, e = .returned u ∧ OInts w' w.heap.size u (putRow terms t) ∧ Below w.heap.size w w' := by
  obtain ⟨i0, hi0, hz0, hz1, hz2⟩ := info_parts Try.tinfo_int
  have H1 := Lib.hid h1
  have H2 := Lib.hid h2
  have HOK := Lib.hid hok
  have hl1 := h1.len
  have hl2 := h2.len
  obtain ⟨A1, c1, rfl, -⟩ := h1.form
  obtain ⟨A2, c2, rfl, -⟩ := h2.form
  clear h1 h2 hok
  go_enter Try.func105, Try.ntmps105
  go_wp2
  go_loopw [5, 6] (fun p i wr => ∃ k : Nat, k ≤ t.length ∧ i = .int .i64 k ∧ OInts wr w.heap.size p (putRow terms (t.take k)) ∧ Below w.heap.size w wr) (fun _ i _ => t.length - (intOf i).toNat)
  case atStart => exact ⟨0, Nat.zero_le _, rfl, own_empty w, below_alloc _ _⟩
  case round =>
    obtain ⟨k, hk, rfl, ho, hb⟩ := hrel
    obtain ⟨A9, c9, rfl, -⟩ := own_reads ho
    have HO := Lib.hid ho
    have HB := Lib.hid hb
    clear ho hb
    by_cases hlt : k < t.length
    · have hlt' : (k : Int) < (t.length : Int) := by omega
      have hk0 : (0 : Int) ≤ (k : Int) := by omega
      obtain ⟨b, o, c', e, hx⟩ := (H1.out.keep HB.out).at_ hlt
      cases e
      have HTK := Lib.hid (putRow_take (terms := terms) hlt)
      have HNUM := Lib.hid (HOK.out.nums _ (List.getElem_mem hlt))
      have hsh := HOK.out.short k hk
      have h30 := HOK.out.few
      have hone := (HOK.out.one (List.getElem_mem hlt)).2
      generalize t[k] = n at hx HTK HNUM hone
      have hs1 := HB.out.size
      generalize hps : putRow terms (t.take k) = ps at HO HTK hsh
      clear hps
      by_cases hn : 100 ≤ n
      · obtain ⟨j, rfl⟩ : ∃ j : Nat, n = 100 + (j : Int) := ⟨(n - 100).toNat, by omega⟩
        have hj : j < terms.length := by have := HNUM.out; omega
        obtain ⟨b2, o2, c3, u2, e, hcell, hri⟩ := (H2.out.keep HB.out).at_ hj
        cases e
        have hrow := HOK.out.rows j hj
        have HP := Lib.hid (show putOne terms (100 + (j : Int)) = terms[j] by unfold putOne; rw [if_pos (by omega), show ((100 : Int) + (j : Int) - 100).toNat = j by omega, getD_at _ hj])
        generalize terms[j] = r at hcell hri hrow HP
        obtain ⟨b3, o3, c5, rfl, hx3⟩ := hri.at_ (k := 0) (by omega)
        have HNEWS := Lib.hid (news_of hri)
        have hj' : (j : Int) < (terms.length : Int) := by omega
        have hj0 : (0 : Int) ≤ (j : Int) := by omega
        have hw : IntKind.i64.wrap (100 + (j : Int) - 100) = (j : Int) := by rw [IntKind.wrap_i64]; omega
        clear hx3 hri
        go_wp2_with (at_builtin; refine wpList_append_own _ rfl _ _ 26 rfl w.heap.size 3 i0 (.int .i64 0) 1 8 Try.underlying26 hi0 hz0 hz1 hz2 rfl (by decide) _ ps.length (ps.map (Value.int .i64)) rfl HO.out ⟨b3, o3, none⟩ r.length c5 (r.map (Value.int .i64)) rfl (by simp) HNEWS.out (ints_one _) (by rw [maxLen_eq]; omega) (by omega) hs1 ?_)
        intro v' w4 hown4 hgrow4 _
        have HO4 := Lib.hid (app_ints rfl hown4)
        have HB4 := Lib.hid (HB.out.grown hgrow4 hs1 (fun k e => (own_lt HO.out k e).1))
        clear hown4 hgrow4
        go_wp2
        go_roundw
        case rel => exact ⟨k + 1, by omega, by go_num, by rw [HTK.out, HP.out]; exact HO4.out, HB4.out⟩
        case measure => simp [intOf]; omega
      · have HP := Lib.hid (show putOne terms n = [n] by unfold putOne; rw [if_neg hn])
        go_wp2_with (at_builtin; refine wpList_append_own _ rfl _ _ 26 rfl w.heap.size 3 i0 (.int .i64 0) 1 8 Try.underlying26 hi0 hz0 hz1 hz2 rfl (by decide) _ ps.length (ps.map (Value.int .i64)) rfl (own_keep HO.out (below_alloc wr _)) ⟨wr.heap.size, 0, none⟩ 1 1 ([n].map (Value.int .i64)) rfl (by simp) (one_new wr n) (ints_one _) (by rw [maxLen_eq]; omega) (by omega) (by simp; omega) ?_)
        intro v' w4 hown4 hgrow4 _
        have HO4 := Lib.hid (app_ints (rs := [n]) rfl hown4)
        have HB4 := Lib.hid ((HB.out.alloc hs1 (.cells #[.int .i64 n] 3)).grown hgrow4 (by simp; omega) (fun k e => (own_lt HO.out k e).1))
        clear hown4 hgrow4
        go_wp2
        go_roundw
        case rel => exact ⟨k + 1, by omega, by go_num, by rw [HTK.out, HP.out]; exact HO4.out, HB4.out⟩
        case measure => simp [intOf]; omega
    · have hlt' : ¬ (k : Int) < (t.length : Int) := by omega
      have HTA := Lib.hid (show t.take k = t from take_all (by omega))
      rw [HTA.out] at HO ⊢
      go_wp2
      go_ret
      exact ⟨_, rfl, HO.out, HB.out⟩

theorem putM_no {s : MSig} {vars t others : List Int} {terms : List (List Int)} (h : ¬ (0 ≤ sortM s vars t ∧ fitsB s others terms vars = true ∧ (putRow terms t).length ≤ 30)) : putM s vars t others terms = ([], false) := by unfold putM; rw [if_neg h]
theorem putM_yes {s : MSig} {vars t others : List Int} {terms : List (List Int)} (h : 0 ≤ sortM s vars t ∧ fitsB s others terms vars = true ∧ (putRow terms t).length ≤ 30) : putM s vars t others terms = (putRow terms t, true) := by unfold putM; rw [if_pos h]

/-- what a function that makes a row and tells whether it could answers -/
def PairPost (R : List Int × Bool) (w : World) (e : Ending) (w' : World) : Prop := ∃ u, e = .returned (.tuple #[u, .bool R.2]) ∧ OInts w' w.heap.size u R.1 ∧ Below w.heap.size w w'

set_option maxHeartbeats 800000 in
set_option maxRecDepth 100000 in
theorem specTermPut_any (s : MSig) (vars t others : List Int) (terms : List (List Int)) (w : World) (v vv tv ov sv : Value) (hsm : ∀ r ∈ terms, Small r) (h1 : RSig w v s) (h2 : RInts w vv vars) (h3 : RInts w tv t) (h4 : RInts w ov others) (h5 : RRows w sv terms) :
    Calls Try.prog 107 #[v, vv, tv, ov, sv] w (PairPost (putM s vars t others terms) w) := by
  obtain ⟨u, rfl, hrr⟩ := h1
  obtain ⟨sorts, ops⟩ := s
  obtain ⟨A, c, rfl, -⟩ := hrr.form
  have hb1 := below_alloc w (.cells #[.int .i64 sorts, .slice A ops.length c] 25)
  have hbx := Lib.hid (box_cells w (.int .i64 sorts) (.slice A ops.length c) 25)
  have HS := Lib.hid (show RSig (w.alloc (.cells #[.int .i64 sorts, .slice A ops.length c] 25)) (.agg #[.int .i64 sorts, .slice A ops.length c]) ⟨sorts, ops⟩ from ⟨_, rfl, hrr.keep hb1⟩)
  have HV2 := Lib.hid (h2.keep hb1)
  have HV3 := Lib.hid (h3.keep hb1)
  have HV4 := Lib.hid (h4.keep hb1)
  have HV5 := Lib.hid (h5.keep hb1)
  have HSM := Lib.hid hsm
  obtain ⟨A2, c2, rfl, -⟩ := h2.form
  obtain ⟨A3, c3, rfl, -⟩ := h3.form
  obtain ⟨A4, c4, rfl, -⟩ := h4.form
  obtain ⟨A5, c5, rfl, -⟩ := h5.form
  have HB1 := Lib.hid hb1
  obtain ⟨q, hq⟩ : ∃ q, sortM ⟨sorts, ops⟩ vars t = q := ⟨_, rfl⟩
  have HQ := Lib.hid hq
  clear hrr h2 h3 h4 h5 hb1 hq hsm
  by_cases hq0 : q < 0
  · have HN := Lib.hid (putM_no (s := ⟨sorts, ops⟩) (vars := vars) (t := t) (others := others) (terms := terms) (by rw [HQ.out]; omega))
    go_enter Try.func107, Try.ntmps107
    go_wp2_with (go_at_call 13; refine (specTermSort_any ⟨sorts, ops⟩ vars t _ _ _ _ HS.out HV2.out HV3.out).mono ?_; rw [HQ.out]; rintro e w1 ⟨rfl, hb⟩; have HB2 := Lib.hid hb; clear hb)
    have s1 := HB2.out.size
    simp at s1
    refine bodyPost_ret (v := .tuple #[.slice (some ⟨w1.heap.size, 0, none⟩) 0 0, .bool false]) (by simp [results, Try.results107, go_sem]) rfl ?_
    rw [HN.out]
    exact ⟨_, rfl, (own_empty w1).base (by omega), (HB1.out.trans (HB2.out.mono (by simp))).trans ((below_alloc _ _).mono (by omega))⟩
  cases hf : fitsB ⟨sorts, ops⟩ others terms vars with
  | false =>
    have HF := Lib.hid hf
    have HN := Lib.hid (putM_no (s := ⟨sorts, ops⟩) (vars := vars) (t := t) (others := others) (terms := terms) (by rw [HF.out]; simp))
    clear hf
    go_enter Try.func107, Try.ntmps107
    go_wp2_with (first
      | (go_at_call 13; refine (specTermSort_any ⟨sorts, ops⟩ vars t _ _ _ _ HS.out HV2.out HV3.out).mono ?_; rw [HQ.out]; rintro e w1 ⟨rfl, hb⟩; have g0 := cell_keep hb hbx.out.1; have g1 := cell_keep hb hbx.out.2; have HB2 := Lib.hid hb; clear hb)
      | (go_at_call 104; refine (specTermsFit_any ⟨sorts, ops⟩ others terms vars _ _ _ _ _ HSM.out (HS.out.keep HB2.out) (HV4.out.keep HB2.out) (HV5.out.keep HB2.out) (HV2.out.keep HB2.out)).mono ?_; rw [HF.out]; rintro e w2 ⟨rfl, hb⟩; have HB3 := Lib.hid (fit_keep HB2.out hb); clear hb))
    have s1 := HB3.out.size
    simp at s1
    refine bodyPost_ret (v := .tuple #[.slice (some ⟨w2.heap.size, 0, none⟩) 0 0, .bool false]) (by simp [results, Try.results107, go_sem]) rfl ?_
    rw [HN.out]
    exact ⟨_, rfl, (own_empty w2).base (by omega), (HB1.out.trans (HB3.out.mono (by simp))).trans ((below_alloc _ _).mono (by omega))⟩
  | true =>
    have HF := Lib.hid hf
    have HOK := Lib.hid (putOk_of (show 0 ≤ sortM ⟨sorts, ops⟩ vars t by rw [HQ.out]; omega) hf)
    clear hf
    by_cases hL : 30 < ((putRow terms t).length : Int)
    · have HN := Lib.hid (putM_no (s := ⟨sorts, ops⟩) (vars := vars) (t := t) (others := others) (terms := terms) (by omega))
      go_enter Try.func107, Try.ntmps107
      go_wp2_with (first
        | (go_at_call 13; refine (specTermSort_any ⟨sorts, ops⟩ vars t _ _ _ _ HS.out HV2.out HV3.out).mono ?_; rw [HQ.out]; rintro e w1 ⟨rfl, hb⟩; have g0 := cell_keep hb hbx.out.1; have g1 := cell_keep hb hbx.out.2; have HB2 := Lib.hid hb; clear hb)
        | (go_at_call 104; refine (specTermsFit_any ⟨sorts, ops⟩ others terms vars _ _ _ _ _ HSM.out (HS.out.keep HB2.out) (HV4.out.keep HB2.out) (HV5.out.keep HB2.out) (HV2.out.keep HB2.out)).mono ?_; rw [HF.out]; rintro e w2 ⟨rfl, hb⟩; have HB3 := Lib.hid (fit_keep HB2.out hb); clear hb g0 g1)
        | (go_at_call 105; refine (l2Put_any t terms _ _ _ HOK.out (HV3.out.keep HB3.out) (HV5.out.keep HB3.out)).mono ?_; rintro e w3 ⟨u3, rfl, ho, hb⟩; obtain ⟨A6, c6, rfl, -⟩ := ho.reads.form; have HO := Lib.hid ho; have HB4 := Lib.hid (fit_keep HB3.out hb); have HZ := Lib.hid (show w.heap.size ≤ w2.heap.size by have := HB3.out.size; simp at this; omega); clear hb ho))
      have s1 := HB4.out.size
      simp at s1
      refine bodyPost_ret (v := .tuple #[.slice (some ⟨w3.heap.size, 0, none⟩) 0 0, .bool false]) (by simp [results, Try.results107, go_sem]) rfl ?_
      rw [HN.out]
      exact ⟨_, rfl, (own_empty w3).base (by omega), (HB1.out.trans (HB4.out.mono (by simp))).trans ((below_alloc _ _).mono (by omega))⟩
    · have HN := Lib.hid (putM_yes (s := ⟨sorts, ops⟩) (vars := vars) (t := t) (others := others) (terms := terms) ⟨by rw [HQ.out]; omega, HF.out, by omega⟩)
      go_enter Try.func107, Try.ntmps107
      go_wp2_with (first
        | (go_at_call 13; refine (specTermSort_any ⟨sorts, ops⟩ vars t _ _ _ _ HS.out HV2.out HV3.out).mono ?_; rw [HQ.out]; rintro e w1 ⟨rfl, hb⟩; have g0 := cell_keep hb hbx.out.1; have g1 := cell_keep hb hbx.out.2; have HB2 := Lib.hid hb; clear hb)
        | (go_at_call 104; refine (specTermsFit_any ⟨sorts, ops⟩ others terms vars _ _ _ _ _ HSM.out (HS.out.keep HB2.out) (HV4.out.keep HB2.out) (HV5.out.keep HB2.out) (HV2.out.keep HB2.out)).mono ?_; rw [HF.out]; rintro e w2 ⟨rfl, hb⟩; have HB3 := Lib.hid (fit_keep HB2.out hb); clear hb g0 g1)
        | (go_at_call 105; refine (l2Put_any t terms _ _ _ HOK.out (HV3.out.keep HB3.out) (HV5.out.keep HB3.out)).mono ?_; rintro e w3 ⟨u3, rfl, ho, hb⟩; obtain ⟨A6, c6, rfl, -⟩ := ho.reads.form; have HO := Lib.hid ho; have HB4 := Lib.hid (fit_keep HB3.out hb); have HZ := Lib.hid (show w.heap.size ≤ w2.heap.size by have := HB3.out.size; simp at this; omega); clear hb ho))
      refine bodyPost_ret (v := .tuple #[.slice A6 (putRow terms t).length c6, .bool true]) (by simp [results, Try.results107, go_sem]) rfl ?_
      rw [HN.out]
      exact ⟨_, rfl, HO.out.base HZ.out, HB1.out.trans (HB4.out.mono (by simp))⟩

set_option maxHeartbeats 1600000 in
set_option maxRecDepth 100000 in
theorem termPut_any (s : MSig) (vars t others : List Int) (terms : List (List Int)) (w : World) (v vv tv ov sv : Value) (hst : Small t) (hsm : ∀ r ∈ terms, Small r) (h1 : RSig w v s) (h2 : RInts w vv vars) (h3 : RInts w tv t) (h4 : RInts w ov others) (h5 : RRows w sv terms) :
    Calls Try.prog 62 #[v, vv, tv, ov, sv] w (PairPost (putM s vars t others terms) w) := by
  obtain ⟨i0, hi0, hz0, hz1, hz2⟩ := info_parts Try.tinfo_int
  obtain ⟨u, rfl, hrr⟩ := h1
  obtain ⟨sorts, ops⟩ := s
  obtain ⟨A, c, rfl, -⟩ := hrr.form
  have hb1 := below_alloc w (.cells #[.int .i64 sorts, .slice A ops.length c] 25)
  have hbx := Lib.hid (box_cells w (.int .i64 sorts) (.slice A ops.length c) 25)
  have HS := Lib.hid (show RSig (w.alloc (.cells #[.int .i64 sorts, .slice A ops.length c] 25)) (.agg #[.int .i64 sorts, .slice A ops.length c]) ⟨sorts, ops⟩ from ⟨_, rfl, hrr.keep hb1⟩)
  have HV2 := Lib.hid (h2.keep hb1)
  have HV3 := Lib.hid (h3.keep hb1)
  have HV4 := Lib.hid (h4.keep hb1)
  have HV5 := Lib.hid (h5.keep hb1)
  have HSM := Lib.hid hsm
  have HST := Lib.hid hst
  have hl3 := h3.len
  have hl5 := h5.len
  obtain ⟨A2, c2, rfl, -⟩ := h2.form
  obtain ⟨A3, c3, rfl, -⟩ := h3.form
  obtain ⟨A4, c4, rfl, -⟩ := h4.form
  obtain ⟨A5, c5, rfl, -⟩ := h5.form
  have HB1 := Lib.hid hb1
  obtain ⟨q, hq⟩ : ∃ q, sortM ⟨sorts, ops⟩ vars t = q := ⟨_, rfl⟩
  have HQ := Lib.hid hq
  clear hrr h2 h3 h4 h5 hb1 hq hsm hst
  by_cases hq0 : q < 0
  · have HN := Lib.hid (putM_no (s := ⟨sorts, ops⟩) (vars := vars) (t := t) (others := others) (terms := terms) (by rw [HQ.out]; omega))
    go_enter Try.func62, Try.ntmps62
    go_wp2_with (go_at_call 15; refine (termSort_any ⟨sorts, ops⟩ vars t _ _ _ _ HST.out HS.out HV2.out HV3.out).mono ?_; rw [HQ.out]; rintro e w1 ⟨rfl, hb⟩; have HB2 := Lib.hid hb; clear hb)
    refine bodyPost_ret (v := .tuple #[.slice none 0 0, .bool false]) (by simp [results, Try.results62, go_sem]) rfl ?_
    rw [HN.out]
    exact ⟨_, rfl, OInts.nil _ _, HB1.out.trans (HB2.out.mono (by simp))⟩
  cases hf : fitsB ⟨sorts, ops⟩ others terms vars with
  | false =>
    have HF := Lib.hid hf
    have HN := Lib.hid (putM_no (s := ⟨sorts, ops⟩) (vars := vars) (t := t) (others := others) (terms := terms) (by rw [HF.out]; simp))
    clear hf
    go_enter Try.func62, Try.ntmps62
    go_wp2_with (first
      | (go_at_call 15; refine (termSort_any ⟨sorts, ops⟩ vars t _ _ _ _ HST.out HS.out HV2.out HV3.out).mono ?_; rw [HQ.out]; rintro e w1 ⟨rfl, hb⟩; have g0 := cell_keep hb hbx.out.1; have g1 := cell_keep hb hbx.out.2; have HB2 := Lib.hid hb; clear hb)
      | (go_at_call 112; refine (termsFit_any ⟨sorts, ops⟩ others terms vars _ _ _ _ _ HSM.out (HS.out.keep HB2.out) (HV4.out.keep HB2.out) (HV5.out.keep HB2.out) (HV2.out.keep HB2.out)).mono ?_; rw [HF.out]; rintro e w2 ⟨rfl, hb⟩; have HB3 := Lib.hid (fit_keep HB2.out hb); clear hb))
    refine bodyPost_ret (v := .tuple #[.slice none 0 0, .bool false]) (by simp [results, Try.results62, go_sem]) rfl ?_
    rw [HN.out]
    exact ⟨_, rfl, OInts.nil _ _, HB1.out.trans (HB3.out.mono (by simp))⟩
  | true =>
    have HF := Lib.hid hf
    have HOK := Lib.hid (putOk_of (show 0 ≤ sortM ⟨sorts, ops⟩ vars t by rw [HQ.out]; omega) hf)
    clear hf
    go_enter Try.func62, Try.ntmps62
    go_wp2_with (first
      | (go_at_call 15; refine (termSort_any ⟨sorts, ops⟩ vars t _ _ _ _ HST.out HS.out HV2.out HV3.out).mono ?_; rw [HQ.out]; rintro e w1 ⟨rfl, hb⟩; have g0 := cell_keep hb hbx.out.1; have g1 := cell_keep hb hbx.out.2; have HB2 := Lib.hid hb; clear hb)
      | (go_at_call 112; refine (termsFit_any ⟨sorts, ops⟩ others terms vars _ _ _ _ _ HSM.out (HS.out.keep HB2.out) (HV4.out.keep HB2.out) (HV5.out.keep HB2.out) (HV2.out.keep HB2.out)).mono ?_; rw [HF.out]; rintro e w2 ⟨rfl, hb⟩; have HB3 := Lib.hid (fit_keep HB2.out hb); clear hb g0 g1))
    obtain ⟨W, hW⟩ : ∃ W : World, W = w.alloc (.cells #[.int .i64 sorts, .slice A ops.length c] 25) := ⟨_, rfl⟩
    rw [← hW] at HB3 HV3 HV5 HB1
    have HWS := Lib.hid (show w.heap.size ≤ W.heap.size from HB1.out.size)
    clear hW
    go_loopw [12, 14, 30] (fun p n i wr => ∃ k : Nat, k ≤ t.length ∧ i = .int .i64 k ∧ OInts wr W.heap.size p (putRow terms (t.take k)) ∧ Below W.heap.size W wr) (fun _ _ i _ => t.length - (intOf i).toNat)
    case atStart => exact ⟨0, Nat.zero_le _, rfl, by simp [putRow]; exact OInts.nil _ _, HB3.out⟩
    case round =>
      obtain ⟨k, hk, rfl, ho, hb⟩ := hrel
      obtain ⟨A9, c9, rfl, -⟩ := own_reads ho
      have HO := Lib.hid ho
      have HB := Lib.hid hb
      clear ho hb
      by_cases hlt : k < t.length
      · have hlt' : (k : Int) < (t.length : Int) := by omega
        have hk0 : (0 : Int) ≤ (k : Int) := by omega
        obtain ⟨b, o, c', e, hx⟩ := (HV3.out.keep HB.out).at_ hlt
        cases e
        have HTK := Lib.hid (putRow_take (terms := terms) hlt)
        have HNUM := Lib.hid (HOK.out.nums _ (List.getElem_mem hlt))
        have hsh := HOK.out.short k hk
        have h30 := HOK.out.few
        have hone := (HOK.out.one (List.getElem_mem hlt)).2
        generalize t[k] = n at hx HTK HNUM hone
        have hs1 := HB.out.size
        generalize hps : putRow terms (t.take k) = ps at HO HTK hsh
        clear hps
        by_cases hn : 100 ≤ n
        · obtain ⟨j, rfl⟩ : ∃ j : Nat, n = 100 + (j : Int) := ⟨(n - 100).toNat, by omega⟩
          have hj : j < terms.length := by have := HNUM.out; omega
          obtain ⟨b2, o2, c8, u2, e, hcell, hri⟩ := (HV5.out.keep HB.out).at_ hj
          cases e
          have hrow := HOK.out.rows j hj
          have HP := Lib.hid (show putOne terms (100 + (j : Int)) = terms[j] by unfold putOne; rw [if_pos (by omega), show ((100 : Int) + (j : Int) - 100).toNat = j by omega, getD_at _ hj])
          generalize terms[j] = r at hcell hri hrow HP
          obtain ⟨b3, o3, c7, rfl, hx3⟩ := hri.at_ (k := 0) (by omega)
          have HNEWS := Lib.hid (news_of hri)
          have hj' : (j : Int) < (terms.length : Int) := by omega
          have hj0 : (0 : Int) ≤ (j : Int) := by omega
          have hw : IntKind.i64.wrap (100 + (j : Int) - 100) = (j : Int) := by rw [IntKind.wrap_i64]; omega
          clear hx3 hri
          go_wp2_with (at_builtin; refine wpList_append_own _ rfl _ _ 26 rfl W.heap.size 3 i0 (.int .i64 0) 1 8 Try.underlying26 hi0 hz0 hz1 hz2 rfl (by decide) _ ps.length (ps.map (Value.int .i64)) rfl HO.out ⟨b3, o3, none⟩ r.length c7 (r.map (Value.int .i64)) rfl (by simp) HNEWS.out (ints_one _) (by rw [maxLen_eq]; omega) (by omega) hs1 ?_)
          intro v' w4 hown4 hgrow4 _
          have HO4 := Lib.hid (app_ints rfl hown4)
          have HB4 := Lib.hid (HB.out.grown hgrow4 hs1 (fun k e => (own_lt HO.out k e).1))
          clear hown4 hgrow4
          go_wp2
          go_roundw
          case rel => exact ⟨k + 1, by omega, by go_num, by rw [HTK.out, HP.out]; exact HO4.out, HB4.out⟩
          case measure => simp [intOf]; omega
        · have HP := Lib.hid (show putOne terms n = [n] by unfold putOne; rw [if_neg hn])
          go_wp2_with (at_builtin; refine wpList_append_own _ rfl _ _ 26 rfl W.heap.size 3 i0 (.int .i64 0) 1 8 Try.underlying26 hi0 hz0 hz1 hz2 rfl (by decide) _ ps.length (ps.map (Value.int .i64)) rfl (own_keep HO.out (below_alloc wr _)) ⟨wr.heap.size, 0, none⟩ 1 1 ([n].map (Value.int .i64)) rfl (by simp) (one_new wr n) (ints_one _) (by rw [maxLen_eq]; omega) (by omega) (by simp; omega) ?_)
          intro v' w4 hown4 hgrow4 _
          have HO4 := Lib.hid (app_ints (rs := [n]) rfl hown4)
          have HB4 := Lib.hid ((HB.out.alloc hs1 (.cells #[.int .i64 n] 3)).grown hgrow4 (by simp; omega) (fun k e => (own_lt HO.out k e).1))
          clear hown4 hgrow4
          go_wp2
          go_roundw
          case rel => exact ⟨k + 1, by omega, by go_num, by rw [HTK.out, HP.out]; exact HO4.out, HB4.out⟩
          case measure => simp [intOf]; omega
      · have hlt' : ¬ (k : Int) < (t.length : Int) := by omega
        have HTA := Lib.hid (show t.take k = t from take_all (by omega))
        rw [HTA.out] at HO ⊢
        by_cases hL : 30 < ((putRow terms t).length : Int)
        · have HN := Lib.hid (putM_no (s := ⟨sorts, ops⟩) (vars := vars) (t := t) (others := others) (terms := terms) (by omega))
          go_wp2
          refine bodyPost_ret (v := .tuple #[.slice none 0 0, .bool false]) (by simp [results, Try.results62, go_sem]) rfl ?_
          rw [HN.out]
          exact ⟨_, rfl, OInts.nil _ _, HB1.out.trans (HB.out.mono HWS.out)⟩
        · have HN := Lib.hid (putM_yes (s := ⟨sorts, ops⟩) (vars := vars) (t := t) (others := others) (terms := terms) ⟨by rw [HQ.out]; omega, HF.out, by omega⟩)
          go_wp2
          refine bodyPost_ret (v := .tuple #[.slice A9 (putRow terms t).length c9, .bool true]) (by simp [results, Try.results62, go_sem]) rfl ?_
          rw [HN.out]
          exact ⟨_, rfl, HO.out.base HWS.out, HB1.out.trans (HB.out.mono HWS.out)⟩
end

section
open Go.RowKit
set_option linter.unusedVariables false

/-- a row of numbers at the end of an own one -/
theorem app_own_run (w : World) (ty : TypeId) (B : Nat) (v x : Value) (xs ys : List Int) (hs : OInts w B v xs) (hx : RInts w x ys) (hl : xs.length + ys.length ≤ 10000000) (hB : B ≤ w.heap.size) :
    ∃ A c w', (Builtin.append_ #[26, 26] ty #[v, x]).run Try.prog w = .ok (.slice A (xs ++ ys).length c) w' ∧ OInts w' B (.slice A (xs ++ ys).length c) (xs ++ ys) ∧ w.grownBy w' v.ownBlock := by
  obtain ⟨i0, hi0, hz0, hz1, hz2⟩ := info_parts Try.tinfo_int
  obtain ⟨A2, c2, rfl, -⟩ := hx.form
  cases A2 with
  | none =>
    have h0 : ys = [] := by
      cases ys with
      | nil => rfl
      | cons y ys =>
        obtain ⟨b, o, c', e, -⟩ := hx.at_ (k := 0) (by simp)
        cases e
    subst h0
    obtain ⟨A, c, rfl, hc, -⟩ := own_reads hs
    refine ⟨A, c, w, ?_, by simpa using hs, ⟨rfl, rfl, rfl, Nat.le_refl _, fun _ _ _ => rfl⟩⟩
    have := run_append_nothing (P := Try.prog) w 26 26 ty 3 i0 Try.underlying26 hi0 A xs.length c hc (.slice none ([] : List Int).length c2) (Src.ofNil w Try.underlying26 c2)
    simpa using this
  | some ad =>
    obtain ⟨v', w', hr, ho, hg, -⟩ := run_append_own (P := Try.prog) w B 26 ty 3 i0 (.int .i64 0) 1 8 Try.underlying26 hi0 hz0 hz1 hz2 rfl (by decide) v xs.length (xs.map (Value.int .i64)) hs ad ys.length c2 (ys.map (Value.int .i64)) (by simp) (news_any hx) (ints_one _) (by rw [maxLen_eq]; omega) (by omega) hB
    have ho' := app_ints rfl ho
    obtain ⟨A, c, rfl, -⟩ := own_reads ho'
    exact ⟨A, c, w', hr, ho', hg⟩
end

section
open Go.RowKit
set_option linter.unusedVariables false
set_option linter.unusedSimpArgs false

def readN (w : World) (g n : Nat) : List Int := (readRow w g).take n
theorem readN_own {w : World} {B g n c : Nat} {xs : List Int} (h : OInts w B (.slice (some ⟨g, 0, none⟩) n c) xs) (hn : n = xs.length) : readN w g n = xs := by
  subst hn
  rcases h.2 with ⟨e, _⟩ | ⟨g', cap, cur, e, hg, hh, h1, h2, h3, h4⟩
  · cases e
  · injection e with e1 e2 e3
    injection e1 with e1
    injection e1 with e1
    subst e1 e3
    unfold readN readRow
    rw [hh]
    simp only
    rw [Nat.mul_one] at h4
    rw [← List.map_take, h4, List.map_map]
    conv => rhs; rw [← List.map_id xs]
    exact List.map_congr_left fun x _ => rfl
theorem own_at {w : World} {B : Nat} {v : Value} {xs : List Int} (h : OInts w B v xs) (hx : 0 < xs.length) : ∃ g c, v = .slice (some ⟨g, 0, none⟩) xs.length c ∧ B ≤ g := by
  rcases h.2 with ⟨e, e2⟩ | ⟨g', cap, cur, e, hg, r⟩
  · obtain ⟨b, o, c, e3, -⟩ := h.reads.at_ hx
    rw [e] at e3
    cases e3
  · exact ⟨g', cap, e, hg⟩
/-- how many values are still to come -/
def restM (n g : Nat) (w : World) : Nat := (22 - total (readN w g n)).toNat
end

section
open Go.RowKit
set_option linter.unusedVariables false
set_option linter.unusedSimpArgs false

def setsOkB (s : MSig) (m : MModel) (sets : List Int) : Bool := modelB s m && setsB m sets
theorem shl_less {z : Int} (h0 : 1 ≤ z) (h3 : z ≤ 3) : wrap64 (wrap64 (2 ^ min z.toNat 64) - 1) = 2 ^ z.toNat - 1 := by
  rcases (show z = 1 ∨ z = 2 ∨ z = 3 by omega) with rfl | rfl | rfl <;> simp [wrap64]
theorem setB_inB {x p : Int} : inB x 0 (p - 1) = (decide (0 ≤ x) && decide (x < p)) := by unfold inB; rw [← Bool.decide_and, ← Bool.decide_and, decide_eq_decide]; omega
end

section
open Go.RowKit
set_option linter.unusedVariables false
set_option linter.unusedSimpArgs false

theorem last_row2 {row : List Int} {n : Nat} (hn : row.length = n + 1) (hne : n < row.length) : row.getLastD (-1) = row[n] := by
  have := last_at (row := row) (by omega)
  simp only [hn, Nat.add_sub_cancel] at this
  exact this
theorem gr_up {a b c : World} {g g2 : Nat} (h : a.grownBy b (some g)) (k : b.grownBy c (some g2)) (hg : a.heap.size ≤ g2) : a.grownBy c (some g) :=
  ⟨k.os.trans h.os, k.tape.trans h.tape, k.output.trans h.output, Nat.le_trans h.size k.size, fun i hi hne => (k.block i (Nat.lt_of_lt_of_le hi h.size) (fun e => by injection e with e; omega)).trans (h.block i hi hne)⟩
theorem own_other {w w' : World} {B g n c : Nat} {g2 : Nat} {xs : List Int} (h : OInts w B (.slice (some ⟨g, 0, none⟩) n c) xs) (hg : w.grownBy w' (some g2)) (hne : g ≠ g2) : OInts w' B (.slice (some ⟨g, 0, none⟩) n c) xs :=
  own_grown h hg (.inr (fun e => hne (by injection e with e)))
theorem gr_base2 {a b w' : World} {g : Nat} (h0 : Below a.heap.size a b) (hg : a.heap.size ≤ g) (h : b.grownBy w' (some g)) : Below a.heap.size a w' := gr_base h0 hg h
def restB (n g : Nat) (q : Value) (w : World) : Nat := match q with | .bool true => restM n g w + 1 | _ => 0
theorem haveB_zero (sets takes vals : List Int) : haveB sets takes vals 0 = true := rfl
theorem haveB_succ (sets takes vals : List Int) (n : Nat) : haveB sets takes vals (n + 1) = (haveB sets takes vals n && haveOne sets (takes.getD n 0) (vals.getD n 0)) := allN_succ _ _
/-- the digit of a set at a value, as both shifts tell it -/
theorem bit_of {y x : Int} (h0 : 0 ≤ y) (h1 : y < 8) (h2 : 0 ≤ x) (h3 : x < 3) : ∃ r : Int, (r = 0 ∨ r = 1) ∧ (y / 2 ^ min x.toNat 64).tmod 2 = r ∧ (y / 2 ^ x.toNat).tmod 2 = r ∧ hasB y x = (r == 1) := by
  rcases val3 h2 h3 with rfl | rfl | rfl <;> rcases set8 h0 h1 with rfl | rfl | rfl | rfl | rfl | rfl | rfl | rfl <;> exact ⟨_, by decide, rfl, by decide, by decide⟩
end
end Go.Proofs.Yticldaddbljleaa
