/- TermSort of both packages. -/
import Derived.Test.YteccjnnhihbdhabEnd
namespace Go.Proofs.Yteccjnnhihbdhab
open Go.RowKit
set_option linter.unusedVariables false

theorem sortM_none {s : MSig} {vars t : List Int} (h : termM s vars t = none) : sortM s vars t = -1 := by unfold sortM; rw [h]
theorem sortM_some {s : MSig} {vars t : List Int} {tm : Tm} (h : termM s vars t = some tm) : sortM s vars t = tm.sort := by unfold sortM; rw [h]

set_option maxRecDepth 100000 in
theorem termSort_any (s : MSig) (vars t : List Int) (w : World) (v vv tv : Value) (hsm : Small t) (h1 : RSig w v s) (h2 : RInts w vv vars) (h3 : RInts w tv t) :
    Calls Try.prog 40 #[v, vv, tv] w fun e w' => e = .returned (.int .i64 (sortM s vars t)) ∧ Below w.heap.size w w' := by
  obtain ⟨u, rfl, hrr⟩ := h1
  obtain ⟨sorts, ops⟩ := s
  obtain ⟨A, c, rfl, -⟩ := hrr.form
  have hb1 := below_alloc w (.cells #[.int .i64 sorts, .slice A ops.length c] 35)
  have hbx := Lib.hid (box_cells w (.int .i64 sorts) (.slice A ops.length c) 35)
  have HS := Lib.hid (show RSig (w.alloc (.cells #[.int .i64 sorts, .slice A ops.length c] 35)) (.agg #[.int .i64 sorts, .slice A ops.length c]) ⟨sorts, ops⟩ from ⟨_, rfl, hrr.keep hb1⟩)
  have HV2 := Lib.hid (h2.keep hb1)
  have HV3 := Lib.hid (h3.keep hb1)
  obtain ⟨A2, c2, rfl, -⟩ := h2.form
  obtain ⟨A3, c3, rfl, -⟩ := h3.form
  have HB1 := Lib.hid hb1
  clear hrr h2 h3 hb1
  go_enter Try.func40, Try.ntmps40
  go_wp2_with fail
  refine (termOf_any ⟨sorts, ops⟩ vars t _ _ _ _ hsm HS.out HV2.out HV3.out).mono ?_
  rintro e w1 ⟨hm, hb⟩
  have HBF := Lib.hid (HB1.out.trans (hb.mono (by simp)))
  cases ht : termM ⟨sorts, ops⟩ vars t with
  | none =>
    rw [ht] at hm
    simp only at hm
    subst hm
    have HR := Lib.hid (sortM_none ht)
    clear ht hb
    go_wp2
    go_ret
    exact ⟨ret_int HR.out.symm, HBF.out⟩
  | some tm =>
    rw [ht] at hm
    simp only at hm
    obtain ⟨u, rfl, hu⟩ := hm
    have HR := Lib.hid (sortM_some ht)
    obtain ⟨T, y, fid, rfl, hms, hcf, hsc⟩ := hu.sorts
    have HSC := Lib.hid hsc
    clear ht hb hu hsc
    go_wp2_with fail
    refine (HSC.out _).mono ?_
    rintro e w3 ⟨rfl, hb3⟩
    have HB3 := Lib.hid hb3
    clear hb3
    go_wp2
    go_ret
    exact ⟨ret_int HR.out.symm, HBF.out.trans (HB3.out.mono HBF.out.size)⟩

set_option maxRecDepth 100000 in
theorem specTermSort_any (s : MSig) (vars t : List Int) (w : World) (v vv tv : Value) (h1 : RSig w v s) (h2 : RInts w vv vars) (h3 : RInts w tv t) :
    Calls Try.prog 75 #[v, vv, tv] w fun e w' => e = .returned (.int .i64 (sortM s vars t)) ∧ Below w.heap.size w w' := by
  obtain ⟨u, rfl, hrr⟩ := h1
  obtain ⟨sorts, ops⟩ := s
  obtain ⟨A, c, rfl, -⟩ := hrr.form
  have hb1 := below_alloc w (.cells #[.int .i64 sorts, .slice A ops.length c] 35)
  have hbx := Lib.hid (box_cells w (.int .i64 sorts) (.slice A ops.length c) 35)
  have HS := Lib.hid (show RSig (w.alloc (.cells #[.int .i64 sorts, .slice A ops.length c] 35)) (.agg #[.int .i64 sorts, .slice A ops.length c]) ⟨sorts, ops⟩ from ⟨_, rfl, hrr.keep hb1⟩)
  have HV2 := Lib.hid (h2.keep hb1)
  have HV3 := Lib.hid (h3.keep hb1)
  have hlen := h3.len
  obtain ⟨A2, c2, rfl, -⟩ := h2.form
  obtain ⟨A3, c3, rfl, -⟩ := h3.form
  have HB1 := Lib.hid hb1
  clear hrr h2 h3 hb1
  cases hv : varsB ⟨sorts, ops⟩ vars with
  | false =>
    have HR := Lib.hid (sortM_none (termM_no (s := ⟨sorts, ops⟩) (vars := vars) (t := t) (by rw [hv]; simp)))
    have HV := Lib.hid hv
    clear hv
    go_enter Try.func75, Try.ntmps75
    go_wp2_with (go_at_call 90; refine (specVarsOk_any _ _ ⟨sorts, ops⟩ vars _ HS.out HV2.out).mono ?_; rw [HV.out]; rintro e w1 ⟨rfl, hb⟩)
    go_ret
    exact ⟨ret_int HR.out.symm, HB1.out.trans (hb.mono (by simp))⟩
  | true =>
    by_cases hl : 30 < (t.length : Int)
    · have HR := Lib.hid (sortM_none (termM_no (s := ⟨sorts, ops⟩) (vars := vars) (t := t) (by omega)))
      have HV := Lib.hid hv
      clear hv
      go_enter Try.func75, Try.ntmps75
      go_wp2_with (go_at_call 90; refine (specVarsOk_any _ _ ⟨sorts, ops⟩ vars _ HS.out HV2.out).mono ?_; rw [HV.out]; rintro e w1 ⟨rfl, hb⟩)
      go_ret
      exact ⟨ret_int HR.out.symm, HB1.out.trans (hb.mono (by simp))⟩
    · have HN := Lib.hid (termM_yes hv (t := t) (by omega))
      have HV := Lib.hid hv
      have HSO : Hid (∀ tm, wfT ⟨sorts, ops⟩ vars tm → 0 ≤ tm.sort) := fun tm h => (sort_ok hv h).1
      clear hv
      have hl3 : (t.length : Int) ≤ 30 := by omega
      go_enter Try.func75, Try.ntmps75
      go_wp2_with (go_at_call 90; refine (specVarsOk_any _ _ ⟨sorts, ops⟩ vars _ HS.out HV2.out).mono ?_; rw [HV.out]; rintro e w1 ⟨rfl, hb⟩; have f0 := cell_keep hb hbx.out.1; have f1 := cell_keep hb hbx.out.2; have HB := Lib.hid hb; clear hb)
      refine (end_any ⟨sorts, ops⟩ vars HV.out 30 t 0 _ _ _ _ (by simp; omega) (HS.out.keep HB.out) (HV2.out.keep HB.out) (HV3.out.keep HB.out)).mono ?_
      rintro e w2 ⟨rfl, hb2⟩
      rw [List.drop_zero]
      have s1 := HB.out.size
      simp at s1
      have HBF := Lib.hid ((HB1.out.trans (HB.out.mono (by simp))).trans (hb2.mono (by omega)))
      clear hb2 f0 f1
      cases hf : firstM ⟨sorts, ops⟩ vars 30 t with
      | none =>
        have HR := Lib.hid (show sortM ⟨sorts, ops⟩ vars t = -1 from sortM_none (by rw [HN.out, hf]))
        clear hf
        have hne : (-1 : Int) ≠ (t.length : Int) := by omega
        unfold endV
        go_wp2
        go_ret
        exact ⟨ret_int HR.out.symm, HBF.out⟩
      | some q =>
        obtain ⟨tm, rb⟩ := q
        rw [endV_some]
        have hs := firstM_sound _ _ _ _ hf
        by_cases hrb : rb = []
        · subst hrb
          have HR := Lib.hid (show sortM ⟨sorts, ops⟩ vars t = tm.sort from sortM_some (by rw [HN.out, hf]))
          have he : ((t.length - ([] : List Int).length : Nat) : Int) = (t.length : Int) := by simp
          rw [he]
          clear hf hs he
          generalize tm.sort = q at HR ⊢
          go_wp2
          go_ret
          exact ⟨ret_int HR.out.symm, HBF.out⟩
        · have HR := Lib.hid (show sortM ⟨sorts, ops⟩ vars t = -1 from sortM_none (by rw [HN.out, hf]; cases rb with | nil => exact absurd rfl hrb | cons x l => rfl))
          have hne : ((t.length - rb.length : Nat) : Int) ≠ (t.length : Int) := by
            have h1 := congrArg List.length hs.1
            have h2 : 0 < rb.length := List.length_pos_iff.2 hrb
            rw [List.length_append] at h1
            omega
          clear hf hs
          generalize ((t.length - rb.length : Nat) : Int) = e2 at hne ⊢
          generalize tm.sort = q
          go_wp2
          go_ret
          exact ⟨ret_int HR.out.symm, HBF.out⟩
end Go.Proofs.Yteccjnnhihbdhab
