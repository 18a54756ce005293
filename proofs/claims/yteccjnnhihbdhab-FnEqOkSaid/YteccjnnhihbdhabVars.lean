/- VarsOk of both packages. -/
import Derived.Test.YteccjnnhihbdhabPure3
import Derived.Test.YteccjnnhihbdhabTerm2
namespace Go.Proofs.Yteccjnnhihbdhab
open Go.RowKit
set_option linter.unusedVariables false

theorem varsB_parts (s : MSig) (vars : List Int) : varsB s vars = (validB s && decide (vars.length ≤ 4) && belowB vars s.sorts) := rfl

set_option maxRecDepth 100000 in
theorem varsOk_any (v vv : Value) (s : MSig) (vars : List Int) (w : World) (h : RSig w v s) (hv : RInts w vv vars) :
    Calls Try.prog 93 #[v, vv] w fun e w' => e = .returned (.bool (varsB s vars)) ∧ Below w.heap.size w w' := by
  obtain ⟨u, rfl, hr⟩ := h
  obtain ⟨sorts, ops⟩ := s
  have hn := hr.len
  obtain ⟨A, c, rfl, -⟩ := hr.form
  have HB := Lib.hid (below_alloc w (.cells #[.int .i64 sorts, .slice A ops.length c] 35))
  have H := Lib.hid (hr.keep HB.out)
  have HVV := Lib.hid (hv.keep HB.out)
  have hbx := Lib.hid (box_cells w (.int .i64 sorts) (.slice A ops.length c) 35)
  have hvn := hv.len
  obtain ⟨A1, c1, rfl, -⟩ := hv.form
  have HP := Lib.hid (varsB_parts ⟨sorts, ops⟩ vars)
  clear hr hv
  cases hvb : validB ⟨sorts, ops⟩ with
  | false =>
    have Hv := Lib.hid hvb
    clear hvb
    go_enter Try.func93, Try.ntmps93
    go_wp2_with (go_at_call 29; refine (sigValid_any _ ⟨sorts, ops⟩ _ ⟨_, rfl, H.out⟩).mono ?_; rw [Hv.out]; rintro e w1 ⟨rfl, hb⟩)
    go_ret
    exact ⟨ret_bool (by rw [HP.out, Hv.out]; rfl), HB.out.trans (hb.mono (by simp))⟩
  | true =>
    have Hv := Lib.hid hvb
    clear hvb
    by_cases h4 : (vars.length : Int) ≤ 4
    · go_enter Try.func93, Try.ntmps93
      go_wp2_with (first
        | (go_at_call 29; refine (sigValid_any _ ⟨sorts, ops⟩ _ ⟨_, rfl, H.out⟩).mono ?_; rw [Hv.out]; rintro e w1 ⟨rfl, hb⟩; have f0 := cell_keep hb hbx.out.1; have HV1 := Lib.hid (HVV.out.keep hb))
        | (go_at_call 65; refine (sortsBelow_any _ _ _ _ HV1.out).mono ?_; rintro e w2 ⟨rfl, rfl⟩))
      go_ret
      exact ⟨ret_bool (by rw [HP.out, Hv.out]; simp; omega), HB.out.trans (hb.mono (by simp))⟩
    · go_enter Try.func93, Try.ntmps93
      go_wp2_with (first
        | (go_at_call 29; refine (sigValid_any _ ⟨sorts, ops⟩ _ ⟨_, rfl, H.out⟩).mono ?_; rw [Hv.out]; rintro e w1 ⟨rfl, hb⟩; have f0 := cell_keep hb hbx.out.1; have HV1 := Lib.hid (HVV.out.keep hb)))
      go_ret
      exact ⟨ret_bool (by rw [HP.out, Hv.out]; simp; omega), HB.out.trans (hb.mono (by simp))⟩

theorem vars_in {sorts q : Int} {ops : List (List Int)} {vars : List Int} (hq : 1 ≤ sorts → sorts ≤ 3 → q = sorts - 1) : varsB ⟨sorts, ops⟩ vars = ((vars.all fun x => inB x 0 q) && (validB ⟨sorts, ops⟩ && decide (vars.length ≤ 4))) := by
  rw [varsB_parts]
  cases hv : validB ⟨sorts, ops⟩ with
  | false => simp
  | true =>
    have hs := valid_sorts hv
    simp only at hs
    rw [show belowB vars sorts = vars.all fun x => inB x 0 q from by unfold belowB; congr 1; funext x; exact (inB_row x sorts q hq hs.1 hs.2.1).symm]
    simp [Bool.and_comm]

set_option maxRecDepth 100000 in
theorem specVarsOk_any (v vv : Value) (s : MSig) (vars : List Int) (w : World) (h : RSig w v s) (hv : RInts w vv vars) :
    Calls Try.prog 90 #[v, vv] w fun e w' => e = .returned (.bool (varsB s vars)) ∧ Below w.heap.size w w' := by
  obtain ⟨u, rfl, hr⟩ := h
  obtain ⟨sorts, ops⟩ := s
  have hn := hr.len
  obtain ⟨A, c, rfl, -⟩ := hr.form
  have HB := Lib.hid (below_alloc w (.cells #[.int .i64 sorts, .slice A ops.length c] 35))
  have H := Lib.hid (hr.keep HB.out)
  have HVV := Lib.hid (hv.keep HB.out)
  have hbx := Lib.hid (box_cells w (.int .i64 sorts) (.slice A ops.length c) 35)
  have hvn := hv.len
  obtain ⟨A1, c1, rfl, -⟩ := hv.form
  have HP : Hid (varsB ⟨sorts, ops⟩ vars = ((vars.all fun x => inB x 0 (IntKind.i64.wrap (sorts - 1))) && (validB ⟨sorts, ops⟩ && decide (vars.length ≤ 4)))) := vars_in (fun h1 h3 => by rw [IntKind.wrap_i64]; omega)
  clear hr hv
  go_enter Try.func90, Try.ntmps90
  go_wp2
  go_loopw [5] (fun i wr => ∃ k : Nat, k ≤ vars.length ∧ i = .int .i64 k ∧ (vars.take k).all (fun x => inB x 0 (IntKind.i64.wrap (sorts - 1))) = true ∧ Drawn (w.alloc (.cells #[.int .i64 sorts, .slice A ops.length c] 35)) wr) (fun i _ => vars.length - (intOf i).toNat)
  case atStart => exact ⟨0, Nat.zero_le _, rfl, rfl, Drawn.refl _⟩
  case round =>
    obtain ⟨k, hk, rfl, hb0, hd⟩ := hrel
    have hb := Lib.hid hb0
    have HD := Lib.hid hd
    clear hb0 hd
    have f0 := (HD.out.cell _).trans hbx.out.1
    have f1 := (HD.out.cell _).trans hbx.out.2
    by_cases hlt : k < vars.length
    · obtain ⟨b, o, c', e, hx⟩ := (HVV.out.keep HD.out.below).at_ hlt
      cases e
      have HA := Lib.hid (all_take (p := fun x => inB x 0 (IntKind.i64.wrap (sorts - 1))) hlt)
      have HN := Lib.hid (all_bad (p := fun x => inB x 0 (IntKind.i64.wrap (sorts - 1))) hlt)
      generalize vars[k] = x at hx HA HN
      have hlt' : (k : Int) < (vars.length : Int) := by omega
      go_wp2_with fail
      cases hbx' : inB x 0 (IntKind.i64.wrap (sorts - 1)) with
      | false =>
        have Hbx := Lib.hid hbx'
        clear hbx'
        go_quiet ((go_at_call 69; exact quiet_left (l1In_is _ _ _ _ _ Hbx.out)))
        go_wp2
        go_ret
        refine ⟨ret_bool ?_, below_drewN (HB.out.trans (HD.out.below.mono (by simp))) _⟩
        rw [HP.out, HN.out Hbx.out]; simp
      | true =>
        have Hbx := Lib.hid hbx'
        clear hbx'
        go_quiet ((go_at_call 69; exact quiet_left (l1In_is _ _ _ _ _ Hbx.out)))
        go_wp2
        go_roundw
        case rel => exact ⟨k + 1, by omega, by go_num, by rw [HA.out, hb.out, Hbx.out]; rfl, HD.out.more _⟩
        case measure => simp [intOf]; omega
    · have HE0 := hb.out
      rw [take_all (by omega)] at HE0
      have HE := Lib.hid HE0
      clear HE0
      cases hvb : validB ⟨sorts, ops⟩ with
      | false =>
        have Hv := Lib.hid hvb
        clear hvb
        go_wp2_with (go_at_call 68; refine (specSigValid_any _ ⟨sorts, ops⟩ _ ⟨_, rfl, H.out.keep HD.out.below⟩).mono ?_; rw [Hv.out]; rintro e w1 ⟨rfl, hb⟩)
        go_ret
        have s1 := HD.out.below.size
        exact ⟨ret_bool (by rw [HP.out, Hv.out]; simp), (HB.out.trans (HD.out.below.mono (by simp))).trans (hb.mono (by simp at s1; omega))⟩
      | true =>
        have Hv := Lib.hid hvb
        clear hvb
        go_wp2_with (go_at_call 68; refine (specSigValid_any _ ⟨sorts, ops⟩ _ ⟨_, rfl, H.out.keep HD.out.below⟩).mono ?_; rw [Hv.out]; rintro e w1 ⟨rfl, hb⟩)
        go_ret
        have s1 := HD.out.below.size
        exact ⟨ret_bool (by rw [HP.out, Hv.out, HE.out]; simp; omega), (HB.out.trans (HD.out.below.mono (by simp))).trans (hb.mono (by simp at s1; omega))⟩
end Go.Proofs.Yteccjnnhihbdhab
