/- FnExactProofBack answers true at every steps. No condition. -/
import Derived.Test.YtonainidjkcoeacThyG
import Derived.Test.YtonainidjkcoeacSz2
import Derived.Test.YtonainidjkcoeacFrameP
import Derived.Test.YtonainidjkcoeacMark4
import Derived.Test.YtonainidjkcoeacBackS
namespace Go.Proofs.Ytonainidjkcoeac
open Go.ChangeShapes Go.WideShapes Go.ChangeAt Go.RowKit
set_option linter.unusedVariables false
set_option linter.unusedSimpArgs false

theorem toStepS_q (v : Value) (ps : List MStep) (w : World) (h : RSteps w v ps) (hs : FitsQ ps) :
    Calls Try.prog 10 #[v] w fun e w' => ∃ u, e = .returned u ∧ OSteps w' w.heap.size u ps ∧ Below w.heap.size w w' := toStepS_any v ps w h hs.1
theorem totP_append : ∀ (a b : List MStep), totP (a ++ b) = totP a + totP b
  | [], b => by simp [totP]
  | p :: a, b => by
    have := totP_append a b
    simp only [List.cons_append, totP]; omega
theorem totP_back : ∀ (ps : List MStep), totP (backM ps) = totP ps
  | [] => rfl
  | p :: ps => by
    have := totP_back ps
    have e : backM (p :: ps) = backM ps ++ [turnP p] := by simp [backM]
    rw [e, totP_append, this]
    simp [totP, turnP]; omega
theorem backM_fitsQ {ps : List MStep} (h : FitsQ ps) : FitsQ (backM ps) := ⟨backM_fits h.1, by rw [totP_back]; exact h.2⟩

set_option maxHeartbeats 3200000 in
set_option maxRecDepth 100000 in
theorem walk_FnExactProofBack (v0 : Value) (xs0 : List MStep) (w : World) (h0 : RSteps w v0 xs0 ∧ SmallPs xs0) :
    Calls Try.prog 3 #[v0] w fun e w' => e = .returned (.bool true) ∧ Below w.heap.size w w' := by
  have HB : Hid (Below w.heap.size w w) := Below.refl _ _
  have HW0 := Lib.hid h0.1
  have HS0 := Lib.hid h0.2
  have hl0 := h0.1.len
  obtain ⟨A0, c0, rfl, -⟩ := h0.1.form
  clear h0
  go_enter Try.func3, Try.ntmps3
  go_wp2_with fail
  refine (szStepS_tot _ xs0 _ _ (HW0.out.keep HB.out) (by omega) (by omega)).mono ?_
  rintro e w1 ⟨r1, rfl, hr, hb⟩
  replace HB := Lib.hid (ex_keep HB.out hb)
  clear hb
  by_cases hneg1 : r1 < 0
  · clear hr
    go_wp2
    go_ret
    exact ⟨rfl, HB.out⟩
  obtain ⟨hp1, hq1, hfit⟩ := hr.resolve_left hneg1
  have HF0 := Lib.hid hfit
  clear hr hfit
  go_wp2_with fail
  refine (toStepS_q _ xs0 _ (HW0.out.keep HB.out) HF0.out).mono ?_
  rintro e w2 ⟨y0, rfl, ho, hb⟩
  replace HB := Lib.hid (ex_keep HB.out hb)
  clear hb
  have P0 := Lib.hid ho.reads
  clear ho
  obtain ⟨R, hR⟩ : ∃ R, R = backM xs0 := ⟨_, rfl⟩
  have HLEN := Lib.hid (show _ from backM_fitsQ HF0.out)
  have HR := Lib.hid hR.symm
  rw [← hR] at HLEN
  clear hR
  go_wp2_with fail
  refine (specProofBack_any xs0 _ _ HF0.out.1 P0.out).mono ?_
  rw [HR.out]
  rintro e w3 ⟨z0, rfl, hoz, hb⟩
  have HZ := Lib.hid hoz
  obtain ⟨Az, cz, rfl, -⟩ := hoz.reads.form
  clear hoz
  replace HB := Lib.hid (ex_keep HB.out hb)
  clear hb
  clear P0
  have HBs : Hid (Below w3.heap.size w3 w3) := Below.refl _ _
  go_wp2_with fail
  refine (toStepS_q _ xs0 _ (HW0.out.keep (ex_keep HB.out HBs.out)) HF0.out).mono ?_
  rintro e w4 ⟨y0, rfl, ho, hb⟩
  have HX0 := Lib.hid ho
  obtain ⟨AX0, cX0, rfl, -⟩ := ho.reads.form
  have hs0 := hb.size
  clear ho
  replace HBs := Lib.hid (ex_keep HBs.out hb)
  clear hb
  have HK0 : Hid (Keeps w3.heap.size w4 w4) := Keeps.refl _ _
  have z0 : w4.heap.size ≤ w4.heap.size := Nat.le_refl _
  go_wp2_with fail
  refine (proofBack_any xs0 _ _ HF0.out.1 (HX0.out.same z0 HK0.out).reads).mono ?_
  rw [HR.out]
  rintro e w5 ⟨g0, rfl, hog, hb⟩
  have HG := Lib.hid hog
  obtain ⟨Ag, cg, rfl, -⟩ := hog.reads.form
  have hsg := hb.size
  clear hog
  replace HK0 := Lib.hid (HK0.out.below z0 hb)
  replace z0 : w4.heap.size ≤ w5.heap.size := Nat.le_trans z0 hb.size
  replace HBs := Lib.hid (ex_keep HBs.out hb)
  clear hb
  have HKg : Hid (Keeps w4.heap.size w5 w5) := Keeps.refl _ _
  have zg : w5.heap.size ≤ w5.heap.size := Nat.le_refl _
  go_wp2_with fail
  refine (eqStepS_is _ _ R R _ true (samePs_self _) (HG.out.same zg HKg.out).reads (HZ.out.keep HBs.out).reads).mono ?_
  rintro e w6 ⟨rfl, hb⟩
  replace HK0 := Lib.hid (HK0.out.below z0 hb)
  replace z0 : w4.heap.size ≤ w6.heap.size := Nat.le_trans z0 hb.size
  replace HKg := Lib.hid (HKg.out.below zg hb)
  replace zg : w5.heap.size ≤ w6.heap.size := Nat.le_trans zg hb.size
  replace HBs := Lib.hid (ex_keep HBs.out hb)
  clear hb
  go_wp2_with fail
  refine (toStepS_q _ xs0 _ (HW0.out.keep (ex_keep HB.out HBs.out)) HF0.out).mono ?_
  rintro e w7 ⟨yj, rfl, ho, hb⟩
  have PJ := Lib.hid ho.reads
  clear ho
  replace HK0 := Lib.hid (HK0.out.below z0 hb)
  replace z0 : w4.heap.size ≤ w7.heap.size := Nat.le_trans z0 hb.size
  replace HKg := Lib.hid (HKg.out.below zg hb)
  replace zg : w5.heap.size ≤ w7.heap.size := Nat.le_trans zg hb.size
  replace HBs := Lib.hid (ex_keep HBs.out hb)
  clear hb
  go_wp2_with fail
  refine (eqStepS_is _ _ xs0 xs0 _ true (samePs_self _) (HX0.out.same z0 HK0.out).reads PJ.out).mono ?_
  rintro e w8 ⟨rfl, hb⟩
  clear PJ
  replace HK0 := Lib.hid (HK0.out.below z0 hb)
  replace z0 : w4.heap.size ≤ w8.heap.size := Nat.le_trans z0 hb.size
  replace HKg := Lib.hid (HKg.out.below zg hb)
  replace zg : w5.heap.size ≤ w8.heap.size := Nat.le_trans zg hb.size
  replace HBs := Lib.hid (ex_keep HBs.out hb)
  clear hb
  go_wp2_with fail
  refine (markStepS_go _ _ xs0 _ w4 _ HX0.out HK0.out z0 HF0.out (by omega) (by omega)).mono ?_
  rintro e w9 ⟨k0, rfl, hka0, hkb0, wa, hb, hout⟩
  have hzo := hout.size
  replace HKg := Lib.hid ((HKg.out.below zg hb).outside hout (by omega))
  replace zg : w5.heap.size ≤ w9.heap.size := by have := hb.size; omega
  replace HBs := Lib.hid ((ex_keep HBs.out hb).trans (hout.below.mono (by omega)))
  clear hb hout hzo HK0 z0 HX0
  go_wp2_with fail
  refine (eqStepS_is _ _ R R _ true (samePs_self _) (HG.out.same zg HKg.out).reads (HZ.out.keep HBs.out).reads).mono ?_
  rintro e w10 ⟨rfl, hb⟩
  replace HKg := Lib.hid (HKg.out.below zg hb)
  replace zg : w5.heap.size ≤ w10.heap.size := Nat.le_trans zg hb.size
  replace HBs := Lib.hid (ex_keep HBs.out hb)
  clear hb
  go_wp2_with fail
  refine (markStepS_g _ _ R w5 _ HG.out HKg.out zg HLEN.out).mono ?_
  rintro e w11 ⟨K, rfl, hK0, hheld, wa, hb, hout⟩
  have HH := Lib.hid hheld
  have hzo := hout.size
  replace HBs := Lib.hid ((ex_keep HBs.out hb).trans (hout.below.mono (by omega)))
  clear hb hout hzo hheld HKg zg HG
  have HKh : Hid (Keeps w4.heap.size w11 w11) := Keeps.refl _ _
  have zh : w11.heap.size ≤ w11.heap.size := Nat.le_refl _
  have ek : (K != K) = false := by simp
  go_wp2_with fail
  refine (HH.out _ HKh.out zh).mono ?_
  rintro e w12 ⟨rfl, hb⟩
  replace HKh := Lib.hid (HKh.out.below zh hb)
  replace zh : w11.heap.size ≤ w12.heap.size := Nat.le_trans zh hb.size
  replace HBs := Lib.hid (ex_keep HBs.out hb)
  clear hb
  go_wp2_with fail
  refine (toStepS_q _ xs0 _ (HW0.out.keep (ex_keep HB.out HBs.out)) HF0.out).mono ?_
  rintro e w13 ⟨y0, rfl, ho, hb⟩
  replace HKh := Lib.hid (HKh.out.below zh hb)
  replace zh : w11.heap.size ≤ w13.heap.size := Nat.le_trans zh hb.size
  replace HBs := Lib.hid (ex_keep HBs.out hb)
  clear hb
  have PP0 := Lib.hid ho.reads
  clear ho
  go_wp2_with fail
  refine (proofBack_any xs0 _ _ HF0.out.1 PP0.out).mono ?_
  rw [HR.out]
  rintro e w14 ⟨g1, rfl, hog, hb⟩
  obtain ⟨Ah, ch, rfl, -⟩ := hog.reads.form
  have HG1 := Lib.hid hog.reads
  clear hog PP0
  replace HKh := Lib.hid (HKh.out.below zh hb)
  replace zh : w11.heap.size ≤ w14.heap.size := Nat.le_trans zh hb.size
  replace HBs := Lib.hid (ex_keep HBs.out hb)
  clear hb
  go_wp2_with fail
  refine (eqStepS_is _ _ R R _ true (samePs_self _) HG1.out (HZ.out.keep HBs.out).reads).mono ?_
  rintro e w15 ⟨rfl, hb⟩
  replace HKh := Lib.hid (HKh.out.below zh hb)
  replace zh : w11.heap.size ≤ w15.heap.size := Nat.le_trans zh hb.size
  replace HBs := Lib.hid (ex_keep HBs.out hb)
  clear hb
  clear HG1
  go_wp2_with fail
  refine (HH.out _ HKh.out zh).mono ?_
  rintro e w16 ⟨rfl, hb⟩
  replace HKh := Lib.hid (HKh.out.below zh hb)
  replace zh : w11.heap.size ≤ w16.heap.size := Nat.le_trans zh hb.size
  replace HBs := Lib.hid (ex_keep HBs.out hb)
  clear hb
  go_wp2
  go_ret
  exact ⟨rfl, ex_keep HB.out HBs.out⟩

set_option maxRecDepth 100000 in
theorem lifted_FnExactProofBack (os : Os) (started : os.Started) (H : Type) (enc : TypeId × Value → H) :
    ReturnsInHanded {} Try.checked os 3 .any (Rows.fnExactProofBackSpec.pre6 enc Try.prog Try.f3 Rows.fnExactProofBackRow.domain false) (Rows.fnExactProofBackSpec.post enc Try.prog Try.f3 false true false false) := by
  refine returnsInHanded_of_change (C := Try.checked) own started (by kernel_rfl) Try.func3
    (ChangeSpec.witness6 (enc := enc) (C := Try.checked) false ⟨#[], #[.slice none 0 0], []⟩ 8 (by kernel_rfl) (by kernel_rfl) (by kernel_rfl) (by kernel_rfl)) ?_
  intro W base args ds gs before hval0 hW hcnd _
  have hval : ∀ (j : Nat) t v, Try.f3.params[j]? = some t → args[j]? = some v → Value.okWide Try.prog W .any base t v := hval0
  have hW' := hW
  obtain ⟨p, q, hA0, hV, rfl, hfz, hnd⟩ := hW
  have hA : DataW.TrodAll enc Try.prog W 0 (fun _ => true) true Try.f3.params.toList args.toList ds p := hA0
  rw [Try.params3] at hA hval
  obtain ⟨v0, vs0, d0, ds0, p0, q0, hargs, rfl, rfl, h0, r0⟩ := trodAll_cons hA
  obtain ⟨rfl, rfl, rfl⟩ := trodAll_nil r0
  obtain rfl : args = #[v0] := by cases args; simp_all
  obtain ⟨rfl, rfl⟩ := trodVars_none hV
  have k0 := h0
  have lt0 : ∀ x ∈ p0, x.block < W.heap.size := by obtain ⟨m, hm⟩ := k0; exact DataW.trod_lt m _ _ _ hm
  obtain ⟨s0, w0⟩ : ∃ s, RSteps W v0 s ∧ SmallPs s := steps_of (hval 0 22 v0 rfl rfl) h0
  clear hA0 hval0
  refine (walk_FnExactProofBack _ s0 W w0).mono fun e W' ⟨he, bel⟩ => ?_
  subst he
  exact ⟨_, rfl, _, _, _, [], _, [], hW', trodAll_mk1 (shut_bool Try.underlying4 _), (trodAll_cons_mk (Below.trod laidOut (by kernel_rfl) (of_decide_eq_true (by kernel_rfl)) k0 bel lt0) trodAll_mk0), rfl, bel.frame _, fun h => by cases h⟩

theorem over_FnExactProofBack : Rows.fnExactProofBackRow.holds Try.pinned (OpenSpec.ofChange Rows.fnExactProofBackSpec) :=
  OpenClaim.holds_of_wide 3 Try.f3 rfl rfl rfl rfl rfl rfl rfl ⟨rfl, rfl, rfl, rfl, rfl⟩ rfl rfl rfl rfl rfl (by kernel_rfl) Try.func3 (by kernel_rfl)
    (of_decide_eq_true (by kernel_rfl)) (by unfold Func.isWrapper; first | (rw [if_pos (by decide +kernel)]; kernel_rfl) | (rw [if_neg (by decide +kernel)]; exact ⟨rfl, rfl⟩))
    (fun os started H enc _ => lifted_FnExactProofBack os started H enc)

theorem proved_FnExactProofBack : Rows.FnExactProofBackSaid := over_FnExactProofBack
end Go.Proofs.Ytonainidjkcoeac
