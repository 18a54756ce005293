/- FnExactVarsOk answers true at every signature and row of letters. No condition. -/
import Derived.Test.YtcbjfedhebeogadExGen
import Derived.Test.YtcbjfedhebeogadFrameY
import Derived.Test.YtcbjfedhebeogadVars
namespace Go.Proofs.Ytcbjfedhebeogad
open Go.ChangeShapes Go.WideShapes Go.ChangeAt Go.RowKit
set_option linter.unusedVariables false

set_option maxHeartbeats 3200000 in
set_option maxRecDepth 100000 in
theorem walk_FnExactVarsOk (v0 : Value) (s0 : MSig) (v1 : Value) (xs1 : List Int) (w : World) (h0 : RSig w v0 s0) (h1 : RInts w v1 xs1 ∧ Small xs1) :
    Calls Try.prog 7 #[v0, v1] w fun e w' => e = .returned (.bool true) ∧ Below w.heap.size w w' := by
  have HB : Hid (Below w.heap.size w w) := Below.refl _ _
  obtain ⟨u0, rfl, hr0⟩ := h0
  obtain ⟨S0, O0⟩ := s0
  have HW0 := Lib.hid (show RSig w (.agg #[.int .i64 S0, u0]) ⟨S0, O0⟩ from ⟨u0, rfl, hr0⟩)
  obtain ⟨A0, c0, rfl, -⟩ := hr0.form
  have hb := below_alloc (w) (.cells #[.int .i64 S0, .slice A0 O0.length c0] 24)
  have fa0 := (bx_cells (w) (.int .i64 S0) (.slice A0 O0.length c0) 24).1
  have fb0 := (bx_cells (w) (.int .i64 S0) (.slice A0 O0.length c0) 24).2
  replace HB := Lib.hid (ex_keep HB.out hb)
  clear hb hr0
  have HW1 := Lib.hid h1.1
  have HS1 := Lib.hid h1.2
  have hl1 := h1.1.len
  obtain ⟨A1, c1, rfl, -⟩ := h1.1.form
  clear h1
  by_cases hn1 : 1048576 < (xs1.length : Int)
  · go_enter Try.func7, Try.ntmps7
    go_wp2
    go_ret
    exact ⟨rfl, HB.out⟩
  go_enter Try.func7, Try.ntmps7
  go_wp2_with fail
  refine (szSig_any _ ⟨S0, O0⟩ _ _ (HW0.out.keep HB.out) (by omega) (by omega)).mono ?_
  rintro e w1 ⟨r1, rfl, hr, hb⟩
  replace fa0 := cell_keep hb fa0
  replace fb0 := cell_keep hb fb0
  replace HB := Lib.hid (ex_keep HB.out hb)
  clear hb
  by_cases hneg1 : r1 < 0
  · clear hr
    go_wp2
    go_ret
    exact ⟨rfl, HB.out⟩
  obtain ⟨hp1, hq1, hfit⟩ := hr.resolve_left hneg1
  simp only at hfit
  have HF0 := Lib.hid hfit
  clear hr hfit
  go_wp2_with fail
  refine (toSig_any _ ⟨S0, O0⟩ _ (HW0.out.keep HB.out) HF0.out).mono ?_
  rintro e w2 ⟨y0, rfl, ho, hb⟩
  replace fa0 := cell_keep hb fa0
  replace fb0 := cell_keep hb fb0
  replace HB := Lib.hid (ex_keep HB.out hb)
  clear hb
  have P0 := Lib.hid ho.reads
  clear ho
  go_wp2_with fail
  refine (toIntS_any _ xs1 _ (HW1.out.keep HB.out) (by omega)).mono ?_
  rintro e w3 ⟨y1, rfl, ho, hb⟩
  replace fa0 := cell_keep hb fa0
  replace fb0 := cell_keep hb fb0
  replace P0 := Lib.hid (P0.out.keep hb)
  replace HB := Lib.hid (ex_keep HB.out hb)
  clear hb
  have P1 := Lib.hid ho.reads
  clear ho
  obtain ⟨R, hR⟩ : ∃ R, R = varsB ⟨S0, O0⟩ xs1 := ⟨_, rfl⟩
  have HR := Lib.hid hR.symm
  clear hR
  go_wp2_with fail
  refine (specVarsOk_any _ _ ⟨S0, O0⟩ xs1 _ P0.out P1.out).mono ?_
  rw [HR.out]
  rintro e w4 ⟨rfl, hb⟩
  replace fa0 := cell_keep hb fa0
  replace fb0 := cell_keep hb fb0
  replace HB := Lib.hid (ex_keep HB.out hb)
  clear hb
  clear P0 P1
  have HC := Lib.hid (And.intro fa0 (fb0))
  have HBs : Hid (Below w4.heap.size w4 w4) := Below.refl _ _
  clear fa0 fb0
  have fa0 := cell_keep HBs.out HC.out.1
  have fb0 := cell_keep HBs.out HC.out.2
  go_wp2_with fail
  refine (toSig_any _ ⟨S0, O0⟩ _ (HW0.out.keep (ex_keep HB.out HBs.out)) HF0.out).mono ?_
  rintro e w5 ⟨y0, rfl, ⟨x0, rfl, ho⟩, hb⟩
  simp only at ho
  obtain ⟨AX0, cX0, rfl, -⟩ := ho.reads.form
  have hb2 := below_alloc w5 (.cells #[.int .i64 S0, .slice AX0 O0.length cX0] 27)
  have HX0 := Lib.hid (show OSig (w5.alloc (.cells #[.int .i64 S0, .slice AX0 O0.length cX0] 27)) w4.heap.size (.agg #[.int .i64 S0, .slice AX0 O0.length cX0]) ⟨S0, O0⟩ from ⟨_, rfl, ho.keep hb2⟩)
  have HCX0 := Lib.hid (bx_cells w5 (.int .i64 S0) (.slice AX0 O0.length cX0) 27)
  have hy0 := hb.size
  replace hb := hb.trans (hb2.mono hb.size)
  have hs0 := hb.size
  generalize hWw6 : w5.alloc (.cells #[.int .i64 S0, .slice AX0 O0.length cX0] 27) = w6 at HX0 HCX0 hb hs0
  clear hb2 ho
  replace HBs := Lib.hid (ex_keep HBs.out hb)
  clear hb
  have HK0 : Hid (Keeps w4.heap.size w6 w6) := Keeps.refl _ _
  have z0 : w6.heap.size ≤ w6.heap.size := Nat.le_refl _
  clear fa0 fb0
  go_wp2_with fail
  clear hWw6
  refine (toIntS_any _ xs1 _ (HW1.out.keep (ex_keep HB.out HBs.out)) (by omega)).mono ?_
  rintro e w7 ⟨y1, rfl, ho, hb⟩
  have HX1 := Lib.hid ho
  obtain ⟨AX1, cX1, rfl, -⟩ := ho.reads.form
  have hs1 := hb.size
  clear ho
  replace HK0 := Lib.hid (HK0.out.below z0 hb)
  replace z0 : w6.heap.size ≤ w7.heap.size := Nat.le_trans z0 hb.size
  replace HBs := Lib.hid (ex_keep HBs.out hb)
  clear hb
  have HK1 : Hid (Keeps w6.heap.size w7 w7) := Keeps.refl _ _
  have z1 : w7.heap.size ≤ w7.heap.size := Nat.le_refl _
  have l0a := HK0.out.cell (by omega) HCX0.out.1
  have l0b := HK0.out.cell (by omega) HCX0.out.2
  go_wp2_with fail
  refine (varsOk_any _ _ ⟨S0, O0⟩ xs1 _ (HX0.out.same HK0.out).reads (HX1.out.same HK1.out).reads).mono ?_
  rw [HR.out]
  rintro e w8 ⟨rfl, hb⟩
  clear l0a l0b
  replace HK0 := Lib.hid (HK0.out.below z0 hb)
  replace z0 : w6.heap.size ≤ w8.heap.size := Nat.le_trans z0 hb.size
  replace HK1 := Lib.hid (HK1.out.below z1 hb)
  replace z1 : w7.heap.size ≤ w8.heap.size := Nat.le_trans z1 hb.size
  replace HBs := Lib.hid (ex_keep HBs.out hb)
  clear hb
  have e1 : (R != R) = false := by simp
  have fa0 := cell_keep HBs.out HC.out.1
  have fb0 := cell_keep HBs.out HC.out.2
  have l0a := HK0.out.cell (by omega) HCX0.out.1
  have l0b := HK0.out.cell (by omega) HCX0.out.2
  have HSW0 := Lib.hid (HW0.out.keep (ex_keep HB.out HBs.out))
  have HXR0 := Lib.hid (HX0.out.same HK0.out).reads
  go_wp2_with fail
  have ea := World.new_ne w8 _ fa0
  have eb := World.new_ne w8 _ l0a
  go_region_held3 (fun w' => w'.cell? ⟨w.heap.size, 0, none⟩ = some (.int .i64 S0) ∧ w'.cell? ⟨w.heap.size, 1, none⟩ = some (.slice A0 O0.length c0) ∧ w'.cell? ⟨w5.heap.size, 0, none⟩ = some (.int .i64 S0) ∧ w'.cell? ⟨w5.heap.size, 1, none⟩ = some (.slice AX0 O0.length cX0))
    (first | go_keep)
    (first
      | (go_at_call 10; refine (toSig_any _ ⟨S0, O0⟩ w8.drew HSW0.out HF0.out).mono ?_; rintro e w9 ⟨yj, rfl, hoj, hbj⟩; have HOj := Lib.hid hoj; have HBj := Lib.hid (show Below w8.heap.size w8 w9 from below_undrew hbj); have o0 := cell_keep HBj.out fa0; have o1 := cell_keep HBj.out fb0; have o2 := cell_keep HBj.out l0a; have o3 := cell_keep HBj.out l0b; clear hoj hbj)
      | (go_at_call 12; refine (eqSig_is _ _ ⟨S0, O0⟩ ⟨S0, O0⟩ _ true (sameS_self _) (HXR0.out.keep HBj.out) HOj.out.reads).mono ?_; rintro e w10 ⟨rfl, hbk⟩; have HBk := Lib.hid (ex_keep HBj.out hbk); have q0 := cell_keep hbk o0; have q1 := cell_keep hbk o1; have q2 := cell_keep hbk o2; have q3 := cell_keep hbk o3; clear hbk))
  have hb := HBk.out
  clear fa0 fb0 l0a l0b o0 o1 o2 o3 q0 q1 q2 q3 ea eb HBj HBk HOj HSW0 HXR0
  replace HK0 := Lib.hid (HK0.out.below z0 hb)
  replace z0 : w6.heap.size ≤ w10.heap.size := Nat.le_trans z0 hb.size
  replace HK1 := Lib.hid (HK1.out.below z1 hb)
  replace z1 : w7.heap.size ≤ w10.heap.size := Nat.le_trans z1 hb.size
  replace HBs := Lib.hid (ex_keep HBs.out hb)
  clear hb
  go_wp2_with fail
  refine (toIntS_any _ xs1 _ (HW1.out.keep (ex_keep HB.out HBs.out)) (by omega)).mono ?_
  rintro e w11 ⟨yj, rfl, ho, hb⟩
  have PJ := Lib.hid ho.reads
  clear ho
  replace HK0 := Lib.hid (HK0.out.below z0 hb)
  replace z0 : w6.heap.size ≤ w11.heap.size := Nat.le_trans z0 hb.size
  replace HK1 := Lib.hid (HK1.out.below z1 hb)
  replace z1 : w7.heap.size ≤ w11.heap.size := Nat.le_trans z1 hb.size
  replace HBs := Lib.hid (ex_keep HBs.out hb)
  clear hb
  go_wp2_with fail
  refine (eqIntS_is _ _ xs1 xs1 _ true (sameI_self _) (HX1.out.same HK1.out).reads PJ.out).mono ?_
  rintro e w12 ⟨rfl, hd⟩
  have hb := hd.below
  clear hd PJ
  replace HK0 := Lib.hid (HK0.out.below z0 hb)
  replace z0 : w6.heap.size ≤ w12.heap.size := Nat.le_trans z0 hb.size
  replace HK1 := Lib.hid (HK1.out.below z1 hb)
  replace z1 : w7.heap.size ≤ w12.heap.size := Nat.le_trans z1 hb.size
  replace HBs := Lib.hid (ex_keep HBs.out hb)
  clear hb
  go_wp2
  go_ret
  exact ⟨rfl, ex_keep HB.out HBs.out⟩

set_option maxRecDepth 100000 in
theorem lifted_FnExactVarsOk (os : Os) (started : os.Started) (H : Type) (enc : TypeId × Value → H) :
    ReturnsInHanded {} Try.checked os 7 .any (Rows.fnExactVarsOkSpec.pre6 enc Try.prog Try.f7 Rows.fnExactVarsOkRow.domain false) (Rows.fnExactVarsOkSpec.post enc Try.prog Try.f7 false true false false) := by
  refine returnsInHanded_of_change (C := Try.checked) own started (by kernel_rfl) Try.func7
    (ChangeSpec.witness6 (enc := enc) (C := Try.checked) false ⟨#[], #[.agg #[.int .i64 0, .slice none 0 0], .slice none 0 0], []⟩ 8 (by kernel_rfl) (by kernel_rfl) (by kernel_rfl) (by kernel_rfl)) ?_
  intro W base args ds gs before hval0 hW hcnd _
  have hval : ∀ (j : Nat) t v, Try.f7.params[j]? = some t → args[j]? = some v → Value.okWide Try.prog W .any base t v := hval0
  have hW' := hW
  obtain ⟨p, q, hA0, hV, rfl, hfz, hnd⟩ := hW
  have hA : DataW.TrodAll enc Try.prog W 0 (fun _ => true) true Try.f7.params.toList args.toList ds p := hA0
  rw [Try.params7] at hA hval
  obtain ⟨v0, vs0, d0, ds0, p0, q0, hargs, rfl, rfl, h0, r0⟩ := trodAll_cons hA
  obtain ⟨v1, vs1, d1, ds1, p1, q1, rfl, rfl, rfl, h1, r1⟩ := trodAll_cons r0
  obtain ⟨rfl, rfl, rfl⟩ := trodAll_nil r1
  obtain rfl : args = #[v0, v1] := by cases args; simp_all
  obtain ⟨rfl, rfl⟩ := trodVars_none hV
  have k0 := h0
  have lt0 : ∀ x ∈ p0, x.block < W.heap.size := by obtain ⟨m, hm⟩ := k0; exact DataW.trod_lt m _ _ _ hm
  obtain ⟨s0, w0⟩ : ∃ s, RSig W v0 s := sig_of (hval 0 24 v0 rfl rfl) h0
  have k1 := h1
  have lt1 : ∀ x ∈ p1, x.block < W.heap.size := by obtain ⟨m, hm⟩ := k1; exact DataW.trod_lt m _ _ _ hm
  obtain ⟨s1, w1⟩ : ∃ xs, RInts W v1 xs ∧ Small xs := ints_of (hval 1 37 v1 rfl rfl) h1
  clear hA0 hval0
  refine (walk_FnExactVarsOk _ s0 _ s1 W w0 w1).mono fun e W' ⟨he, bel⟩ => ?_
  subst he
  exact ⟨_, rfl, _, _, _, [], _, [], hW', trodAll_mk1 (shut_bool Try.underlying4 _), (trodAll_cons_mk (Below.trod laidOut (by kernel_rfl) (of_decide_eq_true (by kernel_rfl)) k0 bel lt0) (trodAll_cons_mk (Below.trod laidOut (by kernel_rfl) (of_decide_eq_true (by kernel_rfl)) k1 bel lt1) trodAll_mk0)), rfl, bel.frame _, fun h => by cases h⟩

theorem over_FnExactVarsOk : Rows.fnExactVarsOkRow.holds Try.pinned (OpenSpec.ofChange Rows.fnExactVarsOkSpec) :=
  OpenClaim.holds_of_wide 7 Try.f7 rfl rfl rfl rfl rfl rfl rfl ⟨rfl, rfl, rfl, rfl, rfl⟩ rfl rfl rfl rfl rfl (by kernel_rfl) Try.func7 (by kernel_rfl)
    (of_decide_eq_true (by kernel_rfl)) (by unfold Func.isWrapper; first | (rw [if_pos (by decide +kernel)]; kernel_rfl) | (rw [if_neg (by decide +kernel)]; exact ⟨rfl, rfl⟩))
    (fun os started H enc _ => lifted_FnExactVarsOk os started H enc)

theorem proved_FnExactVarsOk : Rows.FnExactVarsOkSaid := over_FnExactVarsOk
end Go.Proofs.Ytcbjfedhebeogad
