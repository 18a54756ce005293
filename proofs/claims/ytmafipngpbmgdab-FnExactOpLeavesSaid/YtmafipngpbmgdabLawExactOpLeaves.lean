/- FnExactOpLeaves answers true at every signature and number. No condition. -/
import Derived.Test.YtmafipngpbmgdabExBase
namespace Go.Proofs.Ytmafipngpbmgdab
open Go.ChangeShapes Go.WideShapes Go.ChangeAt Go.RowKit
set_option linter.unusedVariables false

set_option maxHeartbeats 800000 in
set_option maxRecDepth 100000 in
theorem walk_FnExactOpLeaves (v : Value) (s : MSig) (op : Int) (w : World) (h : RSig w v s) :
    Calls Try.prog 5 #[v, .int .i64 op] w fun e w' => e = .returned (.bool true) ∧ Below w.heap.size w w' := by
  obtain ⟨u, rfl, hr⟩ := h
  obtain ⟨sorts, ops⟩ := s
  have hbA := below_alloc w (.cells #[.int .i64 sorts, u] 24)
  have HS0 := Lib.hid (show RSig (w.alloc (.cells #[.int .i64 sorts, u] 24)) (.agg #[.int .i64 sorts, u]) ⟨sorts, ops⟩ from ⟨u, rfl, hr.keep hbA⟩)
  have HX := Lib.hid (bx_cells w (.int .i64 sorts) u 24)
  have HA := Lib.hid hbA
  obtain ⟨A, c, rfl, -⟩ := hr.form
  clear hr hbA
  go_enter Try.func5, Try.ntmps5
  go_wp2_with fail
  refine (szSig_any _ ⟨sorts, ops⟩ _ _ HS0.out (by omega) (by omega)).mono ?_
  rintro e w1 ⟨r, rfl, hr, hb1⟩
  have HB1 := Lib.hid hb1
  have f0 := cell_keep hb1 HX.out.1
  have f1 := cell_keep hb1 HX.out.2
  have HS1 := Lib.hid (HS0.out.keep hb1)
  have s1 := hb1.size
  simp at s1
  clear hb1
  by_cases hneg : r < 0
  · clear hr
    go_wp2
    go_ret
    exact ⟨rfl, HA.out.trans (HB1.out.mono (by simp))⟩
  obtain ⟨-, -, hfit⟩ := hr.resolve_left hneg
  simp only at hfit
  have HFIT := Lib.hid hfit
  clear hr hfit
  go_wp2_with fail
  refine (toSig_any _ ⟨sorts, ops⟩ _ HS1.out HFIT.out).mono ?_
  rintro e w2 ⟨u2, rfl, ho2, hb2⟩
  have HO2 := Lib.hid ho2
  have HB2 := Lib.hid hb2
  have HS2 := Lib.hid (HS1.out.keep hb2)
  have g0 := cell_keep hb2 f0
  have g1 := cell_keep hb2 f1
  have s2 := hb2.size
  clear hb2 ho2 f0 f1
  go_wp2_with fail
  refine (specOpLeaves_any _ ⟨sorts, ops⟩ op _ HO2.out.reads).mono ?_
  rintro e w3 ⟨rfl, hb3⟩
  have HB3 := Lib.hid hb3
  have HS3 := Lib.hid (HS2.out.keep hb3)
  have h0 := cell_keep hb3 g0
  have h1 := cell_keep hb3 g1
  have s3 := hb3.size
  clear hb3 g0 g1 HO2
  go_wp2_with fail
  refine (toSig_any _ ⟨sorts, ops⟩ _ HS3.out HFIT.out).mono ?_
  rintro e w4 ⟨u4, rfl, ⟨x4, rfl, ho4⟩, hb4⟩
  simp only at ho4
  obtain ⟨A4, c4, rfl, -⟩ := ho4.reads.form
  have hb5 := below_alloc w4 (.cells #[.int .i64 sorts, .slice A4 ops.length c4] 27)
  have HS5 := Lib.hid (HS3.out.keep (hb4.trans (hb5.mono hb4.size)))
  have HX5 := Lib.hid (show RSig (w4.alloc (.cells #[.int .i64 sorts, .slice A4 ops.length c4] 27)) (.agg #[.int .i64 sorts, .slice A4 ops.length c4]) ⟨sorts, ops⟩ from ⟨_, rfl, ho4.reads.keep hb5⟩)
  have k0 := cell_keep (hb4.trans (hb5.mono hb4.size)) h0
  have k1 := cell_keep (hb4.trans (hb5.mono hb4.size)) h1
  have l0 := (bx_cells w4 (.int .i64 sorts) (.slice A4 ops.length c4) 27).1
  have l1 := (bx_cells w4 (.int .i64 sorts) (.slice A4 ops.length c4) 27).2
  have HB5 := Lib.hid (hb4.trans (hb5.mono hb4.size))
  have s4 := hb4.size
  have HK := Lib.hid (And.intro k0 (And.intro k1 (And.intro l0 l1)))
  clear hb4 hb5 ho4 h0 h1 k0 k1 l0 l1
  go_wp2_with fail
  refine (opLeaves_any _ ⟨sorts, ops⟩ op _ HX5.out).mono ?_
  rintro e w6 ⟨rfl, hb6⟩
  obtain ⟨k0, k1, l0, l1⟩ := HK.out
  have m0 := cell_keep hb6 k0
  have m1 := cell_keep hb6 k1
  have n0 := cell_keep hb6 l0
  have n1 := cell_keep hb6 l1
  have HS6 := Lib.hid (HS5.out.keep hb6)
  have HX6 := Lib.hid (HX5.out.keep hb6)
  have HB6 := Lib.hid hb6
  have s6 := hb6.size
  simp at s6
  clear hb6 k0 k1 l0 l1 HK
  have HBW : Hid (Below w.heap.size w w6) :=
    (((((HA.out.trans (HB1.out.mono (by simp))).trans (HB2.out.mono (by omega))).trans (HB3.out.mono (by omega))).trans (HB5.out.mono (by omega))).trans (HB6.out.mono (by simp; omega)))
  clear HA HB1 HB2 HB3 HB5 HB6 HS0 HS1 HS2 HS3 HS5 HX5 HX
  generalize leavesM ⟨sorts, ops⟩ op = bb
  have e1 : (bb != bb) = false := by simp
  have e2 : (bb == bb) = true := by simp
  go_wp2_with fail
  have ea := World.new_ne w6 _ m0
  have eb := World.new_ne w6 _ n0
  go_region_held3 (fun w' => w'.cell? ⟨w.heap.size, 0, none⟩ = some (.int .i64 sorts) ∧ w'.cell? ⟨w.heap.size, 1, none⟩ = some (.slice A ops.length c) ∧ w'.cell? ⟨w4.heap.size, 0, none⟩ = some (.int .i64 sorts) ∧ w'.cell? ⟨w4.heap.size, 1, none⟩ = some (.slice A4 ops.length c4))
    (first | go_keep)
    (first
      | (go_at_call 10; refine (toSig_any _ ⟨sorts, ops⟩ w6.drew HS6.out HFIT.out).mono ?_; rintro e w7 ⟨u7, rfl, ho7, hb7⟩; have HO7 := Lib.hid ho7; have HB7 := Lib.hid (show Below w6.heap.size w6 w7 from below_undrew hb7); have o0 := cell_keep HB7.out m0; have o1 := cell_keep HB7.out m1; have p0 := cell_keep HB7.out n0; have p1 := cell_keep HB7.out n1; clear ho7 hb7)
      | (go_at_call 12; refine (eqSig_is _ _ ⟨sorts, ops⟩ ⟨sorts, ops⟩ _ true (sameS_self _) (HX6.out.keep HB7.out) HO7.out.reads).mono ?_; rintro e w8 ⟨rfl, hb8⟩; have HB8 := Lib.hid hb8; have q0 := cell_keep hb8 o0; have q1 := cell_keep hb8 o1; have r0 := cell_keep hb8 p0; have r1 := cell_keep hb8 p1; clear hb8))
  clear m0 m1 n0 n1 ea eb o0 o1 p0 p1 q0 q1 r0 r1
  go_wp2
  go_ret
  have s7 := HB7.out.size
  exact ⟨rfl, (HBW.out.trans (HB7.out.mono (by omega))).trans (HB8.out.mono (by omega))⟩

set_option maxRecDepth 100000 in
theorem lifted_FnExactOpLeaves (os : Os) (started : os.Started) (H : Type) (enc : TypeId × Value → H) :
    ReturnsInHanded {} Try.checked os 5 .any (Rows.fnExactOpLeavesSpec.pre6 enc Try.prog Try.f5 Rows.fnExactOpLeavesRow.domain false) (Rows.fnExactOpLeavesSpec.post enc Try.prog Try.f5 false true false false) := by
  refine returnsInHanded_of_change (C := Try.checked) own started (by kernel_rfl) Try.func5
    (ChangeSpec.witness6 (enc := enc) (C := Try.checked) false ⟨#[], #[.agg #[.int .i64 0, .slice none 0 0], .int .i64 0], []⟩ 8 (by kernel_rfl) (by kernel_rfl) (by kernel_rfl) (by kernel_rfl)) ?_
  intro W base args ds gs before hval0 hW hcnd _
  have hval : ∀ (j : Nat) t v, Try.f5.params[j]? = some t → args[j]? = some v → Value.okWide Try.prog W .any base t v := hval0
  have hW' := hW
  obtain ⟨p, q, hA0, hV, rfl, hfz, hnd⟩ := hW
  have hA : DataW.TrodAll enc Try.prog W 0 (fun _ => true) true Try.f5.params.toList args.toList ds p := hA0
  rw [Try.params5] at hA hval
  obtain ⟨v0, vs0, d0, ds0, p0, q0, hargs, rfl, rfl, h0, r0⟩ := trodAll_cons hA
  obtain ⟨v1, vs1, d1, ds1, p1, q1, rfl, rfl, rfl, h1, r1⟩ := trodAll_cons r0
  obtain ⟨rfl, rfl, rfl⟩ := trodAll_nil r1
  obtain rfl : args = #[v0, v1] := by cases args; simp_all
  obtain ⟨rfl, rfl⟩ := trodVars_none hV
  have k0 := h0
  have lt0 : ∀ x ∈ p0, x.block < W.heap.size := by obtain ⟨m, hm⟩ := k0; exact DataW.trod_lt m _ _ _ hm
  obtain ⟨s0, w0⟩ : ∃ s, RSig W v0 s := sig_of (hval 0 24 v0 rfl rfl) h0
  have k1 := h1
  have lt1 : ∀ x ∈ p1, x.block < W.heap.size := by obtain ⟨m, hm⟩ := k1; exact DataW.trod_lt m _ _ _ hm
  obtain ⟨a1, w1⟩ : ∃ a, v1 = .int .i64 a := by obtain ⟨a, ha, _⟩ := open_int Try.underlying3 (hval 1 3 v1 rfl rfl) h1; exact ⟨a, ha⟩
  subst w1
  clear hA0 hval0
  refine (walk_FnExactOpLeaves _ s0 a1 W w0).mono fun e W' ⟨he, bel⟩ => ?_
  subst he
  exact ⟨_, rfl, _, _, _, [], _, [], hW', trodAll_mk1 (shut_bool Try.underlying4 _), (trodAll_cons_mk (Below.trod laidOut (by kernel_rfl) (of_decide_eq_true (by kernel_rfl)) k0 bel lt0) (trodAll_cons_mk (Below.trod laidOut (by kernel_rfl) (of_decide_eq_true (by kernel_rfl)) k1 bel lt1) trodAll_mk0)), rfl, bel.frame _, fun h => by cases h⟩

theorem over_FnExactOpLeaves : Rows.fnExactOpLeavesRow.holds Try.pinned (OpenSpec.ofChange Rows.fnExactOpLeavesSpec) :=
  OpenClaim.holds_of_wide 5 Try.f5 rfl rfl rfl rfl rfl rfl rfl ⟨rfl, rfl, rfl, rfl, rfl⟩ rfl rfl rfl rfl rfl (by kernel_rfl) Try.func5 (by kernel_rfl)
    (of_decide_eq_true (by kernel_rfl)) (by unfold Func.isWrapper; first | (rw [if_pos (by decide +kernel)]; kernel_rfl) | (rw [if_neg (by decide +kernel)]; exact ⟨rfl, rfl⟩))
    (fun os started H enc _ => lifted_FnExactOpLeaves os started H enc)

theorem proved_FnExactOpLeaves : Rows.FnExactOpLeavesSaid := over_FnExactOpLeaves
end Go.Proofs.Ytmafipngpbmgdab
