/- FnExactBenchValid answers true at every bench. No condition. -/
import Derived.Test.YtmmnamjgpfkababK9f4dcbf1
namespace Go.Proofs.Ytmmnamjgpfkabab
open Go.ChangeShapes Go.WideShapes Go.ChangeAt Go.RowKit
set_option linter.unusedVariables false
set_option linter.unusedSimpArgs false

set_option maxHeartbeats 3200000 in
set_option maxRecDepth 100000 in
theorem walk_FnExactBenchValid (v0 : Value) (s0 : MBench) (w : World) (h0 : RBench w v0 s0 ∧ SmallB s0) :
    Calls Try.prog 3 #[v0] w fun e w' => e = .returned (.bool true) ∧ Below w.heap.size w w' := by
  have HB : Hid (Below w.heap.size w w) := Below.refl _ _
  have HS0 := Lib.hid h0.2
  replace h0 := h0.1
  obtain ⟨A0a, c0a, A0b, c0b, A0c, c0c, rfl⟩ := h0.form
  have HW0 := Lib.hid h0
  have hb := below_alloc (w) (.cells #[.int .i64 s0.now.over.sorts, .slice A0a s0.now.over.ops.length c0a, .slice A0b s0.now.eqs.length c0b, .slice A0c s0.past.length c0c] 30)
  have fa0 := (bx4 (w) (.int .i64 s0.now.over.sorts) (.slice A0a s0.now.over.ops.length c0a) (.slice A0b s0.now.eqs.length c0b) (.slice A0c s0.past.length c0c) 30).1
  have fb0 := (bx4 (w) (.int .i64 s0.now.over.sorts) (.slice A0a s0.now.over.ops.length c0a) (.slice A0b s0.now.eqs.length c0b) (.slice A0c s0.past.length c0c) 30).2.1
  have fc0 := (bx4 (w) (.int .i64 s0.now.over.sorts) (.slice A0a s0.now.over.ops.length c0a) (.slice A0b s0.now.eqs.length c0b) (.slice A0c s0.past.length c0c) 30).2.2.1
  have fd0 := (bx4 (w) (.int .i64 s0.now.over.sorts) (.slice A0a s0.now.over.ops.length c0a) (.slice A0b s0.now.eqs.length c0b) (.slice A0c s0.past.length c0c) 30).2.2.2
  replace HB := Lib.hid (ex_keep HB.out hb)
  clear hb h0
  go_enter Try.func3, Try.ntmps3
  go_wp2_with fail
  refine (szBench_any _ s0 _ _ (HW0.out.keep HB.out) (by omega) (by omega)).mono ?_
  rintro e w1 ⟨r1, rfl, hr, hb⟩
  replace fa0 := cell_keep hb fa0
  replace fb0 := cell_keep hb fb0
  replace fc0 := cell_keep hb fc0
  replace fd0 := cell_keep hb fd0
  replace HB := Lib.hid (ex_keep HB.out hb)
  clear hb
  by_cases hneg1 : r1 < 0
  · clear hr
    go_wp2
    go_ret
    exact ⟨rfl, HB.out⟩
  obtain ⟨hp1, hq1, hfit⟩ := hr.resolve_left hneg1
  have HF0 := Lib.hid hfit
  clear hr hfit
  go_wp2_with fail
  refine (toBench_any _ s0 _ (HW0.out.keep HB.out) HF0.out).mono ?_
  rintro e w2 ⟨y0, rfl, ho, hb⟩
  replace fa0 := cell_keep hb fa0
  replace fb0 := cell_keep hb fb0
  replace fc0 := cell_keep hb fc0
  replace fd0 := cell_keep hb fd0
  replace HB := Lib.hid (ex_keep HB.out hb)
  clear hb
  have P0 := Lib.hid ho.reads
  clear ho
  obtain ⟨R, hR⟩ : ∃ R, R = benchB s0 := ⟨_, rfl⟩
  have HR := Lib.hid hR.symm
  clear hR
  go_wp2_with fail
  refine (specBenchValid_any s0 _ _ P0.out).mono ?_
  rw [HR.out]
  rintro e w3 ⟨rfl, hb⟩
  replace fa0 := cell_keep hb fa0
  replace fb0 := cell_keep hb fb0
  replace fc0 := cell_keep hb fc0
  replace fd0 := cell_keep hb fd0
  replace HB := Lib.hid (ex_keep HB.out hb)
  clear hb
  clear P0
  have HC := Lib.hid (And.intro fa0 (And.intro fb0 (And.intro fc0 (fd0))))
  have HBs : Hid (Below w3.heap.size w3 w3) := Below.refl _ _
  clear fa0 fb0 fc0 fd0
  have fa0 := cell_keep HBs.out HC.out.1
  have fb0 := cell_keep HBs.out HC.out.2.1
  have fc0 := cell_keep HBs.out HC.out.2.2.1
  have fd0 := cell_keep HBs.out HC.out.2.2.2
  go_wp2_with fail
  refine (toBench_any _ s0 _ (HW0.out.keep (ex_keep HB.out HBs.out)) HF0.out).mono ?_
  rintro e w4 ⟨y0, rfl, ho, hb⟩
  obtain ⟨AX0a, cX0a, AX0b, cX0b, AX0c, cX0c, rfl⟩ := ho.reads.form
  have hb2 := below_alloc w4 (.cells #[.int .i64 s0.now.over.sorts, .slice AX0a s0.now.over.ops.length cX0a, .slice AX0b s0.now.eqs.length cX0b, .slice AX0c s0.past.length cX0c] 39)
  have HX0 := Lib.hid (show OBench (w4.alloc (.cells #[.int .i64 s0.now.over.sorts, .slice AX0a s0.now.over.ops.length cX0a, .slice AX0b s0.now.eqs.length cX0b, .slice AX0c s0.past.length cX0c] 39)) w3.heap.size (.agg #[.int .i64 s0.now.over.sorts, .slice AX0a s0.now.over.ops.length cX0a, .slice AX0b s0.now.eqs.length cX0b, .slice AX0c s0.past.length cX0c]) s0 from ho.keep hb2)
  have HCX0 := Lib.hid (bx4 w4 (.int .i64 s0.now.over.sorts) (.slice AX0a s0.now.over.ops.length cX0a) (.slice AX0b s0.now.eqs.length cX0b) (.slice AX0c s0.past.length cX0c) 39)
  have hy0 := hb.size
  replace hb := hb.trans (hb2.mono hb.size)
  have hs0 := hb.size
  generalize hWw5 : w4.alloc (.cells #[.int .i64 s0.now.over.sorts, .slice AX0a s0.now.over.ops.length cX0a, .slice AX0b s0.now.eqs.length cX0b, .slice AX0c s0.past.length cX0c] 39) = w5 at HX0 HCX0 hb hs0
  clear hb2 ho
  replace HBs := Lib.hid (ex_keep HBs.out hb)
  clear hb
  have HK0 : Hid (Keeps w3.heap.size w5 w5) := Keeps.refl _ _
  have z0 : w5.heap.size ≤ w5.heap.size := Nat.le_refl _
  clear fa0 fb0 fc0 fd0
  have l0a := HK0.out.cell (by omega) HCX0.out.1
  have l0b := HK0.out.cell (by omega) HCX0.out.2.1
  have l0c := HK0.out.cell (by omega) HCX0.out.2.2.1
  have l0d := HK0.out.cell (by omega) HCX0.out.2.2.2
  go_wp2_with fail
  clear hWw5
  refine (benchValid_any s0 _ _ HS0.out (HX0.out.same z0 HK0.out).reads).mono ?_
  rw [HR.out]
  rintro e w6 ⟨rfl, hb⟩
  clear l0a l0b l0c l0d
  replace HK0 := Lib.hid (HK0.out.below z0 hb)
  replace z0 : w5.heap.size ≤ w6.heap.size := Nat.le_trans z0 hb.size
  replace HBs := Lib.hid (ex_keep HBs.out hb)
  clear hb
  have e1 : (R != R) = false := by simp
  have fa0 := cell_keep HBs.out HC.out.1
  have fb0 := cell_keep HBs.out HC.out.2.1
  have fc0 := cell_keep HBs.out HC.out.2.2.1
  have fd0 := cell_keep HBs.out HC.out.2.2.2
  have l0a := HK0.out.cell (by omega) HCX0.out.1
  have l0b := HK0.out.cell (by omega) HCX0.out.2.1
  have l0c := HK0.out.cell (by omega) HCX0.out.2.2.1
  have l0d := HK0.out.cell (by omega) HCX0.out.2.2.2
  have HSW0 := Lib.hid (HW0.out.keep (ex_keep HB.out HBs.out))
  have HXR0 := Lib.hid (HX0.out.same z0 HK0.out).reads
  go_wp2_with fail
  have ea := World.new_ne w6 _ fa0
  have eb := World.new_ne w6 _ l0a
  go_region_held3 (fun w' => w'.cell? ⟨w.heap.size, 0, none⟩ = some (.int .i64 s0.now.over.sorts) ∧ w'.cell? ⟨w.heap.size, 1, none⟩ = some (.slice A0a s0.now.over.ops.length c0a) ∧ w'.cell? ⟨w.heap.size, 2, none⟩ = some (.slice A0b s0.now.eqs.length c0b) ∧ w'.cell? ⟨w.heap.size, 3, none⟩ = some (.slice A0c s0.past.length c0c) ∧ w'.cell? ⟨w4.heap.size, 0, none⟩ = some (.int .i64 s0.now.over.sorts) ∧ w'.cell? ⟨w4.heap.size, 1, none⟩ = some (.slice AX0a s0.now.over.ops.length cX0a) ∧ w'.cell? ⟨w4.heap.size, 2, none⟩ = some (.slice AX0b s0.now.eqs.length cX0b) ∧ w'.cell? ⟨w4.heap.size, 3, none⟩ = some (.slice AX0c s0.past.length cX0c))
    (first | go_keep)
    (first
      | (go_at_call 9; refine (toBench_any _ s0 w6.drew HSW0.out HF0.out).mono ?_; rintro e w7 ⟨yj, rfl, hoj, hbj⟩; have HOj := Lib.hid hoj; have HBj := Lib.hid (show Below w6.heap.size w6 w7 from below_undrew hbj); have o0 := cell_keep HBj.out fa0; have o1 := cell_keep HBj.out fb0; have o2 := cell_keep HBj.out fc0; have o3 := cell_keep HBj.out fd0; have o4 := cell_keep HBj.out l0a; have o5 := cell_keep HBj.out l0b; have o6 := cell_keep HBj.out l0c; have o7 := cell_keep HBj.out l0d; clear hoj hbj)
      | (go_at_call 11; refine (eqBench_is _ _ s0 s0 _ true (sameB_self _) (HXR0.out.keep HBj.out) HOj.out.reads).mono ?_; rintro e w8 ⟨rfl, hbk⟩; have HBk := Lib.hid (ex_keep HBj.out hbk); have q0 := cell_keep hbk o0; have q1 := cell_keep hbk o1; have q2 := cell_keep hbk o2; have q3 := cell_keep hbk o3; have q4 := cell_keep hbk o4; have q5 := cell_keep hbk o5; have q6 := cell_keep hbk o6; have q7 := cell_keep hbk o7; clear hbk))
  have hb := HBk.out
  clear fa0 fb0 fc0 fd0 l0a l0b l0c l0d o0 q0 o1 q1 o2 q2 o3 q3 o4 q4 o5 q5 o6 q6 o7 q7 ea eb HBj HBk HOj HSW0 HXR0
  replace HK0 := Lib.hid (HK0.out.below z0 hb)
  replace z0 : w5.heap.size ≤ w8.heap.size := Nat.le_trans z0 hb.size
  replace HBs := Lib.hid (ex_keep HBs.out hb)
  clear hb
  go_wp2
  go_ret
  exact ⟨rfl, ex_keep HB.out HBs.out⟩

set_option maxRecDepth 100000 in
theorem lifted_FnExactBenchValid (os : Os) (started : os.Started) (H : Type) (enc : TypeId × Value → H) :
    ReturnsInHanded {} Try.checked os 3 .any (Rows.fnExactBenchValidSpec.pre6 enc Try.prog Try.f3 Rows.fnExactBenchValidRow.domain false) (Rows.fnExactBenchValidSpec.post enc Try.prog Try.f3 false true false false) := by
  refine returnsInHanded_of_change (C := Try.checked) own started (by kernel_rfl) Try.func3
    (ChangeSpec.witness6 (enc := enc) (C := Try.checked) false ⟨#[], #[.agg #[.int .i64 0, .slice none 0 0, .slice none 0 0, .slice none 0 0]], []⟩ 8 (by kernel_rfl) (by kernel_rfl) (by kernel_rfl) (by kernel_rfl)) ?_
  intro W base args ds gs before hval0 hW hcnd _
  have hval : ∀ (j : Nat) t v, Try.f3.params[j]? = some t → args[j]? = some v → Value.okWide Try.prog W .any base t v := hval0
  have hW' := hW
  obtain ⟨p, q, hA0, hV, rfl, hfz, hnd⟩ := hW
  have hA : DataW.TrodAll enc Try.prog W 0 (fun _ => true) true Try.f3.params.toList args.toList ds p := hA0
  rw [Try.params3] at hA hval
  obtain ⟨v0, vs0, d0, ds0, p0, q0, hargs, rfl, rfl, h0, r0⟩ := trodAll_cons hA
  obtain ⟨rfl, rfl, rfl⟩ := trodAll_nil r0
  obtain rfl : args = #[v0] := by cases args; simp_all
  obtain ⟨rfl, rfl⟩ := trodVars_none hV
  have k0 := h0
  have lt0 : ∀ x ∈ p0, x.block < W.heap.size := by obtain ⟨m, hm⟩ := k0; exact DataW.trod_lt m _ _ _ hm
  obtain ⟨s0, w0⟩ : ∃ s, RBench W v0 s ∧ SmallB s := bench_of (hval 0 30 v0 rfl rfl) h0
  clear hA0 hval0
  refine (walk_FnExactBenchValid _ s0 W w0).mono fun e W' ⟨he, bel⟩ => ?_
  subst he
  exact ⟨_, rfl, _, _, _, [], _, [], hW', trodAll_mk1 (shut_bool Try.underlying4 _), (trodAll_cons_mk (Below.trod laidOut (by kernel_rfl) (of_decide_eq_true (by kernel_rfl)) k0 bel lt0) trodAll_mk0), rfl, bel.frame _, fun h => by cases h⟩

theorem over_FnExactBenchValid : Rows.fnExactBenchValidRow.holds Try.pinned (OpenSpec.ofChange Rows.fnExactBenchValidSpec) :=
  OpenClaim.holds_of_wide 3 Try.f3 rfl rfl rfl rfl rfl rfl rfl ⟨rfl, rfl, rfl, rfl, rfl⟩ rfl rfl rfl rfl rfl (by kernel_rfl) Try.func3 (by kernel_rfl)
    (of_decide_eq_true (by kernel_rfl)) (by unfold Func.isWrapper; first | (rw [if_pos (by decide +kernel)]; kernel_rfl) | (rw [if_neg (by decide +kernel)]; exact ⟨rfl, rfl⟩))
    (fun os started H enc _ => lifted_FnExactBenchValid os started H enc)

theorem proved_FnExactBenchValid : Rows.FnExactBenchValidSaid := over_FnExactBenchValid
end Go.Proofs.Ytmmnamjgpfkabab
