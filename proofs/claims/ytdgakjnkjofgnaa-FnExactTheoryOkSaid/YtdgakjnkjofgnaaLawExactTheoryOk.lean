/- FnExactTheoryOk answers true at every theory. No condition. -/
import Derived.Test.YtdgakjnkjofgnaaExGen
import Derived.Test.YtdgakjnkjofgnaaFrameE
import Derived.Test.YtdgakjnkjofgnaaThyT
import Derived.Test.YtdgakjnkjofgnaaThyOk
namespace Go.Proofs.Ytdgakjnkjofgnaa
open Go.ChangeShapes Go.WideShapes Go.ChangeAt Go.RowKit
set_option linter.unusedVariables false
set_option linter.unusedSimpArgs false

theorem OThy.sameK {w w' : World} {B : Nat} {v : Value} {t : MThy} (h : OThy w B v t) (hk : Keeps B w w') (hs : w.heap.size ≤ w'.heap.size) : OThy w' B v t := h.same hs hk

set_option maxHeartbeats 3200000 in
set_option maxRecDepth 100000 in
theorem walk_FnExactTheoryOk (v0 : Value) (s0 : MThy) (w : World) (h0 : RThy w v0 s0 ∧ SmallT s0) :
    Calls Try.prog 4 #[v0] w fun e w' => e = .returned (.bool true) ∧ Below w.heap.size w w' := by
  have HB : Hid (Below w.heap.size w w) := Below.refl _ _
  have HS0 := Lib.hid h0.2
  replace h0 := h0.1
  obtain ⟨A0a, c0a, A0b, c0b, rfl⟩ := h0.form
  have HW0 := Lib.hid h0
  have hb := below_alloc (w) (.cells #[.int .i64 s0.over.sorts, .slice A0a s0.over.ops.length c0a, .slice A0b s0.eqs.length c0b] 40)
  have fa0 := (bx3 (w) (.int .i64 s0.over.sorts) (.slice A0a s0.over.ops.length c0a) (.slice A0b s0.eqs.length c0b) 40).1
  have fb0 := (bx3 (w) (.int .i64 s0.over.sorts) (.slice A0a s0.over.ops.length c0a) (.slice A0b s0.eqs.length c0b) 40).2.1
  have fc0 := (bx3 (w) (.int .i64 s0.over.sorts) (.slice A0a s0.over.ops.length c0a) (.slice A0b s0.eqs.length c0b) 40).2.2
  replace HB := Lib.hid (ex_keep HB.out hb)
  clear hb h0
  go_enter Try.func4, Try.ntmps4
  go_wp2_with fail
  refine (szTheory_any _ s0 _ _ (HW0.out.keep HB.out) (by omega) (by omega)).mono ?_
  rintro e w1 ⟨r1, rfl, hr, hb⟩
  replace fa0 := cell_keep hb fa0
  replace fb0 := cell_keep hb fb0
  replace fc0 := cell_keep hb fc0
  replace HB := Lib.hid (ex_keep HB.out hb)
  clear hb
  by_cases hneg1 : r1 < 0
  · clear hr
    go_wp2
    go_ret
    exact ⟨rfl, HB.out⟩
  obtain ⟨hp1, hq1, hfit⟩ := hr.resolve_left hneg1
  have HF0 := Lib.hid hfit
  clear hr hfit
  go_wp2_with fail
  refine (toTheory_any _ s0 _ (HW0.out.keep HB.out) HF0.out).mono ?_
  rintro e w2 ⟨y0, rfl, ho, hb⟩
  replace fa0 := cell_keep hb fa0
  replace fb0 := cell_keep hb fb0
  replace fc0 := cell_keep hb fc0
  replace HB := Lib.hid (ex_keep HB.out hb)
  clear hb
  have P0 := Lib.hid ho.reads
  clear ho
  obtain ⟨R, hR⟩ : ∃ R, R = thyB s0 := ⟨_, rfl⟩
  have HR := Lib.hid hR.symm
  clear hR
  go_wp2_with fail
  refine (specTheoryOk_any s0 _ _ P0.out).mono ?_
  rw [HR.out]
  rintro e w3 ⟨rfl, hb⟩
  replace fa0 := cell_keep hb fa0
  replace fb0 := cell_keep hb fb0
  replace fc0 := cell_keep hb fc0
  replace HB := Lib.hid (ex_keep HB.out hb)
  clear hb
  clear P0
  have HC := Lib.hid (And.intro fa0 (And.intro fb0 (fc0)))
  have HBs : Hid (Below w3.heap.size w3 w3) := Below.refl _ _
  clear fa0 fb0 fc0
  have fa0 := cell_keep HBs.out HC.out.1
  have fb0 := cell_keep HBs.out HC.out.2.1
  have fc0 := cell_keep HBs.out HC.out.2.2
  go_wp2_with fail
  refine (toTheory_any _ s0 _ (HW0.out.keep (ex_keep HB.out HBs.out)) HF0.out).mono ?_
  rintro e w4 ⟨y0, rfl, ho, hb⟩
  obtain ⟨AX0a, cX0a, AX0b, cX0b, rfl⟩ := ho.reads.form
  have hb2 := below_alloc w4 (.cells #[.int .i64 s0.over.sorts, .slice AX0a s0.over.ops.length cX0a, .slice AX0b s0.eqs.length cX0b] 45)
  have HX0 := Lib.hid (show OThy (w4.alloc (.cells #[.int .i64 s0.over.sorts, .slice AX0a s0.over.ops.length cX0a, .slice AX0b s0.eqs.length cX0b] 45)) w3.heap.size (.agg #[.int .i64 s0.over.sorts, .slice AX0a s0.over.ops.length cX0a, .slice AX0b s0.eqs.length cX0b]) s0 from ho.keep hb2)
  have HCX0 := Lib.hid (bx3 w4 (.int .i64 s0.over.sorts) (.slice AX0a s0.over.ops.length cX0a) (.slice AX0b s0.eqs.length cX0b) 45)
  have hy0 := hb.size
  replace hb := hb.trans (hb2.mono hb.size)
  have hs0 := hb.size
  generalize hWw5 : w4.alloc (.cells #[.int .i64 s0.over.sorts, .slice AX0a s0.over.ops.length cX0a, .slice AX0b s0.eqs.length cX0b] 45) = w5 at HX0 HCX0 hb hs0
  clear hb2 ho
  replace HBs := Lib.hid (ex_keep HBs.out hb)
  clear hb
  have HK0 : Hid (Keeps w3.heap.size w5 w5) := Keeps.refl _ _
  have z0 : w5.heap.size ≤ w5.heap.size := Nat.le_refl _
  clear fa0 fb0 fc0
  have l0a := HK0.out.cell (by omega) HCX0.out.1
  have l0b := HK0.out.cell (by omega) HCX0.out.2.1
  have l0c := HK0.out.cell (by omega) HCX0.out.2.2
  go_wp2_with fail
  clear hWw5
  refine (theoryOk_any s0 _ _ HS0.out (HX0.out.same z0 HK0.out).reads).mono ?_
  rw [HR.out]
  rintro e w6 ⟨rfl, hb⟩
  clear l0a l0b l0c
  replace HK0 := Lib.hid (HK0.out.below z0 hb)
  replace z0 : w5.heap.size ≤ w6.heap.size := Nat.le_trans z0 hb.size
  replace HBs := Lib.hid (ex_keep HBs.out hb)
  clear hb
  have e1 : (R != R) = false := by simp
  have fa0 := cell_keep HBs.out HC.out.1
  have fb0 := cell_keep HBs.out HC.out.2.1
  have fc0 := cell_keep HBs.out HC.out.2.2
  have l0a := HK0.out.cell (by omega) HCX0.out.1
  have l0b := HK0.out.cell (by omega) HCX0.out.2.1
  have l0c := HK0.out.cell (by omega) HCX0.out.2.2
  have HSW0 := Lib.hid (HW0.out.keep (ex_keep HB.out HBs.out))
  have HXR0 := Lib.hid (HX0.out.same z0 HK0.out).reads
  go_wp2_with fail
  have ea := World.new_ne w6 _ fa0
  have eb := World.new_ne w6 _ l0a
  go_region_held3 (fun w' => w'.cell? ⟨w.heap.size, 0, none⟩ = some (.int .i64 s0.over.sorts) ∧ w'.cell? ⟨w.heap.size, 1, none⟩ = some (.slice A0a s0.over.ops.length c0a) ∧ w'.cell? ⟨w.heap.size, 2, none⟩ = some (.slice A0b s0.eqs.length c0b) ∧ w'.cell? ⟨w4.heap.size, 0, none⟩ = some (.int .i64 s0.over.sorts) ∧ w'.cell? ⟨w4.heap.size, 1, none⟩ = some (.slice AX0a s0.over.ops.length cX0a) ∧ w'.cell? ⟨w4.heap.size, 2, none⟩ = some (.slice AX0b s0.eqs.length cX0b))
    (first | go_keep)
    (first
      | (go_at_call 19; refine (toTheory_any _ s0 w6.drew HSW0.out HF0.out).mono ?_; rintro e w7 ⟨yj, rfl, hoj, hbj⟩; have HOj := Lib.hid hoj; have HBj := Lib.hid (show Below w6.heap.size w6 w7 from below_undrew hbj); have o0 := cell_keep HBj.out fa0; have o1 := cell_keep HBj.out fb0; have o2 := cell_keep HBj.out fc0; have o3 := cell_keep HBj.out l0a; have o4 := cell_keep HBj.out l0b; have o5 := cell_keep HBj.out l0c; clear hoj hbj)
      | (go_at_call 21; refine (eqTheory_is _ _ s0 s0 _ true (sameT_self _) (HXR0.out.keep HBj.out) HOj.out.reads).mono ?_; rintro e w8 ⟨rfl, hbk⟩; have HBk := Lib.hid (ex_keep HBj.out hbk); have q0 := cell_keep hbk o0; have q1 := cell_keep hbk o1; have q2 := cell_keep hbk o2; have q3 := cell_keep hbk o3; have q4 := cell_keep hbk o4; have q5 := cell_keep hbk o5; clear hbk))
  have hb := HBk.out
  clear fa0 fb0 fc0 l0a l0b l0c o0 q0 o1 q1 o2 q2 o3 q3 o4 q4 o5 q5 ea eb HBj HBk HOj HSW0 HXR0
  replace HK0 := Lib.hid (HK0.out.below z0 hb)
  replace z0 : w5.heap.size ≤ w8.heap.size := Nat.le_trans z0 hb.size
  replace HBs := Lib.hid (ex_keep HBs.out hb)
  clear hb
  go_wp2
  go_ret
  exact ⟨rfl, ex_keep HB.out HBs.out⟩

set_option maxRecDepth 100000 in
theorem lifted_FnExactTheoryOk (os : Os) (started : os.Started) (H : Type) (enc : TypeId × Value → H) :
    ReturnsInHanded {} Try.checked os 4 .any (Rows.fnExactTheoryOkSpec.pre6 enc Try.prog Try.f4 Rows.fnExactTheoryOkRow.domain false) (Rows.fnExactTheoryOkSpec.post enc Try.prog Try.f4 false true false false) := by
  refine returnsInHanded_of_change (C := Try.checked) own started (by kernel_rfl) Try.func4
    (ChangeSpec.witness6 (enc := enc) (C := Try.checked) false ⟨#[], #[.agg #[.int .i64 0, .slice none 0 0, .slice none 0 0]], []⟩ 8 (by kernel_rfl) (by kernel_rfl) (by kernel_rfl) (by kernel_rfl)) ?_
  intro W base args ds gs before hval0 hW hcnd _
  have hval : ∀ (j : Nat) t v, Try.f4.params[j]? = some t → args[j]? = some v → Value.okWide Try.prog W .any base t v := hval0
  have hW' := hW
  obtain ⟨p, q, hA0, hV, rfl, hfz, hnd⟩ := hW
  have hA : DataW.TrodAll enc Try.prog W 0 (fun _ => true) true Try.f4.params.toList args.toList ds p := hA0
  rw [Try.params4] at hA hval
  obtain ⟨v0, vs0, d0, ds0, p0, q0, hargs, rfl, rfl, h0, r0⟩ := trodAll_cons hA
  obtain ⟨rfl, rfl, rfl⟩ := trodAll_nil r0
  obtain rfl : args = #[v0] := by cases args; simp_all
  obtain ⟨rfl, rfl⟩ := trodVars_none hV
  have k0 := h0
  have lt0 : ∀ x ∈ p0, x.block < W.heap.size := by obtain ⟨m, hm⟩ := k0; exact DataW.trod_lt m _ _ _ hm
  obtain ⟨s0, w0⟩ : ∃ s, RThy W v0 s ∧ SmallT s := thy_of (hval 0 40 v0 rfl rfl) h0
  clear hA0 hval0
  refine (walk_FnExactTheoryOk _ s0 W w0).mono fun e W' ⟨he, bel⟩ => ?_
  subst he
  exact ⟨_, rfl, _, _, _, [], _, [], hW', trodAll_mk1 (shut_bool Try.underlying4 _), (trodAll_cons_mk (Below.trod laidOut (by kernel_rfl) (of_decide_eq_true (by kernel_rfl)) k0 bel lt0) trodAll_mk0), rfl, bel.frame _, fun h => by cases h⟩

theorem over_FnExactTheoryOk : Rows.fnExactTheoryOkRow.holds Try.pinned (OpenSpec.ofChange Rows.fnExactTheoryOkSpec) :=
  OpenClaim.holds_of_wide 4 Try.f4 rfl rfl rfl rfl rfl rfl rfl ⟨rfl, rfl, rfl, rfl, rfl⟩ rfl rfl rfl rfl rfl (by kernel_rfl) Try.func4 (by kernel_rfl)
    (of_decide_eq_true (by kernel_rfl)) (by unfold Func.isWrapper; first | (rw [if_pos (by decide +kernel)]; kernel_rfl) | (rw [if_neg (by decide +kernel)]; exact ⟨rfl, rfl⟩))
    (fun os started H enc _ => lifted_FnExactTheoryOk os started H enc)

theorem proved_FnExactTheoryOk : Rows.FnExactTheoryOkSaid := over_FnExactTheoryOk
end Go.Proofs.Ytdgakjnkjofgnaa
