/- FnTermSwap answers true at every slice of bytes. No condition. -/
import Derived.Test.YtcbjfedhebeogacFrame
import Derived.Test.YtcbjfedhebeogacDrawE
import Derived.Test.YtcbjfedhebeogacSwap2
import Derived.Test.YtcbjfedhebeogacSame
namespace Go.Proofs.Ytcbjfedhebeogac
open Go.ChangeShapes Go.WideShapes Go.ChangeAt Go.RowKit
set_option linter.unusedVariables false
set_option linter.unusedSimpArgs false

set_option maxHeartbeats 16000000 in
set_option maxRecDepth 100000 in
theorem walk_FnTermSwap (v : Value) (bs : List Int) (w : World) (h : RBytes w w.heap.size v bs) :
    Calls Try.prog 3 #[v] w fun e w' => e = .returned (.bool true) ∧ Below w.heap.size w w' := by
  have HW := Lib.hid h
  obtain ⟨A, c, rfl, hc1, hc2, -⟩ := h
  rw [maxLen_eq] at hc2
  by_cases hl : 1048576 < bs.length
  · go_enter Try.func3, Try.ntmps3
    go_wp2
    go_ret
    exact ⟨rfl, Below.refl _ _⟩
  go_enter Try.func3, Try.ntmps3
  go_wp2_with fail
  refine (drawTermSwap_any _ bs _ HW.out).mono ?_
  rintro e w1 ⟨sv, ⟨sorts, rows⟩, vv, vars, tv, t, a, xv, xs, rfl, ⟨u, rfl, ho⟩, hov, hot, ⟨ad, ct, rfl⟩, hoo, hs1, hs2, hs3, hs4, hs5, hs6, hb1⟩
  simp only at hs1 ho
  obtain ⟨Au, cu, rfl, -⟩ := ho.reads.form
  obtain ⟨Av, cv, rfl, -⟩ := own_reads hov
  obtain ⟨Ao, co, rfl, -⟩ := own_reads hoo
  have hal := below_alloc w1 (.cells #[.int .i64 sorts, .slice Au rows.length cu] 25)
  have hbx := box_cells w1 (.int .i64 sorts) (.slice Au rows.length cu) 25
  have HS2 := Lib.hid (show RSig (w1.alloc (.cells #[.int .i64 sorts, .slice Au rows.length cu] 25)) (.agg #[.int .i64 sorts, .slice Au rows.length cu]) ⟨sorts, rows⟩ from ⟨_, rfl, ho.reads.keep hal⟩)
  have HV2 := Lib.hid (hov.keep hal).reads
  have HT2 := Lib.hid (hot.keep hal).reads
  have HO2 := Lib.hid (hoo.keep hal).reads
  have HB2 := Lib.hid (hb1.trans (hal.mono hb1.size))
  generalize hW2 : w1.alloc (.cells #[.int .i64 sorts, .slice Au rows.length cu] 25) = w2 at HS2 HV2 HT2 HO2 HB2 hbx
  have f0 := hbx.1
  have f1 := hbx.2
  have HSM := Lib.hid hs6
  have HST := Lib.hid hs4
  obtain ⟨uu, ok, hpm⟩ : ∃ uu ok, swapM ⟨sorts, rows⟩ vars t a xs = (uu, ok) := ⟨_, _, rfl⟩
  have HPM := Lib.hid hpm
  clear ho hov hot hoo hb1 hal hbx hs6 hs4 hpm
  go_wp2_with fail
  clear hW2
  refine (termSwap_any ⟨sorts, rows⟩ vars t a xs _ _ _ _ _ HST.out HSM.out HS2.out HV2.out HT2.out HO2.out).mono ?_
  rw [HPM.out]
  rintro e w3 ⟨uv, rfl, hou, hb3⟩
  simp only at hou ⊢
  obtain ⟨Ap, cp, rfl, -⟩ := own_reads hou
  have HU3 := Lib.hid hou.reads
  have HB3 := Lib.hid hb3
  have g0 := cell_keep hb3 f0
  have g1 := cell_keep hb3 f1
  clear hou hb3 f0 f1
  go_wp2_with fail
  refine (specTermSwap_any ⟨sorts, rows⟩ vars t a xs _ _ _ _ _ (HS2.out.keep HB3.out) (HV2.out.keep HB3.out) (HT2.out.keep HB3.out) (HO2.out.keep HB3.out)).mono ?_
  rw [HPM.out]
  rintro e w4 ⟨ux, rfl, hox, hb4⟩
  simp only at hox ⊢
  obtain ⟨Ax, cx, rfl, -⟩ := own_reads hox
  have HX4 := Lib.hid hox.reads
  have HU4 := Lib.hid (HU3.out.keep hb4)
  have HB4 := Lib.hid (fit_keep HB3.out hb4)
  have k0 := cell_keep hb4 g0
  have k1 := cell_keep hb4 g1
  clear hox hb4 g0 g1
  go_wp2_with fail
  refine (sameInts_is _ _ _ _ _ true (by unfold sameI; simp) HU4.out HX4.out).mono ?_
  rintro e w5 ⟨rfl, hd5⟩
  have HB5 := Lib.hid (fit_keep HB4.out hd5.below)
  have HU5 := Lib.hid (HU4.out.keep hd5.below)
  have m0 := cell_keep hd5.below k0
  have m1 := cell_keep hd5.below k1
  have hqb : (ok != ok) = false := by simp
  clear hd5 k0 k1
  cases hok : ok with
  | false =>
    have hnil : uu = [] := by
      have h1 := HPM.out
      unfold swapM at h1
      split at h1
      · rw [hok] at h1; cases h1
      · injection h1 with h1 _; exact h1.symm
    subst hnil
    subst hok
    clear m0 m1
    go_wp2_with fail
    refine (alive_any _).mono ?_
    rintro e w7 ⟨rfl, hb7⟩
    have HB7 := Lib.hid (HB2.out.trans ((fit_keep HB5.out hb7).mono HB2.out.size))
    clear hb7
    go_wp2
    go_ret
    exact ⟨rfl, HB7.out⟩
  | true =>
    subst hok
    have HOK := Lib.hid (swap_back (s := ⟨sorts, rows⟩) (vars := vars) (t := t) (u := xs) (a := a) (by rw [HPM.out]))
    have HUU := Lib.hid (show uu = swapRow ⟨sorts, rows⟩ vars t a xs by have := HOK.out.1; rw [HPM.out] at this; injection this)
    have HXA := Lib.hid (show atM ⟨sorts, rows⟩ vars uu a = xs by rw [HUU.out]; exact HOK.out.2.1)
    have HXB := Lib.hid (show swapM ⟨sorts, rows⟩ vars uu a (atM ⟨sorts, rows⟩ vars t a) = (t, true) by rw [HUU.out]; exact HOK.out.2.2.1)
    have HSU := Lib.hid (show Small uu by rw [HUU.out]; exact swap_small HST.out HSM.out)
    obtain ⟨srt, hsrt⟩ : ∃ srt, sortM ⟨sorts, rows⟩ vars t = srt := ⟨_, rfl⟩
    have HSO := Lib.hid (show sortM ⟨sorts, rows⟩ vars uu = srt by rw [HUU.out, HOK.out.2.2.2, hsrt])
    have HSV := Lib.hid hsrt
    have hvv : (srt == srt) = true := by simp
    clear hsrt
    have HSA := Lib.hid (at_small (s := ⟨sorts, rows⟩) (vars := vars) (a := a) HST.out)
    obtain ⟨pt, hpt⟩ : ∃ pt, atM ⟨sorts, rows⟩ vars t a = pt := ⟨_, rfl⟩
    rw [hpt] at HXB HSA
    have HAT := Lib.hid hpt
    clear hpt
    go_wp2_with fail
    have ea := World.new_ne w5 _ m0
    go_region_held3 (fun w' => w'.cell? ⟨w1.heap.size, 0, none⟩ = some (.int .i64 sorts) ∧ w'.cell? ⟨w1.heap.size, 1, none⟩ = some (.slice Au rows.length cu)) (first | exact ⟨j0, j1⟩ | exact ⟨i0, i1⟩ | go_keep)
      (first
        | (go_at_call 14; refine (termAt_any ⟨sorts, rows⟩ vars t a w5.drew _ _ _ HST.out (HS2.out.keep (bel_drew HB5.out)) (HV2.out.keep (bel_drew HB5.out)) (HT2.out.keep (bel_drew HB5.out))).mono ?_; rw [HAT.out]; rintro e w6 ⟨pv, rfl, hop, hb6⟩; obtain ⟨Aq, cq, rfl, -⟩ := own_reads hop; have HP6 := Lib.hid hop.reads; have hx6 := (show Below w5.heap.size w5 w6 from bel_undrew hb6); have HB6 := Lib.hid (fit_keep HB5.out hx6); have HU6 := Lib.hid (HU5.out.keep hx6); have j0 := cell_keep hx6 m0; have j1 := cell_keep hx6 m1; clear hop hb6 hx6)
        | (go_at_call 10; refine (termSwap_any ⟨sorts, rows⟩ vars uu a pt w6 _ _ _ _ HSU.out HSA.out (HS2.out.keep HB6.out) (HV2.out.keep HB6.out) HU6.out HP6.out).mono ?_; rw [HXB.out]; rintro e w7 ⟨bv, rfl, hob, hb7⟩; simp only at hob ⊢; obtain ⟨Ab, cb, rfl, -⟩ := own_reads hob; have HK7 := Lib.hid hob.reads; have HB7 := Lib.hid (fit_keep HB6.out hb7); have HU7 := Lib.hid (HU6.out.keep hb7); have i0 := cell_keep hb7 j0; have i1 := cell_keep hb7 j1; clear hob hb7))
    clear m0 m1 j0 j1 ea
    go_wp2_with fail
    have ea := World.new_ne w7 _ i0
    go_region_held3 (fun w' => w'.cell? ⟨w1.heap.size, 0, none⟩ = some (.int .i64 sorts) ∧ w'.cell? ⟨w1.heap.size, 1, none⟩ = some (.slice Au rows.length cu)) (first | exact ⟨m0, m1⟩ | exact ⟨n0, n1⟩ | exact ⟨k0, k1⟩ | exact ⟨l0, l1⟩ | exact ⟨q0, q1⟩ | go_keep)
      (first
        | (go_at_call 14; refine (termAt_any ⟨sorts, rows⟩ vars uu a w7.drew _ _ _ HSU.out (HS2.out.keep (bel_drew HB7.out)) (HV2.out.keep (bel_drew HB7.out)) (HU7.out.keep (bel_drew (Below.refl _ _)))).mono ?_; rw [HXA.out]; rintro e w8 ⟨zv, rfl, hoz, hb8⟩; obtain ⟨Az, cz, rfl, -⟩ := own_reads hoz; have HZ8 := Lib.hid hoz.reads; have hx8 := (show Below w7.heap.size w7 w8 from bel_undrew hb8); have HB8 := Lib.hid (fit_keep HB7.out hx8); have HU8 := Lib.hid (HU7.out.keep hx8); have HK8 := Lib.hid (HK7.out.keep hx8); have m0 := cell_keep hx8 i0; have m1 := cell_keep hx8 i1; clear hoz hb8 hx8)
        | (go_at_call_of 12 (Value.slice Ao xs.length co); refine (sameInts_is _ _ xs xs w8 true (by unfold sameI; simp) HZ8.out (HO2.out.keep HB8.out)).mono ?_; rintro e w9 ⟨rfl, hd9⟩; have HB9 := Lib.hid (fit_keep HB8.out hd9.below); have HU9 := Lib.hid (HU8.out.keep hd9.below); have HK9 := Lib.hid (HK8.out.keep hd9.below); have n0 := cell_keep hd9.below m0; have n1 := cell_keep hd9.below m1; clear hd9)
        | (go_at_call 12; refine (sameInts_is _ _ t t w9 true (by unfold sameI; simp) HK9.out (HT2.out.keep HB9.out)).mono ?_; rintro e w10 ⟨rfl, hd10⟩; have HB10 := Lib.hid (fit_keep HB9.out hd10.below); have HU10 := Lib.hid (HU9.out.keep hd10.below); have k0 := cell_keep hd10.below n0; have k1 := cell_keep hd10.below n1; clear hd10)
        | (go_at_call_of 15 (Value.slice Ap uu.length cp); refine (termSort_any ⟨sorts, rows⟩ vars uu w10 _ _ _ HSU.out (HS2.out.keep HB10.out) (HV2.out.keep HB10.out) HU10.out).mono ?_; rw [HSO.out]; rintro e w11 ⟨rfl, hb11⟩; have HB11 := Lib.hid (fit_keep HB10.out hb11); have l0 := cell_keep hb11 k0; have l1 := cell_keep hb11 k1; clear hb11)
        | (go_at_call 15; refine (termSort_any ⟨sorts, rows⟩ vars t w11 _ _ _ HST.out (HS2.out.keep HB11.out) (HV2.out.keep HB11.out) (HT2.out.keep HB11.out)).mono ?_; rw [HSV.out]; rintro e w12 ⟨rfl, hb12⟩; have HB12 := Lib.hid (fit_keep HB11.out hb12); have q0 := cell_keep hb12 l0; have q1 := cell_keep hb12 l1; clear hb12))
    clear i0 i1 m0 m1 n0 n1 k0 k1 l0 l1 q0 q1 ea
    have HBE := Lib.hid (HB2.out.trans (HB12.out.mono HB2.out.size))
    go_wp2
    go_ret
    exact ⟨rfl, HBE.out⟩

set_option maxRecDepth 100000 in
theorem lifted_FnTermSwap (os : Os) (started : os.Started) (H : Type) (enc : TypeId × Value → H) :
    ReturnsInHanded {} Try.checked os 3 .any (Rows.fnTermSwapSpec.pre6 enc Try.prog Try.f3 Rows.fnTermSwapRow.domain false) (Rows.fnTermSwapSpec.post enc Try.prog Try.f3 false true false false) := by
  refine returnsInHanded_of_change (C := Try.checked) own started (by kernel_rfl) Try.func3
    (ChangeSpec.witness6 (enc := enc) (C := Try.checked) false ⟨#[], #[.slice none 0 0], []⟩ 8 (by kernel_rfl) (by kernel_rfl) (by kernel_rfl) (by kernel_rfl)) ?_
  intro W base args ds gs before hval0 hW hcnd _
  have hval : ∀ (j : Nat) t v, Try.f3.params[j]? = some t → args[j]? = some v → Value.okWide Try.prog W .any base t v := hval0
  have hW' := hW
  obtain ⟨p, q, hA0, hV, rfl, hfz, hnd⟩ := hW
  have hA : DataW.TrodAll enc Try.prog W 0 (fun _ => true) true Try.f3.params.toList args.toList ds p := hA0
  rw [Try.params3] at hA hval
  obtain ⟨v0, vs0, d0, ds0, p0, q0, hargs, rfl, rfl, h0, r0⟩ := trodAll_cons hA
  obtain ⟨rfl, rfl, rfl⟩ := trodAll_nil r0
  obtain rfl : args = #[v0] := by cases args; simp_all
  obtain ⟨rfl, rfl⟩ := trodVars_none hV
  obtain ⟨a0, len0, cap0, rfl⟩ := okWide_slice Try.underlying22 (hval 0 22 v0 rfl rfl)
  have k0 := h0
  have lt0 : ∀ x ∈ p0, x.block < W.heap.size := by obtain ⟨m, hm⟩ := k0; exact DataW.trod_lt m _ _ _ hm
  obtain ⟨bs, w0⟩ : ∃ bs, RBytes W W.heap.size (.slice a0 len0 cap0) bs := by
    obtain ⟨fuel, hf⟩ := h0
    rcases open_ints Try.underlying22 Try.underlying5 (by kernel_rfl) hf with ⟨hcs, _⟩ | ⟨x, l, c, zs, hcs, _, hl, hm, hz, _, hcell, hwz⟩
    · simp [Value.cells] at hcs
      obtain ⟨rfl, rfl, rfl⟩ := hcs
      exact ⟨[], bytes_nil _ _⟩
    · simp [Value.cells] at hcs
      obtain ⟨rfl, rfl, rfl⟩ := hcs
      exact ⟨_, bytes_of hl hm (by simpa using hz) hcell hwz⟩
  clear hA0 hval0
  refine (walk_FnTermSwap _ bs W w0).mono fun e W' ⟨he, bel⟩ => ?_
  subst he
  exact ⟨_, rfl, _, _, _, [], _, [], hW', trodAll_mk1 (shut_bool Try.underlying4 _), (trodAll_cons_mk (Below.trod laidOut (by kernel_rfl) (of_decide_eq_true (by kernel_rfl)) k0 bel lt0) trodAll_mk0), rfl, bel.frame _, fun h => by cases h⟩

theorem over_FnTermSwap : Rows.fnTermSwapRow.holds Try.pinned (OpenSpec.ofChange Rows.fnTermSwapSpec) :=
  OpenClaim.holds_of_wide 3 Try.f3 rfl rfl rfl rfl rfl rfl rfl ⟨rfl, rfl, rfl, rfl, rfl⟩ rfl rfl rfl rfl rfl (by kernel_rfl) Try.func3 (by kernel_rfl)
    (of_decide_eq_true (by kernel_rfl)) (by unfold Func.isWrapper; first | (rw [if_pos (by decide +kernel)]; kernel_rfl) | (rw [if_neg (by decide +kernel)]; exact ⟨rfl, rfl⟩))
    (fun os started H enc _ => lifted_FnTermSwap os started H enc)

theorem proved_FnTermSwap : Rows.FnTermSwapSaid := over_FnTermSwap
end Go.Proofs.Ytcbjfedhebeogac
