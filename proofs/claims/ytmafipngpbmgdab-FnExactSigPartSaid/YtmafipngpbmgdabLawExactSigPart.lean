/- FnExactSigPart answers true at every signature and number. No condition. -/
import Derived.Test.YtmafipngpbmgdabExBase
import Derived.Test.YtmafipngpbmgdabPart2
import Derived.Test.YtmafipngpbmgdabCut
namespace Go.Proofs.Ytmafipngpbmgdab
open Go.ChangeShapes Go.WideShapes Go.ChangeAt Go.RowKit
set_option linter.unusedVariables false

theorem part_small {s : MSig} {k : Int} (h : Fits s.ops) : (partM s k).ops.length ≤ 1048576 ∧ ∀ row ∈ (partM s k).ops, row.length ≤ 1048576 := by
  unfold partM
  split
  · exact ⟨Nat.le_trans (List.length_filter_le _ _) h.1, fun row hr => h.2 row (List.mem_filter.1 hr).1⟩
  · exact ⟨by simp, by simp⟩

set_option maxHeartbeats 3200000 in
set_option maxRecDepth 100000 in
theorem walk_FnExactSigPart (v : Value) (s : MSig) (n : Int) (w : World) (h : RSig w v s) :
    Calls Try.prog 7 #[v, .int .i64 n] w fun e w' => e = .returned (.bool true) ∧ Below w.heap.size w w' := by
  obtain ⟨u, rfl, hr⟩ := h
  obtain ⟨sorts, ops⟩ := s
  have hbA := below_alloc w (.cells #[.int .i64 sorts, u] 24)
  have HSW := Lib.hid (show RSig w (.agg #[.int .i64 sorts, u]) ⟨sorts, ops⟩ from ⟨u, rfl, hr⟩)
  have HX := Lib.hid (bx_cells w (.int .i64 sorts) u 24)
  have HA := Lib.hid hbA
  obtain ⟨A, c, rfl, -⟩ := hr.form
  clear hr hbA
  go_enter Try.func7, Try.ntmps7
  go_wp2_with fail
  refine (szSig_any _ ⟨sorts, ops⟩ _ _ (HSW.out.keep HA.out) (by omega) (by omega)).mono ?_
  rintro e w1 ⟨r, rfl, hr, hb1⟩
  have HB1 := Lib.hid (HA.out.trans (hb1.mono (by simp)))
  have f0 := cell_keep hb1 HX.out.1
  have f1 := cell_keep hb1 HX.out.2
  have s1 := hb1.size
  simp at s1
  clear hb1
  by_cases hneg : r < 0
  · clear hr
    go_wp2
    go_ret
    exact ⟨rfl, HB1.out⟩
  obtain ⟨-, -, hfit⟩ := hr.resolve_left hneg
  simp only at hfit
  have HFIT := Lib.hid hfit
  have HSM := Lib.hid (part_small (s := ⟨sorts, ops⟩) (k := n) hfit)
  clear hr hfit
  go_wp2_with fail
  refine (toSig_any _ ⟨sorts, ops⟩ _ (HSW.out.keep HB1.out) HFIT.out).mono ?_
  rintro e w2 ⟨u2, rfl, ho2, hb2⟩
  have HO2 := Lib.hid ho2
  have HB2 := Lib.hid (HB1.out.trans (hb2.mono (by omega)))
  have g0 := cell_keep hb2 f0
  have g1 := cell_keep hb2 f1
  have s2 := hb2.size
  clear hb2 ho2 f0 f1
  go_wp2_with fail
  refine (specSigPart_any _ ⟨sorts, ops⟩ n _ HO2.out.reads).mono ?_
  rintro e w3 ⟨u3, rfl, ho3, hb3⟩
  generalize hgen : partM ⟨sorts, ops⟩ n = P at ho3 HSM
  have HP := Lib.hid hgen
  clear hgen
  obtain ⟨ps, pops⟩ := P
  obtain ⟨x3, rfl, ho3⟩ := ho3
  simp only at ho3
  obtain ⟨A3, c3, rfl, -⟩ := ho3.reads.form
  have hb3' := below_alloc w3 (.cells #[.int .i64 ps, .slice A3 pops.length c3] 27)
  have HR3 := Lib.hid (show RSig (w3.alloc (.cells #[.int .i64 ps, .slice A3 pops.length c3] 27)) (.agg #[.int .i64 ps, .slice A3 pops.length c3]) ⟨ps, pops⟩ from ⟨_, rfl, ho3.reads.keep hb3'⟩)
  have HX3 := Lib.hid (bx_cells w3 (.int .i64 ps) (.slice A3 pops.length c3) 27)
  have hb3w := hb3.trans (hb3'.mono hb3.size)
  have HB3 := Lib.hid (HB2.out.trans (hb3w.mono (by omega)))
  have HC3 := Lib.hid (And.intro (cell_keep hb3w g0) (cell_keep hb3w g1))
  have HS3 := Lib.hid (show (w3.alloc (.cells #[.int .i64 ps, .slice A3 pops.length c3] 27)).heap.size = w3.heap.size + 1 by simp)
  generalize hW3 : w3.alloc (.cells #[.int .i64 ps, .slice A3 pops.length c3] 27) = W3 at HR3 HX3 HB3 HC3 HS3
  have s3 := hb3.size
  have f0 := HC3.out.1
  have f1 := HC3.out.2
  clear hb3 hb3' hb3w ho3 g0 g1 HO2 HB1 HB2 HA HX
  go_wp2_with fail
  clear hW3
  refine (toSig_any _ ⟨sorts, ops⟩ _ (HSW.out.keep HB3.out) HFIT.out).mono ?_
  rintro e w4 ⟨u4, rfl, ho4', hb4⟩
  have ho4 := ho4'
  obtain ⟨x4, rfl, ho4⟩ := ho4
  simp only at ho4
  obtain ⟨A4, c4, rfl, -⟩ := ho4.reads.form
  have hb5 := below_alloc w4 (.cells #[.int .i64 sorts, .slice A4 ops.length c4] 27)
  have HO4 := Lib.hid ho4'
  have HB4 := Lib.hid hb4
  have HX5 := Lib.hid (show RSig (w4.alloc (.cells #[.int .i64 sorts, .slice A4 ops.length c4] 27)) (.agg #[.int .i64 sorts, .slice A4 ops.length c4]) ⟨sorts, ops⟩ from ⟨_, rfl, ho4.reads.keep hb5⟩)
  have HC5 := Lib.hid (bx_cells w4 (.int .i64 sorts) (.slice A4 ops.length c4) 27)
  have s4 := hb4.size
  have HB5 := Lib.hid (hb4.trans (hb5.mono hb4.size))
  have HBX := Lib.hid hb5
  have HS5 := Lib.hid (show (w4.alloc (.cells #[.int .i64 sorts, .slice A4 ops.length c4] 27)).heap.size = w4.heap.size + 1 by simp)
  generalize hW5 : w4.alloc (.cells #[.int .i64 sorts, .slice A4 ops.length c4] 27) = W5 at HX5 HC5 HB5 HBX HS5
  have f2 := HC5.out.1
  have f3 := HC5.out.2
  clear hb4 hb5 ho4 ho4' f0 f1
  go_wp2_with fail
  clear hW5
  refine (sigPart_any _ ⟨sorts, ops⟩ n _ HX5.out).mono ?_
  rintro e w6 ⟨u6, rfl, ho6', hb6⟩
  rw [HP.out] at ho6'
  have ho6 := ho6'
  obtain ⟨x6, rfl, ho6⟩ := ho6
  simp only at ho6
  obtain ⟨A6, c6, rfl, -⟩ := ho6.reads.form
  have hb7 := below_alloc w6 (.cells #[.int .i64 ps, .slice A6 pops.length c6] 27)
  have HO6 := Lib.hid ho6'
  have HO7 := Lib.hid (ho6'.keep hb7)
  have HX7 := Lib.hid (show RSig (w6.alloc (.cells #[.int .i64 ps, .slice A6 pops.length c6] 27)) (.agg #[.int .i64 ps, .slice A6 pops.length c6]) ⟨ps, pops⟩ from ⟨_, rfl, ho6.reads.keep hb7⟩)
  have HC7 := Lib.hid (bx_cells w6 (.int .i64 ps) (.slice A6 pops.length c6) 27)
  have s6 := hb6.size
  have HB7 := Lib.hid (hb6.trans (hb7.mono hb6.size))
  have HK7 := Lib.hid (fun k (h1 : W5.heap.size ≤ k) (h2 : k < w6.heap.size) => hb7.block k h2)
  have HS7 := Lib.hid (show (w6.alloc (.cells #[.int .i64 ps, .slice A6 pops.length c6] 27)).heap.size = w6.heap.size + 1 by simp)
  generalize hW7 : w6.alloc (.cells #[.int .i64 ps, .slice A6 pops.length c6] 27) = W7 at HX7 HC7 HB7 HK7 HS7 HO7
  have p0 := HC7.out.1
  have p1 := HC7.out.2
  have hB37 := HB5.out.trans (HB7.out.mono HB5.out.size)
  have p2 := cell_keep hB37 HX3.out.1
  have p3 := cell_keep hB37 HX3.out.2
  have HB37 := Lib.hid hB37
  clear hb6 hb7 ho6 ho6' f2 f3 hB37
  go_wp2_with fail
  clear hW7
  refine (eqSig_is _ _ ⟨ps, pops⟩ ⟨ps, pops⟩ _ true (sameS_self _) HX7.out (HR3.out.keep HB37.out)).mono ?_
  rintro e w8 ⟨rfl, hb8⟩
  have HB8 := Lib.hid hb8
  clear p0 p1 p2 p3 hb8
  have HB38 := Lib.hid (HB37.out.trans (HB8.out.mono HB37.out.size))
  have HB58 := Lib.hid (HB7.out.trans (HB8.out.mono HB7.out.size))
  have HX8 := Lib.hid (HX5.out.keep HB58.out)
  have HS8 := Lib.hid (HSW.out.keep (HB3.out.trans (HB38.out.mono HB3.out.size)))
  have m0 := cell_keep HB38.out HC3.out.1
  have m1 := cell_keep HB38.out HC3.out.2
  have n0 := cell_keep HB58.out HC5.out.1
  have n1 := cell_keep HB58.out HC5.out.2
  go_wp2_with fail
  have ea := World.new_ne w8 _ m0
  have eb := World.new_ne w8 _ n0
  go_region_held3 (fun w' => w'.cell? ⟨w.heap.size, 0, none⟩ = some (.int .i64 sorts) ∧ w'.cell? ⟨w.heap.size, 1, none⟩ = some (.slice A ops.length c) ∧ w'.cell? ⟨w4.heap.size, 0, none⟩ = some (.int .i64 sorts) ∧ w'.cell? ⟨w4.heap.size, 1, none⟩ = some (.slice A4 ops.length c4))
    (first | go_keep)
    (first
      | (go_at_call 10; refine (toSig_any _ ⟨sorts, ops⟩ w8.drew HS8.out HFIT.out).mono ?_; rintro e w9 ⟨u9, rfl, ho9, hb9⟩; have HO9 := Lib.hid ho9; have HB9 := Lib.hid (show Below w8.heap.size w8 w9 from below_undrew hb9); have o0 := cell_keep HB9.out m0; have o1 := cell_keep HB9.out m1; have p0 := cell_keep HB9.out n0; have p1 := cell_keep HB9.out n1; clear ho9 hb9)
      | (go_at_call 12; refine (eqSig_is _ _ ⟨sorts, ops⟩ ⟨sorts, ops⟩ _ true (sameS_self _) (HX8.out.keep HB9.out) HO9.out.reads).mono ?_; rintro e w10 ⟨rfl, hb10⟩; have HB10 := Lib.hid (HB9.out.trans (hb10.mono HB9.out.size)); have q0 := cell_keep hb10 o0; have q1 := cell_keep hb10 o1; have r0 := cell_keep hb10 p0; have r1 := cell_keep hb10 p1; clear hb10))
  have HB810 := HB10
  have HB310 := Lib.hid (HB38.out.trans (HB810.out.mono HB38.out.size))
  have HB410 := Lib.hid ((HBX.out.trans (HB58.out.mono HBX.out.size)).trans (HB810.out.mono (HBX.out.trans (HB58.out.mono HBX.out.size)).size))
  have HB710 := Lib.hid (HB8.out.trans (HB810.out.mono HB8.out.size))
  clear m0 m1 n0 n1 ea eb o0 o1 p0 p1 q0 q1 HB9 HO9 HX8 HS8 HX7 HB38 HB58
  go_wp2_with fail
  refine (markSigp_any _ W3.heap.size ⟨sorts, ops⟩ 1 w4 _ HO4.out HB410.out HFIT.out.1 HFIT.out.2 (by omega) (by omega)).mono ?_
  rintro e w11 ⟨rfl, -, ob, hout⟩
  have hal := below_alloc w10 ob
  have t3 := HB310.out.size
  have t4 := HB410.out.size
  have t5 := HB710.out.size
  have t6 := HS3.out
  have t7 := HS5.out
  have t8 := HS7.out
  have HB311 := Lib.hid ((HB310.out.trans (hal.mono t3)).trans hout.below)
  have HK11 := Lib.hid ((((Keeps.refl W5.heap.size W7).below (Nat.le_refl _) HB710.out).below t5 hal).outside hout (by omega))
  have HO11 := Lib.hid (HO7.out.same HK11.out)
  have p0 := HK11.out.cell (by omega) HC7.out.1
  have p1 := HK11.out.cell (by omega) HC7.out.2
  have p2 := cell_keep HB311.out HX3.out.1
  have p3 := cell_keep HB311.out HX3.out.2
  have t9 := hout.size
  simp at t9
  have ht0 : (0 : Int) ≤ (tot ops : Int) := by omega
  clear hal hout HB310 HB410 HB710 HB810 HX5 HC5 HO4 HB4 HBX
  go_wp2_with fail
  refine (eqSig_is _ _ ⟨ps, pops⟩ ⟨ps, pops⟩ _ true (sameS_self _) HO11.out.reads (HR3.out.keep HB311.out)).mono ?_
  rintro e w12 ⟨rfl, hb12⟩
  have t10 := hb12.size
  have HB312 := Lib.hid (HB311.out.trans (hb12.mono HB311.out.size))
  have HK12 := Lib.hid (HK11.out.below (by omega) hb12)
  clear hb12 p0 p1 p2 p3 HK11 HO11 HB311 ht0
  have p0 := HK12.out.cell (by omega) HC7.out.1
  have p1 := HK12.out.cell (by omega) HC7.out.2
  have t11 : w6.heap.size ≤ w12.heap.size := by omega
  have HCUT := Lib.hid (show OSig (cutTo w12 w6.heap.size) W5.heap.size (.agg #[.int .i64 ps, .slice A6 pops.length c6]) ⟨ps, pops⟩ from HO6.out.same (fun k h1 h2 => (cut_block h2).trans ((HK12.out k h1 (by omega)).trans (HK7.out k h1 h2))))
  go_wp2_with fail
  refine (markSigp_any _ W5.heap.size ⟨ps, pops⟩ 1 (cutTo w12 w6.heap.size) _ HCUT.out (cut_below t11) HSM.out.1 HSM.out.2 (by omega) (by omega)).mono ?_
  rintro e w13 ⟨rfl, ho13, ob2, hout⟩
  rw [cut_size t11] at hout
  have hal := below_alloc w12 ob2
  have HO13 := Lib.hid ho13
  have HB313 := Lib.hid ((HB312.out.trans (hal.mono HB312.out.size)).trans (hout.below.mono (by omega)))
  have HK13 := Lib.hid ((((Keeps.refl w6.heap.size w12).below (Nat.le_refl _) hal)).outside hout (Nat.le_refl _))
  clear p0 p1
  have p0 := HK13.out.cell (Nat.le_refl _) (HK12.out.cell (by omega) HC7.out.1)
  have p1 := HK13.out.cell (Nat.le_refl _) (HK12.out.cell (by omega) HC7.out.2)
  have em : ((1 : Int) + (tot pops : Int) != (1 : Int) + (tot pops : Int)) = false := by simp
  have ht0 : (0 : Int) ≤ (tot pops : Int) := by omega
  clear hal hout ho13 HCUT HK12 HB312
  go_wp2_with fail
  refine (heldSig_any _ ⟨ps, pops⟩ 1 _ HO13.out.reads HSM.out.1 HSM.out.2 (by omega) (by omega)).mono ?_
  rintro e w14 ⟨rfl, hb14⟩
  have HB314 := Lib.hid (HB313.out.trans (hb14.mono HB313.out.size))
  have HO14 := Lib.hid (HO13.out.keep hb14)
  have HP14 := Lib.hid (And.intro (cell_keep hb14 p0) (cell_keep hb14 p1))
  have m0 := cell_keep HB314.out HC3.out.1
  have m1 := cell_keep HB314.out HC3.out.2
  clear hb14 p0 p1 HB313 HO13
  go_wp2_with fail
  refine (toSig_any _ ⟨sorts, ops⟩ _ (HSW.out.keep (HB3.out.trans (HB314.out.mono HB3.out.size))) HFIT.out).mono ?_
  rintro e w15 ⟨u15, rfl, ho15, hb15⟩
  have HO15 := Lib.hid ho15
  have HB315 := Lib.hid (HB314.out.trans (hb15.mono HB314.out.size))
  have HO15g := Lib.hid (HO14.out.keep hb15)
  have HP15 := Lib.hid (And.intro (cell_keep hb15 HP14.out.1) (cell_keep hb15 HP14.out.2))
  clear hb15 ho15 m0 m1 HB314 HO14 HP14
  go_wp2_with fail
  refine (sigPart_any _ ⟨sorts, ops⟩ n _ HO15.out.reads).mono ?_
  rintro e w16 ⟨u16, rfl, ho16, hb16⟩
  rw [HP.out] at ho16
  obtain ⟨x16, rfl, ho16⟩ := ho16
  simp only at ho16
  obtain ⟨A16, c16, rfl, -⟩ := ho16.reads.form
  have hb17 := below_alloc w16 (.cells #[.int .i64 ps, .slice A16 pops.length c16] 27)
  have hb17' := hb16.trans (hb17.mono hb16.size)
  have HX17 := Lib.hid (show RSig (w16.alloc (.cells #[.int .i64 ps, .slice A16 pops.length c16] 27)) (.agg #[.int .i64 ps, .slice A16 pops.length c16]) ⟨ps, pops⟩ from ⟨_, rfl, ho16.reads.keep hb17⟩)
  have HC17 := Lib.hid (bx_cells w16 (.int .i64 ps) (.slice A16 pops.length c16) 27)
  have HB317 := Lib.hid (HB315.out.trans (hb17'.mono HB315.out.size))
  have HO17 := Lib.hid (HO15g.out.keep hb17')
  have HP17 := Lib.hid (And.intro (cell_keep hb17' HP15.out.1) (cell_keep hb17' HP15.out.2))
  generalize hW17 : w16.alloc (.cells #[.int .i64 ps, .slice A16 pops.length c16] 27) = W17 at HX17 HC17 HB317 HO17 HP17
  have p0 := HC17.out.1
  have p1 := HC17.out.2
  have p2 := cell_keep HB317.out HX3.out.1
  have p3 := cell_keep HB317.out HX3.out.2
  clear hb16 hb17 hb17' ho16 HB315 HO15g HO15 HP15
  go_wp2_with fail
  clear hW17
  refine (eqSig_is _ _ ⟨ps, pops⟩ ⟨ps, pops⟩ _ true (sameS_self _) HX17.out (HR3.out.keep HB317.out)).mono ?_
  rintro e w18 ⟨rfl, hb18⟩
  have HB318 := Lib.hid (HB317.out.trans (hb18.mono HB317.out.size))
  have HO18 := Lib.hid (HO17.out.keep hb18)
  have q0 := cell_keep hb18 HP17.out.1
  have q1 := cell_keep hb18 HP17.out.2
  clear hb18 p0 p1 p2 p3 HB317 HO17 HP17
  go_wp2_with fail
  refine (heldSig_any _ ⟨ps, pops⟩ 1 _ HO18.out.reads HSM.out.1 HSM.out.2 (by omega) (by omega)).mono ?_
  rintro e w19 ⟨rfl, hb19⟩
  have HB319 := Lib.hid (HB3.out.trans ((HB318.out.trans (hb19.mono HB318.out.size)).mono HB3.out.size))
  clear hb19 q0 q1
  go_wp2
  go_ret
  exact ⟨rfl, HB319.out⟩

set_option maxRecDepth 100000 in
theorem lifted_FnExactSigPart (os : Os) (started : os.Started) (H : Type) (enc : TypeId × Value → H) :
    ReturnsInHanded {} Try.checked os 7 .any (Rows.fnExactSigPartSpec.pre6 enc Try.prog Try.f7 Rows.fnExactSigPartRow.domain false) (Rows.fnExactSigPartSpec.post enc Try.prog Try.f7 false true false false) := by
  refine returnsInHanded_of_change (C := Try.checked) own started (by kernel_rfl) Try.func7
    (ChangeSpec.witness6 (enc := enc) (C := Try.checked) false ⟨#[], #[.agg #[.int .i64 0, .slice none 0 0], .int .i64 0], []⟩ 8 (by kernel_rfl) (by kernel_rfl) (by kernel_rfl) (by kernel_rfl)) ?_
  intro W base args ds gs before hval0 hW hcnd _
  have hval : ∀ (j : Nat) t v, Try.f7.params[j]? = some t → args[j]? = some v → Value.okWide Try.prog W .any base t v := hval0
  have hW' := hW
  obtain ⟨p, q, hA0, hV, rfl, hfz, hnd⟩ := hW
  have hA : DataW.TrodAll enc Try.prog W 0 (fun _ => true) true Try.f7.params.toList args.toList ds p := hA0
  rw [Try.params7] at hA hval
  obtain ⟨v0, vs0, d0, ds0, p0, q0, hargs, rfl, rfl, h0, r0⟩ := trodAll_cons hA
  obtain ⟨v1, vs1, d1, ds1, p1, q1, rfl, rfl, rfl, h1, r1⟩ := trodAll_cons r0
  obtain ⟨rfl, rfl, rfl⟩ := trodAll_nil r1
  obtain rfl : args = #[v0, v1] := by cases args; simp_all
  obtain ⟨rfl, rfl⟩ := trodVars_none hV
  have k0 := h0
  have lt0 : ∀ x ∈ p0, x.block < W.heap.size := by obtain ⟨m, hm⟩ := k0; exact DataW.trod_lt m _ _ _ hm
  obtain ⟨s0, w0⟩ : ∃ s, RSig W v0 s := sig_of (hval 0 24 v0 rfl rfl) h0
  have k1 := h1
  have lt1 : ∀ x ∈ p1, x.block < W.heap.size := by obtain ⟨m, hm⟩ := k1; exact DataW.trod_lt m _ _ _ hm
  obtain ⟨a1, w1⟩ : ∃ a, v1 = .int .i64 a := by obtain ⟨a, ha, _⟩ := open_int Try.underlying3 (hval 1 3 v1 rfl rfl) h1; exact ⟨a, ha⟩
  subst w1
  clear hA0 hval0
  refine (walk_FnExactSigPart _ s0 a1 W w0).mono fun e W' ⟨he, bel⟩ => ?_
  subst he
  exact ⟨_, rfl, _, _, _, [], _, [], hW', trodAll_mk1 (shut_bool Try.underlying4 _), (trodAll_cons_mk (Below.trod laidOut (by kernel_rfl) (of_decide_eq_true (by kernel_rfl)) k0 bel lt0) (trodAll_cons_mk (Below.trod laidOut (by kernel_rfl) (of_decide_eq_true (by kernel_rfl)) k1 bel lt1) trodAll_mk0)), rfl, bel.frame _, fun h => by cases h⟩

theorem over_FnExactSigPart : Rows.fnExactSigPartRow.holds Try.pinned (OpenSpec.ofChange Rows.fnExactSigPartSpec) :=
  OpenClaim.holds_of_wide 7 Try.f7 rfl rfl rfl rfl rfl rfl rfl ⟨rfl, rfl, rfl, rfl, rfl⟩ rfl rfl rfl rfl rfl (by kernel_rfl) Try.func7 (by kernel_rfl)
    (of_decide_eq_true (by kernel_rfl)) (by unfold Func.isWrapper; first | (rw [if_pos (by decide +kernel)]; kernel_rfl) | (rw [if_neg (by decide +kernel)]; exact ⟨rfl, rfl⟩))
    (fun os started H enc _ => lifted_FnExactSigPart os started H enc)

theorem proved_FnExactSigPart : Rows.FnExactSigPartSaid := over_FnExactSigPart
end Go.Proofs.Ytmafipngpbmgdab
