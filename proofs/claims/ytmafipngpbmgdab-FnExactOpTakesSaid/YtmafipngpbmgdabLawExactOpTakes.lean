/- FnExactOpTakes answers true at every signature and number. No condition. -/
import Derived.Test.YtmafipngpbmgdabExBase
import Derived.Test.YtmafipngpbmgdabTakes2
import Derived.Test.YtmafipngpbmgdabMark
namespace Go.Proofs.Ytmafipngpbmgdab
open Go.ChangeShapes Go.WideShapes Go.ChangeAt Go.RowKit
set_option linter.unusedVariables false

theorem sameI_self (xs : List Int) : sameI xs xs = true := by unfold sameI; simp

/-- what is kept from call to call: the two variables (blocks w.heap.size and b7), the model's answer and the program's -/
structure ExAt (w wi : World) (b7 : Nat) (a0 a1 x0 x1 : Value) : Prop where
  bel : Below w.heap.size w wi
  c0 : wi.cell? ⟨w.heap.size, 0, none⟩ = some a0
  c1 : wi.cell? ⟨w.heap.size, 1, none⟩ = some a1
  d0 : wi.cell? ⟨b7, 0, none⟩ = some x0
  d1 : wi.cell? ⟨b7, 1, none⟩ = some x1
  lt : w.heap.size < b7
theorem ExAt.sz {w wi : World} {b7 : Nat} {a0 a1 x0 x1 : Value} (h : ExAt w wi b7 a0 a1 x0 x1) : b7 < wi.heap.size := World.block_lt_of_cell? wi _ h.d0
theorem ExAt.keep {w wi wj : World} {b7 : Nat} {a0 a1 x0 x1 : Value} (h : ExAt w wi b7 a0 a1 x0 x1) (hb : Below wi.heap.size wi wj) : ExAt w wj b7 a0 a1 x0 x1 :=
  ⟨h.bel.trans (hb.mono h.bel.size), cell_keep hb h.c0, cell_keep hb h.c1, cell_keep hb h.d0, cell_keep hb h.d1, h.lt⟩
theorem ExAt.outside {w wi wj : World} {b7 B M : Nat} {a0 a1 x0 x1 : Value} (h : ExAt w wi b7 a0 a1 x0 x1) (ho : Outside B M wi wj) (hB : w.heap.size < B) (hM : M ≤ b7) : ExAt w wj b7 a0 a1 x0 x1 :=
  ⟨h.bel.trans (ho.below.mono (by omega)), (World.cell?_of_block (ho.block _ (.inl hB))).trans h.c0, (World.cell?_of_block (ho.block _ (.inl hB))).trans h.c1,
    (World.cell?_of_block (ho.block _ (.inr hM))).trans h.d0, (World.cell?_of_block (ho.block _ (.inr hM))).trans h.d1, h.lt⟩
theorem ExAt.grown {w wi wj : World} {b7 : Nat} {a0 a1 x0 x1 : Value} {row : Option Nat} (h : ExAt w wi b7 a0 a1 x0 x1) (hg : wi.grownBy wj row) (hr : ∀ k, row = some k → b7 < k) : ExAt w wj b7 a0 a1 x0 x1 := by
  have hl := h.lt
  have hs := h.sz
  refine ⟨h.bel.grown hg h.bel.size (fun k e => by have := hr k e; omega), ?_, ?_, ?_, ?_, h.lt⟩
  · exact (World.cell?_of_block (hg.block w.heap.size (by omega) (fun e => by have := hr w.heap.size e.symm; omega))).trans h.c0
  · exact (World.cell?_of_block (hg.block w.heap.size (by omega) (fun e => by have := hr w.heap.size e.symm; omega))).trans h.c1
  · exact (World.cell?_of_block (hg.block b7 hs (fun e => by have := hr b7 e.symm; omega))).trans h.d0
  · exact (World.cell?_of_block (hg.block b7 hs (fun e => by have := hr b7 e.symm; omega))).trans h.d1

set_option maxHeartbeats 3200000 in
set_option maxRecDepth 100000 in
theorem walk_FnExactOpTakes (v : Value) (s : MSig) (op : Int) (w : World) (h : RSig w v s) :
    Calls Try.prog 4 #[v, .int .i64 op] w fun e w' => e = .returned (.bool true) ∧ Below w.heap.size w w' := by
  obtain ⟨u, rfl, hr⟩ := h
  obtain ⟨sorts, ops⟩ := s
  have hbA := below_alloc w (.cells #[.int .i64 sorts, u] 24)
  have HSW := Lib.hid (show RSig w (.agg #[.int .i64 sorts, u]) ⟨sorts, ops⟩ from ⟨u, rfl, hr⟩)
  have HX := Lib.hid (bx_cells w (.int .i64 sorts) u 24)
  have HA := Lib.hid hbA
  obtain ⟨A, c, rfl, -⟩ := hr.form
  clear hr hbA
  go_enter Try.func4, Try.ntmps4
  go_wp2_with fail
  refine (szSig_any _ ⟨sorts, ops⟩ _ _ (HSW.out.keep HA.out) (by omega) (by omega)).mono ?_
  rintro e w1 ⟨r, rfl, hr, hb1⟩
  have HB1 := Lib.hid (HA.out.trans (hb1.mono (by simp)))
  have f0 := cell_keep hb1 HX.out.1
  have f1 := cell_keep hb1 HX.out.2
  have s1 := hb1.size
  simp at s1
  clear hb1
  by_cases hneg : r < 0
  · clear hr
    go_wp2
    go_ret
    exact ⟨rfl, HB1.out⟩
  obtain ⟨-, -, hfit⟩ := hr.resolve_left hneg
  simp only at hfit
  have HFIT := Lib.hid hfit
  clear hr hfit
  go_wp2_with fail
  refine (toSig_any _ ⟨sorts, ops⟩ _ (HSW.out.keep HB1.out) HFIT.out).mono ?_
  rintro e w2 ⟨u2, rfl, ho2, hb2⟩
  have HO2 := Lib.hid ho2
  have HB2 := Lib.hid (HB1.out.trans (hb2.mono (by omega)))
  have g0 := cell_keep hb2 f0
  have g1 := cell_keep hb2 f1
  have s2 := hb2.size
  clear hb2 ho2 f0 f1
  go_wp2_with fail
  refine (specOpTakes_any _ ⟨sorts, ops⟩ op _ HO2.out.reads).mono ?_
  rintro e w3 ⟨u3, rfl, ho3, hb3⟩
  obtain ⟨A3, c3, rfl, -⟩ := ho3.reads.form
  have HO3 := Lib.hid ho3
  have HWL := Lib.hid (fun k (e : (Value.slice A3 (takesM ⟨sorts, ops⟩ op).length c3).ownBlock = some k) => (own_lt ho3 k e).2)
  have HB3 := Lib.hid (HB2.out.trans (hb3.mono (by omega)))
  have h0 := cell_keep hb3 g0
  have h1 := cell_keep hb3 g1
  have s3 := hb3.size
  clear hb3 g0 g1 HO2 ho3
  go_wp2_with fail
  refine (toSig_any _ ⟨sorts, ops⟩ _ (HSW.out.keep HB3.out) HFIT.out).mono ?_
  rintro e w4 ⟨u4, rfl, ho4', hb4⟩
  have ho4 := ho4'
  obtain ⟨x4, rfl, ho4⟩ := ho4
  simp only at ho4
  obtain ⟨A4, c4, rfl, -⟩ := ho4.reads.form
  have hb5 := below_alloc w4 (.cells #[.int .i64 sorts, .slice A4 ops.length c4] 27)
  have HO4 := Lib.hid ho4'
  have HX5 := Lib.hid (show RSig (w4.alloc (.cells #[.int .i64 sorts, .slice A4 ops.length c4] 27)) (.agg #[.int .i64 sorts, .slice A4 ops.length c4]) ⟨sorts, ops⟩ from ⟨_, rfl, ho4.reads.keep hb5⟩)
  have s4 := hb4.size
  have HW5 := Lib.hid (HO3.out.keep (hb4.trans (hb5.mono hb4.size)))
  have HE5 : Hid (ExAt w (w4.alloc (.cells #[.int .i64 sorts, .slice A4 ops.length c4] 27)) w4.heap.size (.int .i64 sorts) (.slice A ops.length c) (.int .i64 sorts) (.slice A4 ops.length c4)) :=
    ⟨HB3.out.trans ((hb4.trans (hb5.mono hb4.size)).mono (by omega)), cell_keep (hb4.trans (hb5.mono hb4.size)) h0, cell_keep (hb4.trans (hb5.mono hb4.size)) h1,
      (bx_cells w4 (.int .i64 sorts) (.slice A4 ops.length c4) 27).1, (bx_cells w4 (.int .i64 sorts) (.slice A4 ops.length c4) 27).2, by omega⟩
  clear hb4 hb5 ho4 ho4' h0 h1 HO3 HA HB1 HB2 HB3 HX
  go_wp2_with fail
  refine (opTakes_any _ ⟨sorts, ops⟩ op _ HX5.out).mono ?_
  rintro e w6 ⟨u6, rfl, ho6, -, hb6⟩
  have HSZ := Lib.hid hb6.size
  obtain ⟨A6, c6, rfl, -⟩ := ho6.reads.form
  have HE6 := Lib.hid (HE5.out.keep hb6)
  have HW6 := Lib.hid (HW5.out.keep hb6)
  have HX6 := Lib.hid (HX5.out.keep hb6)
  have HG6 := Lib.hid (show OInts w6 (w4.heap.size + 1) (.slice A6 (takesM ⟨sorts, ops⟩ op).length c6) (takesM ⟨sorts, ops⟩ op) from ho6.base (by simp))
  have HO46 := Lib.hid ((below_alloc w4 (.cells #[.int .i64 sorts, .slice A4 ops.length c4] 27)).trans (hb6.mono (by simp)))
  clear hb6 ho6 HE5 HW5 HX5
  have htk : (takesM ⟨sorts, ops⟩ op).length ≤ 1048576 := by
    cases hv : hasOpB ⟨sorts, ops⟩ op with
    | false => unfold takesM; rw [hv]; simp
    | true =>
      obtain ⟨k, rfl, hk, hval⟩ := hasOp_nat hv
      rw [takes_nat hv hk, List.length_dropLast]
      have := valid_row hval hk
      simp only at this ⊢
      omega
  generalize hgen : takesM ⟨sorts, ops⟩ op = tk at htk HW6 HG6 HWL ⊢
  have HTK := Lib.hid hgen
  clear hgen
  go_wp2_with fail
  refine (eqIntS_is _ _ tk tk _ true (sameI_self _) HG6.out.reads HW6.out.reads).mono ?_
  rintro e w7 ⟨rfl, hd7⟩
  have HE7 := Lib.hid (HE6.out.keep hd7.below)
  have HW7 := Lib.hid (HW6.out.keep hd7.below)
  have HG7 := Lib.hid (HG6.out.keep hd7.below)
  have HX7 := Lib.hid (HX6.out.keep hd7.below)
  have HO47 := Lib.hid (HO46.out.trans (hd7.below.mono HO46.out.size))
  clear hd7 HE6 HW6 HG6 HX6 HO46
  have HS7 := Lib.hid (HSW.out.keep HE7.out.bel)
  have m0 := HE7.out.c0
  have m1 := HE7.out.c1
  have n0 := HE7.out.d0
  have n1 := HE7.out.d1
  go_wp2_with fail
  have ea := World.new_ne w7 _ m0
  have eb := World.new_ne w7 _ n0
  go_region_held3 (fun w' => w'.cell? ⟨w.heap.size, 0, none⟩ = some (.int .i64 sorts) ∧ w'.cell? ⟨w.heap.size, 1, none⟩ = some (.slice A ops.length c) ∧ w'.cell? ⟨w4.heap.size, 0, none⟩ = some (.int .i64 sorts) ∧ w'.cell? ⟨w4.heap.size, 1, none⟩ = some (.slice A4 ops.length c4))
    (first | go_keep)
    (first
      | (go_at_call 10; refine (toSig_any _ ⟨sorts, ops⟩ w7.drew HS7.out HFIT.out).mono ?_; rintro e w8 ⟨u8, rfl, ho8, hb8⟩; have HO8 := Lib.hid ho8; have HB8 := Lib.hid (show Below w7.heap.size w7 w8 from below_undrew hb8); have HE8 := Lib.hid (HE7.out.keep HB8.out); have o0 := HE8.out.c0; have o1 := HE8.out.c1; have p0 := HE8.out.d0; have p1 := HE8.out.d1; clear ho8 hb8)
      | (go_at_call 12; refine (eqSig_is _ _ ⟨sorts, ops⟩ ⟨sorts, ops⟩ _ true (sameS_self _) (HX7.out.keep HB8.out) HO8.out.reads).mono ?_; rintro e w9 ⟨rfl, hb9⟩; have HB9 := Lib.hid (HB8.out.trans (hb9.mono HB8.out.size)); have HE9 := Lib.hid (HE8.out.keep hb9); have q0 := HE9.out.c0; have q1 := HE9.out.c1; have r0 := HE9.out.d0; have r1 := HE9.out.d1; clear hb9))
  have HW9 := Lib.hid (HW7.out.keep HB9.out)
  have HG9 := Lib.hid (HG7.out.keep HB9.out)
  have HO49 := Lib.hid (HO47.out.trans (HB9.out.mono HO47.out.size))
  clear m0 m1 n0 n1 ea eb o0 o1 p0 p1 HB8 HE7 HE8 HW7 HG7 HX7 HO47 HB9 HO8
  go_wp2_with fail
  refine (markSig_any _ w3.heap.size ⟨sorts, ops⟩ 1 w4 _ HO4.out HO49.out HFIT.out.1 HFIT.out.2 (by omega) (by omega)).mono ?_
  rintro e w10 ⟨k, rfl, hk0, hk1, ob, hout⟩
  have hal := below_alloc w9 ob
  have HE10 := Lib.hid ((HE9.out.keep hal).outside hout (by omega) (Nat.le_refl _))
  have HW10 := Lib.hid (own_outside (HW9.out.keep hal) hout (fun k e => .inl (HWL.out k e)))
  have HG10 := Lib.hid (own_outside (HG9.out.keep hal) hout (fun k e => .inr (by have := (own_lt HG9.out k e).1; omega)))
  clear hout hal HE9 HW9 HG9 HO49 q0 q1 r0 r1
  go_wp2_with fail
  refine (eqIntS_is _ _ tk tk _ true (sameI_self _) (OInts.reads HG10.out) (OInts.reads HW10.out)).mono ?_
  rintro e w11 ⟨rfl, hd11⟩
  have HE11 := Lib.hid (HE10.out.keep hd11.below)
  have HW11 := Lib.hid (own_keep HW10.out hd11.below)
  have HG11 := Lib.hid (own_keep HG10.out hd11.below)
  clear hd11 HE10 HW10 HG10
  go_wp2_with fail
  refine (markIntS_any _ (w4.heap.size + 1) tk 1 _ HG11.out htk (by omega) (by omega)).mono ?_
  rintro e w12 ⟨rfl, ho12, hg12, hz12⟩
  have HGL := Lib.hid (fun k e => (own_lt HG11.out k e).1)
  have HE12 := Lib.hid (HE11.out.grown hg12 (fun k e => by have := HGL.out k e; omega))
  have HW12 := Lib.hid (own_grown HW11.out hg12 (by
    cases hb : (Value.slice A3 tk.length c3).ownBlock with
    | none => exact .inl rfl
    | some k => right; intro e; have := HGL.out k e.symm; have := HWL.out k hb; omega))
  have HG12 := Lib.hid ho12
  clear ho12 hg12 hz12 HE11 HW11 HG11
  have em : ((1 : Int) + (tk.length : Int) != (1 : Int) + (tk.length : Int)) = false := by simp
  have htk0 : (0 : Int) ≤ (tk.length : Int) := by omega
  go_wp2_with fail
  refine (heldIntS_any _ tk.length 1 _ HG12.out.reads htk (by omega) (by omega)).mono ?_
  rintro e w13 ⟨rfl, hd13⟩
  have HE13 := Lib.hid (HE12.out.keep hd13.below)
  have HW13 := Lib.hid (own_keep HW12.out hd13.below)
  have HG13 := Lib.hid (HG12.out.keep hd13.below)
  have c13 := HE13.out.c0
  have c14 := HE13.out.c1
  clear hd13 HE12 HW12 HG12
  go_wp2_with fail
  refine (toSig_any _ ⟨sorts, ops⟩ _ (HSW.out.keep HE13.out.bel) HFIT.out).mono ?_
  rintro e w14 ⟨u14, rfl, ho14, hb14⟩
  have HO14 := Lib.hid ho14
  have HE14 := Lib.hid (HE13.out.keep hb14)
  have HW14 := Lib.hid (own_keep HW13.out hb14)
  have HG14 := Lib.hid (HG13.out.keep hb14)
  clear hb14 ho14 c13 c14 HE13 HW13 HG13
  go_wp2_with fail
  refine (opTakes_any _ ⟨sorts, ops⟩ op _ HO14.out.reads).mono ?_
  rw [HTK.out]
  rintro e w15 ⟨u15, rfl, ho15, -, hb15⟩
  obtain ⟨A15, c15, rfl, -⟩ := ho15.reads.form
  have HH15 := Lib.hid ho15.reads
  have HE15 := Lib.hid (HE14.out.keep hb15)
  have HW15 := Lib.hid (own_keep HW14.out hb15)
  have HG15 := Lib.hid (HG14.out.keep hb15)
  clear hb15 ho15 HE14 HW14 HG14 HO14
  go_wp2_with fail
  refine (eqIntS_is _ _ tk tk _ true (sameI_self _) HH15.out (OInts.reads HW15.out)).mono ?_
  rintro e w16 ⟨rfl, hd16⟩
  have HE16 := Lib.hid (HE15.out.keep hd16.below)
  have HG16 := Lib.hid (HG15.out.keep hd16.below)
  clear hd16 HE15 HW15 HG15 HH15
  go_wp2_with fail
  refine (heldIntS_any _ tk.length 1 _ HG16.out.reads htk (by omega) (by omega)).mono ?_
  rintro e w17 ⟨rfl, hd17⟩
  have HE17 := Lib.hid (HE16.out.keep hd17.below)
  clear hd17 HE16 HG16
  go_wp2
  go_ret
  exact ⟨rfl, HE17.out.bel⟩

set_option maxRecDepth 100000 in
theorem lifted_FnExactOpTakes (os : Os) (started : os.Started) (H : Type) (enc : TypeId × Value → H) :
    ReturnsInHanded {} Try.checked os 4 .any (Rows.fnExactOpTakesSpec.pre6 enc Try.prog Try.f4 Rows.fnExactOpTakesRow.domain false) (Rows.fnExactOpTakesSpec.post enc Try.prog Try.f4 false true false false) := by
  refine returnsInHanded_of_change (C := Try.checked) own started (by kernel_rfl) Try.func4
    (ChangeSpec.witness6 (enc := enc) (C := Try.checked) false ⟨#[], #[.agg #[.int .i64 0, .slice none 0 0], .int .i64 0], []⟩ 8 (by kernel_rfl) (by kernel_rfl) (by kernel_rfl) (by kernel_rfl)) ?_
  intro W base args ds gs before hval0 hW hcnd _
  have hval : ∀ (j : Nat) t v, Try.f4.params[j]? = some t → args[j]? = some v → Value.okWide Try.prog W .any base t v := hval0
  have hW' := hW
  obtain ⟨p, q, hA0, hV, rfl, hfz, hnd⟩ := hW
  have hA : DataW.TrodAll enc Try.prog W 0 (fun _ => true) true Try.f4.params.toList args.toList ds p := hA0
  rw [Try.params4] at hA hval
  obtain ⟨v0, vs0, d0, ds0, p0, q0, hargs, rfl, rfl, h0, r0⟩ := trodAll_cons hA
  obtain ⟨v1, vs1, d1, ds1, p1, q1, rfl, rfl, rfl, h1, r1⟩ := trodAll_cons r0
  obtain ⟨rfl, rfl, rfl⟩ := trodAll_nil r1
  obtain rfl : args = #[v0, v1] := by cases args; simp_all
  obtain ⟨rfl, rfl⟩ := trodVars_none hV
  have k0 := h0
  have lt0 : ∀ x ∈ p0, x.block < W.heap.size := by obtain ⟨m, hm⟩ := k0; exact DataW.trod_lt m _ _ _ hm
  obtain ⟨s0, w0⟩ : ∃ s, RSig W v0 s := sig_of (hval 0 24 v0 rfl rfl) h0
  have k1 := h1
  have lt1 : ∀ x ∈ p1, x.block < W.heap.size := by obtain ⟨m, hm⟩ := k1; exact DataW.trod_lt m _ _ _ hm
  obtain ⟨a1, w1⟩ : ∃ a, v1 = .int .i64 a := by obtain ⟨a, ha, _⟩ := open_int Try.underlying3 (hval 1 3 v1 rfl rfl) h1; exact ⟨a, ha⟩
  subst w1
  clear hA0 hval0
  refine (walk_FnExactOpTakes _ s0 a1 W w0).mono fun e W' ⟨he, bel⟩ => ?_
  subst he
  exact ⟨_, rfl, _, _, _, [], _, [], hW', trodAll_mk1 (shut_bool Try.underlying4 _), (trodAll_cons_mk (Below.trod laidOut (by kernel_rfl) (of_decide_eq_true (by kernel_rfl)) k0 bel lt0) (trodAll_cons_mk (Below.trod laidOut (by kernel_rfl) (of_decide_eq_true (by kernel_rfl)) k1 bel lt1) trodAll_mk0)), rfl, bel.frame _, fun h => by cases h⟩

theorem over_FnExactOpTakes : Rows.fnExactOpTakesRow.holds Try.pinned (OpenSpec.ofChange Rows.fnExactOpTakesSpec) :=
  OpenClaim.holds_of_wide 4 Try.f4 rfl rfl rfl rfl rfl rfl rfl ⟨rfl, rfl, rfl, rfl, rfl⟩ rfl rfl rfl rfl rfl (by kernel_rfl) Try.func4 (by kernel_rfl)
    (of_decide_eq_true (by kernel_rfl)) (by unfold Func.isWrapper; first | (rw [if_pos (by decide +kernel)]; kernel_rfl) | (rw [if_neg (by decide +kernel)]; exact ⟨rfl, rfl⟩))
    (fun os started H enc _ => lifted_FnExactOpTakes os started H enc)

theorem proved_FnExactOpTakes : Rows.FnExactOpTakesSaid := over_FnExactOpTakes
end Go.Proofs.Ytmafipngpbmgdab
