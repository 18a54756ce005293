/- FnSigPart answers true at every slice of bytes. No condition. -/
import Derived.Test.YtmafipngpbmgdaaFrame
import Derived.Test.YtmafipngpbmgdaaPart2
import Derived.Test.YtmafipngpbmgdaaSame
import Derived.Test.YtmafipngpbmgdaaDraw5
namespace Go.Proofs.Ytmafipngpbmgdaa
open Go.ChangeShapes Go.WideShapes Go.ChangeAt Go.RowKit
set_option linter.unusedVariables false

theorem belowB_mono {row : List Int} {a b : Int} (hab : a ≤ b) (h : belowB row a = true) : belowB row b = true := by
  unfold belowB at *
  simp only [List.all_eq_true, Bool.and_eq_true, decide_eq_true_eq] at *
  exact fun x hx => ⟨(h x hx).1, by have := (h x hx).2; omega⟩
theorem partM_eq {s : MSig} {k : Int} (hv : validB s = true) (h1 : 1 ≤ k) (h2 : k ≤ s.sorts) : partM s k = ⟨k, s.ops.filter fun row => belowB row k⟩ := by
  unfold partM; rw [if_pos (by simp [hv, h1, h2])]
theorem partM_valid {s : MSig} {k : Int} (hv : validB s = true) (h1 : 1 ≤ k) (h2 : k ≤ s.sorts) : validB (partM s k) = true := by
  rw [partM_eq hv h1 h2]
  have hs := valid_sorts hv
  unfold validB
  simp only [Bool.and_eq_true, decide_eq_true_eq, List.all_eq_true, List.mem_filter]
  refine ⟨⟨⟨h1, by omega⟩, Nat.le_trans (List.length_filter_le _ _) hs.2.2⟩, fun row hr => ?_⟩
  obtain ⟨i, hi, rfl⟩ := List.getElem_of_mem hr.1
  have := valid_row hv hi
  unfold rowB
  simp only [Bool.and_eq_true, decide_eq_true_eq]
  exact ⟨⟨this.1, this.2.1⟩, hr.2⟩
theorem partM_all {s : MSig} (hv : validB s = true) : partM s s.sorts = s := by
  have hs := valid_sorts hv
  rw [partM_eq hv hs.1 (Int.le_refl _)]
  obtain ⟨sorts, ops⟩ := s
  congr 1
  rw [List.filter_eq_self]
  intro row hr
  obtain ⟨i, hi, rfl⟩ := List.getElem_of_mem hr
  have := valid_row (s := ⟨sorts, ops⟩) hv hi
  unfold belowB
  simp only [List.all_eq_true, Bool.and_eq_true, decide_eq_true_eq]
  exact this.2.2
theorem partM_part {s : MSig} {k : Int} (hv : validB s = true) (h1 : 1 ≤ k) (h2 : k ≤ s.sorts) : partM (partM s k) 1 = partM s 1 := by
  have hp := partM_valid hv h1 h2
  rw [partM_eq hp (Int.le_refl _) (by rw [partM_eq hv h1 h2]; exact h1), partM_eq hv (Int.le_refl _) (by omega), partM_eq hv h1 h2]
  simp only
  congr 1
  rw [List.filter_filter]
  apply List.filter_congr
  intro row _
  rw [Bool.eq_iff_iff, Bool.and_eq_true]
  exact ⟨fun h => h.1, fun h => ⟨h, belowB_mono h1 h⟩⟩
theorem partM_bad {s : MSig} {k : Int} (h : ¬ (validB s = true ∧ 1 ≤ k ∧ k ≤ s.sorts)) : partM s k = ⟨0, []⟩ := by
  unfold partM; rw [if_neg]; intro hh; simp at hh; exact h ⟨hh.1, hh.2⟩

/-- what is kept from call to call: the two variables of the law -/
structure LawAt (w wi : World) (b3 b5 : Nat) (a0 a1 x0 x1 : Value) : Prop where
  bel : Below w.heap.size w wi
  c0 : wi.cell? ⟨b3, 0, none⟩ = some a0
  c1 : wi.cell? ⟨b3, 1, none⟩ = some a1
  d0 : wi.cell? ⟨b5, 0, none⟩ = some x0
  d1 : wi.cell? ⟨b5, 1, none⟩ = some x1
theorem LawAt.keep {w wi wj : World} {b3 b5 : Nat} {a0 a1 x0 x1 : Value} (h : LawAt w wi b3 b5 a0 a1 x0 x1) (hb : Below wi.heap.size wi wj) : LawAt w wj b3 b5 a0 a1 x0 x1 :=
  ⟨h.bel.trans (hb.mono h.bel.size), cell_keep hb h.c0, cell_keep hb h.c1, cell_keep hb h.d0, cell_keep hb h.d1⟩
theorem sameSig_is (v v' : Value) (a b : MSig) (w : World) (r : Bool) (hr : sameS a b = r) (h : RSig w v a) (h' : RSig w v' b) :
    Calls Try.prog 22 #[v, v'] w fun e w' => e = .returned (.bool r) ∧ Below w.heap.size w w' := by
  subst hr; exact sameSig_any v v' a b w h h'
theorem below_undrew' {w w' : World} (h : Below w.drew.heap.size w.drew w') : Below w.heap.size w w' := ⟨h.os, h.tape, h.output, h.size, h.block⟩

set_option maxHeartbeats 3200000 in
set_option maxRecDepth 100000 in
theorem walk_FnSigPart (v : Value) (bs : List Int) (w : World) (h : RBytes w w.heap.size v bs) :
    Calls Try.prog 7 #[v] w fun e w' => e = .returned (.bool true) ∧ Below w.heap.size w w' := by
  have HW := Lib.hid h
  obtain ⟨A, c, rfl, hc1, hc2, -⟩ := h
  rw [maxLen_eq] at hc2
  by_cases hl : 1048576 < bs.length
  · go_enter Try.func7, Try.ntmps7
    go_wp2
    go_ret
    exact ⟨rfl, Below.refl _ _⟩
  · go_enter Try.func7, Try.ntmps7
    go_wp2_with fail
    refine (drawSigPart_any _ bs _ HW.out).mono ?_
    rintro e w1 ⟨v, ⟨sorts, rows⟩, n, rfl, ⟨u, rfl, ho⟩, hs, hb1⟩
    have hrr := ho.reads
    obtain ⟨Au, cu, rfl, -⟩ := hrr.form
    have hal := below_alloc w1 (.cells #[.int .i64 sorts, .slice Au rows.length cu] 25)
    have HS2 := Lib.hid (show RSig (w1.alloc (.cells #[.int .i64 sorts, .slice Au rows.length cu] 25)) (.agg #[.int .i64 sorts, .slice Au rows.length cu]) ⟨sorts, rows⟩ from ⟨_, rfl, hrr.keep hal⟩)
    have hbx := Lib.hid (box_cells w1 (.int .i64 sorts) (.slice Au rows.length cu) 25)
    have HB2 := Lib.hid (hb1.trans (hal.mono hb1.size))
    clear ho hs hb1 hrr hal
    go_wp2_with fail
    refine (sigPart_any _ ⟨sorts, rows⟩ n _ HS2.out).mono ?_
    rintro e w3 ⟨u3, rfl, ⟨x3, rfl, ho3⟩, hb3⟩
    obtain ⟨Ax, cx, rfl, -⟩ := ho3.reads.form
    have hal := below_alloc w3 (.cells #[.int .i64 (partM ⟨sorts, rows⟩ n).sorts, .slice Ax (partM ⟨sorts, rows⟩ n).ops.length cx] 25)
    have HX4 := Lib.hid (show RSig (w3.alloc (.cells #[.int .i64 (partM ⟨sorts, rows⟩ n).sorts, .slice Ax (partM ⟨sorts, rows⟩ n).ops.length cx] 25)) (.agg #[.int .i64 (partM ⟨sorts, rows⟩ n).sorts, .slice Ax (partM ⟨sorts, rows⟩ n).ops.length cx]) (partM ⟨sorts, rows⟩ n) from ⟨_, rfl, ho3.reads.keep hal⟩)
    have hb4 := hb3.trans (hal.mono hb3.size)
    have HS4 := Lib.hid (HS2.out.keep hb4)
    have HE4 := Lib.hid (show LawAt w (w3.alloc (.cells #[.int .i64 (partM ⟨sorts, rows⟩ n).sorts, .slice Ax (partM ⟨sorts, rows⟩ n).ops.length cx] 25)) w1.heap.size w3.heap.size (.int .i64 sorts) (.slice Au rows.length cu) (.int .i64 (partM ⟨sorts, rows⟩ n).sorts) (.slice Ax (partM ⟨sorts, rows⟩ n).ops.length cx) from
      ⟨HB2.out.trans (hb4.mono HB2.out.size), cell_keep hb4 hbx.out.1, cell_keep hb4 hbx.out.2, (box_cells w3 _ _ _).1, (box_cells w3 _ _ _).2⟩)
    have HSZ := Lib.hid hb3.size
    clear hb3 hb4 ho3 hal HS2 HB2 hbx
    obtain ⟨xs, hxs⟩ : ∃ xs, xs = (partM ⟨sorts, rows⟩ n).sorts := ⟨_, rfl⟩
    obtain ⟨xn, hxn⟩ : ∃ xn, xn = (partM ⟨sorts, rows⟩ n).ops.length := ⟨_, rfl⟩
    rw [← hxs, ← hxn] at HX4 HS4 HE4
    rw [← hxs, ← hxn]
    have HXS := Lib.hid (And.intro hxs hxn)
    clear hxs hxn
    have m0 := HE4.out.c0
    have m1 := HE4.out.c1
    have n0 := HE4.out.d0
    have n1 := HE4.out.d1
    generalize hW4 : w3.alloc (.cells #[.int .i64 xs, .slice Ax xn cx] 25) = w4 at HX4 HS4 HE4 m0 m1 n0 n1
    go_wp2_with fail
    have HW4 := Lib.hid hW4
    clear hW4
    have ea := World.new_ne w4 _ m0
    have eb := World.new_ne w4 _ n0
    go_region_held3 (fun w' => w'.cell? ⟨w1.heap.size, 0, none⟩ = some (.int .i64 sorts) ∧ w'.cell? ⟨w1.heap.size, 1, none⟩ = some (.slice Au rows.length cu) ∧ w'.cell? ⟨w3.heap.size, 0, none⟩ = some (.int .i64 xs) ∧ w'.cell? ⟨w3.heap.size, 1, none⟩ = some (.slice Ax xn cx))
      (first | go_keep)
      (first
        | (go_at_call 25; refine (specSigPart_any _ ⟨sorts, rows⟩ n w4.drew HS4.out).mono ?_; rintro e w5 ⟨u5, rfl, ho5, hb5⟩; have HO5 := Lib.hid ho5.reads; have HB5 := Lib.hid (below_undrew' hb5); have HE5 := Lib.hid (HE4.out.keep HB5.out); clear ho5 hb5; have p0 := HE5.out.c0; have p1 := HE5.out.c1; have p2 := HE5.out.d0; have p3 := HE5.out.d1)
        | (go_at_call 22; refine (sameSig_is _ _ (partM ⟨sorts, rows⟩ n) (partM ⟨sorts, rows⟩ n) _ true (sameS_self _) (HX4.out.keep HB5.out) HO5.out).mono ?_; rintro e w6 ⟨rfl, hb6⟩; have HB6 := Lib.hid (HB5.out.trans (hb6.mono HB5.out.size)); have HE6 := Lib.hid (HE5.out.keep hb6); clear hb6; have q0 := HE6.out.c0; have q1 := HE6.out.c1; have q2 := HE6.out.d0; have q3 := HE6.out.d1))
    have HS6 := Lib.hid (HS4.out.keep HB6.out)
    have HX6 := Lib.hid (HX4.out.keep HB6.out)
    clear m0 m1 n0 n1 p0 p1 p2 p3 ea eb HS4 HX4 HE4 HE5 HO5 HB5
    by_cases hok : validB ⟨sorts, rows⟩ = true ∧ 1 ≤ n ∧ n ≤ sorts
    · have hpe := partM_eq hok.1 hok.2.1 hok.2.2
      have hpv := partM_valid hok.1 hok.2.1 hok.2.2
      have hpa := partM_all hok.1
      have hpp := partM_part hok.1 hok.2.1 hok.2.2
      have hx0 : xs = n := by rw [HXS.out.1, hpe]
      have e1 : (xs == 0) = false := by rw [beq_eq_false_iff_ne]; omega
      have HOK := Lib.hid hok
      have HM := Lib.hid (And.intro hpv (And.intro hpa hpp))
      simp only at HM
      clear hpe hpv hpa hpp hx0 hok
      go_wp2_with fail
      have ea := World.new_ne w6 _ q0
      have eb := World.new_ne w6 _ q2
      go_region_held3 (fun w' => w'.cell? ⟨w1.heap.size, 0, none⟩ = some (.int .i64 sorts) ∧ w'.cell? ⟨w1.heap.size, 1, none⟩ = some (.slice Au rows.length cu) ∧ w'.cell? ⟨w3.heap.size, 0, none⟩ = some (.int .i64 xs) ∧ w'.cell? ⟨w3.heap.size, 1, none⟩ = some (.slice Ax xn cx))
        (first | go_keep)
        (first
          | (go_at_call 9; refine (sigValid_any _ (partM ⟨sorts, rows⟩ n) w6.drew HX6.out).mono ?_; rw [HM.out.1]; rintro e w7 ⟨rfl, hb7⟩; have HB7 := Lib.hid (below_undrew' hb7); have HE7 := Lib.hid (HE6.out.keep HB7.out); clear hb7; have r0 := HE7.out.c0; have r1 := HE7.out.c1; have r2 := HE7.out.d0; have r3 := HE7.out.d1)
          | (go_at_call_of 23 (Value.slice Ax xn cx); refine (sigPart_any _ (partM ⟨sorts, rows⟩ n) 1 _ (HX6.out.keep HB9.out)).mono ?_; rw [HM.out.2.2]; rintro e wa ⟨ua, rfl, hoa, hba⟩; have HOA := Lib.hid hoa.reads; have HBA := Lib.hid (HB9.out.trans (hba.mono HB9.out.size)); have HEA := Lib.hid (HE9.out.keep hba); clear hoa hba; have ta := HEA.out.c0; have tb := HEA.out.c1; have tc := HEA.out.d0; have td := HEA.out.d1)
          | (go_at_call_of 23 (Value.int .i64 1); refine (sigPart_any _ ⟨sorts, rows⟩ 1 _ (HS6.out.keep HBA.out)).mono ?_; rintro e wb ⟨ub, rfl, hob, hbb⟩; have HOB := Lib.hid hob.reads; have HBB := Lib.hid hbb; have HEB := Lib.hid (HEA.out.keep hbb); clear hob hbb; have va := HEB.out.c0; have vb := HEB.out.c1; have vc := HEB.out.d0; have vd := HEB.out.d1)
          | (go_at_call 23; refine (sigPart_any _ ⟨sorts, rows⟩ sorts _ (HS6.out.keep HB7.out)).mono ?_; rw [HM.out.2.1]; rintro e w8 ⟨u8, rfl, ho8, hb8⟩; have HO8 := Lib.hid ho8.reads; have HB8 := Lib.hid (HB7.out.trans (hb8.mono HB7.out.size)); have HE8 := Lib.hid (HE7.out.keep hb8); clear ho8 hb8; have s0 := HE8.out.c0; have s1 := HE8.out.c1; have s2 := HE8.out.d0; have s3 := HE8.out.d1)
          | (go_at_call_of 22 (Value.slice Au rows.length cu); refine (sameSig_is _ _ ⟨sorts, rows⟩ ⟨sorts, rows⟩ _ true (sameS_self _) HO8.out (HS6.out.keep HB8.out)).mono ?_; rintro e w9 ⟨rfl, hb9⟩; have HB9 := Lib.hid (HB8.out.trans (hb9.mono HB8.out.size)); have HE9 := Lib.hid (HE8.out.keep hb9); clear hb9; have t0 := HE9.out.c0; have t1 := HE9.out.c1; have t2 := HE9.out.d0; have t3 := HE9.out.d1)
          | (go_at_call 22; refine (sameSig_is _ _ (partM ⟨sorts, rows⟩ 1) (partM ⟨sorts, rows⟩ 1) _ true (sameS_self _) (HOA.out.keep HBB.out) HOB.out).mono ?_; rintro e wc ⟨rfl, hbc⟩; have HEC := Lib.hid (HEB.out.keep hbc); clear hbc; have xa := HEC.out.c0; have xb := HEC.out.c1; have xc := HEC.out.d0; have xd := HEC.out.d1))
      clear q0 q1 q2 q3 r0 r1 r2 r3 s0 s1 s2 s3 t0 t1 t2 t3 ta tb tc td va vb vc vd xa xb xc xd ea eb
      go_wp2
      go_ret
      exact ⟨rfl, HEC.out.bel⟩
    · have HPB := Lib.hid (partM_bad (s := ⟨sorts, rows⟩) (k := n) (by simpa using hok))
      have e1 : (xs == 0) = true := by rw [beq_iff_eq, HXS.out.1, HPB.out]
      clear hok
      go_wp2_with fail
      refine (alive_any _).mono ?_
      rintro e w7 ⟨rfl, hb7⟩
      have HE7 := Lib.hid (HE6.out.keep hb7)
      clear hb7 q0 q1 q2 q3
      go_wp2
      go_ret
      exact ⟨rfl, HE7.out.bel⟩

set_option maxRecDepth 100000 in
theorem lifted_FnSigPart (os : Os) (started : os.Started) (H : Type) (enc : TypeId × Value → H) :
    ReturnsInHanded {} Try.checked os 7 .any (Rows.fnSigPartSpec.pre6 enc Try.prog Try.f7 Rows.fnSigPartRow.domain false) (Rows.fnSigPartSpec.post enc Try.prog Try.f7 false true false false) := by
  refine returnsInHanded_of_change (C := Try.checked) own started (by kernel_rfl) Try.func7
    (ChangeSpec.witness6 (enc := enc) (C := Try.checked) false ⟨#[], #[.slice none 0 0], []⟩ 8 (by kernel_rfl) (by kernel_rfl) (by kernel_rfl) (by kernel_rfl)) ?_
  intro W base args ds gs before hval0 hW hcnd _
  have hval : ∀ (j : Nat) t v, Try.f7.params[j]? = some t → args[j]? = some v → Value.okWide Try.prog W .any base t v := hval0
  have hW' := hW
  obtain ⟨p, q, hA0, hV, rfl, hfz, hnd⟩ := hW
  have hA : DataW.TrodAll enc Try.prog W 0 (fun _ => true) true Try.f7.params.toList args.toList ds p := hA0
  rw [Try.params7] at hA hval
  obtain ⟨v0, vs0, d0, ds0, p0, q0, hargs, rfl, rfl, h0, r0⟩ := trodAll_cons hA
  obtain ⟨rfl, rfl, rfl⟩ := trodAll_nil r0
  obtain rfl : args = #[v0] := by cases args; simp_all
  obtain ⟨rfl, rfl⟩ := trodVars_none hV
  obtain ⟨a0, len0, cap0, rfl⟩ := okWide_slice Try.underlying22 (hval 0 22 v0 rfl rfl)
  have k0 := h0
  have lt0 : ∀ x ∈ p0, x.block < W.heap.size := by obtain ⟨m, hm⟩ := k0; exact DataW.trod_lt m _ _ _ hm
  obtain ⟨bs, w0⟩ : ∃ bs, RBytes W W.heap.size (.slice a0 len0 cap0) bs := by
    obtain ⟨fuel, hf⟩ := h0
    rcases open_ints Try.underlying22 Try.underlying5 (by kernel_rfl) hf with ⟨hcs, _⟩ | ⟨x, l, c, zs, hcs, _, hl, hm, hz, _, hcell, hwz⟩
    · simp [Value.cells] at hcs
      obtain ⟨rfl, rfl, rfl⟩ := hcs
      exact ⟨[], bytes_nil _ _⟩
    · simp [Value.cells] at hcs
      obtain ⟨rfl, rfl, rfl⟩ := hcs
      exact ⟨_, bytes_of hl hm (by simpa using hz) hcell hwz⟩
  clear hA0 hval0
  refine (walk_FnSigPart _ bs W w0).mono fun e W' ⟨he, bel⟩ => ?_
  subst he
  exact ⟨_, rfl, _, _, _, [], _, [], hW', trodAll_mk1 (shut_bool Try.underlying4 _), (trodAll_cons_mk (Below.trod laidOut (by kernel_rfl) (of_decide_eq_true (by kernel_rfl)) k0 bel lt0) trodAll_mk0), rfl, bel.frame _, fun h => by cases h⟩

theorem over_FnSigPart : Rows.fnSigPartRow.holds Try.pinned (OpenSpec.ofChange Rows.fnSigPartSpec) :=
  OpenClaim.holds_of_wide 7 Try.f7 rfl rfl rfl rfl rfl rfl rfl ⟨rfl, rfl, rfl, rfl, rfl⟩ rfl rfl rfl rfl rfl (by kernel_rfl) Try.func7 (by kernel_rfl)
    (of_decide_eq_true (by kernel_rfl)) (by unfold Func.isWrapper; first | (rw [if_pos (by decide +kernel)]; kernel_rfl) | (rw [if_neg (by decide +kernel)]; exact ⟨rfl, rfl⟩))
    (fun os started H enc _ => lifted_FnSigPart os started H enc)

theorem proved_FnSigPart : Rows.FnSigPartSaid := over_FnSigPart
end Go.Proofs.Ytmafipngpbmgdaa
