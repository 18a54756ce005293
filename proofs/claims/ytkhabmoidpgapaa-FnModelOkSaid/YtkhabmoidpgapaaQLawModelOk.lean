/- FnModelOk answers true at every slice of bytes. No condition. -/
import Derived.Test.YtkhabmoidpgapaaK9095994a
namespace Go.Proofs.Ytkhabmoidpgapaa
open Go.ChangeShapes Go.WideShapes Go.ChangeAt Go.RowKit
set_option linter.unusedVariables false
set_option linter.unusedSimpArgs false

set_option maxHeartbeats 1600000 in
set_option maxRecDepth 100000 in
theorem walk_FnModelOk (v : Value) (bs : List Int) (w : World) (h : RBytes w w.heap.size v bs) :
    Calls Try.prog 3 #[v] w fun e w' => e = .returned (.bool true) ∧ Below w.heap.size w w' := by
  have HW := Lib.hid h
  obtain ⟨A, c, rfl, hc1, hc2, -⟩ := h
  rw [maxLen_eq] at hc2
  by_cases hl : 1048576 < bs.length
  · go_enter Try.func3, Try.ntmps3
    go_wp2
    go_ret
    exact ⟨rfl, Below.refl _ _⟩
  · go_enter Try.func3, Try.ntmps3
    go_wp2_with fail
    refine (drawModelOk_any _ bs _ HW.out).mono ?_
    rintro e w1 ⟨v, v', s, m, rfl, os, om, hf, hb1⟩
    have HF := Lib.hid hf
    have HB1 := Lib.hid hb1
    have hh1 := os.reads
    have hh2 := om.reads
    clear hf hb1 os om
    obtain ⟨Asa, csa, rfl⟩ := hh1.form
    obtain ⟨Ama, cma, Amb, cmb, rfl⟩ := hh2.form
    have hb : Below w1.heap.size w1 ((w1.alloc (.cells #[.int .i64 s.sorts, .slice Asa s.ops.length csa] 25)).alloc (.cells #[.slice Ama m.sizes.length cma, .slice Amb m.tables.length cmb] 28)) := (below_alloc _ _).alloc (by simp) _
    have HB := Lib.hid hb
    have hsz : ((w1.alloc (.cells #[.int .i64 s.sorts, .slice Asa s.ops.length csa] 25)).alloc (.cells #[.slice Ama m.sizes.length cma, .slice Amb m.tables.length cmb] 28)).heap.size = w1.heap.size + 2 := by simp
    have Hs := Lib.hid (hh1.keep hb)
    have s0 := cell_keep (below_alloc (w1.alloc (.cells #[.int .i64 s.sorts, .slice Asa s.ops.length csa] 25)) (.cells #[.slice Ama m.sizes.length cma, .slice Amb m.tables.length cmb] 28)) (bx_at (w1) #[.int .i64 s.sorts, .slice Asa s.ops.length csa] 25 (k := 0) rfl)
    have s1 := cell_keep (below_alloc (w1.alloc (.cells #[.int .i64 s.sorts, .slice Asa s.ops.length csa] 25)) (.cells #[.slice Ama m.sizes.length cma, .slice Amb m.tables.length cmb] 28)) (bx_at (w1) #[.int .i64 s.sorts, .slice Asa s.ops.length csa] 25 (k := 1) rfl)
    have Hm := Lib.hid (hh2.keep hb)
    have m0 := bx_at (w1.alloc (.cells #[.int .i64 s.sorts, .slice Asa s.ops.length csa] 25)) #[.slice Ama m.sizes.length cma, .slice Amb m.tables.length cmb] 28 (k := 0) rfl
    have m1 := bx_at (w1.alloc (.cells #[.int .i64 s.sorts, .slice Asa s.ops.length csa] 25)) #[.slice Ama m.sizes.length cma, .slice Amb m.tables.length cmb] 28 (k := 1) rfl
    simp only [World.size_alloc] at m0 m1
    generalize hW : (w1.alloc (.cells #[.int .i64 s.sorts, .slice Asa s.ops.length csa] 25)).alloc (.cells #[.slice Ama m.sizes.length cma, .slice Amb m.tables.length cmb] 28) = W at HB hsz Hs s0 s1 Hm m0 m1
    clear hb hh1 hh2
    obtain ⟨b, hb⟩ : ∃ b, modelB s m = b := ⟨_, rfl⟩
    have HMB := Lib.hid hb
    obtain ⟨b2, hb2⟩ : ∃ b, validB s = b := ⟨_, rfl⟩
    have HVB := Lib.hid hb2
    have hbb : (b == b) = true := by simp
    have hbn : (b != b) = false := by simp
    have hbb2 : (b2 == b2) = true := by simp
    clear hb hb2 hsz
    go_wp2_with fail
    clear hW
    refine (modelOk_any s m _ _ _ Hs.out Hm.out).mono ?_
    rw [HMB.out]
    rintro e w3 ⟨rfl, hb⟩
    replace HB := Lib.hid (sz_keep HB.out hb)
    replace s0 := cell_keep hb s0
    replace s1 := cell_keep hb s1
    replace m0 := cell_keep hb m0
    replace m1 := cell_keep hb m1
    replace Hs := Lib.hid (Hs.out.keep hb)
    replace Hm := Lib.hid (Hm.out.keep hb)
    clear hb
    go_wp2_with fail
    refine (specModelOk_any s m _ _ _ Hs.out Hm.out).mono ?_
    rw [HMB.out]
    rintro e w4 ⟨rfl, hb⟩
    replace HB := Lib.hid (sz_keep HB.out hb)
    replace s0 := cell_keep hb s0
    replace s1 := cell_keep hb s1
    replace m0 := cell_keep hb m0
    replace m1 := cell_keep hb m1
    replace Hs := Lib.hid (Hs.out.keep hb)
    replace Hm := Lib.hid (Hm.out.keep hb)
    clear hb
    have HSM := Lib.hid (show modelB s (singleM s) = b2 by rw [single_model, HVB.out])
    obtain ⟨M, hM⟩ : ∃ M, singleM s = M := ⟨_, rfl⟩
    rw [hM] at HSM
    have HM := Lib.hid hM
    clear hM m0 m1
    go_wp2_with fail
    refine wp_region_held_drew (S := (fun w' => w'.cell? ⟨w1.heap.size, 0, none⟩ = some (.int .i64 s.sorts) ∧ w'.cell? ⟨w1.heap.size, 1, none⟩ = some (.slice Asa s.ops.length csa))) (by kernel_rfl) ?_ (fun hHeld => ?_)
    · exact ⟨s0, s1⟩
    refine wpAnyH_take (i := 0) (oi := _) (v := ?_) rfl (by kernel_rfl) (by kernel_rfl) (by kernel_rfl) (fun _ _ _ h => h) (Or.inl ⟨by rfl, ?_⟩) (by assumption) ?_
    rotate_left
    · first | (intro w' hSw; (try dsimp only at hSw); go_simp; done) | (intro w' hSw; (try dsimp only at hSw); go_simp; with_reducible rfl)
    try simp only [Act.put, List.getElem_toArray, List.getElem_cons_zero, List.getElem_cons_succ, List.setIfInBounds_toArray, List.set_cons_zero, List.set_cons_succ]
    refine wpAnyH_take (i := 1) (oi := _) (v := ?_) rfl (by kernel_rfl) (by kernel_rfl) (by kernel_rfl) (fun _ _ _ h => h) (Or.inl ⟨by rfl, ?_⟩) (by assumption) ?_
    rotate_left
    · first | (intro w' hSw; (try dsimp only at hSw); go_simp; done) | (intro w' hSw; (try dsimp only at hSw); go_simp; with_reducible rfl)
    try simp only [Act.put, List.getElem_toArray, List.getElem_cons_zero, List.getElem_cons_succ, List.setIfInBounds_toArray, List.set_cons_zero, List.set_cons_succ]
    refine wpAnyH_take (i := 4) (oi := _) (v := ?_) rfl (by kernel_rfl) (by kernel_rfl) (by kernel_rfl) (fun _ _ _ h => h) (Or.inl ⟨by rfl, ?_⟩) (by assumption) ?_
    rotate_left
    · first | (intro w' hSw; (try dsimp only at hSw); go_simp; done) | (intro w' hSw; (try dsimp only at hSw); go_simp; with_reducible rfl)
    try simp only [Act.put, List.getElem_toArray, List.getElem_cons_zero, List.getElem_cons_succ, List.setIfInBounds_toArray, List.set_cons_zero, List.set_cons_succ]
    refine wpAnyH_ready (rs := [2]) (by kernel_rfl) (by simp) ?_
    refine AllReadyH.cons (o := _) rfl (fun K hK => ?_) AllReadyH.nil
    go_simp
    refine (single_any s w4.drew _ (Hs.out.keep (map_drew (Below.refl _ _))) HF.out.so.2.1 (by have := HF.out.so; omega) (by have := HF.out.so; omega)).mono ?_
    rw [HM.out]
    rintro e w5 ⟨u5, rfl, o5, hb5⟩
    have hx := map_undrew hb5
    obtain ⟨B0, d0, B1, d1, rfl⟩ := o5.reads.form
    have R5 := Lib.hid o5.reads
    have HX := Lib.hid hx
    have t0 := cell_keep hx s0
    have t1 := cell_keep hx s1
    clear o5 hb5 hx
    go_wp2_with fail
    refine hK.out _ _ ?_ (fun hHeld => ?_)
    · exact ⟨t0, t1⟩
    clear hK K
    try simp only [Act.put, List.getElem_toArray, List.getElem_cons_zero, List.getElem_cons_succ, List.setIfInBounds_toArray, List.set_cons_zero, List.set_cons_succ]
    refine wpAnyH_ready (rs := [3]) (by kernel_rfl) (by simp) ?_
    refine AllReadyH.cons (o := _) rfl (fun K hK => ?_) AllReadyH.nil
    go_simp
    refine (modelOk_any s M w5 _ _ (Hs.out.keep HX.out) R5.out).mono ?_
    rw [HSM.out]
    rintro e w6 ⟨rfl, hb6⟩
    have HY := Lib.hid (sz_keep HX.out hb6)
    have q0 := cell_keep hb6 t0
    have q1 := cell_keep hb6 t1
    clear hb6
    go_wp2_with fail
    refine hK.out _ _ ?_ (fun hHeld => ?_)
    · exact ⟨q0, q1⟩
    clear hK K
    try simp only [Act.put, List.getElem_toArray, List.getElem_cons_zero, List.getElem_cons_succ, List.setIfInBounds_toArray, List.set_cons_zero, List.set_cons_succ]
    refine wpAnyH_ready (rs := [5]) (by kernel_rfl) (by simp) ?_
    refine AllReadyH.cons (o := _) rfl (fun K hK => ?_) AllReadyH.nil
    go_simp
    refine (sigValid_any _ s w6 (Hs.out.keep HY.out)).mono ?_
    rw [HVB.out]
    rintro e w7 ⟨rfl, hb7⟩
    have HZ := Lib.hid (sz_keep HY.out hb7)
    have r0 := cell_keep hb7 q0
    have r1 := cell_keep hb7 q1
    clear hb7
    go_wp2_with fail
    refine hK.out _ _ ?_ (fun hHeld => ?_)
    · exact ⟨r0, r1⟩
    clear hK K
    try simp only [Act.put, List.getElem_toArray, List.getElem_cons_zero, List.getElem_cons_succ, List.setIfInBounds_toArray, List.set_cons_zero, List.set_cons_succ]
    refine wpAnyH_take (i := 6) (oi := _) (v := ?_) rfl (by kernel_rfl) (by kernel_rfl) (by kernel_rfl) (fun _ _ _ h => h) (Or.inl ⟨by rfl, ?_⟩) (by assumption) ?_
    rotate_left
    · first | (intro w' hSw; (try dsimp only at hSw); go_simp; done) | (intro w' hSw; (try dsimp only at hSw); go_simp; with_reducible rfl)
    try simp only [Act.put, List.getElem_toArray, List.getElem_cons_zero, List.getElem_cons_succ, List.setIfInBounds_toArray, List.set_cons_zero, List.set_cons_succ]
    refine wpAnyH_take (i := 7) (oi := _) (v := ?_) rfl (by kernel_rfl) (by kernel_rfl) (by kernel_rfl) (fun _ _ _ h => h) (Or.inl ⟨by rfl, ?_⟩) (by assumption) ?_
    rotate_left
    · first | (intro w' hSw; (try dsimp only at hSw); go_simp; done) | (intro w' hSw; (try dsimp only at hSw); go_simp; with_reducible rfl)
    try simp only [Act.put, List.getElem_toArray, List.getElem_cons_zero, List.getElem_cons_succ, List.setIfInBounds_toArray, List.set_cons_zero, List.set_cons_succ]
    refine wpAnyH_ready (rs := [8]) (by kernel_rfl) (by simp) ?_
    refine AllReadyH.cons (o := _) rfl (fun K hK => ?_) AllReadyH.nil
    go_simp
    refine (alive_any w7).mono ?_
    rintro e w8 ⟨rfl, hb8⟩
    have HV := Lib.hid (sz_keep HZ.out hb8)
    have v0 := cell_keep hb8 r0
    have v1 := cell_keep hb8 r1
    clear hb8
    go_wp2_with fail
    refine hK.out _ _ ?_ (fun hHeld => ?_)
    · exact ⟨v0, v1⟩
    clear hK K
    try simp only [Act.put, List.getElem_toArray, List.getElem_cons_zero, List.getElem_cons_succ, List.setIfInBounds_toArray, List.set_cons_zero, List.set_cons_succ]
    refine wpAnyH_take (i := 9) (oi := _) (v := ?_) rfl (by kernel_rfl) (by kernel_rfl) (by kernel_rfl) (fun _ _ _ h => h) (Or.inl ⟨by rfl, ?_⟩) (by assumption) ?_
    rotate_left
    · first | (intro w' hSw; (try dsimp only at hSw); go_simp; done) | (intro w' hSw; (try dsimp only at hSw); go_simp; with_reducible rfl)
    try simp only [Act.put, List.getElem_toArray, List.getElem_cons_zero, List.getElem_cons_succ, List.setIfInBounds_toArray, List.set_cons_zero, List.set_cons_succ]
    refine wpAnyH_take (i := 10) (oi := _) (v := ?_) rfl (by kernel_rfl) (by kernel_rfl) (by kernel_rfl) (fun _ _ _ h => h) (Or.inl ⟨by rfl, ?_⟩) (by assumption) ?_
    rotate_left
    · first | (intro w' hSw; (try dsimp only at hSw); go_simp; done) | (intro w' hSw; (try dsimp only at hSw); go_simp; with_reducible rfl)
    try simp only [Act.put, List.getElem_toArray, List.getElem_cons_zero, List.getElem_cons_succ, List.setIfInBounds_toArray, List.set_cons_zero, List.set_cons_succ]
    refine wpAnyH_done (by kernel_rfl) ?_ _
    clear s0 s1 t0 t1 q0 q1 r0 r1 v0 v1
    go_wp2
    go_ret
    exact ⟨rfl, sz_keep HB1.out (sz_keep HB.out HV.out)⟩

set_option maxRecDepth 100000 in
theorem lifted_FnModelOk (os : Os) (started : os.Started) (H : Type) (enc : TypeId × Value → H) :
    ReturnsInHanded {} Try.checked os 3 .any (Rows.fnModelOkSpec.pre6 enc Try.prog Try.f3 Rows.fnModelOkRow.domain false) (Rows.fnModelOkSpec.post enc Try.prog Try.f3 false true false false) := by
  refine returnsInHanded_of_change (C := Try.checked) own started (by kernel_rfl) Try.func3
    (ChangeSpec.witness6 (enc := enc) (C := Try.checked) false ⟨#[], #[.slice none 0 0], []⟩ 8 (by kernel_rfl) (by kernel_rfl) (by kernel_rfl) (by kernel_rfl)) ?_
  intro W base args ds gs before hval0 hW hcnd _
  have hval : ∀ (j : Nat) t v, Try.f3.params[j]? = some t → args[j]? = some v → Value.okWide Try.prog W .any base t v := hval0
  have hW' := hW
  obtain ⟨p, q, hA0, hV, rfl, hfz, hnd⟩ := hW
  have hA : DataW.TrodAll enc Try.prog W 0 (fun _ => true) true Try.f3.params.toList args.toList ds p := hA0
  rw [Try.params3] at hA hval
  obtain ⟨v0, vs0, d0, ds0, p0, q0, hargs, rfl, rfl, h0, r0⟩ := trodAll_cons hA
  obtain ⟨rfl, rfl, rfl⟩ := trodAll_nil r0
  obtain rfl : args = #[v0] := by cases args; simp_all
  obtain ⟨rfl, rfl⟩ := trodVars_none hV
  obtain ⟨a0, len0, cap0, rfl⟩ := okWide_slice Try.underlying22 (hval 0 22 v0 rfl rfl)
  have k0 := h0
  have lt0 : ∀ x ∈ p0, x.block < W.heap.size := by obtain ⟨m, hm⟩ := k0; exact DataW.trod_lt m _ _ _ hm
  obtain ⟨bs, w0⟩ : ∃ bs, RBytes W W.heap.size (.slice a0 len0 cap0) bs := by
    obtain ⟨fuel, hf⟩ := h0
    rcases open_ints Try.underlying22 Try.underlying5 (by kernel_rfl) hf with ⟨hcs, _⟩ | ⟨x, l, c, zs, hcs, _, hl, hm, hz, _, hcell, hwz⟩
    · simp [Value.cells] at hcs
      obtain ⟨rfl, rfl, rfl⟩ := hcs
      exact ⟨[], bytes_nil _ _⟩
    · simp [Value.cells] at hcs
      obtain ⟨rfl, rfl, rfl⟩ := hcs
      exact ⟨_, bytes_of hl hm (by simpa using hz) hcell hwz⟩
  clear hA0 hval0
  refine (walk_FnModelOk _ bs W w0).mono fun e W' ⟨he, bel⟩ => ?_
  subst he
  exact ⟨_, rfl, _, _, _, [], _, [], hW', trodAll_mk1 (shut_bool Try.underlying4 _), (trodAll_cons_mk (Below.trod laidOut (by kernel_rfl) (of_decide_eq_true (by kernel_rfl)) k0 bel lt0) trodAll_mk0), rfl, bel.frame _, fun h => by cases h⟩

theorem over_FnModelOk : Rows.fnModelOkRow.holds Try.pinned (OpenSpec.ofChange Rows.fnModelOkSpec) :=
  OpenClaim.holds_of_wide 3 Try.f3 rfl rfl rfl rfl rfl rfl rfl ⟨rfl, rfl, rfl, rfl, rfl⟩ rfl rfl rfl rfl rfl (by kernel_rfl) Try.func3 (by kernel_rfl)
    (of_decide_eq_true (by kernel_rfl)) (by unfold Func.isWrapper; first | (rw [if_pos (by decide +kernel)]; kernel_rfl) | (rw [if_neg (by decide +kernel)]; exact ⟨rfl, rfl⟩))
    (fun os started H enc _ => lifted_FnModelOk os started H enc)

theorem proved_FnModelOk : Rows.FnModelOkSaid := over_FnModelOk
end Go.Proofs.Ytkhabmoidpgapaa
