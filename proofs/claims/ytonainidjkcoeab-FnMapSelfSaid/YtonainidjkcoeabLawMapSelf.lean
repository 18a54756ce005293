/- FnMapSelf answers true at every slice of bytes. No condition. -/
import Derived.Test.YtonainidjkcoeabFrame
import Derived.Test.YtonainidjkcoeabDrawM
import Derived.Test.YtonainidjkcoeabMapThS
namespace Go.Proofs.Ytonainidjkcoeab
open Go.ChangeShapes Go.WideShapes Go.ChangeAt Go.RowKit
set_option linter.unusedVariables false
set_option linter.unusedSimpArgs false

set_option maxHeartbeats 1600000 in
set_option maxRecDepth 100000 in
theorem walk_FnMapSelf (v : Value) (bs : List Int) (w : World) (h : RBytes w w.heap.size v bs) :
    Calls Try.prog 4 #[v] w fun e w' => e = .returned (.bool true) ∧ Below w.heap.size w w' := by
  have HW := Lib.hid h
  obtain ⟨A, c, rfl, hc1, hc2, -⟩ := h
  rw [maxLen_eq] at hc2
  by_cases hl : 1048576 < bs.length
  · go_enter Try.func4, Try.ntmps4
    go_wp2
    go_ret
    exact ⟨rfl, Below.refl _ _⟩
  · go_enter Try.func4, Try.ntmps4
    go_wp2_with fail
    refine (drawMapSelf_any _ bs _ HW.out).mono ?_
    rintro e w1 ⟨v, s, rfl, ho, hs, hb1⟩
    obtain ⟨As, cs, rfl⟩ := ho.reads.form
    have hal := below_alloc w1 (.cells #[.int .i64 s.sorts, .slice As s.ops.length cs] 25)
    have s0 := bx_at w1 #[.int .i64 s.sorts, .slice As s.ops.length cs] 25 (k := 0) rfl
    have s1 := bx_at w1 #[.int .i64 s.sorts, .slice As s.ops.length cs] 25 (k := 1) rfl
    have HS := Lib.hid (ho.reads.keep hal)
    have HB := Lib.hid (sz_keep hb1 hal)
    generalize hW2 : w1.alloc (.cells #[.int .i64 s.sorts, .slice As s.ops.length cs] 25) = w2 at s0 s1 HS HB
    obtain ⟨b, hv⟩ : ∃ b, validB s = b := ⟨_, rfl⟩
    have HV := Lib.hid hv
    have HMO := Lib.hid (show mapOkB s s (selfM s) = b by rw [self_okB, hv])
    obtain ⟨M, hM⟩ : ∃ M, selfM s = M := ⟨_, rfl⟩
    rw [hM] at HMO
    have HM := Lib.hid hM
    have hbb : (b == b) = true := by simp
    clear ho hs hb1 hal hv hM
    go_wp2_with fail
    clear hW2
    refine (mapSelf_any s _ _ HS.out).mono ?_
    rw [HM.out]
    rintro e w3 ⟨u3, rfl, ho3, hb⟩
    obtain ⟨A0, c0, A1, c1, rfl⟩ := ho3.reads.form
    have hal := below_alloc w3 (.cells #[.slice A0 M.sorts.length c0, .slice A1 M.ops.length c1] 28)
    have m0 := bx_at w3 #[.slice A0 M.sorts.length c0, .slice A1 M.ops.length c1] 28 (k := 0) rfl
    have m1 := bx_at w3 #[.slice A0 M.sorts.length c0, .slice A1 M.ops.length c1] 28 (k := 1) rfl
    replace hb := sz_keep hb hal
    have HMM := Lib.hid (ho3.reads.keep hal)
    replace s0 := cell_keep hb s0
    replace s1 := cell_keep hb s1
    replace HS := Lib.hid (HS.out.keep hb)
    replace HB := Lib.hid (sz_keep HB.out hb)
    generalize hW4 : w3.alloc (.cells #[.slice A0 M.sorts.length c0, .slice A1 M.ops.length c1] 28) = w4 at m0 m1 HMM s0 s1 HS HB
    clear hb hal ho3
    go_wp2_with fail
    clear hW4
    refine wp_region_held_drew (S := (fun w' => w'.cell? ⟨w1.heap.size, 0, none⟩ = some (.int .i64 s.sorts) ∧ w'.cell? ⟨w1.heap.size, 1, none⟩ = some (.slice As s.ops.length cs) ∧ w'.cell? ⟨w3.heap.size, 0, none⟩ = some (.slice A0 M.sorts.length c0) ∧ w'.cell? ⟨w3.heap.size, 1, none⟩ = some (.slice A1 M.ops.length c1))) (by kernel_rfl) ?_ (fun hHeld => ?_)
    · exact ⟨s0, s1, m0, m1⟩
    refine wpAnyH_take (i := 0) (oi := _) (v := ?_) rfl (by kernel_rfl) (by kernel_rfl) (by kernel_rfl) (fun _ _ _ h => h) (Or.inl ⟨by rfl, ?_⟩) (by assumption) ?_
    rotate_left
    · first | (intro w' hSw; (try dsimp only at hSw); go_simp; done) | (intro w' hSw; (try dsimp only at hSw); go_simp; with_reducible rfl)
    try simp only [Act.put, List.getElem_toArray, List.getElem_cons_zero, List.getElem_cons_succ, List.setIfInBounds_toArray, List.set_cons_zero, List.set_cons_succ]
    refine wpAnyH_take (i := 1) (oi := _) (v := ?_) rfl (by kernel_rfl) (by kernel_rfl) (by kernel_rfl) (fun _ _ _ h => h) (Or.inl ⟨by rfl, ?_⟩) (by assumption) ?_
    rotate_left
    · first | (intro w' hSw; (try dsimp only at hSw); go_simp; done) | (intro w' hSw; (try dsimp only at hSw); go_simp; with_reducible rfl)
    try simp only [Act.put, List.getElem_toArray, List.getElem_cons_zero, List.getElem_cons_succ, List.setIfInBounds_toArray, List.set_cons_zero, List.set_cons_succ]
    refine wpAnyH_ready (rs := [2]) (by kernel_rfl) (by simp) ?_
    refine AllReadyH.cons (o := _) rfl (fun K hK => ?_) AllReadyH.nil
    go_simp
    refine (specMapSelf_any s w4.drew _ (HS.out.keep (map_drew (Below.refl _ _)))).mono ?_
    rw [HM.out]
    rintro e w5 ⟨u5, rfl, ho5, hb5⟩
    have hx := map_undrew hb5
    have HZ := Lib.hid ho5.reads
    obtain ⟨A2, c2, A3, c3, rfl⟩ := ho5.reads.form
    have HX := Lib.hid hx
    have p0 := cell_keep hx s0
    have p1 := cell_keep hx s1
    have p2 := cell_keep hx m0
    have p3 := cell_keep hx m1
    clear ho5 hb5 hx
    go_wp2_with fail
    refine hK.out _ _ ?_ (fun hHeld => ?_)
    · exact ⟨p0, p1, p2, p3⟩
    clear hK K
    try simp only [Act.put, List.getElem_toArray, List.getElem_cons_zero, List.getElem_cons_succ, List.setIfInBounds_toArray, List.set_cons_zero, List.set_cons_succ]
    refine wpAnyH_ready (rs := [3]) (by kernel_rfl) (by simp) ?_
    refine AllReadyH.cons (o := _) rfl (fun K hK => ?_) AllReadyH.nil
    go_simp
    refine (sameMap_yes _ _ M w5 (HMM.out.keep HX.out) HZ.out).mono ?_
    rintro e w6 ⟨rfl, hb6⟩
    have HY := Lib.hid (sz_keep HX.out hb6)
    have q0 := cell_keep hb6 p0
    have q1 := cell_keep hb6 p1
    have q2 := cell_keep hb6 p2
    have q3 := cell_keep hb6 p3
    clear hb6
    go_wp2_with fail
    refine hK.out _ _ ?_ (fun hHeld => ?_)
    · exact ⟨q0, q1, q2, q3⟩
    clear hK K
    try simp only [Act.put, List.getElem_toArray, List.getElem_cons_zero, List.getElem_cons_succ, List.setIfInBounds_toArray, List.set_cons_zero, List.set_cons_succ]
    refine wpAnyH_take (i := 4) (oi := _) (v := ?_) rfl (by kernel_rfl) (by kernel_rfl) (by kernel_rfl) (fun _ _ _ h => h) (Or.inl ⟨by rfl, ?_⟩) (by assumption) ?_
    rotate_left
    · first | (intro w' hSw; (try dsimp only at hSw); go_simp; done) | (intro w' hSw; (try dsimp only at hSw); go_simp; with_reducible rfl)
    try simp only [Act.put, List.getElem_toArray, List.getElem_cons_zero, List.getElem_cons_succ, List.setIfInBounds_toArray, List.set_cons_zero, List.set_cons_succ]
    refine wpAnyH_done (by kernel_rfl) ?_ _
    replace HS := Lib.hid (HS.out.keep HY.out)
    replace HMM := Lib.hid (HMM.out.keep HY.out)
    replace HB := Lib.hid (sz_keep HB.out HY.out)
    clear s0 s1 m0 m1 p0 p1 p2 p3 HX HY HZ
    go_wp2_with fail
    refine wp_region_held_drew (S := (fun w' => w'.cell? ⟨w1.heap.size, 0, none⟩ = some (.int .i64 s.sorts) ∧ w'.cell? ⟨w1.heap.size, 1, none⟩ = some (.slice As s.ops.length cs) ∧ w'.cell? ⟨w3.heap.size, 0, none⟩ = some (.slice A0 M.sorts.length c0) ∧ w'.cell? ⟨w3.heap.size, 1, none⟩ = some (.slice A1 M.ops.length c1))) (by kernel_rfl) ?_ (fun hHeld => ?_)
    · exact ⟨q0, q1, q2, q3⟩
    refine wpAnyH_take (i := 0) (oi := _) (v := ?_) rfl (by kernel_rfl) (by kernel_rfl) (by kernel_rfl) (fun _ _ _ h => h) (Or.inl ⟨by rfl, ?_⟩) (by assumption) ?_
    rotate_left
    · first | (intro w' hSw; (try dsimp only at hSw); go_simp; done) | (intro w' hSw; (try dsimp only at hSw); go_simp; with_reducible rfl)
    try simp only [Act.put, List.getElem_toArray, List.getElem_cons_zero, List.getElem_cons_succ, List.setIfInBounds_toArray, List.set_cons_zero, List.set_cons_succ]
    refine wpAnyH_take (i := 1) (oi := _) (v := ?_) rfl (by kernel_rfl) (by kernel_rfl) (by kernel_rfl) (fun _ _ _ h => h) (Or.inl ⟨by rfl, ?_⟩) (by assumption) ?_
    rotate_left
    · first | (intro w' hSw; (try dsimp only at hSw); go_simp; done) | (intro w' hSw; (try dsimp only at hSw); go_simp; with_reducible rfl)
    try simp only [Act.put, List.getElem_toArray, List.getElem_cons_zero, List.getElem_cons_succ, List.setIfInBounds_toArray, List.set_cons_zero, List.set_cons_succ]
    refine wpAnyH_take (i := 2) (oi := _) (v := ?_) rfl (by kernel_rfl) (by kernel_rfl) (by kernel_rfl) (fun _ _ _ h => h) (Or.inl ⟨by rfl, ?_⟩) (by assumption) ?_
    rotate_left
    · first | (intro w' hSw; (try dsimp only at hSw); go_simp; done) | (intro w' hSw; (try dsimp only at hSw); go_simp; with_reducible rfl)
    try simp only [Act.put, List.getElem_toArray, List.getElem_cons_zero, List.getElem_cons_succ, List.setIfInBounds_toArray, List.set_cons_zero, List.set_cons_succ]
    refine wpAnyH_take (i := 4) (oi := _) (v := ?_) rfl (by kernel_rfl) (by kernel_rfl) (by kernel_rfl) (fun _ _ _ h => h) (Or.inl ⟨by rfl, ?_⟩) (by assumption) ?_
    rotate_left
    · first | (intro w' hSw; (try dsimp only at hSw); go_simp; done) | (intro w' hSw; (try dsimp only at hSw); go_simp; with_reducible rfl)
    try simp only [Act.put, List.getElem_toArray, List.getElem_cons_zero, List.getElem_cons_succ, List.setIfInBounds_toArray, List.set_cons_zero, List.set_cons_succ]
    refine wpAnyH_ready (rs := [3]) (by kernel_rfl) (by simp) ?_
    refine AllReadyH.cons (o := _) rfl (fun K hK => ?_) AllReadyH.nil
    go_simp
    refine (mapOk_any s s M w6.drew _ _ _ (HS.out.keep (map_drew (Below.refl _ _))) (HS.out.keep (map_drew (Below.refl _ _))) (HMM.out.keep (map_drew (Below.refl _ _)))).mono ?_
    rw [HMO.out]
    rintro e w7 ⟨rfl, hb7⟩
    have hx := map_undrew hb7
    have HX := Lib.hid hx
    have s0 := cell_keep hx q0
    have s1 := cell_keep hx q1
    have s2 := cell_keep hx q2
    have s3 := cell_keep hx q3
    clear hb7 hx
    go_wp2_with fail
    refine hK.out _ _ ?_ (fun hHeld => ?_)
    · exact ⟨s0, s1, s2, s3⟩
    clear hK K
    try simp only [Act.put, List.getElem_toArray, List.getElem_cons_zero, List.getElem_cons_succ, List.setIfInBounds_toArray, List.set_cons_zero, List.set_cons_succ]
    refine wpAnyH_ready (rs := [5]) (by kernel_rfl) (by simp) ?_
    refine AllReadyH.cons (o := _) rfl (fun K hK => ?_) AllReadyH.nil
    go_simp
    refine (sigValid_any _ s w7 (HS.out.keep HX.out)).mono ?_
    rw [HV.out]
    rintro e w8 ⟨rfl, hb8⟩
    have HY := Lib.hid (sz_keep HX.out hb8)
    have t0 := cell_keep hb8 s0
    have t1 := cell_keep hb8 s1
    have t2 := cell_keep hb8 s2
    have t3 := cell_keep hb8 s3
    clear hb8
    go_wp2_with fail
    refine hK.out _ _ ?_ (fun hHeld => ?_)
    · exact ⟨t0, t1, t2, t3⟩
    clear hK K
    try simp only [Act.put, List.getElem_toArray, List.getElem_cons_zero, List.getElem_cons_succ, List.setIfInBounds_toArray, List.set_cons_zero, List.set_cons_succ]
    refine wpAnyH_take (i := 6) (oi := _) (v := ?_) rfl (by kernel_rfl) (by kernel_rfl) (by kernel_rfl) (fun _ _ _ h => h) (Or.inl ⟨by rfl, ?_⟩) (by assumption) ?_
    rotate_left
    · first | (intro w' hSw; (try dsimp only at hSw); go_simp; done) | (intro w' hSw; (try dsimp only at hSw); go_simp; with_reducible rfl)
    try simp only [Act.put, List.getElem_toArray, List.getElem_cons_zero, List.getElem_cons_succ, List.setIfInBounds_toArray, List.set_cons_zero, List.set_cons_succ]
    refine wpAnyH_take (i := 7) (oi := _) (v := ?_) rfl (by kernel_rfl) (by kernel_rfl) (by kernel_rfl) (fun _ _ _ h => h) (Or.inl ⟨by rfl, ?_⟩) (by assumption) ?_
    rotate_left
    · first | (intro w' hSw; (try dsimp only at hSw); go_simp; done) | (intro w' hSw; (try dsimp only at hSw); go_simp; with_reducible rfl)
    try simp only [Act.put, List.getElem_toArray, List.getElem_cons_zero, List.getElem_cons_succ, List.setIfInBounds_toArray, List.set_cons_zero, List.set_cons_succ]
    refine wpAnyH_ready (rs := [8]) (by kernel_rfl) (by simp) ?_
    refine AllReadyH.cons (o := _) rfl (fun K hK => ?_) AllReadyH.nil
    go_simp
    refine (alive_any w8).mono ?_
    rintro e w9 ⟨rfl, hb9⟩
    have HZ := Lib.hid (sz_keep HY.out hb9)
    have r0 := cell_keep hb9 t0
    have r1 := cell_keep hb9 t1
    have r2 := cell_keep hb9 t2
    have r3 := cell_keep hb9 t3
    clear hb9
    go_wp2_with fail
    refine hK.out _ _ ?_ (fun hHeld => ?_)
    · exact ⟨r0, r1, r2, r3⟩
    clear hK K
    try simp only [Act.put, List.getElem_toArray, List.getElem_cons_zero, List.getElem_cons_succ, List.setIfInBounds_toArray, List.set_cons_zero, List.set_cons_succ]
    refine wpAnyH_take (i := 9) (oi := _) (v := ?_) rfl (by kernel_rfl) (by kernel_rfl) (by kernel_rfl) (fun _ _ _ h => h) (Or.inl ⟨by rfl, ?_⟩) (by assumption) ?_
    rotate_left
    · first | (intro w' hSw; (try dsimp only at hSw); go_simp; done) | (intro w' hSw; (try dsimp only at hSw); go_simp; with_reducible rfl)
    try simp only [Act.put, List.getElem_toArray, List.getElem_cons_zero, List.getElem_cons_succ, List.setIfInBounds_toArray, List.set_cons_zero, List.set_cons_succ]
    refine wpAnyH_take (i := 10) (oi := _) (v := ?_) rfl (by kernel_rfl) (by kernel_rfl) (by kernel_rfl) (fun _ _ _ h => h) (Or.inl ⟨by rfl, ?_⟩) (by assumption) ?_
    rotate_left
    · first | (intro w' hSw; (try dsimp only at hSw); go_simp; done) | (intro w' hSw; (try dsimp only at hSw); go_simp; with_reducible rfl)
    try simp only [Act.put, List.getElem_toArray, List.getElem_cons_zero, List.getElem_cons_succ, List.setIfInBounds_toArray, List.set_cons_zero, List.set_cons_succ]
    refine wpAnyH_done (by kernel_rfl) ?_ _
    clear q0 q1 q2 q3 s0 s1 s2 s3 t0 t1 t2 t3 r0 r1 r2 r3
    go_wp2
    go_ret
    exact ⟨rfl, sz_keep HB.out HZ.out⟩

set_option maxRecDepth 100000 in
theorem lifted_FnMapSelf (os : Os) (started : os.Started) (H : Type) (enc : TypeId × Value → H) :
    ReturnsInHanded {} Try.checked os 4 .any (Rows.fnMapSelfSpec.pre6 enc Try.prog Try.f4 Rows.fnMapSelfRow.domain false) (Rows.fnMapSelfSpec.post enc Try.prog Try.f4 false true false false) := by
  refine returnsInHanded_of_change (C := Try.checked) own started (by kernel_rfl) Try.func4
    (ChangeSpec.witness6 (enc := enc) (C := Try.checked) false ⟨#[], #[.slice none 0 0], []⟩ 8 (by kernel_rfl) (by kernel_rfl) (by kernel_rfl) (by kernel_rfl)) ?_
  intro W base args ds gs before hval0 hW hcnd _
  have hval : ∀ (j : Nat) t v, Try.f4.params[j]? = some t → args[j]? = some v → Value.okWide Try.prog W .any base t v := hval0
  have hW' := hW
  obtain ⟨p, q, hA0, hV, rfl, hfz, hnd⟩ := hW
  have hA : DataW.TrodAll enc Try.prog W 0 (fun _ => true) true Try.f4.params.toList args.toList ds p := hA0
  rw [Try.params4] at hA hval
  obtain ⟨v0, vs0, d0, ds0, p0, q0, hargs, rfl, rfl, h0, r0⟩ := trodAll_cons hA
  obtain ⟨rfl, rfl, rfl⟩ := trodAll_nil r0
  obtain rfl : args = #[v0] := by cases args; simp_all
  obtain ⟨rfl, rfl⟩ := trodVars_none hV
  obtain ⟨a0, len0, cap0, rfl⟩ := okWide_slice Try.underlying22 (hval 0 22 v0 rfl rfl)
  have k0 := h0
  have lt0 : ∀ x ∈ p0, x.block < W.heap.size := by obtain ⟨m, hm⟩ := k0; exact DataW.trod_lt m _ _ _ hm
  obtain ⟨bs, w0⟩ : ∃ bs, RBytes W W.heap.size (.slice a0 len0 cap0) bs := by
    obtain ⟨fuel, hf⟩ := h0
    rcases open_ints Try.underlying22 Try.underlying5 (by kernel_rfl) hf with ⟨hcs, _⟩ | ⟨x, l, c, zs, hcs, _, hl, hm, hz, _, hcell, hwz⟩
    · simp [Value.cells] at hcs
      obtain ⟨rfl, rfl, rfl⟩ := hcs
      exact ⟨[], bytes_nil _ _⟩
    · simp [Value.cells] at hcs
      obtain ⟨rfl, rfl, rfl⟩ := hcs
      exact ⟨_, bytes_of hl hm (by simpa using hz) hcell hwz⟩
  clear hA0 hval0
  refine (walk_FnMapSelf _ bs W w0).mono fun e W' ⟨he, bel⟩ => ?_
  subst he
  exact ⟨_, rfl, _, _, _, [], _, [], hW', trodAll_mk1 (shut_bool Try.underlying4 _), (trodAll_cons_mk (Below.trod laidOut (by kernel_rfl) (of_decide_eq_true (by kernel_rfl)) k0 bel lt0) trodAll_mk0), rfl, bel.frame _, fun h => by cases h⟩

theorem over_FnMapSelf : Rows.fnMapSelfRow.holds Try.pinned (OpenSpec.ofChange Rows.fnMapSelfSpec) :=
  OpenClaim.holds_of_wide 4 Try.f4 rfl rfl rfl rfl rfl rfl rfl ⟨rfl, rfl, rfl, rfl, rfl⟩ rfl rfl rfl rfl rfl (by kernel_rfl) Try.func4 (by kernel_rfl)
    (of_decide_eq_true (by kernel_rfl)) (by unfold Func.isWrapper; first | (rw [if_pos (by decide +kernel)]; kernel_rfl) | (rw [if_neg (by decide +kernel)]; exact ⟨rfl, rfl⟩))
    (fun os started H enc _ => lifted_FnMapSelf os started H enc)

theorem proved_FnMapSelf : Rows.FnMapSelfSaid := over_FnMapSelf
end Go.Proofs.Ytonainidjkcoeab
