/- FnMapOk answers true at every slice of bytes. No condition. -/
import Derived.Test.YtkhabmoidpgapabKc70fde90
namespace Go.Proofs.Ytkhabmoidpgapab
open Go.ChangeShapes Go.WideShapes Go.ChangeAt Go.RowKit
set_option linter.unusedVariables false
set_option linter.unusedSimpArgs false

set_option maxHeartbeats 1600000 in
set_option maxRecDepth 100000 in
theorem walk_FnMapOk (v : Value) (bs : List Int) (w : World) (h : RBytes w w.heap.size v bs) :
    Calls Try.prog 3 #[v] w fun e w' => e = .returned (.bool true) ∧ Below w.heap.size w w' := by
  have HW := Lib.hid h
  obtain ⟨A, c, rfl, hc1, hc2, -⟩ := h
  rw [maxLen_eq] at hc2
  by_cases hl : 1048576 < bs.length
  · go_enter Try.func3, Try.ntmps3
    go_wp2
    go_ret
    exact ⟨rfl, Below.refl _ _⟩
  · go_enter Try.func3, Try.ntmps3
    go_wp2_with fail
    refine (drawMapOk_any _ bs _ HW.out).mono ?_
    rintro e w1 ⟨av, bv, mv, a, b, m, rfl, oa, hfa, ob, hfb, om, hms, hmo, hb1⟩
    have HB1 := Lib.hid hb1
    have hh1 := oa.reads
    have hh2 := ob.reads
    have hh3 := om.reads
    clear hfa hfb hb1 oa ob om
    obtain ⟨Aaa, caa, rfl⟩ := hh1.form
    obtain ⟨Aba, cba, rfl⟩ := hh2.form
    obtain ⟨Ama, cma, Amb, cmb, rfl⟩ := hh3.form
    have hb : Below w1.heap.size w1 (((w1.alloc (.cells #[.int .i64 a.sorts, .slice Aaa a.ops.length caa] 25)).alloc (.cells #[.int .i64 b.sorts, .slice Aba b.ops.length cba] 25)).alloc (.cells #[.slice Ama m.sorts.length cma, .slice Amb m.ops.length cmb] 28)) := ((below_alloc _ _).alloc (by simp) _).alloc (by simp; omega) _
    have HB := Lib.hid hb
    have hsz : (((w1.alloc (.cells #[.int .i64 a.sorts, .slice Aaa a.ops.length caa] 25)).alloc (.cells #[.int .i64 b.sorts, .slice Aba b.ops.length cba] 25)).alloc (.cells #[.slice Ama m.sorts.length cma, .slice Amb m.ops.length cmb] 28)).heap.size = w1.heap.size + 3 := by simp
    have Ha := Lib.hid (hh1.keep hb)
    have a0 := cell_keep (below_alloc ((w1.alloc (.cells #[.int .i64 a.sorts, .slice Aaa a.ops.length caa] 25)).alloc (.cells #[.int .i64 b.sorts, .slice Aba b.ops.length cba] 25)) (.cells #[.slice Ama m.sorts.length cma, .slice Amb m.ops.length cmb] 28)) (cell_keep (below_alloc (w1.alloc (.cells #[.int .i64 a.sorts, .slice Aaa a.ops.length caa] 25)) (.cells #[.int .i64 b.sorts, .slice Aba b.ops.length cba] 25)) (bx_at (w1) #[.int .i64 a.sorts, .slice Aaa a.ops.length caa] 25 (k := 0) rfl))
    have a1 := cell_keep (below_alloc ((w1.alloc (.cells #[.int .i64 a.sorts, .slice Aaa a.ops.length caa] 25)).alloc (.cells #[.int .i64 b.sorts, .slice Aba b.ops.length cba] 25)) (.cells #[.slice Ama m.sorts.length cma, .slice Amb m.ops.length cmb] 28)) (cell_keep (below_alloc (w1.alloc (.cells #[.int .i64 a.sorts, .slice Aaa a.ops.length caa] 25)) (.cells #[.int .i64 b.sorts, .slice Aba b.ops.length cba] 25)) (bx_at (w1) #[.int .i64 a.sorts, .slice Aaa a.ops.length caa] 25 (k := 1) rfl))
    have Hb := Lib.hid (hh2.keep hb)
    have b0 := cell_keep (below_alloc ((w1.alloc (.cells #[.int .i64 a.sorts, .slice Aaa a.ops.length caa] 25)).alloc (.cells #[.int .i64 b.sorts, .slice Aba b.ops.length cba] 25)) (.cells #[.slice Ama m.sorts.length cma, .slice Amb m.ops.length cmb] 28)) (bx_at (w1.alloc (.cells #[.int .i64 a.sorts, .slice Aaa a.ops.length caa] 25)) #[.int .i64 b.sorts, .slice Aba b.ops.length cba] 25 (k := 0) rfl)
    have b1 := cell_keep (below_alloc ((w1.alloc (.cells #[.int .i64 a.sorts, .slice Aaa a.ops.length caa] 25)).alloc (.cells #[.int .i64 b.sorts, .slice Aba b.ops.length cba] 25)) (.cells #[.slice Ama m.sorts.length cma, .slice Amb m.ops.length cmb] 28)) (bx_at (w1.alloc (.cells #[.int .i64 a.sorts, .slice Aaa a.ops.length caa] 25)) #[.int .i64 b.sorts, .slice Aba b.ops.length cba] 25 (k := 1) rfl)
    have Hm := Lib.hid (hh3.keep hb)
    have m0 := bx_at ((w1.alloc (.cells #[.int .i64 a.sorts, .slice Aaa a.ops.length caa] 25)).alloc (.cells #[.int .i64 b.sorts, .slice Aba b.ops.length cba] 25)) #[.slice Ama m.sorts.length cma, .slice Amb m.ops.length cmb] 28 (k := 0) rfl
    have m1 := bx_at ((w1.alloc (.cells #[.int .i64 a.sorts, .slice Aaa a.ops.length caa] 25)).alloc (.cells #[.int .i64 b.sorts, .slice Aba b.ops.length cba] 25)) #[.slice Ama m.sorts.length cma, .slice Amb m.ops.length cmb] 28 (k := 1) rfl
    simp only [World.size_alloc] at b0 b1 m0 m1
    generalize hW : ((w1.alloc (.cells #[.int .i64 a.sorts, .slice Aaa a.ops.length caa] 25)).alloc (.cells #[.int .i64 b.sorts, .slice Aba b.ops.length cba] 25)).alloc (.cells #[.slice Ama m.sorts.length cma, .slice Amb m.ops.length cmb] 28) = W at HB hsz Ha a0 a1 Hb b0 b1 Hm m0 m1
    clear hb hh1 hh2 hh3
    obtain ⟨r, hr⟩ : ∃ r, mapOkB a b m = r := ⟨_, rfl⟩
    have HMB := Lib.hid hr
    obtain ⟨r2, hr2⟩ : ∃ r, validB b = r := ⟨_, rfl⟩
    have HVB := Lib.hid hr2
    have HOB := Lib.hid (show mapOkB ⟨1, []⟩ b ⟨[0], []⟩ = r2 by rw [one_ok, hr2])
    have hbb : (r == r) = true := by simp
    have hbn : (r != r) = false := by simp
    have hbb2 : (r2 == r2) = true := by simp
    clear hr hr2 hsz
    go_wp2_with fail
    clear hW
    refine (mapOk_any a b m _ _ _ _ Ha.out Hb.out Hm.out).mono ?_
    rw [HMB.out]
    rintro e w3 ⟨rfl, hb⟩
    replace HB := Lib.hid (sz_keep HB.out hb)
    replace a0 := cell_keep hb a0
    replace a1 := cell_keep hb a1
    replace b0 := cell_keep hb b0
    replace b1 := cell_keep hb b1
    replace m0 := cell_keep hb m0
    replace m1 := cell_keep hb m1
    replace Ha := Lib.hid (Ha.out.keep hb)
    replace Hb := Lib.hid (Hb.out.keep hb)
    replace Hm := Lib.hid (Hm.out.keep hb)
    clear hb
    go_wp2_with fail
    refine (specMapOk_any a b m _ _ _ _ Ha.out Hb.out Hm.out).mono ?_
    rw [HMB.out]
    rintro e w4 ⟨rfl, hb⟩
    replace HB := Lib.hid (sz_keep HB.out hb)
    replace a0 := cell_keep hb a0
    replace a1 := cell_keep hb a1
    replace b0 := cell_keep hb b0
    replace b1 := cell_keep hb b1
    replace m0 := cell_keep hb m0
    replace m1 := cell_keep hb m1
    replace Ha := Lib.hid (Ha.out.keep hb)
    replace Hb := Lib.hid (Hb.out.keep hb)
    replace Hm := Lib.hid (Hm.out.keep hb)
    clear hb
    clear a0 a1 m0 m1
    have hal := below_alloc w4 (.cells #[.int .i64 0] 3)
    have HAL := Lib.hid hal
    have p0 := cell_keep hal b0
    have p1 := cell_keep hal b1
    have HLT := Lib.hid (show RMap (w4.alloc (.cells #[.int .i64 0] 3)) (.agg #[.slice (some ⟨w4.heap.size, 0, none⟩) 1 1, .slice none 0 0]) ⟨[0], []⟩ from ⟨_, _, rfl, (show OInts (w4.alloc (.cells #[.int .i64 0] 3)) w4.heap.size (.slice (some ⟨w4.heap.size, 0, none⟩) 1 1) [0] from World.ownsRow_lit w4 #[.int .i64 0] 1 (Nat.le_refl _) (by unfold maxLen; omega) rfl).reads, (OInts.nil _ 0).reads⟩)
    replace Hb := Lib.hid (Hb.out.keep hal)
    clear hal
    go_wp2_with fail
    refine wp_region_held_drew (S := (fun w' => w'.cell? ⟨w1.heap.size + 1, 0, none⟩ = some (.int .i64 b.sorts) ∧ w'.cell? ⟨w1.heap.size + 1, 1, none⟩ = some (.slice Aba b.ops.length cba))) (by kernel_rfl) ?_ (fun hHeld => ?_)
    · exact ⟨b0, b1⟩
    refine wpAnyH_take (i := 0) (oi := _) (v := ?_) rfl (by kernel_rfl) (by kernel_rfl) (by kernel_rfl) (fun _ _ _ h => h) (Or.inl ⟨by rfl, ?_⟩) (by assumption) ?_
    rotate_left
    · first | (intro w' hSw; (try dsimp only at hSw); go_simp; done) | (intro w' hSw; (try dsimp only at hSw); go_simp; with_reducible rfl)
    try simp only [Act.put, List.getElem_toArray, List.getElem_cons_zero, List.getElem_cons_succ, List.setIfInBounds_toArray, List.set_cons_zero, List.set_cons_succ]
    refine wpAnyH_take (i := 1) (oi := _) (v := ?_) rfl (by kernel_rfl) (by kernel_rfl) (by kernel_rfl) (fun _ _ _ h => h) (Or.inl ⟨by rfl, ?_⟩) (by assumption) ?_
    rotate_left
    · first | (intro w' hSw; (try dsimp only at hSw); go_simp; done) | (intro w' hSw; (try dsimp only at hSw); go_simp; with_reducible rfl)
    try simp only [Act.put, List.getElem_toArray, List.getElem_cons_zero, List.getElem_cons_succ, List.setIfInBounds_toArray, List.set_cons_zero, List.set_cons_succ]
    refine wpAnyH_take (i := 5) (oi := _) (v := ?_) rfl (by kernel_rfl) (by kernel_rfl) (by kernel_rfl) (fun _ _ _ h => h) (Or.inl ⟨by rfl, ?_⟩) (by assumption) ?_
    rotate_left
    · first | (intro w' hSw; (try dsimp only at hSw); go_simp; done) | (intro w' hSw; (try dsimp only at hSw); go_simp; with_reducible rfl)
    try simp only [Act.put, List.getElem_toArray, List.getElem_cons_zero, List.getElem_cons_succ, List.setIfInBounds_toArray, List.set_cons_zero, List.set_cons_succ]
    refine wpAnyH_ready (rs := [2]) (by kernel_rfl) (by simp) ?_
    refine AllReadyH.cons (o := _) rfl (fun K hK => ?_) AllReadyH.nil
    go_simp
    skip
    refine hK.out _ _ ?_ (fun hHeld => ?_)
    · exact ⟨p0, p1⟩
    clear hK K
    try simp only [Act.put, List.getElem_toArray, List.getElem_cons_zero, List.getElem_cons_succ, List.setIfInBounds_toArray, List.set_cons_zero, List.set_cons_succ]
    refine wpAnyH_take (i := 3) (oi := _) (v := ?_) rfl (by kernel_rfl) (by kernel_rfl) (by kernel_rfl) (fun _ _ _ h => h) (Or.inl ⟨by rfl, ?_⟩) (by assumption) ?_
    rotate_left
    · first | (intro w' hSw; (try dsimp only at hSw); go_simp; done) | (intro w' hSw; (try dsimp only at hSw); go_simp; with_reducible rfl)
    try simp only [Act.put, List.getElem_toArray, List.getElem_cons_zero, List.getElem_cons_succ, List.setIfInBounds_toArray, List.set_cons_zero, List.set_cons_succ]
    refine wpAnyH_ready (rs := [4]) (by kernel_rfl) (by simp) ?_
    refine AllReadyH.cons (o := _) rfl (fun K hK => ?_) AllReadyH.nil
    go_simp
    refine (mapOk_any ⟨1, []⟩ b ⟨[0], []⟩ (w4.alloc (.cells #[.int .i64 0] 3)).drew _ _ _ ⟨_, rfl, RRows.nil _⟩ (Hb.out.keep (map_drew (Below.refl _ _))) (HLT.out.keep (map_drew (Below.refl _ _)))).mono ?_
    rw [HOB.out]
    rintro e w6 ⟨rfl, hb6⟩
    have hb6 := map_undrew hb6
    have HY := Lib.hid hb6
    have q0 := cell_keep hb6 p0
    have q1 := cell_keep hb6 p1
    clear hb6
    go_wp2_with fail
    refine hK.out _ _ ?_ (fun hHeld => ?_)
    · exact ⟨q0, q1⟩
    clear hK K
    try simp only [Act.put, List.getElem_toArray, List.getElem_cons_zero, List.getElem_cons_succ, List.setIfInBounds_toArray, List.set_cons_zero, List.set_cons_succ]
    refine wpAnyH_ready (rs := [6]) (by kernel_rfl) (by simp) ?_
    refine AllReadyH.cons (o := _) rfl (fun K hK => ?_) AllReadyH.nil
    go_simp
    refine (sigValid_any _ b w6 (Hb.out.keep HY.out)).mono ?_
    rw [HVB.out]
    rintro e w7 ⟨rfl, hb7⟩
    have HZ := Lib.hid (sz_keep HY.out hb7)
    have r0 := cell_keep hb7 q0
    have r1 := cell_keep hb7 q1
    clear hb7
    go_wp2_with fail
    refine hK.out _ _ ?_ (fun hHeld => ?_)
    · exact ⟨r0, r1⟩
    clear hK K
    try simp only [Act.put, List.getElem_toArray, List.getElem_cons_zero, List.getElem_cons_succ, List.setIfInBounds_toArray, List.set_cons_zero, List.set_cons_succ]
    refine wpAnyH_take (i := 7) (oi := _) (v := ?_) rfl (by kernel_rfl) (by kernel_rfl) (by kernel_rfl) (fun _ _ _ h => h) (Or.inl ⟨by rfl, ?_⟩) (by assumption) ?_
    rotate_left
    · first | (intro w' hSw; (try dsimp only at hSw); go_simp; done) | (intro w' hSw; (try dsimp only at hSw); go_simp; with_reducible rfl)
    try simp only [Act.put, List.getElem_toArray, List.getElem_cons_zero, List.getElem_cons_succ, List.setIfInBounds_toArray, List.set_cons_zero, List.set_cons_succ]
    refine wpAnyH_take (i := 8) (oi := _) (v := ?_) rfl (by kernel_rfl) (by kernel_rfl) (by kernel_rfl) (fun _ _ _ h => h) (Or.inl ⟨by rfl, ?_⟩) (by assumption) ?_
    rotate_left
    · first | (intro w' hSw; (try dsimp only at hSw); go_simp; done) | (intro w' hSw; (try dsimp only at hSw); go_simp; with_reducible rfl)
    try simp only [Act.put, List.getElem_toArray, List.getElem_cons_zero, List.getElem_cons_succ, List.setIfInBounds_toArray, List.set_cons_zero, List.set_cons_succ]
    refine wpAnyH_ready (rs := [9]) (by kernel_rfl) (by simp) ?_
    refine AllReadyH.cons (o := _) rfl (fun K hK => ?_) AllReadyH.nil
    go_simp
    refine (alive_any w7).mono ?_
    rintro e w8 ⟨rfl, hb8⟩
    have HV := Lib.hid (sz_keep HZ.out hb8)
    have v0 := cell_keep hb8 r0
    have v1 := cell_keep hb8 r1
    clear hb8
    go_wp2_with fail
    refine hK.out _ _ ?_ (fun hHeld => ?_)
    · exact ⟨v0, v1⟩
    clear hK K
    try simp only [Act.put, List.getElem_toArray, List.getElem_cons_zero, List.getElem_cons_succ, List.setIfInBounds_toArray, List.set_cons_zero, List.set_cons_succ]
    refine wpAnyH_take (i := 10) (oi := _) (v := ?_) rfl (by kernel_rfl) (by kernel_rfl) (by kernel_rfl) (fun _ _ _ h => h) (Or.inl ⟨by rfl, ?_⟩) (by assumption) ?_
    rotate_left
    · first | (intro w' hSw; (try dsimp only at hSw); go_simp; done) | (intro w' hSw; (try dsimp only at hSw); go_simp; with_reducible rfl)
    try simp only [Act.put, List.getElem_toArray, List.getElem_cons_zero, List.getElem_cons_succ, List.setIfInBounds_toArray, List.set_cons_zero, List.set_cons_succ]
    refine wpAnyH_take (i := 11) (oi := _) (v := ?_) rfl (by kernel_rfl) (by kernel_rfl) (by kernel_rfl) (fun _ _ _ h => h) (Or.inl ⟨by rfl, ?_⟩) (by assumption) ?_
    rotate_left
    · first | (intro w' hSw; (try dsimp only at hSw); go_simp; done) | (intro w' hSw; (try dsimp only at hSw); go_simp; with_reducible rfl)
    try simp only [Act.put, List.getElem_toArray, List.getElem_cons_zero, List.getElem_cons_succ, List.setIfInBounds_toArray, List.set_cons_zero, List.set_cons_succ]
    refine wpAnyH_done (by kernel_rfl) ?_ _
    clear b0 b1 p0 p1 q0 q1 r0 r1 v0 v1
    go_wp2
    go_ret
    exact ⟨rfl, sz_keep HB1.out (sz_keep HB.out (sz_keep HAL.out HV.out))⟩

set_option maxRecDepth 100000 in
theorem lifted_FnMapOk (os : Os) (started : os.Started) (H : Type) (enc : TypeId × Value → H) :
    ReturnsInHanded {} Try.checked os 3 .any (Rows.fnMapOkSpec.pre6 enc Try.prog Try.f3 Rows.fnMapOkRow.domain false) (Rows.fnMapOkSpec.post enc Try.prog Try.f3 false true false false) := by
  refine returnsInHanded_of_change (C := Try.checked) own started (by kernel_rfl) Try.func3
    (ChangeSpec.witness6 (enc := enc) (C := Try.checked) false ⟨#[], #[.slice none 0 0], []⟩ 8 (by kernel_rfl) (by kernel_rfl) (by kernel_rfl) (by kernel_rfl)) ?_
  intro W base args ds gs before hval0 hW hcnd _
  have hval : ∀ (j : Nat) t v, Try.f3.params[j]? = some t → args[j]? = some v → Value.okWide Try.prog W .any base t v := hval0
  have hW' := hW
  obtain ⟨p, q, hA0, hV, rfl, hfz, hnd⟩ := hW
  have hA : DataW.TrodAll enc Try.prog W 0 (fun _ => true) true Try.f3.params.toList args.toList ds p := hA0
  rw [Try.params3] at hA hval
  obtain ⟨v0, vs0, d0, ds0, p0, q0, hargs, rfl, rfl, h0, r0⟩ := trodAll_cons hA
  obtain ⟨rfl, rfl, rfl⟩ := trodAll_nil r0
  obtain rfl : args = #[v0] := by cases args; simp_all
  obtain ⟨rfl, rfl⟩ := trodVars_none hV
  obtain ⟨a0, len0, cap0, rfl⟩ := okWide_slice Try.underlying22 (hval 0 22 v0 rfl rfl)
  have k0 := h0
  have lt0 : ∀ x ∈ p0, x.block < W.heap.size := by obtain ⟨m, hm⟩ := k0; exact DataW.trod_lt m _ _ _ hm
  obtain ⟨bs, w0⟩ : ∃ bs, RBytes W W.heap.size (.slice a0 len0 cap0) bs := by
    obtain ⟨fuel, hf⟩ := h0
    rcases open_ints Try.underlying22 Try.underlying5 (by kernel_rfl) hf with ⟨hcs, _⟩ | ⟨x, l, c, zs, hcs, _, hl, hm, hz, _, hcell, hwz⟩
    · simp [Value.cells] at hcs
      obtain ⟨rfl, rfl, rfl⟩ := hcs
      exact ⟨[], bytes_nil _ _⟩
    · simp [Value.cells] at hcs
      obtain ⟨rfl, rfl, rfl⟩ := hcs
      exact ⟨_, bytes_of hl hm (by simpa using hz) hcell hwz⟩
  clear hA0 hval0
  refine (walk_FnMapOk _ bs W w0).mono fun e W' ⟨he, bel⟩ => ?_
  subst he
  exact ⟨_, rfl, _, _, _, [], _, [], hW', trodAll_mk1 (shut_bool Try.underlying4 _), (trodAll_cons_mk (Below.trod laidOut (by kernel_rfl) (of_decide_eq_true (by kernel_rfl)) k0 bel lt0) trodAll_mk0), rfl, bel.frame _, fun h => by cases h⟩

theorem over_FnMapOk : Rows.fnMapOkRow.holds Try.pinned (OpenSpec.ofChange Rows.fnMapOkSpec) :=
  OpenClaim.holds_of_wide 3 Try.f3 rfl rfl rfl rfl rfl rfl rfl ⟨rfl, rfl, rfl, rfl, rfl⟩ rfl rfl rfl rfl rfl (by kernel_rfl) Try.func3 (by kernel_rfl)
    (of_decide_eq_true (by kernel_rfl)) (by unfold Func.isWrapper; first | (rw [if_pos (by decide +kernel)]; kernel_rfl) | (rw [if_neg (by decide +kernel)]; exact ⟨rfl, rfl⟩))
    (fun os started H enc _ => lifted_FnMapOk os started H enc)

theorem proved_FnMapOk : Rows.FnMapOkSaid := over_FnMapOk
end Go.Proofs.Ytkhabmoidpgapab
