/- FnExactMapThen answers true at every three signatures and two maps. No condition. -/
import Derived.Test.YtonainidjkcoeaaExB
import Derived.Test.YtonainidjkcoeaaFrameM
import Derived.Test.YtonainidjkcoeaaMapThS
namespace Go.Proofs.Ytonainidjkcoeaa
open Go.ChangeShapes Go.WideShapes Go.ChangeAt Go.RowKit
set_option linter.unusedVariables false
set_option linter.unusedSimpArgs false

theorem thenM_fits (a b c : MSig) (m n : MMap) : FitsMp (thenM a b c m n).1 := by
  unfold thenM
  split
  · rename_i h
    simp only [Bool.and_eq_true] at h
    have f := mapOk_facts h.1
    have v := valid_sorts f.va
    have := f.sl
    have := f.ol
    exact ⟨by simp only [ledM_len]; omega, by simp only [ledM_len]; omega⟩
  · exact ⟨by simp [noMap], by simp [noMap]⟩

set_option maxHeartbeats 12800000 in
set_option maxRecDepth 100000 in
theorem walk_FnExactMapThen (v0 : Value) (s0 : MSig) (v1 : Value) (s1 : MSig) (v2 : Value) (s2 : MSig) (v3 : Value) (s3 : MMap) (v4 : Value) (s4 : MMap) (w : World) (h0 : RSig w v0 s0) (h1 : RSig w v1 s1) (h2 : RSig w v2 s2) (h3 : RMap w v3 s3) (h4 : RMap w v4 s4) :
    Calls Try.prog 5 #[v0, v1, v2, v3, v4] w fun e w' => e = .returned (.bool true) ∧ Below w.heap.size w w' := by
  have HB : Hid (Below w.heap.size w w) := Below.refl _ _
  obtain ⟨A0a, c0a, rfl⟩ := h0.form
  have HW0 := Lib.hid h0
  have hb := below_alloc (w) (.cells #[.int .i64 s0.sorts, .slice A0a s0.ops.length c0a] 24)
  have fa0 := (bx_cells (w) (.int .i64 s0.sorts) (.slice A0a s0.ops.length c0a) 24).1
  have fb0 := (bx_cells (w) (.int .i64 s0.sorts) (.slice A0a s0.ops.length c0a) 24).2
  replace HB := Lib.hid (ex_keep HB.out hb)
  clear hb h0
  obtain ⟨A1a, c1a, rfl⟩ := h1.form
  have HW1 := Lib.hid h1
  have hb := below_alloc (w.alloc (.cells #[.int .i64 s0.sorts, .slice A0a s0.ops.length c0a] 24)) (.cells #[.int .i64 s1.sorts, .slice A1a s1.ops.length c1a] 24)
  replace fa0 := cell_keep hb fa0
  replace fb0 := cell_keep hb fb0
  have fa1 := (bx_cells (w.alloc (.cells #[.int .i64 s0.sorts, .slice A0a s0.ops.length c0a] 24)) (.int .i64 s1.sorts) (.slice A1a s1.ops.length c1a) 24).1
  have fb1 := (bx_cells (w.alloc (.cells #[.int .i64 s0.sorts, .slice A0a s0.ops.length c0a] 24)) (.int .i64 s1.sorts) (.slice A1a s1.ops.length c1a) 24).2
  simp only [World.size_alloc] at fa1 fb1
  replace HB := Lib.hid (ex_keep HB.out hb)
  clear hb h1
  obtain ⟨A2a, c2a, rfl⟩ := h2.form
  have HW2 := Lib.hid h2
  have hb := below_alloc ((w.alloc (.cells #[.int .i64 s0.sorts, .slice A0a s0.ops.length c0a] 24)).alloc (.cells #[.int .i64 s1.sorts, .slice A1a s1.ops.length c1a] 24)) (.cells #[.int .i64 s2.sorts, .slice A2a s2.ops.length c2a] 24)
  replace fa0 := cell_keep hb fa0
  replace fb0 := cell_keep hb fb0
  replace fa1 := cell_keep hb fa1
  replace fb1 := cell_keep hb fb1
  have fa2 := (bx_cells ((w.alloc (.cells #[.int .i64 s0.sorts, .slice A0a s0.ops.length c0a] 24)).alloc (.cells #[.int .i64 s1.sorts, .slice A1a s1.ops.length c1a] 24)) (.int .i64 s2.sorts) (.slice A2a s2.ops.length c2a) 24).1
  have fb2 := (bx_cells ((w.alloc (.cells #[.int .i64 s0.sorts, .slice A0a s0.ops.length c0a] 24)).alloc (.cells #[.int .i64 s1.sorts, .slice A1a s1.ops.length c1a] 24)) (.int .i64 s2.sorts) (.slice A2a s2.ops.length c2a) 24).2
  simp only [World.size_alloc] at fa2 fb2
  replace HB := Lib.hid (ex_keep HB.out hb)
  clear hb h2
  obtain ⟨A3a, c3a, A3b, c3b, rfl⟩ := h3.form
  have HW3 := Lib.hid h3
  have hb := below_alloc (((w.alloc (.cells #[.int .i64 s0.sorts, .slice A0a s0.ops.length c0a] 24)).alloc (.cells #[.int .i64 s1.sorts, .slice A1a s1.ops.length c1a] 24)).alloc (.cells #[.int .i64 s2.sorts, .slice A2a s2.ops.length c2a] 24)) (.cells #[.slice A3a s3.sorts.length c3a, .slice A3b s3.ops.length c3b] 27)
  replace fa0 := cell_keep hb fa0
  replace fb0 := cell_keep hb fb0
  replace fa1 := cell_keep hb fa1
  replace fb1 := cell_keep hb fb1
  replace fa2 := cell_keep hb fa2
  replace fb2 := cell_keep hb fb2
  have fa3 := (bx_cells (((w.alloc (.cells #[.int .i64 s0.sorts, .slice A0a s0.ops.length c0a] 24)).alloc (.cells #[.int .i64 s1.sorts, .slice A1a s1.ops.length c1a] 24)).alloc (.cells #[.int .i64 s2.sorts, .slice A2a s2.ops.length c2a] 24)) (.slice A3a s3.sorts.length c3a) (.slice A3b s3.ops.length c3b) 27).1
  have fb3 := (bx_cells (((w.alloc (.cells #[.int .i64 s0.sorts, .slice A0a s0.ops.length c0a] 24)).alloc (.cells #[.int .i64 s1.sorts, .slice A1a s1.ops.length c1a] 24)).alloc (.cells #[.int .i64 s2.sorts, .slice A2a s2.ops.length c2a] 24)) (.slice A3a s3.sorts.length c3a) (.slice A3b s3.ops.length c3b) 27).2
  simp only [World.size_alloc] at fa3 fb3
  replace HB := Lib.hid (ex_keep HB.out hb)
  clear hb h3
  obtain ⟨A4a, c4a, A4b, c4b, rfl⟩ := h4.form
  have HW4 := Lib.hid h4
  have hb := below_alloc ((((w.alloc (.cells #[.int .i64 s0.sorts, .slice A0a s0.ops.length c0a] 24)).alloc (.cells #[.int .i64 s1.sorts, .slice A1a s1.ops.length c1a] 24)).alloc (.cells #[.int .i64 s2.sorts, .slice A2a s2.ops.length c2a] 24)).alloc (.cells #[.slice A3a s3.sorts.length c3a, .slice A3b s3.ops.length c3b] 27)) (.cells #[.slice A4a s4.sorts.length c4a, .slice A4b s4.ops.length c4b] 27)
  replace fa0 := cell_keep hb fa0
  replace fb0 := cell_keep hb fb0
  replace fa1 := cell_keep hb fa1
  replace fb1 := cell_keep hb fb1
  replace fa2 := cell_keep hb fa2
  replace fb2 := cell_keep hb fb2
  replace fa3 := cell_keep hb fa3
  replace fb3 := cell_keep hb fb3
  have fa4 := (bx_cells ((((w.alloc (.cells #[.int .i64 s0.sorts, .slice A0a s0.ops.length c0a] 24)).alloc (.cells #[.int .i64 s1.sorts, .slice A1a s1.ops.length c1a] 24)).alloc (.cells #[.int .i64 s2.sorts, .slice A2a s2.ops.length c2a] 24)).alloc (.cells #[.slice A3a s3.sorts.length c3a, .slice A3b s3.ops.length c3b] 27)) (.slice A4a s4.sorts.length c4a) (.slice A4b s4.ops.length c4b) 27).1
  have fb4 := (bx_cells ((((w.alloc (.cells #[.int .i64 s0.sorts, .slice A0a s0.ops.length c0a] 24)).alloc (.cells #[.int .i64 s1.sorts, .slice A1a s1.ops.length c1a] 24)).alloc (.cells #[.int .i64 s2.sorts, .slice A2a s2.ops.length c2a] 24)).alloc (.cells #[.slice A3a s3.sorts.length c3a, .slice A3b s3.ops.length c3b] 27)) (.slice A4a s4.sorts.length c4a) (.slice A4b s4.ops.length c4b) 27).2
  simp only [World.size_alloc] at fa4 fb4
  replace HB := Lib.hid (ex_keep HB.out hb)
  clear hb h4
  go_enter Try.func5, Try.ntmps5
  go_wp2_with fail
  refine (szSig_any _ s0 _ _ (HW0.out.keep HB.out) (by omega) (by omega)).mono ?_
  rintro e w1 ⟨r1, rfl, hr, hb⟩
  replace fa0 := cell_keep hb fa0
  replace fb0 := cell_keep hb fb0
  replace fa1 := cell_keep hb fa1
  replace fb1 := cell_keep hb fb1
  replace fa2 := cell_keep hb fa2
  replace fb2 := cell_keep hb fb2
  replace fa3 := cell_keep hb fa3
  replace fb3 := cell_keep hb fb3
  replace fa4 := cell_keep hb fa4
  replace fb4 := cell_keep hb fb4
  replace HB := Lib.hid (ex_keep HB.out hb)
  clear hb
  by_cases hneg1 : r1 < 0
  · clear hr
    go_wp2
    go_ret
    exact ⟨rfl, HB.out⟩
  obtain ⟨hp1, hq1, hfit⟩ := hr.resolve_left hneg1
  have HF0 := Lib.hid hfit
  clear hr hfit
  go_wp2_with fail
  refine (szSig_any _ s1 _ _ (HW1.out.keep HB.out) (by omega) (by omega)).mono ?_
  rintro e w2 ⟨r2, rfl, hr, hb⟩
  replace fa0 := cell_keep hb fa0
  replace fb0 := cell_keep hb fb0
  replace fa1 := cell_keep hb fa1
  replace fb1 := cell_keep hb fb1
  replace fa2 := cell_keep hb fa2
  replace fb2 := cell_keep hb fb2
  replace fa3 := cell_keep hb fa3
  replace fb3 := cell_keep hb fb3
  replace fa4 := cell_keep hb fa4
  replace fb4 := cell_keep hb fb4
  replace HB := Lib.hid (ex_keep HB.out hb)
  clear hb
  by_cases hneg2 : r2 < 0
  · clear hr
    go_wp2
    go_ret
    exact ⟨rfl, HB.out⟩
  obtain ⟨hp2, hq2, hfit⟩ := hr.resolve_left hneg2
  have HF1 := Lib.hid hfit
  clear hr hfit
  go_wp2_with fail
  refine (szSig_any _ s2 _ _ (HW2.out.keep HB.out) (by omega) (by omega)).mono ?_
  rintro e w3 ⟨r3, rfl, hr, hb⟩
  replace fa0 := cell_keep hb fa0
  replace fb0 := cell_keep hb fb0
  replace fa1 := cell_keep hb fa1
  replace fb1 := cell_keep hb fb1
  replace fa2 := cell_keep hb fa2
  replace fb2 := cell_keep hb fb2
  replace fa3 := cell_keep hb fa3
  replace fb3 := cell_keep hb fb3
  replace fa4 := cell_keep hb fa4
  replace fb4 := cell_keep hb fb4
  replace HB := Lib.hid (ex_keep HB.out hb)
  clear hb
  by_cases hneg3 : r3 < 0
  · clear hr
    go_wp2
    go_ret
    exact ⟨rfl, HB.out⟩
  obtain ⟨hp3, hq3, hfit⟩ := hr.resolve_left hneg3
  have HF2 := Lib.hid hfit
  clear hr hfit
  go_wp2_with fail
  refine (szMap_any _ s3 _ _ (HW3.out.keep HB.out) (by omega) (by omega)).mono ?_
  rintro e w4 ⟨r4, rfl, hr, hb⟩
  replace fa0 := cell_keep hb fa0
  replace fb0 := cell_keep hb fb0
  replace fa1 := cell_keep hb fa1
  replace fb1 := cell_keep hb fb1
  replace fa2 := cell_keep hb fa2
  replace fb2 := cell_keep hb fb2
  replace fa3 := cell_keep hb fa3
  replace fb3 := cell_keep hb fb3
  replace fa4 := cell_keep hb fa4
  replace fb4 := cell_keep hb fb4
  replace HB := Lib.hid (ex_keep HB.out hb)
  clear hb
  by_cases hneg4 : r4 < 0
  · clear hr
    go_wp2
    go_ret
    exact ⟨rfl, HB.out⟩
  obtain ⟨hp4, hq4, hfit⟩ := hr.resolve_left hneg4
  have HF3 := Lib.hid hfit
  clear hr hfit
  go_wp2_with fail
  refine (szMap_any _ s4 _ _ (HW4.out.keep HB.out) (by omega) (by omega)).mono ?_
  rintro e w5 ⟨r5, rfl, hr, hb⟩
  replace fa0 := cell_keep hb fa0
  replace fb0 := cell_keep hb fb0
  replace fa1 := cell_keep hb fa1
  replace fb1 := cell_keep hb fb1
  replace fa2 := cell_keep hb fa2
  replace fb2 := cell_keep hb fb2
  replace fa3 := cell_keep hb fa3
  replace fb3 := cell_keep hb fb3
  replace fa4 := cell_keep hb fa4
  replace fb4 := cell_keep hb fb4
  replace HB := Lib.hid (ex_keep HB.out hb)
  clear hb
  by_cases hneg5 : r5 < 0
  · clear hr
    go_wp2
    go_ret
    exact ⟨rfl, HB.out⟩
  obtain ⟨hp5, hq5, hfit⟩ := hr.resolve_left hneg5
  have HF4 := Lib.hid hfit
  clear hr hfit
  obtain ⟨R, hR⟩ : ∃ R, R = thenM s0 s1 s2 s3 s4 := ⟨_, rfl⟩
  have HLEN := Lib.hid (show _ from thenM_fits s0 s1 s2 s3 s4)
  rw [← hR] at HLEN
  obtain ⟨R1, R2⟩ := R
  try simp only at HLEN
  have HR := Lib.hid hR.symm
  clear hR
  have e1 : (R2 != R2) = false := by simp
  have hbx := World.block_lt_of_cell? w5 _ fb4
  simp only at hbx
  go_wp2_with fail
  go_cut [12, 13] (fun s0 s1 wx => ∃ (bz : Nat) (Az0a : Option Addr) (cz0a : Nat) (Az0b : Option Addr) (cz0b : Nat), s0 = .pointer (some ⟨bz, 0, none⟩) ∧ s1 = .bool R2 ∧ w5.heap.size ≤ bz ∧ wx.heap[bz]? = some (.cells #[.slice Az0a R1.sorts.length cz0a, .slice Az0b R1.ops.length cz0b] 33 (0, 0)) ∧ OMap wx w5.heap.size (.agg #[.slice Az0a R1.sorts.length cz0a, .slice Az0b R1.ops.length cz0b]) R1 ∧ Below w5.heap.size w5 wx)
  case first =>
    as_aux_lemma =>
      refine wp_region_held_drew (S := (fun w' => w'.cell? ⟨w.heap.size, 0, none⟩ = some (.int .i64 s0.sorts) ∧ w'.cell? ⟨w.heap.size, 1, none⟩ = some (.slice A0a s0.ops.length c0a) ∧ w'.cell? ⟨w.heap.size + 1, 0, none⟩ = some (.int .i64 s1.sorts) ∧ w'.cell? ⟨w.heap.size + 1, 1, none⟩ = some (.slice A1a s1.ops.length c1a) ∧ w'.cell? ⟨w.heap.size + 1 + 1, 0, none⟩ = some (.int .i64 s2.sorts) ∧ w'.cell? ⟨w.heap.size + 1 + 1, 1, none⟩ = some (.slice A2a s2.ops.length c2a) ∧ w'.cell? ⟨w.heap.size + 1 + 1 + 1, 0, none⟩ = some (.slice A3a s3.sorts.length c3a) ∧ w'.cell? ⟨w.heap.size + 1 + 1 + 1, 1, none⟩ = some (.slice A3b s3.ops.length c3b) ∧ w'.cell? ⟨w.heap.size + 1 + 1 + 1 + 1, 0, none⟩ = some (.slice A4a s4.sorts.length c4a) ∧ w'.cell? ⟨w.heap.size + 1 + 1 + 1 + 1, 1, none⟩ = some (.slice A4b s4.ops.length c4b))) (by kernel_rfl) ?_ (fun hHeld => ?_)
      · exact ⟨fa0, fb0, fa1, fb1, fa2, fb2, fa3, fb3, fa4, fb4⟩
      refine wpAnyH_take (i := 0) (oi := _) (v := ?_) rfl (by kernel_rfl) (by kernel_rfl) (by kernel_rfl) (fun _ _ _ h => h) (Or.inl ⟨by rfl, ?_⟩) (by assumption) ?_
      rotate_left
      · first | (intro w' hSw; (try dsimp only at hSw); go_simp; done) | (intro w' hSw; (try dsimp only at hSw); go_simp; with_reducible rfl)
      try simp only [Act.put, List.getElem_toArray, List.getElem_cons_zero, List.getElem_cons_succ, List.setIfInBounds_toArray, List.set_cons_zero, List.set_cons_succ]
      refine wpAnyH_take (i := 2) (oi := _) (v := ?_) rfl (by kernel_rfl) (by kernel_rfl) (by kernel_rfl) (fun _ _ _ h => h) (Or.inl ⟨by rfl, ?_⟩) (by assumption) ?_
      rotate_left
      · first | (intro w' hSw; (try dsimp only at hSw); go_simp; done) | (intro w' hSw; (try dsimp only at hSw); go_simp; with_reducible rfl)
      try simp only [Act.put, List.getElem_toArray, List.getElem_cons_zero, List.getElem_cons_succ, List.setIfInBounds_toArray, List.set_cons_zero, List.set_cons_succ]
      refine wpAnyH_take (i := 4) (oi := _) (v := ?_) rfl (by kernel_rfl) (by kernel_rfl) (by kernel_rfl) (fun _ _ _ h => h) (Or.inl ⟨by rfl, ?_⟩) (by assumption) ?_
      rotate_left
      · first | (intro w' hSw; (try dsimp only at hSw); go_simp; done) | (intro w' hSw; (try dsimp only at hSw); go_simp; with_reducible rfl)
      try simp only [Act.put, List.getElem_toArray, List.getElem_cons_zero, List.getElem_cons_succ, List.setIfInBounds_toArray, List.set_cons_zero, List.set_cons_succ]
      refine wpAnyH_take (i := 6) (oi := _) (v := ?_) rfl (by kernel_rfl) (by kernel_rfl) (by kernel_rfl) (fun _ _ _ h => h) (Or.inl ⟨by rfl, ?_⟩) (by assumption) ?_
      rotate_left
      · first | (intro w' hSw; (try dsimp only at hSw); go_simp; done) | (intro w' hSw; (try dsimp only at hSw); go_simp; with_reducible rfl)
      try simp only [Act.put, List.getElem_toArray, List.getElem_cons_zero, List.getElem_cons_succ, List.setIfInBounds_toArray, List.set_cons_zero, List.set_cons_succ]
      refine wpAnyH_take (i := 8) (oi := _) (v := ?_) rfl (by kernel_rfl) (by kernel_rfl) (by kernel_rfl) (fun _ _ _ h => h) (Or.inl ⟨by rfl, ?_⟩) (by assumption) ?_
      rotate_left
      · first | (intro w' hSw; (try dsimp only at hSw); go_simp; done) | (intro w' hSw; (try dsimp only at hSw); go_simp; with_reducible rfl)
      try simp only [Act.put, List.getElem_toArray, List.getElem_cons_zero, List.getElem_cons_succ, List.setIfInBounds_toArray, List.set_cons_zero, List.set_cons_succ]
      refine wpAnyH_ready (rs := [1, 14]) (by kernel_rfl) (by simp) ?_
      refine AllReadyH.cons (o := _) rfl (fun K hK => ?_) (AllReadyH.cons (o := _) rfl (fun K hK => ?_) AllReadyH.nil)
      · skip
        go_simp
        refine (toSig_any _ s0 _ (HW0.out.keep (ex_drew HB.out)) HF0.out).mono ?_
        rintro e w7 ⟨y0, rfl, ho, hb⟩
        replace hb := ex_undrew hb
        replace fa0 := cell_keep hb fa0
        replace fb0 := cell_keep hb fb0
        replace fa1 := cell_keep hb fa1
        replace fb1 := cell_keep hb fb1
        replace fa2 := cell_keep hb fa2
        replace fb2 := cell_keep hb fb2
        replace fa3 := cell_keep hb fa3
        replace fb3 := cell_keep hb fb3
        replace fa4 := cell_keep hb fa4
        replace fb4 := cell_keep hb fb4
        have HP := Lib.hid hb
        have P0 := Lib.hid ho.reads
        obtain ⟨AY0a, cY0a, rfl⟩ := ho.reads.form
        clear ho hb
        go_wp2_with fail
        refine hK.out _ _ ?_ (fun hHeld => ?_)
        · exact ⟨fa0, fb0, fa1, fb1, fa2, fb2, fa3, fb3, fa4, fb4⟩
        clear hK K
        try simp only [Act.put, List.getElem_toArray, List.getElem_cons_zero, List.getElem_cons_succ, List.setIfInBounds_toArray, List.set_cons_zero, List.set_cons_succ]
        refine wpAnyH_ready (rs := [3, 14]) (by kernel_rfl) (by simp) ?_
        refine AllReadyH.cons (o := _) rfl (fun K hK => ?_) (AllReadyH.cons (o := _) rfl (fun K hK => ?_) AllReadyH.nil)
        · skip
          go_simp
          refine (toSig_any _ s1 _ (HW1.out.keep (ex_keep HB.out HP.out)) HF1.out).mono ?_
          rintro e w8 ⟨y1, rfl, ho, hb⟩
          replace fa0 := cell_keep hb fa0
          replace fb0 := cell_keep hb fb0
          replace fa1 := cell_keep hb fa1
          replace fb1 := cell_keep hb fb1
          replace fa2 := cell_keep hb fa2
          replace fb2 := cell_keep hb fb2
          replace fa3 := cell_keep hb fa3
          replace fb3 := cell_keep hb fb3
          replace fa4 := cell_keep hb fa4
          replace fb4 := cell_keep hb fb4
          replace P0 := Lib.hid (P0.out.keep hb)
          replace HP := Lib.hid (ex_keep HP.out hb)
          have P1 := Lib.hid ho.reads
          obtain ⟨AY1a, cY1a, rfl⟩ := ho.reads.form
          clear ho hb
          go_wp2_with fail
          refine hK.out _ _ ?_ (fun hHeld => ?_)
          · exact ⟨fa0, fb0, fa1, fb1, fa2, fb2, fa3, fb3, fa4, fb4⟩
          clear hK K
          try simp only [Act.put, List.getElem_toArray, List.getElem_cons_zero, List.getElem_cons_succ, List.setIfInBounds_toArray, List.set_cons_zero, List.set_cons_succ]
          refine wpAnyH_ready (rs := [5, 14]) (by kernel_rfl) (by simp) ?_
          refine AllReadyH.cons (o := _) rfl (fun K hK => ?_) (AllReadyH.cons (o := _) rfl (fun K hK => ?_) AllReadyH.nil)
          · skip
            go_simp
            refine (toSig_any _ s2 _ (HW2.out.keep (ex_keep HB.out HP.out)) HF2.out).mono ?_
            rintro e w9 ⟨y2, rfl, ho, hb⟩
            replace fa0 := cell_keep hb fa0
            replace fb0 := cell_keep hb fb0
            replace fa1 := cell_keep hb fa1
            replace fb1 := cell_keep hb fb1
            replace fa2 := cell_keep hb fa2
            replace fb2 := cell_keep hb fb2
            replace fa3 := cell_keep hb fa3
            replace fb3 := cell_keep hb fb3
            replace fa4 := cell_keep hb fa4
            replace fb4 := cell_keep hb fb4
            replace P0 := Lib.hid (P0.out.keep hb)
            replace P1 := Lib.hid (P1.out.keep hb)
            replace HP := Lib.hid (ex_keep HP.out hb)
            have P2 := Lib.hid ho.reads
            obtain ⟨AY2a, cY2a, rfl⟩ := ho.reads.form
            clear ho hb
            go_wp2_with fail
            refine hK.out _ _ ?_ (fun hHeld => ?_)
            · exact ⟨fa0, fb0, fa1, fb1, fa2, fb2, fa3, fb3, fa4, fb4⟩
            clear hK K
            try simp only [Act.put, List.getElem_toArray, List.getElem_cons_zero, List.getElem_cons_succ, List.setIfInBounds_toArray, List.set_cons_zero, List.set_cons_succ]
            refine wpAnyH_ready (rs := [7, 14]) (by kernel_rfl) (by simp) ?_
            refine AllReadyH.cons (o := _) rfl (fun K hK => ?_) (AllReadyH.cons (o := _) rfl (fun K hK => ?_) AllReadyH.nil)
            · skip
              go_simp
              refine (toMap_any _ s3 _ (HW3.out.keep (ex_keep HB.out HP.out)) HF3.out).mono ?_
              rintro e w10 ⟨y3, rfl, ho, hb⟩
              replace fa0 := cell_keep hb fa0
              replace fb0 := cell_keep hb fb0
              replace fa1 := cell_keep hb fa1
              replace fb1 := cell_keep hb fb1
              replace fa2 := cell_keep hb fa2
              replace fb2 := cell_keep hb fb2
              replace fa3 := cell_keep hb fa3
              replace fb3 := cell_keep hb fb3
              replace fa4 := cell_keep hb fa4
              replace fb4 := cell_keep hb fb4
              replace P0 := Lib.hid (P0.out.keep hb)
              replace P1 := Lib.hid (P1.out.keep hb)
              replace P2 := Lib.hid (P2.out.keep hb)
              replace HP := Lib.hid (ex_keep HP.out hb)
              have P3 := Lib.hid ho.reads
              obtain ⟨AY3a, cY3a, AY3b, cY3b, rfl⟩ := ho.reads.form
              clear ho hb
              go_wp2_with fail
              refine hK.out _ _ ?_ (fun hHeld => ?_)
              · exact ⟨fa0, fb0, fa1, fb1, fa2, fb2, fa3, fb3, fa4, fb4⟩
              clear hK K
              try simp only [Act.put, List.getElem_toArray, List.getElem_cons_zero, List.getElem_cons_succ, List.setIfInBounds_toArray, List.set_cons_zero, List.set_cons_succ]
              refine wpAnyH_ready (rs := [9, 14]) (by kernel_rfl) (by simp) ?_
              refine AllReadyH.cons (o := _) rfl (fun K hK => ?_) (AllReadyH.cons (o := _) rfl (fun K hK => ?_) AllReadyH.nil)
              · skip
                go_simp
                refine (toMap_any _ s4 _ (HW4.out.keep (ex_keep HB.out HP.out)) HF4.out).mono ?_
                rintro e w11 ⟨y4, rfl, ho, hb⟩
                replace fa0 := cell_keep hb fa0
                replace fb0 := cell_keep hb fb0
                replace fa1 := cell_keep hb fa1
                replace fb1 := cell_keep hb fb1
                replace fa2 := cell_keep hb fa2
                replace fb2 := cell_keep hb fb2
                replace fa3 := cell_keep hb fa3
                replace fb3 := cell_keep hb fb3
                replace fa4 := cell_keep hb fa4
                replace fb4 := cell_keep hb fb4
                replace P0 := Lib.hid (P0.out.keep hb)
                replace P1 := Lib.hid (P1.out.keep hb)
                replace P2 := Lib.hid (P2.out.keep hb)
                replace P3 := Lib.hid (P3.out.keep hb)
                replace HP := Lib.hid (ex_keep HP.out hb)
                have P4 := Lib.hid ho.reads
                obtain ⟨AY4a, cY4a, AY4b, cY4b, rfl⟩ := ho.reads.form
                clear ho hb
                go_wp2_with fail
                refine hK.out _ _ ?_ (fun hHeld => ?_)
                · exact ⟨fa0, fb0, fa1, fb1, fa2, fb2, fa3, fb3, fa4, fb4⟩
                clear hK K
                try simp only [Act.put, List.getElem_toArray, List.getElem_cons_zero, List.getElem_cons_succ, List.setIfInBounds_toArray, List.set_cons_zero, List.set_cons_succ]
                refine wpAnyH_ready (rs := [10, 14]) (by kernel_rfl) (by simp) ?_
                refine AllReadyH.cons (o := _) rfl (fun K hK => ?_) (AllReadyH.cons (o := _) rfl (fun K hK => ?_) AllReadyH.nil)
                · skip
                  go_simp
                  have hs1 := HP.out.size
                  refine (specMapThen_any s0 s1 s2 s3 s4 _ _ _ _ _ _ P0.out P1.out P2.out P3.out P4.out).mono ?_
                  rw [HR.out]
                  rintro e w12 ⟨z0, rfl, ho0, hb⟩
                  obtain ⟨Az0a, cz0a, Az0b, cz0b, rfl⟩ := ho0.reads.form
                  have HO := Lib.hid ho0
                  have hs2 := hb.size
                  replace fa0 := cell_keep hb fa0
                  replace fb0 := cell_keep hb fb0
                  replace fa1 := cell_keep hb fa1
                  replace fb1 := cell_keep hb fb1
                  replace fa2 := cell_keep hb fa2
                  replace fb2 := cell_keep hb fb2
                  replace fa3 := cell_keep hb fa3
                  replace fb3 := cell_keep hb fb3
                  replace fa4 := cell_keep hb fa4
                  replace fb4 := cell_keep hb fb4
                  replace HP := Lib.hid (ex_keep HP.out hb)
                  clear ho0 hb P0 P1 P2 P3 P4
                  go_wp2_with fail
                  refine hK.out _ _ ?_ (fun hHeld => ?_)
                  · exact ⟨fa0, fb0, fa1, fb1, fa2, fb2, fa3, fb3, fa4, fb4⟩
                  clear hK K
                  try simp only [Act.put, List.getElem_toArray, List.getElem_cons_zero, List.getElem_cons_succ, List.setIfInBounds_toArray, List.set_cons_zero, List.set_cons_succ]
                  refine wpAnyH_take (i := 11) (oi := _) (v := ?_) rfl (by kernel_rfl) (by kernel_rfl) (by kernel_rfl) (fun _ _ _ h => h) (Or.inl ⟨by rfl, ?_⟩) (by assumption) ?_
                  rotate_left
                  · first | (intro w' hSw; (try dsimp only at hSw); go_simp; done) | (intro w' hSw; (try dsimp only at hSw); go_simp; with_reducible rfl)
                  try simp only [Act.put, List.getElem_toArray, List.getElem_cons_zero, List.getElem_cons_succ, List.setIfInBounds_toArray, List.set_cons_zero, List.set_cons_succ]
                  refine wpAnyH_take (i := 12) (oi := _) (v := ?_) rfl (by kernel_rfl) (by kernel_rfl) (by kernel_rfl) (fun _ _ _ h => h) (Or.inl ⟨by rfl, ?_⟩) (by assumption) ?_
                  rotate_left
                  · first | (intro w' hSw; (try dsimp only at hSw); go_simp; done) | (intro w' hSw; (try dsimp only at hSw); go_simp; with_reducible rfl)
                  try simp only [Act.put, List.getElem_toArray, List.getElem_cons_zero, List.getElem_cons_succ, List.setIfInBounds_toArray, List.set_cons_zero, List.set_cons_succ]
                  refine wpAnyH_take (i := 13) (oi := _) (v := ?_) rfl (by kernel_rfl) (by kernel_rfl) (by kernel_rfl) (fun _ _ _ h => h) (Or.inl ⟨by rfl, ?_⟩) (by assumption) ?_
                  rotate_left
                  · first | (intro w' hSw; (try dsimp only at hSw); go_simp; done) | (intro w' hSw; (try dsimp only at hSw); go_simp; with_reducible rfl)
                  try simp only [Act.put, List.getElem_toArray, List.getElem_cons_zero, List.getElem_cons_succ, List.setIfInBounds_toArray, List.set_cons_zero, List.set_cons_succ]
                  refine wpAnyH_ready (rs := [14]) (by kernel_rfl) (by simp) ?_
                  refine AllReadyH.cons (o := _) rfl (fun K hK => ?_) AllReadyH.nil
                  have hzl := HP.out.size
                  go_simp
                  have hb := below_alloc w12 (.cells #[.slice none 0 0, .slice none 0 0] 33)
                  have hz := heap_alloc_new w12 (.cells #[.slice none 0 0, .slice none 0 0] 33)
                  generalize hWA : w12.alloc (.cells #[.slice none 0 0, .slice none 0 0] 33) = w13 at hb hz ⊢
                  clear hWA
                  have HZb := Lib.hid (show w13.heap[w12.heap.size]? = some (.cells #[.slice none 0 0, .slice none 0 0] 33 (0, 0)) from hz)
                  have HLATE := Lib.hid hb.block
                  replace fa0 := cell_keep hb fa0
                  replace fb0 := cell_keep hb fb0
                  replace fa1 := cell_keep hb fa1
                  replace fb1 := cell_keep hb fb1
                  replace fa2 := cell_keep hb fa2
                  replace fb2 := cell_keep hb fb2
                  replace fa3 := cell_keep hb fa3
                  replace fb3 := cell_keep hb fb3
                  replace fa4 := cell_keep hb fa4
                  replace fb4 := cell_keep hb fb4
                  replace HP := Lib.hid (ex_keep HP.out hb)
                  have j0 := blk_cell HZb.out 0
                  have jf0 := blk_free HZb.out 0
                  have j1 := blk_cell HZb.out 1
                  have jf1 := blk_free HZb.out 1
                  simp at j0 j1
                  clear hb hz
                  go_wp2_with fail
                  refine hK.out _ _ ?_ (fun hHeld => ?_)
                  · exact ⟨fa0, fb0, fa1, fb1, fa2, fb2, fa3, fb3, fa4, fb4⟩
                  clear hK K
                  try simp only [Act.put, List.getElem_toArray, List.getElem_cons_zero, List.getElem_cons_succ, List.setIfInBounds_toArray, List.set_cons_zero, List.set_cons_succ]
                  refine wpAnyH_ready (rs := [15]) (by kernel_rfl) (by simp) ?_
                  refine AllReadyH.cons (o := _) rfl (fun K hK => ?_) AllReadyH.nil
                  go_simp
                  go_wp2_with fail
                  refine hK.out _ _ ?_ (fun hHeld => ?_)
                  · exact ⟨(set_far (by omega) _ _ _).trans ((set_far (by omega) _ _ _).trans (fa0)), (set_far (by omega) _ _ _).trans ((set_far (by omega) _ _ _).trans (fb0)), (set_far (by omega) _ _ _).trans ((set_far (by omega) _ _ _).trans (fa1)), (set_far (by omega) _ _ _).trans ((set_far (by omega) _ _ _).trans (fb1)), (set_far (by omega) _ _ _).trans ((set_far (by omega) _ _ _).trans (fa2)), (set_far (by omega) _ _ _).trans ((set_far (by omega) _ _ _).trans (fb2)), (set_far (by omega) _ _ _).trans ((set_far (by omega) _ _ _).trans (fa3)), (set_far (by omega) _ _ _).trans ((set_far (by omega) _ _ _).trans (fb3)), (set_far (by omega) _ _ _).trans ((set_far (by omega) _ _ _).trans (fa4)), (set_far (by omega) _ _ _).trans ((set_far (by omega) _ _ _).trans (fb4))⟩
                  clear hK K
                  try simp only [Act.put, List.getElem_toArray, List.getElem_cons_zero, List.getElem_cons_succ, List.setIfInBounds_toArray, List.set_cons_zero, List.set_cons_succ]
                  refine wpAnyH_take (i := 16) (oi := _) (v := ?_) rfl (by kernel_rfl) (by kernel_rfl) (by kernel_rfl) (fun _ _ _ h => h) (Or.inl ⟨by rfl, ?_⟩) (by assumption) ?_
                  rotate_left
                  · first | (intro w' hSw; (try dsimp only at hSw); go_simp; done) | (intro w' hSw; (try dsimp only at hSw); go_simp; with_reducible rfl)
                  try simp only [Act.put, List.getElem_toArray, List.getElem_cons_zero, List.getElem_cons_succ, List.setIfInBounds_toArray, List.set_cons_zero, List.set_cons_succ]
                  refine wpAnyH_done (by kernel_rfl) ?_ _
                  go_wp2_with fail
                  go_meet
                  exact ⟨_, _, _, _, _, rfl, rfl, hzl, (blk_set (blk_set HZb.out 0 (.slice Az0a R1.sorts.length cz0a)) 1 (.slice Az0b R1.ops.length cz0b)), (HO.out.same (fun k q1 q2 => ((set_blk (by omega) _ _).trans (set_blk (by omega) _ _)).trans (HLATE.out k q2))).base (by omega), ((HP.out.setCell (p := ⟨w12.heap.size, 0, none⟩) hzl (.slice Az0a R1.sorts.length cz0a)).setCell (p := ⟨w12.heap.size, 1, none⟩) hzl (.slice Az0b R1.ops.length cz0b))⟩
                · skip
                  go_simp
                  have hb := below_alloc w11 (.cells #[.slice none 0 0, .slice none 0 0] 33)
                  have hz := heap_alloc_new w11 (.cells #[.slice none 0 0, .slice none 0 0] 33)
                  generalize hWA : w11.alloc (.cells #[.slice none 0 0, .slice none 0 0] 33) = w14 at hb hz ⊢
                  clear hWA
                  have HZb := Lib.hid (show w14.heap[w11.heap.size]? = some (.cells #[.slice none 0 0, .slice none 0 0] 33 (0, 0)) from hz)
                  have hzl : w5.heap.size ≤ w11.heap.size := HP.out.size
                  replace fa0 := cell_keep hb fa0
                  replace fb0 := cell_keep hb fb0
                  replace fa1 := cell_keep hb fa1
                  replace fb1 := cell_keep hb fb1
                  replace fa2 := cell_keep hb fa2
                  replace fb2 := cell_keep hb fb2
                  replace fa3 := cell_keep hb fa3
                  replace fb3 := cell_keep hb fb3
                  replace fa4 := cell_keep hb fa4
                  replace fb4 := cell_keep hb fb4
                  replace P0 := Lib.hid (P0.out.keep hb)
                  replace P1 := Lib.hid (P1.out.keep hb)
                  replace P2 := Lib.hid (P2.out.keep hb)
                  replace P3 := Lib.hid (P3.out.keep hb)
                  replace P4 := Lib.hid (P4.out.keep hb)
                  replace HP := Lib.hid (ex_keep HP.out hb)
                  clear hb hz
                  go_wp2_with fail
                  refine hK.out _ _ ?_ (fun hHeld => ?_)
                  · exact ⟨fa0, fb0, fa1, fb1, fa2, fb2, fa3, fb3, fa4, fb4⟩
                  clear hK K
                  try simp only [Act.put, List.getElem_toArray, List.getElem_cons_zero, List.getElem_cons_succ, List.setIfInBounds_toArray, List.set_cons_zero, List.set_cons_succ]
                  refine wpAnyH_ready (rs := [10]) (by kernel_rfl) (by simp) ?_
                  refine AllReadyH.cons (o := _) rfl (fun K hK => ?_) AllReadyH.nil
                  go_simp
                  have hs1 := HP.out.size
                  have hbl := (Array.getElem?_eq_some_iff.1 HZb.out).1
                  refine (specMapThen_any s0 s1 s2 s3 s4 _ _ _ _ _ _ P0.out P1.out P2.out P3.out P4.out).mono ?_
                  rw [HR.out]
                  rintro e w15 ⟨z0, rfl, ho0, hb⟩
                  obtain ⟨Az0a, cz0a, Az0b, cz0b, rfl⟩ := ho0.reads.form
                  have HO := Lib.hid ho0
                  have hs2 := hb.size
                  replace fa0 := cell_keep hb fa0
                  replace fb0 := cell_keep hb fb0
                  replace fa1 := cell_keep hb fa1
                  replace fb1 := cell_keep hb fb1
                  replace fa2 := cell_keep hb fa2
                  replace fb2 := cell_keep hb fb2
                  replace fa3 := cell_keep hb fa3
                  replace fb3 := cell_keep hb fb3
                  replace fa4 := cell_keep hb fa4
                  replace fb4 := cell_keep hb fb4
                  replace HP := Lib.hid (ex_keep HP.out hb)
                  replace HZb := Lib.hid (blk_at HZb.out hb)
                  have j0 := blk_cell HZb.out 0
                  have jf0 := blk_free HZb.out 0
                  have j1 := blk_cell HZb.out 1
                  have jf1 := blk_free HZb.out 1
                  simp at j0 j1
                  clear ho0 hb P0 P1 P2 P3 P4
                  go_wp2_with fail
                  refine hK.out _ _ ?_ (fun hHeld => ?_)
                  · exact ⟨fa0, fb0, fa1, fb1, fa2, fb2, fa3, fb3, fa4, fb4⟩
                  clear hK K
                  try simp only [Act.put, List.getElem_toArray, List.getElem_cons_zero, List.getElem_cons_succ, List.setIfInBounds_toArray, List.set_cons_zero, List.set_cons_succ]
                  refine wpAnyH_take (i := 11) (oi := _) (v := ?_) rfl (by kernel_rfl) (by kernel_rfl) (by kernel_rfl) (fun _ _ _ h => h) (Or.inl ⟨by rfl, ?_⟩) (by assumption) ?_
                  rotate_left
                  · first | (intro w' hSw; (try dsimp only at hSw); go_simp; done) | (intro w' hSw; (try dsimp only at hSw); go_simp; with_reducible rfl)
                  try simp only [Act.put, List.getElem_toArray, List.getElem_cons_zero, List.getElem_cons_succ, List.setIfInBounds_toArray, List.set_cons_zero, List.set_cons_succ]
                  refine wpAnyH_take (i := 12) (oi := _) (v := ?_) rfl (by kernel_rfl) (by kernel_rfl) (by kernel_rfl) (fun _ _ _ h => h) (Or.inl ⟨by rfl, ?_⟩) (by assumption) ?_
                  rotate_left
                  · first | (intro w' hSw; (try dsimp only at hSw); go_simp; done) | (intro w' hSw; (try dsimp only at hSw); go_simp; with_reducible rfl)
                  try simp only [Act.put, List.getElem_toArray, List.getElem_cons_zero, List.getElem_cons_succ, List.setIfInBounds_toArray, List.set_cons_zero, List.set_cons_succ]
                  refine wpAnyH_take (i := 13) (oi := _) (v := ?_) rfl (by kernel_rfl) (by kernel_rfl) (by kernel_rfl) (fun _ _ _ h => h) (Or.inl ⟨by rfl, ?_⟩) (by assumption) ?_
                  rotate_left
                  · first | (intro w' hSw; (try dsimp only at hSw); go_simp; done) | (intro w' hSw; (try dsimp only at hSw); go_simp; with_reducible rfl)
                  try simp only [Act.put, List.getElem_toArray, List.getElem_cons_zero, List.getElem_cons_succ, List.setIfInBounds_toArray, List.set_cons_zero, List.set_cons_succ]
                  refine wpAnyH_ready (rs := [15]) (by kernel_rfl) (by simp) ?_
                  refine AllReadyH.cons (o := _) rfl (fun K hK => ?_) AllReadyH.nil
                  go_simp
                  go_wp2_with fail
                  refine hK.out _ _ ?_ (fun hHeld => ?_)
                  · exact ⟨(set_far (by omega) _ _ _).trans ((set_far (by omega) _ _ _).trans (fa0)), (set_far (by omega) _ _ _).trans ((set_far (by omega) _ _ _).trans (fb0)), (set_far (by omega) _ _ _).trans ((set_far (by omega) _ _ _).trans (fa1)), (set_far (by omega) _ _ _).trans ((set_far (by omega) _ _ _).trans (fb1)), (set_far (by omega) _ _ _).trans ((set_far (by omega) _ _ _).trans (fa2)), (set_far (by omega) _ _ _).trans ((set_far (by omega) _ _ _).trans (fb2)), (set_far (by omega) _ _ _).trans ((set_far (by omega) _ _ _).trans (fa3)), (set_far (by omega) _ _ _).trans ((set_far (by omega) _ _ _).trans (fb3)), (set_far (by omega) _ _ _).trans ((set_far (by omega) _ _ _).trans (fa4)), (set_far (by omega) _ _ _).trans ((set_far (by omega) _ _ _).trans (fb4))⟩
                  clear hK K
                  try simp only [Act.put, List.getElem_toArray, List.getElem_cons_zero, List.getElem_cons_succ, List.setIfInBounds_toArray, List.set_cons_zero, List.set_cons_succ]
                  refine wpAnyH_take (i := 16) (oi := _) (v := ?_) rfl (by kernel_rfl) (by kernel_rfl) (by kernel_rfl) (fun _ _ _ h => h) (Or.inl ⟨by rfl, ?_⟩) (by assumption) ?_
                  rotate_left
                  · first | (intro w' hSw; (try dsimp only at hSw); go_simp; done) | (intro w' hSw; (try dsimp only at hSw); go_simp; with_reducible rfl)
                  try simp only [Act.put, List.getElem_toArray, List.getElem_cons_zero, List.getElem_cons_succ, List.setIfInBounds_toArray, List.set_cons_zero, List.set_cons_succ]
                  refine wpAnyH_done (by kernel_rfl) ?_ _
                  go_wp2_with fail
                  go_meet
                  exact ⟨_, _, _, _, _, rfl, rfl, hzl, (blk_set (blk_set HZb.out 0 (.slice Az0a R1.sorts.length cz0a)) 1 (.slice Az0b R1.ops.length cz0b)), (HO.out.same (fun k q1 q2 => ((set_blk (by omega) _ _).trans (set_blk (by omega) _ _)))).base (by omega), ((HP.out.setCell (p := ⟨w11.heap.size, 0, none⟩) hzl (.slice Az0a R1.sorts.length cz0a)).setCell (p := ⟨w11.heap.size, 1, none⟩) hzl (.slice Az0b R1.ops.length cz0b))⟩
              · skip
                go_simp
                have hb := below_alloc w10 (.cells #[.slice none 0 0, .slice none 0 0] 33)
                have hz := heap_alloc_new w10 (.cells #[.slice none 0 0, .slice none 0 0] 33)
                generalize hWA : w10.alloc (.cells #[.slice none 0 0, .slice none 0 0] 33) = w16 at hb hz ⊢
                clear hWA
                have HZb := Lib.hid (show w16.heap[w10.heap.size]? = some (.cells #[.slice none 0 0, .slice none 0 0] 33 (0, 0)) from hz)
                have hzl : w5.heap.size ≤ w10.heap.size := HP.out.size
                replace fa0 := cell_keep hb fa0
                replace fb0 := cell_keep hb fb0
                replace fa1 := cell_keep hb fa1
                replace fb1 := cell_keep hb fb1
                replace fa2 := cell_keep hb fa2
                replace fb2 := cell_keep hb fb2
                replace fa3 := cell_keep hb fa3
                replace fb3 := cell_keep hb fb3
                replace fa4 := cell_keep hb fa4
                replace fb4 := cell_keep hb fb4
                replace P0 := Lib.hid (P0.out.keep hb)
                replace P1 := Lib.hid (P1.out.keep hb)
                replace P2 := Lib.hid (P2.out.keep hb)
                replace P3 := Lib.hid (P3.out.keep hb)
                replace HP := Lib.hid (ex_keep HP.out hb)
                clear hb hz
                go_wp2_with fail
                refine hK.out _ _ ?_ (fun hHeld => ?_)
                · exact ⟨fa0, fb0, fa1, fb1, fa2, fb2, fa3, fb3, fa4, fb4⟩
                clear hK K
                try simp only [Act.put, List.getElem_toArray, List.getElem_cons_zero, List.getElem_cons_succ, List.setIfInBounds_toArray, List.set_cons_zero, List.set_cons_succ]
                refine wpAnyH_ready (rs := [9]) (by kernel_rfl) (by simp) ?_
                refine AllReadyH.cons (o := _) rfl (fun K hK => ?_) AllReadyH.nil
                go_simp
                refine (toMap_any _ s4 _ (HW4.out.keep (ex_keep HB.out HP.out)) HF4.out).mono ?_
                rintro e w17 ⟨y4, rfl, ho, hb⟩
                replace fa0 := cell_keep hb fa0
                replace fb0 := cell_keep hb fb0
                replace fa1 := cell_keep hb fa1
                replace fb1 := cell_keep hb fb1
                replace fa2 := cell_keep hb fa2
                replace fb2 := cell_keep hb fb2
                replace fa3 := cell_keep hb fa3
                replace fb3 := cell_keep hb fb3
                replace fa4 := cell_keep hb fa4
                replace fb4 := cell_keep hb fb4
                replace P0 := Lib.hid (P0.out.keep hb)
                replace P1 := Lib.hid (P1.out.keep hb)
                replace P2 := Lib.hid (P2.out.keep hb)
                replace P3 := Lib.hid (P3.out.keep hb)
                replace HP := Lib.hid (ex_keep HP.out hb)
                replace HZb := Lib.hid (blk_at HZb.out hb)
                have P4 := Lib.hid ho.reads
                obtain ⟨AY4a, cY4a, AY4b, cY4b, rfl⟩ := ho.reads.form
                clear ho hb
                go_wp2_with fail
                refine hK.out _ _ ?_ (fun hHeld => ?_)
                · exact ⟨fa0, fb0, fa1, fb1, fa2, fb2, fa3, fb3, fa4, fb4⟩
                clear hK K
                try simp only [Act.put, List.getElem_toArray, List.getElem_cons_zero, List.getElem_cons_succ, List.setIfInBounds_toArray, List.set_cons_zero, List.set_cons_succ]
                refine wpAnyH_ready (rs := [10]) (by kernel_rfl) (by simp) ?_
                refine AllReadyH.cons (o := _) rfl (fun K hK => ?_) AllReadyH.nil
                go_simp
                have hs1 := HP.out.size
                have hbl := (Array.getElem?_eq_some_iff.1 HZb.out).1
                refine (specMapThen_any s0 s1 s2 s3 s4 _ _ _ _ _ _ P0.out P1.out P2.out P3.out P4.out).mono ?_
                rw [HR.out]
                rintro e w18 ⟨z0, rfl, ho0, hb⟩
                obtain ⟨Az0a, cz0a, Az0b, cz0b, rfl⟩ := ho0.reads.form
                have HO := Lib.hid ho0
                have hs2 := hb.size
                replace fa0 := cell_keep hb fa0
                replace fb0 := cell_keep hb fb0
                replace fa1 := cell_keep hb fa1
                replace fb1 := cell_keep hb fb1
                replace fa2 := cell_keep hb fa2
                replace fb2 := cell_keep hb fb2
                replace fa3 := cell_keep hb fa3
                replace fb3 := cell_keep hb fb3
                replace fa4 := cell_keep hb fa4
                replace fb4 := cell_keep hb fb4
                replace HP := Lib.hid (ex_keep HP.out hb)
                replace HZb := Lib.hid (blk_at HZb.out hb)
                have j0 := blk_cell HZb.out 0
                have jf0 := blk_free HZb.out 0
                have j1 := blk_cell HZb.out 1
                have jf1 := blk_free HZb.out 1
                simp at j0 j1
                clear ho0 hb P0 P1 P2 P3 P4
                go_wp2_with fail
                refine hK.out _ _ ?_ (fun hHeld => ?_)
                · exact ⟨fa0, fb0, fa1, fb1, fa2, fb2, fa3, fb3, fa4, fb4⟩
                clear hK K
                try simp only [Act.put, List.getElem_toArray, List.getElem_cons_zero, List.getElem_cons_succ, List.setIfInBounds_toArray, List.set_cons_zero, List.set_cons_succ]
                refine wpAnyH_take (i := 11) (oi := _) (v := ?_) rfl (by kernel_rfl) (by kernel_rfl) (by kernel_rfl) (fun _ _ _ h => h) (Or.inl ⟨by rfl, ?_⟩) (by assumption) ?_
                rotate_left
                · first | (intro w' hSw; (try dsimp only at hSw); go_simp; done) | (intro w' hSw; (try dsimp only at hSw); go_simp; with_reducible rfl)
                try simp only [Act.put, List.getElem_toArray, List.getElem_cons_zero, List.getElem_cons_succ, List.setIfInBounds_toArray, List.set_cons_zero, List.set_cons_succ]
                refine wpAnyH_take (i := 12) (oi := _) (v := ?_) rfl (by kernel_rfl) (by kernel_rfl) (by kernel_rfl) (fun _ _ _ h => h) (Or.inl ⟨by rfl, ?_⟩) (by assumption) ?_
                rotate_left
                · first | (intro w' hSw; (try dsimp only at hSw); go_simp; done) | (intro w' hSw; (try dsimp only at hSw); go_simp; with_reducible rfl)
                try simp only [Act.put, List.getElem_toArray, List.getElem_cons_zero, List.getElem_cons_succ, List.setIfInBounds_toArray, List.set_cons_zero, List.set_cons_succ]
                refine wpAnyH_take (i := 13) (oi := _) (v := ?_) rfl (by kernel_rfl) (by kernel_rfl) (by kernel_rfl) (fun _ _ _ h => h) (Or.inl ⟨by rfl, ?_⟩) (by assumption) ?_
                rotate_left
                · first | (intro w' hSw; (try dsimp only at hSw); go_simp; done) | (intro w' hSw; (try dsimp only at hSw); go_simp; with_reducible rfl)
                try simp only [Act.put, List.getElem_toArray, List.getElem_cons_zero, List.getElem_cons_succ, List.setIfInBounds_toArray, List.set_cons_zero, List.set_cons_succ]
                refine wpAnyH_ready (rs := [15]) (by kernel_rfl) (by simp) ?_
                refine AllReadyH.cons (o := _) rfl (fun K hK => ?_) AllReadyH.nil
                go_simp
                go_wp2_with fail
                refine hK.out _ _ ?_ (fun hHeld => ?_)
                · exact ⟨(set_far (by omega) _ _ _).trans ((set_far (by omega) _ _ _).trans (fa0)), (set_far (by omega) _ _ _).trans ((set_far (by omega) _ _ _).trans (fb0)), (set_far (by omega) _ _ _).trans ((set_far (by omega) _ _ _).trans (fa1)), (set_far (by omega) _ _ _).trans ((set_far (by omega) _ _ _).trans (fb1)), (set_far (by omega) _ _ _).trans ((set_far (by omega) _ _ _).trans (fa2)), (set_far (by omega) _ _ _).trans ((set_far (by omega) _ _ _).trans (fb2)), (set_far (by omega) _ _ _).trans ((set_far (by omega) _ _ _).trans (fa3)), (set_far (by omega) _ _ _).trans ((set_far (by omega) _ _ _).trans (fb3)), (set_far (by omega) _ _ _).trans ((set_far (by omega) _ _ _).trans (fa4)), (set_far (by omega) _ _ _).trans ((set_far (by omega) _ _ _).trans (fb4))⟩
                clear hK K
                try simp only [Act.put, List.getElem_toArray, List.getElem_cons_zero, List.getElem_cons_succ, List.setIfInBounds_toArray, List.set_cons_zero, List.set_cons_succ]
                refine wpAnyH_take (i := 16) (oi := _) (v := ?_) rfl (by kernel_rfl) (by kernel_rfl) (by kernel_rfl) (fun _ _ _ h => h) (Or.inl ⟨by rfl, ?_⟩) (by assumption) ?_
                rotate_left
                · first | (intro w' hSw; (try dsimp only at hSw); go_simp; done) | (intro w' hSw; (try dsimp only at hSw); go_simp; with_reducible rfl)
                try simp only [Act.put, List.getElem_toArray, List.getElem_cons_zero, List.getElem_cons_succ, List.setIfInBounds_toArray, List.set_cons_zero, List.set_cons_succ]
                refine wpAnyH_done (by kernel_rfl) ?_ _
                go_wp2_with fail
                go_meet
                exact ⟨_, _, _, _, _, rfl, rfl, hzl, (blk_set (blk_set HZb.out 0 (.slice Az0a R1.sorts.length cz0a)) 1 (.slice Az0b R1.ops.length cz0b)), (HO.out.same (fun k q1 q2 => ((set_blk (by omega) _ _).trans (set_blk (by omega) _ _)))).base (by omega), ((HP.out.setCell (p := ⟨w10.heap.size, 0, none⟩) hzl (.slice Az0a R1.sorts.length cz0a)).setCell (p := ⟨w10.heap.size, 1, none⟩) hzl (.slice Az0b R1.ops.length cz0b))⟩
            · skip
              go_simp
              have hb := below_alloc w9 (.cells #[.slice none 0 0, .slice none 0 0] 33)
              have hz := heap_alloc_new w9 (.cells #[.slice none 0 0, .slice none 0 0] 33)
              generalize hWA : w9.alloc (.cells #[.slice none 0 0, .slice none 0 0] 33) = w19 at hb hz ⊢
              clear hWA
              have HZb := Lib.hid (show w19.heap[w9.heap.size]? = some (.cells #[.slice none 0 0, .slice none 0 0] 33 (0, 0)) from hz)
              have hzl : w5.heap.size ≤ w9.heap.size := HP.out.size
              replace fa0 := cell_keep hb fa0
              replace fb0 := cell_keep hb fb0
              replace fa1 := cell_keep hb fa1
              replace fb1 := cell_keep hb fb1
              replace fa2 := cell_keep hb fa2
              replace fb2 := cell_keep hb fb2
              replace fa3 := cell_keep hb fa3
              replace fb3 := cell_keep hb fb3
              replace fa4 := cell_keep hb fa4
              replace fb4 := cell_keep hb fb4
              replace P0 := Lib.hid (P0.out.keep hb)
              replace P1 := Lib.hid (P1.out.keep hb)
              replace P2 := Lib.hid (P2.out.keep hb)
              replace HP := Lib.hid (ex_keep HP.out hb)
              clear hb hz
              go_wp2_with fail
              refine hK.out _ _ ?_ (fun hHeld => ?_)
              · exact ⟨fa0, fb0, fa1, fb1, fa2, fb2, fa3, fb3, fa4, fb4⟩
              clear hK K
              try simp only [Act.put, List.getElem_toArray, List.getElem_cons_zero, List.getElem_cons_succ, List.setIfInBounds_toArray, List.set_cons_zero, List.set_cons_succ]
              refine wpAnyH_ready (rs := [7]) (by kernel_rfl) (by simp) ?_
              refine AllReadyH.cons (o := _) rfl (fun K hK => ?_) AllReadyH.nil
              go_simp
              refine (toMap_any _ s3 _ (HW3.out.keep (ex_keep HB.out HP.out)) HF3.out).mono ?_
              rintro e w20 ⟨y3, rfl, ho, hb⟩
              replace fa0 := cell_keep hb fa0
              replace fb0 := cell_keep hb fb0
              replace fa1 := cell_keep hb fa1
              replace fb1 := cell_keep hb fb1
              replace fa2 := cell_keep hb fa2
              replace fb2 := cell_keep hb fb2
              replace fa3 := cell_keep hb fa3
              replace fb3 := cell_keep hb fb3
              replace fa4 := cell_keep hb fa4
              replace fb4 := cell_keep hb fb4
              replace P0 := Lib.hid (P0.out.keep hb)
              replace P1 := Lib.hid (P1.out.keep hb)
              replace P2 := Lib.hid (P2.out.keep hb)
              replace HP := Lib.hid (ex_keep HP.out hb)
              replace HZb := Lib.hid (blk_at HZb.out hb)
              have P3 := Lib.hid ho.reads
              obtain ⟨AY3a, cY3a, AY3b, cY3b, rfl⟩ := ho.reads.form
              clear ho hb
              go_wp2_with fail
              refine hK.out _ _ ?_ (fun hHeld => ?_)
              · exact ⟨fa0, fb0, fa1, fb1, fa2, fb2, fa3, fb3, fa4, fb4⟩
              clear hK K
              try simp only [Act.put, List.getElem_toArray, List.getElem_cons_zero, List.getElem_cons_succ, List.setIfInBounds_toArray, List.set_cons_zero, List.set_cons_succ]
              refine wpAnyH_ready (rs := [9]) (by kernel_rfl) (by simp) ?_
              refine AllReadyH.cons (o := _) rfl (fun K hK => ?_) AllReadyH.nil
              go_simp
              refine (toMap_any _ s4 _ (HW4.out.keep (ex_keep HB.out HP.out)) HF4.out).mono ?_
              rintro e w21 ⟨y4, rfl, ho, hb⟩
              replace fa0 := cell_keep hb fa0
              replace fb0 := cell_keep hb fb0
              replace fa1 := cell_keep hb fa1
              replace fb1 := cell_keep hb fb1
              replace fa2 := cell_keep hb fa2
              replace fb2 := cell_keep hb fb2
              replace fa3 := cell_keep hb fa3
              replace fb3 := cell_keep hb fb3
              replace fa4 := cell_keep hb fa4
              replace fb4 := cell_keep hb fb4
              replace P0 := Lib.hid (P0.out.keep hb)
              replace P1 := Lib.hid (P1.out.keep hb)
              replace P2 := Lib.hid (P2.out.keep hb)
              replace P3 := Lib.hid (P3.out.keep hb)
              replace HP := Lib.hid (ex_keep HP.out hb)
              replace HZb := Lib.hid (blk_at HZb.out hb)
              have P4 := Lib.hid ho.reads
              obtain ⟨AY4a, cY4a, AY4b, cY4b, rfl⟩ := ho.reads.form
              clear ho hb
              go_wp2_with fail
              refine hK.out _ _ ?_ (fun hHeld => ?_)
              · exact ⟨fa0, fb0, fa1, fb1, fa2, fb2, fa3, fb3, fa4, fb4⟩
              clear hK K
              try simp only [Act.put, List.getElem_toArray, List.getElem_cons_zero, List.getElem_cons_succ, List.setIfInBounds_toArray, List.set_cons_zero, List.set_cons_succ]
              refine wpAnyH_ready (rs := [10]) (by kernel_rfl) (by simp) ?_
              refine AllReadyH.cons (o := _) rfl (fun K hK => ?_) AllReadyH.nil
              go_simp
              have hs1 := HP.out.size
              have hbl := (Array.getElem?_eq_some_iff.1 HZb.out).1
              refine (specMapThen_any s0 s1 s2 s3 s4 _ _ _ _ _ _ P0.out P1.out P2.out P3.out P4.out).mono ?_
              rw [HR.out]
              rintro e w22 ⟨z0, rfl, ho0, hb⟩
              obtain ⟨Az0a, cz0a, Az0b, cz0b, rfl⟩ := ho0.reads.form
              have HO := Lib.hid ho0
              have hs2 := hb.size
              replace fa0 := cell_keep hb fa0
              replace fb0 := cell_keep hb fb0
              replace fa1 := cell_keep hb fa1
              replace fb1 := cell_keep hb fb1
              replace fa2 := cell_keep hb fa2
              replace fb2 := cell_keep hb fb2
              replace fa3 := cell_keep hb fa3
              replace fb3 := cell_keep hb fb3
              replace fa4 := cell_keep hb fa4
              replace fb4 := cell_keep hb fb4
              replace HP := Lib.hid (ex_keep HP.out hb)
              replace HZb := Lib.hid (blk_at HZb.out hb)
              have j0 := blk_cell HZb.out 0
              have jf0 := blk_free HZb.out 0
              have j1 := blk_cell HZb.out 1
              have jf1 := blk_free HZb.out 1
              simp at j0 j1
              clear ho0 hb P0 P1 P2 P3 P4
              go_wp2_with fail
              refine hK.out _ _ ?_ (fun hHeld => ?_)
              · exact ⟨fa0, fb0, fa1, fb1, fa2, fb2, fa3, fb3, fa4, fb4⟩
              clear hK K
              try simp only [Act.put, List.getElem_toArray, List.getElem_cons_zero, List.getElem_cons_succ, List.setIfInBounds_toArray, List.set_cons_zero, List.set_cons_succ]
              refine wpAnyH_take (i := 11) (oi := _) (v := ?_) rfl (by kernel_rfl) (by kernel_rfl) (by kernel_rfl) (fun _ _ _ h => h) (Or.inl ⟨by rfl, ?_⟩) (by assumption) ?_
              rotate_left
              · first | (intro w' hSw; (try dsimp only at hSw); go_simp; done) | (intro w' hSw; (try dsimp only at hSw); go_simp; with_reducible rfl)
              try simp only [Act.put, List.getElem_toArray, List.getElem_cons_zero, List.getElem_cons_succ, List.setIfInBounds_toArray, List.set_cons_zero, List.set_cons_succ]
              refine wpAnyH_take (i := 12) (oi := _) (v := ?_) rfl (by kernel_rfl) (by kernel_rfl) (by kernel_rfl) (fun _ _ _ h => h) (Or.inl ⟨by rfl, ?_⟩) (by assumption) ?_
              rotate_left
              · first | (intro w' hSw; (try dsimp only at hSw); go_simp; done) | (intro w' hSw; (try dsimp only at hSw); go_simp; with_reducible rfl)
              try simp only [Act.put, List.getElem_toArray, List.getElem_cons_zero, List.getElem_cons_succ, List.setIfInBounds_toArray, List.set_cons_zero, List.set_cons_succ]
              refine wpAnyH_take (i := 13) (oi := _) (v := ?_) rfl (by kernel_rfl) (by kernel_rfl) (by kernel_rfl) (fun _ _ _ h => h) (Or.inl ⟨by rfl, ?_⟩) (by assumption) ?_
              rotate_left
              · first | (intro w' hSw; (try dsimp only at hSw); go_simp; done) | (intro w' hSw; (try dsimp only at hSw); go_simp; with_reducible rfl)
              try simp only [Act.put, List.getElem_toArray, List.getElem_cons_zero, List.getElem_cons_succ, List.setIfInBounds_toArray, List.set_cons_zero, List.set_cons_succ]
              refine wpAnyH_ready (rs := [15]) (by kernel_rfl) (by simp) ?_
              refine AllReadyH.cons (o := _) rfl (fun K hK => ?_) AllReadyH.nil
              go_simp
              go_wp2_with fail
              refine hK.out _ _ ?_ (fun hHeld => ?_)
              · exact ⟨(set_far (by omega) _ _ _).trans ((set_far (by omega) _ _ _).trans (fa0)), (set_far (by omega) _ _ _).trans ((set_far (by omega) _ _ _).trans (fb0)), (set_far (by omega) _ _ _).trans ((set_far (by omega) _ _ _).trans (fa1)), (set_far (by omega) _ _ _).trans ((set_far (by omega) _ _ _).trans (fb1)), (set_far (by omega) _ _ _).trans ((set_far (by omega) _ _ _).trans (fa2)), (set_far (by omega) _ _ _).trans ((set_far (by omega) _ _ _).trans (fb2)), (set_far (by omega) _ _ _).trans ((set_far (by omega) _ _ _).trans (fa3)), (set_far (by omega) _ _ _).trans ((set_far (by omega) _ _ _).trans (fb3)), (set_far (by omega) _ _ _).trans ((set_far (by omega) _ _ _).trans (fa4)), (set_far (by omega) _ _ _).trans ((set_far (by omega) _ _ _).trans (fb4))⟩
              clear hK K
              try simp only [Act.put, List.getElem_toArray, List.getElem_cons_zero, List.getElem_cons_succ, List.setIfInBounds_toArray, List.set_cons_zero, List.set_cons_succ]
              refine wpAnyH_take (i := 16) (oi := _) (v := ?_) rfl (by kernel_rfl) (by kernel_rfl) (by kernel_rfl) (fun _ _ _ h => h) (Or.inl ⟨by rfl, ?_⟩) (by assumption) ?_
              rotate_left
              · first | (intro w' hSw; (try dsimp only at hSw); go_simp; done) | (intro w' hSw; (try dsimp only at hSw); go_simp; with_reducible rfl)
              try simp only [Act.put, List.getElem_toArray, List.getElem_cons_zero, List.getElem_cons_succ, List.setIfInBounds_toArray, List.set_cons_zero, List.set_cons_succ]
              refine wpAnyH_done (by kernel_rfl) ?_ _
              go_wp2_with fail
              go_meet
              exact ⟨_, _, _, _, _, rfl, rfl, hzl, (blk_set (blk_set HZb.out 0 (.slice Az0a R1.sorts.length cz0a)) 1 (.slice Az0b R1.ops.length cz0b)), (HO.out.same (fun k q1 q2 => ((set_blk (by omega) _ _).trans (set_blk (by omega) _ _)))).base (by omega), ((HP.out.setCell (p := ⟨w9.heap.size, 0, none⟩) hzl (.slice Az0a R1.sorts.length cz0a)).setCell (p := ⟨w9.heap.size, 1, none⟩) hzl (.slice Az0b R1.ops.length cz0b))⟩
          · skip
            go_simp
            have hb := below_alloc w8 (.cells #[.slice none 0 0, .slice none 0 0] 33)
            have hz := heap_alloc_new w8 (.cells #[.slice none 0 0, .slice none 0 0] 33)
            generalize hWA : w8.alloc (.cells #[.slice none 0 0, .slice none 0 0] 33) = w23 at hb hz ⊢
            clear hWA
            have HZb := Lib.hid (show w23.heap[w8.heap.size]? = some (.cells #[.slice none 0 0, .slice none 0 0] 33 (0, 0)) from hz)
            have hzl : w5.heap.size ≤ w8.heap.size := HP.out.size
            replace fa0 := cell_keep hb fa0
            replace fb0 := cell_keep hb fb0
            replace fa1 := cell_keep hb fa1
            replace fb1 := cell_keep hb fb1
            replace fa2 := cell_keep hb fa2
            replace fb2 := cell_keep hb fb2
            replace fa3 := cell_keep hb fa3
            replace fb3 := cell_keep hb fb3
            replace fa4 := cell_keep hb fa4
            replace fb4 := cell_keep hb fb4
            replace P0 := Lib.hid (P0.out.keep hb)
            replace P1 := Lib.hid (P1.out.keep hb)
            replace HP := Lib.hid (ex_keep HP.out hb)
            clear hb hz
            go_wp2_with fail
            refine hK.out _ _ ?_ (fun hHeld => ?_)
            · exact ⟨fa0, fb0, fa1, fb1, fa2, fb2, fa3, fb3, fa4, fb4⟩
            clear hK K
            try simp only [Act.put, List.getElem_toArray, List.getElem_cons_zero, List.getElem_cons_succ, List.setIfInBounds_toArray, List.set_cons_zero, List.set_cons_succ]
            refine wpAnyH_ready (rs := [5]) (by kernel_rfl) (by simp) ?_
            refine AllReadyH.cons (o := _) rfl (fun K hK => ?_) AllReadyH.nil
            go_simp
            refine (toSig_any _ s2 _ (HW2.out.keep (ex_keep HB.out HP.out)) HF2.out).mono ?_
            rintro e w24 ⟨y2, rfl, ho, hb⟩
            replace fa0 := cell_keep hb fa0
            replace fb0 := cell_keep hb fb0
            replace fa1 := cell_keep hb fa1
            replace fb1 := cell_keep hb fb1
            replace fa2 := cell_keep hb fa2
            replace fb2 := cell_keep hb fb2
            replace fa3 := cell_keep hb fa3
            replace fb3 := cell_keep hb fb3
            replace fa4 := cell_keep hb fa4
            replace fb4 := cell_keep hb fb4
            replace P0 := Lib.hid (P0.out.keep hb)
            replace P1 := Lib.hid (P1.out.keep hb)
            replace HP := Lib.hid (ex_keep HP.out hb)
            replace HZb := Lib.hid (blk_at HZb.out hb)
            have P2 := Lib.hid ho.reads
            obtain ⟨AY2a, cY2a, rfl⟩ := ho.reads.form
            clear ho hb
            go_wp2_with fail
            refine hK.out _ _ ?_ (fun hHeld => ?_)
            · exact ⟨fa0, fb0, fa1, fb1, fa2, fb2, fa3, fb3, fa4, fb4⟩
            clear hK K
            try simp only [Act.put, List.getElem_toArray, List.getElem_cons_zero, List.getElem_cons_succ, List.setIfInBounds_toArray, List.set_cons_zero, List.set_cons_succ]
            refine wpAnyH_ready (rs := [7]) (by kernel_rfl) (by simp) ?_
            refine AllReadyH.cons (o := _) rfl (fun K hK => ?_) AllReadyH.nil
            go_simp
            refine (toMap_any _ s3 _ (HW3.out.keep (ex_keep HB.out HP.out)) HF3.out).mono ?_
            rintro e w25 ⟨y3, rfl, ho, hb⟩
            replace fa0 := cell_keep hb fa0
            replace fb0 := cell_keep hb fb0
            replace fa1 := cell_keep hb fa1
            replace fb1 := cell_keep hb fb1
            replace fa2 := cell_keep hb fa2
            replace fb2 := cell_keep hb fb2
            replace fa3 := cell_keep hb fa3
            replace fb3 := cell_keep hb fb3
            replace fa4 := cell_keep hb fa4
            replace fb4 := cell_keep hb fb4
            replace P0 := Lib.hid (P0.out.keep hb)
            replace P1 := Lib.hid (P1.out.keep hb)
            replace P2 := Lib.hid (P2.out.keep hb)
            replace HP := Lib.hid (ex_keep HP.out hb)
            replace HZb := Lib.hid (blk_at HZb.out hb)
            have P3 := Lib.hid ho.reads
            obtain ⟨AY3a, cY3a, AY3b, cY3b, rfl⟩ := ho.reads.form
            clear ho hb
            go_wp2_with fail
            refine hK.out _ _ ?_ (fun hHeld => ?_)
            · exact ⟨fa0, fb0, fa1, fb1, fa2, fb2, fa3, fb3, fa4, fb4⟩
            clear hK K
            try simp only [Act.put, List.getElem_toArray, List.getElem_cons_zero, List.getElem_cons_succ, List.setIfInBounds_toArray, List.set_cons_zero, List.set_cons_succ]
            refine wpAnyH_ready (rs := [9]) (by kernel_rfl) (by simp) ?_
            refine AllReadyH.cons (o := _) rfl (fun K hK => ?_) AllReadyH.nil
            go_simp
            refine (toMap_any _ s4 _ (HW4.out.keep (ex_keep HB.out HP.out)) HF4.out).mono ?_
            rintro e w26 ⟨y4, rfl, ho, hb⟩
            replace fa0 := cell_keep hb fa0
            replace fb0 := cell_keep hb fb0
            replace fa1 := cell_keep hb fa1
            replace fb1 := cell_keep hb fb1
            replace fa2 := cell_keep hb fa2
            replace fb2 := cell_keep hb fb2
            replace fa3 := cell_keep hb fa3
            replace fb3 := cell_keep hb fb3
            replace fa4 := cell_keep hb fa4
            replace fb4 := cell_keep hb fb4
            replace P0 := Lib.hid (P0.out.keep hb)
            replace P1 := Lib.hid (P1.out.keep hb)
            replace P2 := Lib.hid (P2.out.keep hb)
            replace P3 := Lib.hid (P3.out.keep hb)
            replace HP := Lib.hid (ex_keep HP.out hb)
            replace HZb := Lib.hid (blk_at HZb.out hb)
            have P4 := Lib.hid ho.reads
            obtain ⟨AY4a, cY4a, AY4b, cY4b, rfl⟩ := ho.reads.form
            clear ho hb
            go_wp2_with fail
            refine hK.out _ _ ?_ (fun hHeld => ?_)
            · exact ⟨fa0, fb0, fa1, fb1, fa2, fb2, fa3, fb3, fa4, fb4⟩
            clear hK K
            try simp only [Act.put, List.getElem_toArray, List.getElem_cons_zero, List.getElem_cons_succ, List.setIfInBounds_toArray, List.set_cons_zero, List.set_cons_succ]
            refine wpAnyH_ready (rs := [10]) (by kernel_rfl) (by simp) ?_
            refine AllReadyH.cons (o := _) rfl (fun K hK => ?_) AllReadyH.nil
            go_simp
            have hs1 := HP.out.size
            have hbl := (Array.getElem?_eq_some_iff.1 HZb.out).1
            refine (specMapThen_any s0 s1 s2 s3 s4 _ _ _ _ _ _ P0.out P1.out P2.out P3.out P4.out).mono ?_
            rw [HR.out]
            rintro e w27 ⟨z0, rfl, ho0, hb⟩
            obtain ⟨Az0a, cz0a, Az0b, cz0b, rfl⟩ := ho0.reads.form
            have HO := Lib.hid ho0
            have hs2 := hb.size
            replace fa0 := cell_keep hb fa0
            replace fb0 := cell_keep hb fb0
            replace fa1 := cell_keep hb fa1
            replace fb1 := cell_keep hb fb1
            replace fa2 := cell_keep hb fa2
            replace fb2 := cell_keep hb fb2
            replace fa3 := cell_keep hb fa3
            replace fb3 := cell_keep hb fb3
            replace fa4 := cell_keep hb fa4
            replace fb4 := cell_keep hb fb4
            replace HP := Lib.hid (ex_keep HP.out hb)
            replace HZb := Lib.hid (blk_at HZb.out hb)
            have j0 := blk_cell HZb.out 0
            have jf0 := blk_free HZb.out 0
            have j1 := blk_cell HZb.out 1
            have jf1 := blk_free HZb.out 1
            simp at j0 j1
            clear ho0 hb P0 P1 P2 P3 P4
            go_wp2_with fail
            refine hK.out _ _ ?_ (fun hHeld => ?_)
            · exact ⟨fa0, fb0, fa1, fb1, fa2, fb2, fa3, fb3, fa4, fb4⟩
            clear hK K
            try simp only [Act.put, List.getElem_toArray, List.getElem_cons_zero, List.getElem_cons_succ, List.setIfInBounds_toArray, List.set_cons_zero, List.set_cons_succ]
            refine wpAnyH_take (i := 11) (oi := _) (v := ?_) rfl (by kernel_rfl) (by kernel_rfl) (by kernel_rfl) (fun _ _ _ h => h) (Or.inl ⟨by rfl, ?_⟩) (by assumption) ?_
            rotate_left
            · first | (intro w' hSw; (try dsimp only at hSw); go_simp; done) | (intro w' hSw; (try dsimp only at hSw); go_simp; with_reducible rfl)
            try simp only [Act.put, List.getElem_toArray, List.getElem_cons_zero, List.getElem_cons_succ, List.setIfInBounds_toArray, List.set_cons_zero, List.set_cons_succ]
            refine wpAnyH_take (i := 12) (oi := _) (v := ?_) rfl (by kernel_rfl) (by kernel_rfl) (by kernel_rfl) (fun _ _ _ h => h) (Or.inl ⟨by rfl, ?_⟩) (by assumption) ?_
            rotate_left
            · first | (intro w' hSw; (try dsimp only at hSw); go_simp; done) | (intro w' hSw; (try dsimp only at hSw); go_simp; with_reducible rfl)
            try simp only [Act.put, List.getElem_toArray, List.getElem_cons_zero, List.getElem_cons_succ, List.setIfInBounds_toArray, List.set_cons_zero, List.set_cons_succ]
            refine wpAnyH_take (i := 13) (oi := _) (v := ?_) rfl (by kernel_rfl) (by kernel_rfl) (by kernel_rfl) (fun _ _ _ h => h) (Or.inl ⟨by rfl, ?_⟩) (by assumption) ?_
            rotate_left
            · first | (intro w' hSw; (try dsimp only at hSw); go_simp; done) | (intro w' hSw; (try dsimp only at hSw); go_simp; with_reducible rfl)
            try simp only [Act.put, List.getElem_toArray, List.getElem_cons_zero, List.getElem_cons_succ, List.setIfInBounds_toArray, List.set_cons_zero, List.set_cons_succ]
            refine wpAnyH_ready (rs := [15]) (by kernel_rfl) (by simp) ?_
            refine AllReadyH.cons (o := _) rfl (fun K hK => ?_) AllReadyH.nil
            go_simp
            go_wp2_with fail
            refine hK.out _ _ ?_ (fun hHeld => ?_)
            · exact ⟨(set_far (by omega) _ _ _).trans ((set_far (by omega) _ _ _).trans (fa0)), (set_far (by omega) _ _ _).trans ((set_far (by omega) _ _ _).trans (fb0)), (set_far (by omega) _ _ _).trans ((set_far (by omega) _ _ _).trans (fa1)), (set_far (by omega) _ _ _).trans ((set_far (by omega) _ _ _).trans (fb1)), (set_far (by omega) _ _ _).trans ((set_far (by omega) _ _ _).trans (fa2)), (set_far (by omega) _ _ _).trans ((set_far (by omega) _ _ _).trans (fb2)), (set_far (by omega) _ _ _).trans ((set_far (by omega) _ _ _).trans (fa3)), (set_far (by omega) _ _ _).trans ((set_far (by omega) _ _ _).trans (fb3)), (set_far (by omega) _ _ _).trans ((set_far (by omega) _ _ _).trans (fa4)), (set_far (by omega) _ _ _).trans ((set_far (by omega) _ _ _).trans (fb4))⟩
            clear hK K
            try simp only [Act.put, List.getElem_toArray, List.getElem_cons_zero, List.getElem_cons_succ, List.setIfInBounds_toArray, List.set_cons_zero, List.set_cons_succ]
            refine wpAnyH_take (i := 16) (oi := _) (v := ?_) rfl (by kernel_rfl) (by kernel_rfl) (by kernel_rfl) (fun _ _ _ h => h) (Or.inl ⟨by rfl, ?_⟩) (by assumption) ?_
            rotate_left
            · first | (intro w' hSw; (try dsimp only at hSw); go_simp; done) | (intro w' hSw; (try dsimp only at hSw); go_simp; with_reducible rfl)
            try simp only [Act.put, List.getElem_toArray, List.getElem_cons_zero, List.getElem_cons_succ, List.setIfInBounds_toArray, List.set_cons_zero, List.set_cons_succ]
            refine wpAnyH_done (by kernel_rfl) ?_ _
            go_wp2_with fail
            go_meet
            exact ⟨_, _, _, _, _, rfl, rfl, hzl, (blk_set (blk_set HZb.out 0 (.slice Az0a R1.sorts.length cz0a)) 1 (.slice Az0b R1.ops.length cz0b)), (HO.out.same (fun k q1 q2 => ((set_blk (by omega) _ _).trans (set_blk (by omega) _ _)))).base (by omega), ((HP.out.setCell (p := ⟨w8.heap.size, 0, none⟩) hzl (.slice Az0a R1.sorts.length cz0a)).setCell (p := ⟨w8.heap.size, 1, none⟩) hzl (.slice Az0b R1.ops.length cz0b))⟩
        · skip
          go_simp
          have hb := below_alloc w7 (.cells #[.slice none 0 0, .slice none 0 0] 33)
          have hz := heap_alloc_new w7 (.cells #[.slice none 0 0, .slice none 0 0] 33)
          generalize hWA : w7.alloc (.cells #[.slice none 0 0, .slice none 0 0] 33) = w28 at hb hz ⊢
          clear hWA
          have HZb := Lib.hid (show w28.heap[w7.heap.size]? = some (.cells #[.slice none 0 0, .slice none 0 0] 33 (0, 0)) from hz)
          have hzl : w5.heap.size ≤ w7.heap.size := HP.out.size
          replace fa0 := cell_keep hb fa0
          replace fb0 := cell_keep hb fb0
          replace fa1 := cell_keep hb fa1
          replace fb1 := cell_keep hb fb1
          replace fa2 := cell_keep hb fa2
          replace fb2 := cell_keep hb fb2
          replace fa3 := cell_keep hb fa3
          replace fb3 := cell_keep hb fb3
          replace fa4 := cell_keep hb fa4
          replace fb4 := cell_keep hb fb4
          replace P0 := Lib.hid (P0.out.keep hb)
          replace HP := Lib.hid (ex_keep HP.out hb)
          clear hb hz
          go_wp2_with fail
          refine hK.out _ _ ?_ (fun hHeld => ?_)
          · exact ⟨fa0, fb0, fa1, fb1, fa2, fb2, fa3, fb3, fa4, fb4⟩
          clear hK K
          try simp only [Act.put, List.getElem_toArray, List.getElem_cons_zero, List.getElem_cons_succ, List.setIfInBounds_toArray, List.set_cons_zero, List.set_cons_succ]
          refine wpAnyH_ready (rs := [3]) (by kernel_rfl) (by simp) ?_
          refine AllReadyH.cons (o := _) rfl (fun K hK => ?_) AllReadyH.nil
          go_simp
          refine (toSig_any _ s1 _ (HW1.out.keep (ex_keep HB.out HP.out)) HF1.out).mono ?_
          rintro e w29 ⟨y1, rfl, ho, hb⟩
          replace fa0 := cell_keep hb fa0
          replace fb0 := cell_keep hb fb0
          replace fa1 := cell_keep hb fa1
          replace fb1 := cell_keep hb fb1
          replace fa2 := cell_keep hb fa2
          replace fb2 := cell_keep hb fb2
          replace fa3 := cell_keep hb fa3
          replace fb3 := cell_keep hb fb3
          replace fa4 := cell_keep hb fa4
          replace fb4 := cell_keep hb fb4
          replace P0 := Lib.hid (P0.out.keep hb)
          replace HP := Lib.hid (ex_keep HP.out hb)
          replace HZb := Lib.hid (blk_at HZb.out hb)
          have P1 := Lib.hid ho.reads
          obtain ⟨AY1a, cY1a, rfl⟩ := ho.reads.form
          clear ho hb
          go_wp2_with fail
          refine hK.out _ _ ?_ (fun hHeld => ?_)
          · exact ⟨fa0, fb0, fa1, fb1, fa2, fb2, fa3, fb3, fa4, fb4⟩
          clear hK K
          try simp only [Act.put, List.getElem_toArray, List.getElem_cons_zero, List.getElem_cons_succ, List.setIfInBounds_toArray, List.set_cons_zero, List.set_cons_succ]
          refine wpAnyH_ready (rs := [5]) (by kernel_rfl) (by simp) ?_
          refine AllReadyH.cons (o := _) rfl (fun K hK => ?_) AllReadyH.nil
          go_simp
          refine (toSig_any _ s2 _ (HW2.out.keep (ex_keep HB.out HP.out)) HF2.out).mono ?_
          rintro e w30 ⟨y2, rfl, ho, hb⟩
          replace fa0 := cell_keep hb fa0
          replace fb0 := cell_keep hb fb0
          replace fa1 := cell_keep hb fa1
          replace fb1 := cell_keep hb fb1
          replace fa2 := cell_keep hb fa2
          replace fb2 := cell_keep hb fb2
          replace fa3 := cell_keep hb fa3
          replace fb3 := cell_keep hb fb3
          replace fa4 := cell_keep hb fa4
          replace fb4 := cell_keep hb fb4
          replace P0 := Lib.hid (P0.out.keep hb)
          replace P1 := Lib.hid (P1.out.keep hb)
          replace HP := Lib.hid (ex_keep HP.out hb)
          replace HZb := Lib.hid (blk_at HZb.out hb)
          have P2 := Lib.hid ho.reads
          obtain ⟨AY2a, cY2a, rfl⟩ := ho.reads.form
          clear ho hb
          go_wp2_with fail
          refine hK.out _ _ ?_ (fun hHeld => ?_)
          · exact ⟨fa0, fb0, fa1, fb1, fa2, fb2, fa3, fb3, fa4, fb4⟩
          clear hK K
          try simp only [Act.put, List.getElem_toArray, List.getElem_cons_zero, List.getElem_cons_succ, List.setIfInBounds_toArray, List.set_cons_zero, List.set_cons_succ]
          refine wpAnyH_ready (rs := [7]) (by kernel_rfl) (by simp) ?_
          refine AllReadyH.cons (o := _) rfl (fun K hK => ?_) AllReadyH.nil
          go_simp
          refine (toMap_any _ s3 _ (HW3.out.keep (ex_keep HB.out HP.out)) HF3.out).mono ?_
          rintro e w31 ⟨y3, rfl, ho, hb⟩
          replace fa0 := cell_keep hb fa0
          replace fb0 := cell_keep hb fb0
          replace fa1 := cell_keep hb fa1
          replace fb1 := cell_keep hb fb1
          replace fa2 := cell_keep hb fa2
          replace fb2 := cell_keep hb fb2
          replace fa3 := cell_keep hb fa3
          replace fb3 := cell_keep hb fb3
          replace fa4 := cell_keep hb fa4
          replace fb4 := cell_keep hb fb4
          replace P0 := Lib.hid (P0.out.keep hb)
          replace P1 := Lib.hid (P1.out.keep hb)
          replace P2 := Lib.hid (P2.out.keep hb)
          replace HP := Lib.hid (ex_keep HP.out hb)
          replace HZb := Lib.hid (blk_at HZb.out hb)
          have P3 := Lib.hid ho.reads
          obtain ⟨AY3a, cY3a, AY3b, cY3b, rfl⟩ := ho.reads.form
          clear ho hb
          go_wp2_with fail
          refine hK.out _ _ ?_ (fun hHeld => ?_)
          · exact ⟨fa0, fb0, fa1, fb1, fa2, fb2, fa3, fb3, fa4, fb4⟩
          clear hK K
          try simp only [Act.put, List.getElem_toArray, List.getElem_cons_zero, List.getElem_cons_succ, List.setIfInBounds_toArray, List.set_cons_zero, List.set_cons_succ]
          refine wpAnyH_ready (rs := [9]) (by kernel_rfl) (by simp) ?_
          refine AllReadyH.cons (o := _) rfl (fun K hK => ?_) AllReadyH.nil
          go_simp
          refine (toMap_any _ s4 _ (HW4.out.keep (ex_keep HB.out HP.out)) HF4.out).mono ?_
          rintro e w32 ⟨y4, rfl, ho, hb⟩
          replace fa0 := cell_keep hb fa0
          replace fb0 := cell_keep hb fb0
          replace fa1 := cell_keep hb fa1
          replace fb1 := cell_keep hb fb1
          replace fa2 := cell_keep hb fa2
          replace fb2 := cell_keep hb fb2
          replace fa3 := cell_keep hb fa3
          replace fb3 := cell_keep hb fb3
          replace fa4 := cell_keep hb fa4
          replace fb4 := cell_keep hb fb4
          replace P0 := Lib.hid (P0.out.keep hb)
          replace P1 := Lib.hid (P1.out.keep hb)
          replace P2 := Lib.hid (P2.out.keep hb)
          replace P3 := Lib.hid (P3.out.keep hb)
          replace HP := Lib.hid (ex_keep HP.out hb)
          replace HZb := Lib.hid (blk_at HZb.out hb)
          have P4 := Lib.hid ho.reads
          obtain ⟨AY4a, cY4a, AY4b, cY4b, rfl⟩ := ho.reads.form
          clear ho hb
          go_wp2_with fail
          refine hK.out _ _ ?_ (fun hHeld => ?_)
          · exact ⟨fa0, fb0, fa1, fb1, fa2, fb2, fa3, fb3, fa4, fb4⟩
          clear hK K
          try simp only [Act.put, List.getElem_toArray, List.getElem_cons_zero, List.getElem_cons_succ, List.setIfInBounds_toArray, List.set_cons_zero, List.set_cons_succ]
          refine wpAnyH_ready (rs := [10]) (by kernel_rfl) (by simp) ?_
          refine AllReadyH.cons (o := _) rfl (fun K hK => ?_) AllReadyH.nil
          go_simp
          have hs1 := HP.out.size
          have hbl := (Array.getElem?_eq_some_iff.1 HZb.out).1
          refine (specMapThen_any s0 s1 s2 s3 s4 _ _ _ _ _ _ P0.out P1.out P2.out P3.out P4.out).mono ?_
          rw [HR.out]
          rintro e w33 ⟨z0, rfl, ho0, hb⟩
          obtain ⟨Az0a, cz0a, Az0b, cz0b, rfl⟩ := ho0.reads.form
          have HO := Lib.hid ho0
          have hs2 := hb.size
          replace fa0 := cell_keep hb fa0
          replace fb0 := cell_keep hb fb0
          replace fa1 := cell_keep hb fa1
          replace fb1 := cell_keep hb fb1
          replace fa2 := cell_keep hb fa2
          replace fb2 := cell_keep hb fb2
          replace fa3 := cell_keep hb fa3
          replace fb3 := cell_keep hb fb3
          replace fa4 := cell_keep hb fa4
          replace fb4 := cell_keep hb fb4
          replace HP := Lib.hid (ex_keep HP.out hb)
          replace HZb := Lib.hid (blk_at HZb.out hb)
          have j0 := blk_cell HZb.out 0
          have jf0 := blk_free HZb.out 0
          have j1 := blk_cell HZb.out 1
          have jf1 := blk_free HZb.out 1
          simp at j0 j1
          clear ho0 hb P0 P1 P2 P3 P4
          go_wp2_with fail
          refine hK.out _ _ ?_ (fun hHeld => ?_)
          · exact ⟨fa0, fb0, fa1, fb1, fa2, fb2, fa3, fb3, fa4, fb4⟩
          clear hK K
          try simp only [Act.put, List.getElem_toArray, List.getElem_cons_zero, List.getElem_cons_succ, List.setIfInBounds_toArray, List.set_cons_zero, List.set_cons_succ]
          refine wpAnyH_take (i := 11) (oi := _) (v := ?_) rfl (by kernel_rfl) (by kernel_rfl) (by kernel_rfl) (fun _ _ _ h => h) (Or.inl ⟨by rfl, ?_⟩) (by assumption) ?_
          rotate_left
          · first | (intro w' hSw; (try dsimp only at hSw); go_simp; done) | (intro w' hSw; (try dsimp only at hSw); go_simp; with_reducible rfl)
          try simp only [Act.put, List.getElem_toArray, List.getElem_cons_zero, List.getElem_cons_succ, List.setIfInBounds_toArray, List.set_cons_zero, List.set_cons_succ]
          refine wpAnyH_take (i := 12) (oi := _) (v := ?_) rfl (by kernel_rfl) (by kernel_rfl) (by kernel_rfl) (fun _ _ _ h => h) (Or.inl ⟨by rfl, ?_⟩) (by assumption) ?_
          rotate_left
          · first | (intro w' hSw; (try dsimp only at hSw); go_simp; done) | (intro w' hSw; (try dsimp only at hSw); go_simp; with_reducible rfl)
          try simp only [Act.put, List.getElem_toArray, List.getElem_cons_zero, List.getElem_cons_succ, List.setIfInBounds_toArray, List.set_cons_zero, List.set_cons_succ]
          refine wpAnyH_take (i := 13) (oi := _) (v := ?_) rfl (by kernel_rfl) (by kernel_rfl) (by kernel_rfl) (fun _ _ _ h => h) (Or.inl ⟨by rfl, ?_⟩) (by assumption) ?_
          rotate_left
          · first | (intro w' hSw; (try dsimp only at hSw); go_simp; done) | (intro w' hSw; (try dsimp only at hSw); go_simp; with_reducible rfl)
          try simp only [Act.put, List.getElem_toArray, List.getElem_cons_zero, List.getElem_cons_succ, List.setIfInBounds_toArray, List.set_cons_zero, List.set_cons_succ]
          refine wpAnyH_ready (rs := [15]) (by kernel_rfl) (by simp) ?_
          refine AllReadyH.cons (o := _) rfl (fun K hK => ?_) AllReadyH.nil
          go_simp
          go_wp2_with fail
          refine hK.out _ _ ?_ (fun hHeld => ?_)
          · exact ⟨(set_far (by omega) _ _ _).trans ((set_far (by omega) _ _ _).trans (fa0)), (set_far (by omega) _ _ _).trans ((set_far (by omega) _ _ _).trans (fb0)), (set_far (by omega) _ _ _).trans ((set_far (by omega) _ _ _).trans (fa1)), (set_far (by omega) _ _ _).trans ((set_far (by omega) _ _ _).trans (fb1)), (set_far (by omega) _ _ _).trans ((set_far (by omega) _ _ _).trans (fa2)), (set_far (by omega) _ _ _).trans ((set_far (by omega) _ _ _).trans (fb2)), (set_far (by omega) _ _ _).trans ((set_far (by omega) _ _ _).trans (fa3)), (set_far (by omega) _ _ _).trans ((set_far (by omega) _ _ _).trans (fb3)), (set_far (by omega) _ _ _).trans ((set_far (by omega) _ _ _).trans (fa4)), (set_far (by omega) _ _ _).trans ((set_far (by omega) _ _ _).trans (fb4))⟩
          clear hK K
          try simp only [Act.put, List.getElem_toArray, List.getElem_cons_zero, List.getElem_cons_succ, List.setIfInBounds_toArray, List.set_cons_zero, List.set_cons_succ]
          refine wpAnyH_take (i := 16) (oi := _) (v := ?_) rfl (by kernel_rfl) (by kernel_rfl) (by kernel_rfl) (fun _ _ _ h => h) (Or.inl ⟨by rfl, ?_⟩) (by assumption) ?_
          rotate_left
          · first | (intro w' hSw; (try dsimp only at hSw); go_simp; done) | (intro w' hSw; (try dsimp only at hSw); go_simp; with_reducible rfl)
          try simp only [Act.put, List.getElem_toArray, List.getElem_cons_zero, List.getElem_cons_succ, List.setIfInBounds_toArray, List.set_cons_zero, List.set_cons_succ]
          refine wpAnyH_done (by kernel_rfl) ?_ _
          go_wp2_with fail
          go_meet
          exact ⟨_, _, _, _, _, rfl, rfl, hzl, (blk_set (blk_set HZb.out 0 (.slice Az0a R1.sorts.length cz0a)) 1 (.slice Az0b R1.ops.length cz0b)), (HO.out.same (fun k q1 q2 => ((set_blk (by omega) _ _).trans (set_blk (by omega) _ _)))).base (by omega), ((HP.out.setCell (p := ⟨w7.heap.size, 0, none⟩) hzl (.slice Az0a R1.sorts.length cz0a)).setCell (p := ⟨w7.heap.size, 1, none⟩) hzl (.slice Az0b R1.ops.length cz0b))⟩
      · skip
        go_simp
        have hb := below_alloc w5 (.cells #[.slice none 0 0, .slice none 0 0] 33)
        have hz := heap_alloc_new w5 (.cells #[.slice none 0 0, .slice none 0 0] 33)
        generalize hWA : w5.alloc (.cells #[.slice none 0 0, .slice none 0 0] 33) = w34 at hb hz ⊢
        clear hWA
        have HZb := Lib.hid (show w34.heap[w5.heap.size]? = some (.cells #[.slice none 0 0, .slice none 0 0] 33 (0, 0)) from hz)
        have hzl : w5.heap.size ≤ w5.heap.size := Nat.le_refl _
        replace fa0 := cell_keep hb fa0
        replace fb0 := cell_keep hb fb0
        replace fa1 := cell_keep hb fa1
        replace fb1 := cell_keep hb fb1
        replace fa2 := cell_keep hb fa2
        replace fb2 := cell_keep hb fb2
        replace fa3 := cell_keep hb fa3
        replace fb3 := cell_keep hb fb3
        replace fa4 := cell_keep hb fa4
        replace fb4 := cell_keep hb fb4
        have HP := Lib.hid hb
        clear hb hz
        go_wp2_with fail
        refine hK.out _ _ ?_ (fun hHeld => ?_)
        · exact ⟨fa0, fb0, fa1, fb1, fa2, fb2, fa3, fb3, fa4, fb4⟩
        clear hK K
        try simp only [Act.put, List.getElem_toArray, List.getElem_cons_zero, List.getElem_cons_succ, List.setIfInBounds_toArray, List.set_cons_zero, List.set_cons_succ]
        refine wpAnyH_ready (rs := [1]) (by kernel_rfl) (by simp) ?_
        refine AllReadyH.cons (o := _) rfl (fun K hK => ?_) AllReadyH.nil
        go_simp
        refine (toSig_any _ s0 _ (HW0.out.keep (ex_drew (ex_keep HB.out HP.out))) HF0.out).mono ?_
        rintro e w35 ⟨y0, rfl, ho, hb⟩
        replace hb := ex_undrew hb
        replace fa0 := cell_keep hb fa0
        replace fb0 := cell_keep hb fb0
        replace fa1 := cell_keep hb fa1
        replace fb1 := cell_keep hb fb1
        replace fa2 := cell_keep hb fa2
        replace fb2 := cell_keep hb fb2
        replace fa3 := cell_keep hb fa3
        replace fb3 := cell_keep hb fb3
        replace fa4 := cell_keep hb fa4
        replace fb4 := cell_keep hb fb4
        replace HP := Lib.hid (ex_keep HP.out hb)
        replace HZb := Lib.hid (blk_at HZb.out hb)
        have P0 := Lib.hid ho.reads
        obtain ⟨AY0a, cY0a, rfl⟩ := ho.reads.form
        clear ho hb
        go_wp2_with fail
        refine hK.out _ _ ?_ (fun hHeld => ?_)
        · exact ⟨fa0, fb0, fa1, fb1, fa2, fb2, fa3, fb3, fa4, fb4⟩
        clear hK K
        try simp only [Act.put, List.getElem_toArray, List.getElem_cons_zero, List.getElem_cons_succ, List.setIfInBounds_toArray, List.set_cons_zero, List.set_cons_succ]
        refine wpAnyH_ready (rs := [3]) (by kernel_rfl) (by simp) ?_
        refine AllReadyH.cons (o := _) rfl (fun K hK => ?_) AllReadyH.nil
        go_simp
        refine (toSig_any _ s1 _ (HW1.out.keep (ex_keep HB.out HP.out)) HF1.out).mono ?_
        rintro e w36 ⟨y1, rfl, ho, hb⟩
        replace fa0 := cell_keep hb fa0
        replace fb0 := cell_keep hb fb0
        replace fa1 := cell_keep hb fa1
        replace fb1 := cell_keep hb fb1
        replace fa2 := cell_keep hb fa2
        replace fb2 := cell_keep hb fb2
        replace fa3 := cell_keep hb fa3
        replace fb3 := cell_keep hb fb3
        replace fa4 := cell_keep hb fa4
        replace fb4 := cell_keep hb fb4
        replace P0 := Lib.hid (P0.out.keep hb)
        replace HP := Lib.hid (ex_keep HP.out hb)
        replace HZb := Lib.hid (blk_at HZb.out hb)
        have P1 := Lib.hid ho.reads
        obtain ⟨AY1a, cY1a, rfl⟩ := ho.reads.form
        clear ho hb
        go_wp2_with fail
        refine hK.out _ _ ?_ (fun hHeld => ?_)
        · exact ⟨fa0, fb0, fa1, fb1, fa2, fb2, fa3, fb3, fa4, fb4⟩
        clear hK K
        try simp only [Act.put, List.getElem_toArray, List.getElem_cons_zero, List.getElem_cons_succ, List.setIfInBounds_toArray, List.set_cons_zero, List.set_cons_succ]
        refine wpAnyH_ready (rs := [5]) (by kernel_rfl) (by simp) ?_
        refine AllReadyH.cons (o := _) rfl (fun K hK => ?_) AllReadyH.nil
        go_simp
        refine (toSig_any _ s2 _ (HW2.out.keep (ex_keep HB.out HP.out)) HF2.out).mono ?_
        rintro e w37 ⟨y2, rfl, ho, hb⟩
        replace fa0 := cell_keep hb fa0
        replace fb0 := cell_keep hb fb0
        replace fa1 := cell_keep hb fa1
        replace fb1 := cell_keep hb fb1
        replace fa2 := cell_keep hb fa2
        replace fb2 := cell_keep hb fb2
        replace fa3 := cell_keep hb fa3
        replace fb3 := cell_keep hb fb3
        replace fa4 := cell_keep hb fa4
        replace fb4 := cell_keep hb fb4
        replace P0 := Lib.hid (P0.out.keep hb)
        replace P1 := Lib.hid (P1.out.keep hb)
        replace HP := Lib.hid (ex_keep HP.out hb)
        replace HZb := Lib.hid (blk_at HZb.out hb)
        have P2 := Lib.hid ho.reads
        obtain ⟨AY2a, cY2a, rfl⟩ := ho.reads.form
        clear ho hb
        go_wp2_with fail
        refine hK.out _ _ ?_ (fun hHeld => ?_)
        · exact ⟨fa0, fb0, fa1, fb1, fa2, fb2, fa3, fb3, fa4, fb4⟩
        clear hK K
        try simp only [Act.put, List.getElem_toArray, List.getElem_cons_zero, List.getElem_cons_succ, List.setIfInBounds_toArray, List.set_cons_zero, List.set_cons_succ]
        refine wpAnyH_ready (rs := [7]) (by kernel_rfl) (by simp) ?_
        refine AllReadyH.cons (o := _) rfl (fun K hK => ?_) AllReadyH.nil
        go_simp
        refine (toMap_any _ s3 _ (HW3.out.keep (ex_keep HB.out HP.out)) HF3.out).mono ?_
        rintro e w38 ⟨y3, rfl, ho, hb⟩
        replace fa0 := cell_keep hb fa0
        replace fb0 := cell_keep hb fb0
        replace fa1 := cell_keep hb fa1
        replace fb1 := cell_keep hb fb1
        replace fa2 := cell_keep hb fa2
        replace fb2 := cell_keep hb fb2
        replace fa3 := cell_keep hb fa3
        replace fb3 := cell_keep hb fb3
        replace fa4 := cell_keep hb fa4
        replace fb4 := cell_keep hb fb4
        replace P0 := Lib.hid (P0.out.keep hb)
        replace P1 := Lib.hid (P1.out.keep hb)
        replace P2 := Lib.hid (P2.out.keep hb)
        replace HP := Lib.hid (ex_keep HP.out hb)
        replace HZb := Lib.hid (blk_at HZb.out hb)
        have P3 := Lib.hid ho.reads
        obtain ⟨AY3a, cY3a, AY3b, cY3b, rfl⟩ := ho.reads.form
        clear ho hb
        go_wp2_with fail
        refine hK.out _ _ ?_ (fun hHeld => ?_)
        · exact ⟨fa0, fb0, fa1, fb1, fa2, fb2, fa3, fb3, fa4, fb4⟩
        clear hK K
        try simp only [Act.put, List.getElem_toArray, List.getElem_cons_zero, List.getElem_cons_succ, List.setIfInBounds_toArray, List.set_cons_zero, List.set_cons_succ]
        refine wpAnyH_ready (rs := [9]) (by kernel_rfl) (by simp) ?_
        refine AllReadyH.cons (o := _) rfl (fun K hK => ?_) AllReadyH.nil
        go_simp
        refine (toMap_any _ s4 _ (HW4.out.keep (ex_keep HB.out HP.out)) HF4.out).mono ?_
        rintro e w39 ⟨y4, rfl, ho, hb⟩
        replace fa0 := cell_keep hb fa0
        replace fb0 := cell_keep hb fb0
        replace fa1 := cell_keep hb fa1
        replace fb1 := cell_keep hb fb1
        replace fa2 := cell_keep hb fa2
        replace fb2 := cell_keep hb fb2
        replace fa3 := cell_keep hb fa3
        replace fb3 := cell_keep hb fb3
        replace fa4 := cell_keep hb fa4
        replace fb4 := cell_keep hb fb4
        replace P0 := Lib.hid (P0.out.keep hb)
        replace P1 := Lib.hid (P1.out.keep hb)
        replace P2 := Lib.hid (P2.out.keep hb)
        replace P3 := Lib.hid (P3.out.keep hb)
        replace HP := Lib.hid (ex_keep HP.out hb)
        replace HZb := Lib.hid (blk_at HZb.out hb)
        have P4 := Lib.hid ho.reads
        obtain ⟨AY4a, cY4a, AY4b, cY4b, rfl⟩ := ho.reads.form
        clear ho hb
        go_wp2_with fail
        refine hK.out _ _ ?_ (fun hHeld => ?_)
        · exact ⟨fa0, fb0, fa1, fb1, fa2, fb2, fa3, fb3, fa4, fb4⟩
        clear hK K
        try simp only [Act.put, List.getElem_toArray, List.getElem_cons_zero, List.getElem_cons_succ, List.setIfInBounds_toArray, List.set_cons_zero, List.set_cons_succ]
        refine wpAnyH_ready (rs := [10]) (by kernel_rfl) (by simp) ?_
        refine AllReadyH.cons (o := _) rfl (fun K hK => ?_) AllReadyH.nil
        go_simp
        have hs1 := HP.out.size
        have hbl := (Array.getElem?_eq_some_iff.1 HZb.out).1
        refine (specMapThen_any s0 s1 s2 s3 s4 _ _ _ _ _ _ P0.out P1.out P2.out P3.out P4.out).mono ?_
        rw [HR.out]
        rintro e w40 ⟨z0, rfl, ho0, hb⟩
        obtain ⟨Az0a, cz0a, Az0b, cz0b, rfl⟩ := ho0.reads.form
        have HO := Lib.hid ho0
        have hs2 := hb.size
        replace fa0 := cell_keep hb fa0
        replace fb0 := cell_keep hb fb0
        replace fa1 := cell_keep hb fa1
        replace fb1 := cell_keep hb fb1
        replace fa2 := cell_keep hb fa2
        replace fb2 := cell_keep hb fb2
        replace fa3 := cell_keep hb fa3
        replace fb3 := cell_keep hb fb3
        replace fa4 := cell_keep hb fa4
        replace fb4 := cell_keep hb fb4
        replace HP := Lib.hid (ex_keep HP.out hb)
        replace HZb := Lib.hid (blk_at HZb.out hb)
        have j0 := blk_cell HZb.out 0
        have jf0 := blk_free HZb.out 0
        have j1 := blk_cell HZb.out 1
        have jf1 := blk_free HZb.out 1
        simp at j0 j1
        clear ho0 hb P0 P1 P2 P3 P4
        go_wp2_with fail
        refine hK.out _ _ ?_ (fun hHeld => ?_)
        · exact ⟨fa0, fb0, fa1, fb1, fa2, fb2, fa3, fb3, fa4, fb4⟩
        clear hK K
        try simp only [Act.put, List.getElem_toArray, List.getElem_cons_zero, List.getElem_cons_succ, List.setIfInBounds_toArray, List.set_cons_zero, List.set_cons_succ]
        refine wpAnyH_take (i := 11) (oi := _) (v := ?_) rfl (by kernel_rfl) (by kernel_rfl) (by kernel_rfl) (fun _ _ _ h => h) (Or.inl ⟨by rfl, ?_⟩) (by assumption) ?_
        rotate_left
        · first | (intro w' hSw; (try dsimp only at hSw); go_simp; done) | (intro w' hSw; (try dsimp only at hSw); go_simp; with_reducible rfl)
        try simp only [Act.put, List.getElem_toArray, List.getElem_cons_zero, List.getElem_cons_succ, List.setIfInBounds_toArray, List.set_cons_zero, List.set_cons_succ]
        refine wpAnyH_take (i := 12) (oi := _) (v := ?_) rfl (by kernel_rfl) (by kernel_rfl) (by kernel_rfl) (fun _ _ _ h => h) (Or.inl ⟨by rfl, ?_⟩) (by assumption) ?_
        rotate_left
        · first | (intro w' hSw; (try dsimp only at hSw); go_simp; done) | (intro w' hSw; (try dsimp only at hSw); go_simp; with_reducible rfl)
        try simp only [Act.put, List.getElem_toArray, List.getElem_cons_zero, List.getElem_cons_succ, List.setIfInBounds_toArray, List.set_cons_zero, List.set_cons_succ]
        refine wpAnyH_take (i := 13) (oi := _) (v := ?_) rfl (by kernel_rfl) (by kernel_rfl) (by kernel_rfl) (fun _ _ _ h => h) (Or.inl ⟨by rfl, ?_⟩) (by assumption) ?_
        rotate_left
        · first | (intro w' hSw; (try dsimp only at hSw); go_simp; done) | (intro w' hSw; (try dsimp only at hSw); go_simp; with_reducible rfl)
        try simp only [Act.put, List.getElem_toArray, List.getElem_cons_zero, List.getElem_cons_succ, List.setIfInBounds_toArray, List.set_cons_zero, List.set_cons_succ]
        refine wpAnyH_ready (rs := [15]) (by kernel_rfl) (by simp) ?_
        refine AllReadyH.cons (o := _) rfl (fun K hK => ?_) AllReadyH.nil
        go_simp
        go_wp2_with fail
        refine hK.out _ _ ?_ (fun hHeld => ?_)
        · exact ⟨(set_far (by omega) _ _ _).trans ((set_far (by omega) _ _ _).trans (fa0)), (set_far (by omega) _ _ _).trans ((set_far (by omega) _ _ _).trans (fb0)), (set_far (by omega) _ _ _).trans ((set_far (by omega) _ _ _).trans (fa1)), (set_far (by omega) _ _ _).trans ((set_far (by omega) _ _ _).trans (fb1)), (set_far (by omega) _ _ _).trans ((set_far (by omega) _ _ _).trans (fa2)), (set_far (by omega) _ _ _).trans ((set_far (by omega) _ _ _).trans (fb2)), (set_far (by omega) _ _ _).trans ((set_far (by omega) _ _ _).trans (fa3)), (set_far (by omega) _ _ _).trans ((set_far (by omega) _ _ _).trans (fb3)), (set_far (by omega) _ _ _).trans ((set_far (by omega) _ _ _).trans (fa4)), (set_far (by omega) _ _ _).trans ((set_far (by omega) _ _ _).trans (fb4))⟩
        clear hK K
        try simp only [Act.put, List.getElem_toArray, List.getElem_cons_zero, List.getElem_cons_succ, List.setIfInBounds_toArray, List.set_cons_zero, List.set_cons_succ]
        refine wpAnyH_take (i := 16) (oi := _) (v := ?_) rfl (by kernel_rfl) (by kernel_rfl) (by kernel_rfl) (fun _ _ _ h => h) (Or.inl ⟨by rfl, ?_⟩) (by assumption) ?_
        rotate_left
        · first | (intro w' hSw; (try dsimp only at hSw); go_simp; done) | (intro w' hSw; (try dsimp only at hSw); go_simp; with_reducible rfl)
        try simp only [Act.put, List.getElem_toArray, List.getElem_cons_zero, List.getElem_cons_succ, List.setIfInBounds_toArray, List.set_cons_zero, List.set_cons_succ]
        refine wpAnyH_done (by kernel_rfl) ?_ _
        go_wp2_with fail
        go_meet
        exact ⟨_, _, _, _, _, rfl, rfl, hzl, (blk_set (blk_set HZb.out 0 (.slice Az0a R1.sorts.length cz0a)) 1 (.slice Az0b R1.ops.length cz0b)), (HO.out.same (fun k q1 q2 => ((set_blk (by omega) _ _).trans (set_blk (by omega) _ _)))).base (by omega), ((HP.out.setCell (p := ⟨w5.heap.size, 0, none⟩) hzl (.slice Az0a R1.sorts.length cz0a)).setCell (p := ⟨w5.heap.size, 1, none⟩) hzl (.slice Az0b R1.ops.length cz0b))⟩
  case rest =>
  obtain ⟨bzz, Az0a, cz0a, Az0b, cz0b, rfl, rfl, hle, hblk, ho0, hb⟩ := hcut
  obtain ⟨w6, hwn⟩ : ∃ W', W' = wc := ⟨_, rfl⟩
  subst hwn
  clear hbx
  have HZ0 := Lib.hid ho0
  have HCZ0 := Lib.hid hblk
  clear ho0 hle hblk
  replace fa0 := cell_keep hb fa0
  replace fb0 := cell_keep hb fb0
  replace fa1 := cell_keep hb fa1
  replace fb1 := cell_keep hb fb1
  replace fa2 := cell_keep hb fa2
  replace fb2 := cell_keep hb fb2
  replace fa3 := cell_keep hb fa3
  replace fb3 := cell_keep hb fb3
  replace fa4 := cell_keep hb fa4
  replace fb4 := cell_keep hb fb4
  replace HB := Lib.hid (ex_keep HB.out hb)
  clear hb
  have HC := Lib.hid (And.intro fa0 (And.intro fb0 (And.intro fa1 (And.intro fb1 (And.intro fa2 (And.intro fb2 (And.intro fa3 (And.intro fb3 (And.intro fa4 (fb4))))))))))
  have HBs : Hid (Below w6.heap.size w6 w6) := Below.refl _ _
  clear fa0 fb0 fa1 fb1 fa2 fb2 fa3 fb3 fa4 fb4
  have fa0 := cell_keep HBs.out HC.out.1
  have fb0 := cell_keep HBs.out HC.out.2.1
  have fa1 := cell_keep HBs.out HC.out.2.2.1
  have fb1 := cell_keep HBs.out HC.out.2.2.2.1
  have fa2 := cell_keep HBs.out HC.out.2.2.2.2.1
  have fb2 := cell_keep HBs.out HC.out.2.2.2.2.2.1
  have fa3 := cell_keep HBs.out HC.out.2.2.2.2.2.2.1
  have fb3 := cell_keep HBs.out HC.out.2.2.2.2.2.2.2.1
  have fa4 := cell_keep HBs.out HC.out.2.2.2.2.2.2.2.2.1
  have fb4 := cell_keep HBs.out HC.out.2.2.2.2.2.2.2.2.2
  go_wp2_with fail
  refine (toSig_any _ s0 _ (HW0.out.keep (ex_keep HB.out HBs.out)) HF0.out).mono ?_
  rintro e w41 ⟨y0, rfl, ho, hb⟩
  obtain ⟨AX0a, cX0a, rfl⟩ := ho.reads.form
  have hb2 := below_alloc w41 (.cells #[.int .i64 s0.sorts, .slice AX0a s0.ops.length cX0a] 31)
  have HX0 := Lib.hid (show OSig (w41.alloc (.cells #[.int .i64 s0.sorts, .slice AX0a s0.ops.length cX0a] 31)) w6.heap.size (.agg #[.int .i64 s0.sorts, .slice AX0a s0.ops.length cX0a]) s0 from ho.keep hb2)
  have HCX0 := Lib.hid (bx_cells w41 (.int .i64 s0.sorts) (.slice AX0a s0.ops.length cX0a) 31)
  have hy0 := hb.size
  replace hb := hb.trans (hb2.mono hb.size)
  have hs0 := hb.size
  generalize hWw42 : w41.alloc (.cells #[.int .i64 s0.sorts, .slice AX0a s0.ops.length cX0a] 31) = w42 at HX0 HCX0 hb hs0
  clear hb2 ho
  replace HBs := Lib.hid (ex_keep HBs.out hb)
  clear hb
  have HK0 : Hid (Keeps w6.heap.size w42 w42) := Keeps.refl _ _
  have z0 : w42.heap.size ≤ w42.heap.size := Nat.le_refl _
  clear fa0 fb0 fa1 fb1 fa2 fb2 fa3 fb3 fa4 fb4
  have fa0 := cell_keep HBs.out HC.out.1
  have fb0 := cell_keep HBs.out HC.out.2.1
  have fa1 := cell_keep HBs.out HC.out.2.2.1
  have fb1 := cell_keep HBs.out HC.out.2.2.2.1
  have fa2 := cell_keep HBs.out HC.out.2.2.2.2.1
  have fb2 := cell_keep HBs.out HC.out.2.2.2.2.2.1
  have fa3 := cell_keep HBs.out HC.out.2.2.2.2.2.2.1
  have fb3 := cell_keep HBs.out HC.out.2.2.2.2.2.2.2.1
  have fa4 := cell_keep HBs.out HC.out.2.2.2.2.2.2.2.2.1
  have fb4 := cell_keep HBs.out HC.out.2.2.2.2.2.2.2.2.2
  go_wp2_with fail
  clear hWw42
  refine (toSig_any _ s1 _ (HW1.out.keep (ex_keep HB.out HBs.out)) HF1.out).mono ?_
  rintro e w43 ⟨y1, rfl, ho, hb⟩
  obtain ⟨AX1a, cX1a, rfl⟩ := ho.reads.form
  have hb2 := below_alloc w43 (.cells #[.int .i64 s1.sorts, .slice AX1a s1.ops.length cX1a] 31)
  have HX1 := Lib.hid (show OSig (w43.alloc (.cells #[.int .i64 s1.sorts, .slice AX1a s1.ops.length cX1a] 31)) w42.heap.size (.agg #[.int .i64 s1.sorts, .slice AX1a s1.ops.length cX1a]) s1 from ho.keep hb2)
  have HCX1 := Lib.hid (bx_cells w43 (.int .i64 s1.sorts) (.slice AX1a s1.ops.length cX1a) 31)
  have hy1 := hb.size
  replace hb := hb.trans (hb2.mono hb.size)
  have hs1 := hb.size
  generalize hWw44 : w43.alloc (.cells #[.int .i64 s1.sorts, .slice AX1a s1.ops.length cX1a] 31) = w44 at HX1 HCX1 hb hs1
  clear hb2 ho
  replace HK0 := Lib.hid (HK0.out.below z0 hb)
  replace z0 : w42.heap.size ≤ w44.heap.size := Nat.le_trans z0 hb.size
  replace HBs := Lib.hid (ex_keep HBs.out hb)
  clear hb
  have HK1 : Hid (Keeps w42.heap.size w44 w44) := Keeps.refl _ _
  have z1 : w44.heap.size ≤ w44.heap.size := Nat.le_refl _
  clear fa0 fb0 fa1 fb1 fa2 fb2 fa3 fb3 fa4 fb4
  have fa0 := cell_keep HBs.out HC.out.1
  have fb0 := cell_keep HBs.out HC.out.2.1
  have fa1 := cell_keep HBs.out HC.out.2.2.1
  have fb1 := cell_keep HBs.out HC.out.2.2.2.1
  have fa2 := cell_keep HBs.out HC.out.2.2.2.2.1
  have fb2 := cell_keep HBs.out HC.out.2.2.2.2.2.1
  have fa3 := cell_keep HBs.out HC.out.2.2.2.2.2.2.1
  have fb3 := cell_keep HBs.out HC.out.2.2.2.2.2.2.2.1
  have fa4 := cell_keep HBs.out HC.out.2.2.2.2.2.2.2.2.1
  have fb4 := cell_keep HBs.out HC.out.2.2.2.2.2.2.2.2.2
  go_wp2_with fail
  clear hWw44
  refine (toSig_any _ s2 _ (HW2.out.keep (ex_keep HB.out HBs.out)) HF2.out).mono ?_
  rintro e w45 ⟨y2, rfl, ho, hb⟩
  obtain ⟨AX2a, cX2a, rfl⟩ := ho.reads.form
  have hb2 := below_alloc w45 (.cells #[.int .i64 s2.sorts, .slice AX2a s2.ops.length cX2a] 31)
  have HX2 := Lib.hid (show OSig (w45.alloc (.cells #[.int .i64 s2.sorts, .slice AX2a s2.ops.length cX2a] 31)) w44.heap.size (.agg #[.int .i64 s2.sorts, .slice AX2a s2.ops.length cX2a]) s2 from ho.keep hb2)
  have HCX2 := Lib.hid (bx_cells w45 (.int .i64 s2.sorts) (.slice AX2a s2.ops.length cX2a) 31)
  have hy2 := hb.size
  replace hb := hb.trans (hb2.mono hb.size)
  have hs2 := hb.size
  generalize hWw46 : w45.alloc (.cells #[.int .i64 s2.sorts, .slice AX2a s2.ops.length cX2a] 31) = w46 at HX2 HCX2 hb hs2
  clear hb2 ho
  replace HK0 := Lib.hid (HK0.out.below z0 hb)
  replace z0 : w42.heap.size ≤ w46.heap.size := Nat.le_trans z0 hb.size
  replace HK1 := Lib.hid (HK1.out.below z1 hb)
  replace z1 : w44.heap.size ≤ w46.heap.size := Nat.le_trans z1 hb.size
  replace HBs := Lib.hid (ex_keep HBs.out hb)
  clear hb
  have HK2 : Hid (Keeps w44.heap.size w46 w46) := Keeps.refl _ _
  have z2 : w46.heap.size ≤ w46.heap.size := Nat.le_refl _
  clear fa0 fb0 fa1 fb1 fa2 fb2 fa3 fb3 fa4 fb4
  have fa0 := cell_keep HBs.out HC.out.1
  have fb0 := cell_keep HBs.out HC.out.2.1
  have fa1 := cell_keep HBs.out HC.out.2.2.1
  have fb1 := cell_keep HBs.out HC.out.2.2.2.1
  have fa2 := cell_keep HBs.out HC.out.2.2.2.2.1
  have fb2 := cell_keep HBs.out HC.out.2.2.2.2.2.1
  have fa3 := cell_keep HBs.out HC.out.2.2.2.2.2.2.1
  have fb3 := cell_keep HBs.out HC.out.2.2.2.2.2.2.2.1
  have fa4 := cell_keep HBs.out HC.out.2.2.2.2.2.2.2.2.1
  have fb4 := cell_keep HBs.out HC.out.2.2.2.2.2.2.2.2.2
  go_wp2_with fail
  clear hWw46
  refine (toMap_any _ s3 _ (HW3.out.keep (ex_keep HB.out HBs.out)) HF3.out).mono ?_
  rintro e w47 ⟨y3, rfl, ho, hb⟩
  obtain ⟨AX3a, cX3a, AX3b, cX3b, rfl⟩ := ho.reads.form
  have hb2 := below_alloc w47 (.cells #[.slice AX3a s3.sorts.length cX3a, .slice AX3b s3.ops.length cX3b] 33)
  have HX3 := Lib.hid (show OMap (w47.alloc (.cells #[.slice AX3a s3.sorts.length cX3a, .slice AX3b s3.ops.length cX3b] 33)) w46.heap.size (.agg #[.slice AX3a s3.sorts.length cX3a, .slice AX3b s3.ops.length cX3b]) s3 from ho.keep hb2)
  have HCX3 := Lib.hid (bx_cells w47 (.slice AX3a s3.sorts.length cX3a) (.slice AX3b s3.ops.length cX3b) 33)
  have hy3 := hb.size
  replace hb := hb.trans (hb2.mono hb.size)
  have hs3 := hb.size
  generalize hWw48 : w47.alloc (.cells #[.slice AX3a s3.sorts.length cX3a, .slice AX3b s3.ops.length cX3b] 33) = w48 at HX3 HCX3 hb hs3
  clear hb2 ho
  replace HK0 := Lib.hid (HK0.out.below z0 hb)
  replace z0 : w42.heap.size ≤ w48.heap.size := Nat.le_trans z0 hb.size
  replace HK1 := Lib.hid (HK1.out.below z1 hb)
  replace z1 : w44.heap.size ≤ w48.heap.size := Nat.le_trans z1 hb.size
  replace HK2 := Lib.hid (HK2.out.below z2 hb)
  replace z2 : w46.heap.size ≤ w48.heap.size := Nat.le_trans z2 hb.size
  replace HBs := Lib.hid (ex_keep HBs.out hb)
  clear hb
  have HK3 : Hid (Keeps w46.heap.size w48 w48) := Keeps.refl _ _
  have z3 : w48.heap.size ≤ w48.heap.size := Nat.le_refl _
  clear fa0 fb0 fa1 fb1 fa2 fb2 fa3 fb3 fa4 fb4
  have fa0 := cell_keep HBs.out HC.out.1
  have fb0 := cell_keep HBs.out HC.out.2.1
  have fa1 := cell_keep HBs.out HC.out.2.2.1
  have fb1 := cell_keep HBs.out HC.out.2.2.2.1
  have fa2 := cell_keep HBs.out HC.out.2.2.2.2.1
  have fb2 := cell_keep HBs.out HC.out.2.2.2.2.2.1
  have fa3 := cell_keep HBs.out HC.out.2.2.2.2.2.2.1
  have fb3 := cell_keep HBs.out HC.out.2.2.2.2.2.2.2.1
  have fa4 := cell_keep HBs.out HC.out.2.2.2.2.2.2.2.2.1
  have fb4 := cell_keep HBs.out HC.out.2.2.2.2.2.2.2.2.2
  go_wp2_with fail
  clear hWw48
  refine (toMap_any _ s4 _ (HW4.out.keep (ex_keep HB.out HBs.out)) HF4.out).mono ?_
  rintro e w49 ⟨y4, rfl, ho, hb⟩
  obtain ⟨AX4a, cX4a, AX4b, cX4b, rfl⟩ := ho.reads.form
  have hb2 := below_alloc w49 (.cells #[.slice AX4a s4.sorts.length cX4a, .slice AX4b s4.ops.length cX4b] 33)
  have HX4 := Lib.hid (show OMap (w49.alloc (.cells #[.slice AX4a s4.sorts.length cX4a, .slice AX4b s4.ops.length cX4b] 33)) w48.heap.size (.agg #[.slice AX4a s4.sorts.length cX4a, .slice AX4b s4.ops.length cX4b]) s4 from ho.keep hb2)
  have HCX4 := Lib.hid (bx_cells w49 (.slice AX4a s4.sorts.length cX4a) (.slice AX4b s4.ops.length cX4b) 33)
  have hy4 := hb.size
  replace hb := hb.trans (hb2.mono hb.size)
  have hs4 := hb.size
  generalize hWw50 : w49.alloc (.cells #[.slice AX4a s4.sorts.length cX4a, .slice AX4b s4.ops.length cX4b] 33) = w50 at HX4 HCX4 hb hs4
  clear hb2 ho
  replace HK0 := Lib.hid (HK0.out.below z0 hb)
  replace z0 : w42.heap.size ≤ w50.heap.size := Nat.le_trans z0 hb.size
  replace HK1 := Lib.hid (HK1.out.below z1 hb)
  replace z1 : w44.heap.size ≤ w50.heap.size := Nat.le_trans z1 hb.size
  replace HK2 := Lib.hid (HK2.out.below z2 hb)
  replace z2 : w46.heap.size ≤ w50.heap.size := Nat.le_trans z2 hb.size
  replace HK3 := Lib.hid (HK3.out.below z3 hb)
  replace z3 : w48.heap.size ≤ w50.heap.size := Nat.le_trans z3 hb.size
  replace HBs := Lib.hid (ex_keep HBs.out hb)
  clear hb
  have HK4 : Hid (Keeps w48.heap.size w50 w50) := Keeps.refl _ _
  have z4 : w50.heap.size ≤ w50.heap.size := Nat.le_refl _
  clear fa0 fb0 fa1 fb1 fa2 fb2 fa3 fb3 fa4 fb4
  have l0a := HK0.out.cell (by omega) HCX0.out.1
  have l0b := HK0.out.cell (by omega) HCX0.out.2
  have l1a := HK1.out.cell (by omega) HCX1.out.1
  have l1b := HK1.out.cell (by omega) HCX1.out.2
  have l2a := HK2.out.cell (by omega) HCX2.out.1
  have l2b := HK2.out.cell (by omega) HCX2.out.2
  have l3a := HK3.out.cell (by omega) HCX3.out.1
  have l3b := HK3.out.cell (by omega) HCX3.out.2
  have l4a := HK4.out.cell (by omega) HCX4.out.1
  have l4b := HK4.out.cell (by omega) HCX4.out.2
  go_wp2_with fail
  clear hWw50
  refine (mapThen_any s0 s1 s2 s3 s4 _ _ _ _ _ _ (HX0.out.same HK0.out).reads (HX1.out.same HK1.out).reads (HX2.out.same HK2.out).reads (HX3.out.same HK3.out).reads (HX4.out.same HK4.out).reads).mono ?_
  rw [HR.out]
  rintro e w51 ⟨g0, rfl, ho0, hb⟩
  have hsg := hb.size
  obtain ⟨Ag0a, cg0a, Ag0b, cg0b, rfl⟩ := ho0.reads.form
  have HG0 := Lib.hid ho0
  clear l0a l0b l1a l1b l2a l2b l3a l3b l4a l4b
  replace HK0 := Lib.hid (HK0.out.below z0 hb)
  replace z0 : w42.heap.size ≤ w51.heap.size := Nat.le_trans z0 hb.size
  replace HK1 := Lib.hid (HK1.out.below z1 hb)
  replace z1 : w44.heap.size ≤ w51.heap.size := Nat.le_trans z1 hb.size
  replace HK2 := Lib.hid (HK2.out.below z2 hb)
  replace z2 : w46.heap.size ≤ w51.heap.size := Nat.le_trans z2 hb.size
  replace HK3 := Lib.hid (HK3.out.below z3 hb)
  replace z3 : w48.heap.size ≤ w51.heap.size := Nat.le_trans z3 hb.size
  replace HK4 := Lib.hid (HK4.out.below z4 hb)
  replace z4 : w50.heap.size ≤ w51.heap.size := Nat.le_trans z4 hb.size
  replace HBs := Lib.hid (ex_keep HBs.out hb)
  clear hb
  have HKg0 : Hid (Keeps w50.heap.size w51 w51) := Keeps.refl _ _
  have zg0 : w51.heap.size ≤ w51.heap.size := Nat.le_refl _
  clear ho0
  have hb := below_alloc w51 (.cells #[.slice Ag0a R1.sorts.length cg0a, .slice Ag0b R1.ops.length cg0b] 33)
  have HCG0 := Lib.hid (bx_cells w51 (.slice Ag0a R1.sorts.length cg0a) (.slice Ag0b R1.ops.length cg0b) 33)
  generalize hWw52 : w51.alloc (.cells #[.slice Ag0a R1.sorts.length cg0a, .slice Ag0b R1.ops.length cg0b] 33) = w52 at hb HCG0
  have hsG0 := hb.size
  replace HK0 := Lib.hid (HK0.out.below z0 hb)
  replace z0 : w42.heap.size ≤ w52.heap.size := Nat.le_trans z0 hb.size
  replace HK1 := Lib.hid (HK1.out.below z1 hb)
  replace z1 : w44.heap.size ≤ w52.heap.size := Nat.le_trans z1 hb.size
  replace HK2 := Lib.hid (HK2.out.below z2 hb)
  replace z2 : w46.heap.size ≤ w52.heap.size := Nat.le_trans z2 hb.size
  replace HK3 := Lib.hid (HK3.out.below z3 hb)
  replace z3 : w48.heap.size ≤ w52.heap.size := Nat.le_trans z3 hb.size
  replace HK4 := Lib.hid (HK4.out.below z4 hb)
  replace z4 : w50.heap.size ≤ w52.heap.size := Nat.le_trans z4 hb.size
  replace HKg0 := Lib.hid (HKg0.out.below zg0 hb)
  replace zg0 : w51.heap.size ≤ w52.heap.size := Nat.le_trans zg0 hb.size
  replace HBs := Lib.hid (ex_keep HBs.out hb)
  clear hb
  have HKG0 : Hid (Keeps w51.heap.size w52 w52) := Keeps.refl _ _
  have zG0 : w52.heap.size ≤ w52.heap.size := Nat.le_refl _
  have u0a := HKG0.out.cell (by omega) HCG0.out.1
  have u0b := HKG0.out.cell (by omega) HCG0.out.2
  have v0a := cell_keep HBs.out (blk_cell_at HCZ0.out (i := 0) (u := .slice Az0a R1.sorts.length cz0a) rfl)
  have v0b := cell_keep HBs.out (blk_cell_at HCZ0.out (i := 1) (u := .slice Az0b R1.ops.length cz0b) rfl)
  go_wp2_with fail
  clear hWw52
  refine (eqMap_is _ _ R1 R1 _ true (sameMp_self _) (HG0.out.same HKg0.out).reads (HZ0.out.keep HBs.out).reads).mono ?_
  rintro e w53 ⟨rfl, hb⟩
  clear u0a u0b v0a v0b
  replace HK0 := Lib.hid (HK0.out.below z0 hb)
  replace z0 : w42.heap.size ≤ w53.heap.size := Nat.le_trans z0 hb.size
  replace HK1 := Lib.hid (HK1.out.below z1 hb)
  replace z1 : w44.heap.size ≤ w53.heap.size := Nat.le_trans z1 hb.size
  replace HK2 := Lib.hid (HK2.out.below z2 hb)
  replace z2 : w46.heap.size ≤ w53.heap.size := Nat.le_trans z2 hb.size
  replace HK3 := Lib.hid (HK3.out.below z3 hb)
  replace z3 : w48.heap.size ≤ w53.heap.size := Nat.le_trans z3 hb.size
  replace HK4 := Lib.hid (HK4.out.below z4 hb)
  replace z4 : w50.heap.size ≤ w53.heap.size := Nat.le_trans z4 hb.size
  replace HKg0 := Lib.hid (HKg0.out.below zg0 hb)
  replace zg0 : w51.heap.size ≤ w53.heap.size := Nat.le_trans zg0 hb.size
  replace HKG0 := Lib.hid (HKG0.out.below zG0 hb)
  replace zG0 : w52.heap.size ≤ w53.heap.size := Nat.le_trans zG0 hb.size
  replace HBs := Lib.hid (ex_keep HBs.out hb)
  clear hb
  have fa0 := cell_keep HBs.out HC.out.1
  have fb0 := cell_keep HBs.out HC.out.2.1
  have fa1 := cell_keep HBs.out HC.out.2.2.1
  have fb1 := cell_keep HBs.out HC.out.2.2.2.1
  have fa2 := cell_keep HBs.out HC.out.2.2.2.2.1
  have fb2 := cell_keep HBs.out HC.out.2.2.2.2.2.1
  have fa3 := cell_keep HBs.out HC.out.2.2.2.2.2.2.1
  have fb3 := cell_keep HBs.out HC.out.2.2.2.2.2.2.2.1
  have fa4 := cell_keep HBs.out HC.out.2.2.2.2.2.2.2.2.1
  have fb4 := cell_keep HBs.out HC.out.2.2.2.2.2.2.2.2.2
  have l0a := HK0.out.cell (by omega) HCX0.out.1
  have l0b := HK0.out.cell (by omega) HCX0.out.2
  have l1a := HK1.out.cell (by omega) HCX1.out.1
  have l1b := HK1.out.cell (by omega) HCX1.out.2
  have l2a := HK2.out.cell (by omega) HCX2.out.1
  have l2b := HK2.out.cell (by omega) HCX2.out.2
  have l3a := HK3.out.cell (by omega) HCX3.out.1
  have l3b := HK3.out.cell (by omega) HCX3.out.2
  have l4a := HK4.out.cell (by omega) HCX4.out.1
  have l4b := HK4.out.cell (by omega) HCX4.out.2
  have HSW0 := Lib.hid (HW0.out.keep (ex_keep HB.out HBs.out))
  have HXR0 := Lib.hid (HX0.out.same HK0.out).reads
  go_wp2_with fail
  have ea := World.new_ne w53 _ fa0
  have eb := World.new_ne w53 _ l0a
  go_region_held3 (fun w' => w'.cell? ⟨w.heap.size, 0, none⟩ = some (.int .i64 s0.sorts) ∧ w'.cell? ⟨w.heap.size, 1, none⟩ = some (.slice A0a s0.ops.length c0a) ∧ w'.cell? ⟨w41.heap.size, 0, none⟩ = some (.int .i64 s0.sorts) ∧ w'.cell? ⟨w41.heap.size, 1, none⟩ = some (.slice AX0a s0.ops.length cX0a))
    (first | go_keep)
    (first
      | (go_at_call 12; refine (toSig_any _ s0 w53.drew HSW0.out HF0.out).mono ?_; rintro e w54 ⟨yj, rfl, hoj, hbj⟩; have HOj := Lib.hid hoj; have HBj := Lib.hid (show Below w53.heap.size w53 w54 from below_undrew hbj); have o0 := cell_keep HBj.out fa0; have o1 := cell_keep HBj.out fb0; have o2 := cell_keep HBj.out l0a; have o3 := cell_keep HBj.out l0b; clear hoj hbj)
      | (go_at_call 15; refine (eqSig_is _ _ s0 s0 _ true (sameS_self _) (HXR0.out.keep HBj.out) HOj.out.reads).mono ?_; rintro e w55 ⟨rfl, hbk⟩; have HBk := Lib.hid (ex_keep HBj.out hbk); have q0 := cell_keep hbk o0; have q1 := cell_keep hbk o1; have q2 := cell_keep hbk o2; have q3 := cell_keep hbk o3; clear hbk))
  have hb := HBk.out
  clear fa0 fb0 fa1 fb1 fa2 fb2 fa3 fb3 fa4 fb4 l0a l0b l1a l1b l2a l2b l3a l3b l4a l4b o0 q0 o1 q1 o2 q2 o3 q3 ea eb HBj HBk HOj HSW0 HXR0
  replace HK0 := Lib.hid (HK0.out.below z0 hb)
  replace z0 : w42.heap.size ≤ w55.heap.size := Nat.le_trans z0 hb.size
  replace HK1 := Lib.hid (HK1.out.below z1 hb)
  replace z1 : w44.heap.size ≤ w55.heap.size := Nat.le_trans z1 hb.size
  replace HK2 := Lib.hid (HK2.out.below z2 hb)
  replace z2 : w46.heap.size ≤ w55.heap.size := Nat.le_trans z2 hb.size
  replace HK3 := Lib.hid (HK3.out.below z3 hb)
  replace z3 : w48.heap.size ≤ w55.heap.size := Nat.le_trans z3 hb.size
  replace HK4 := Lib.hid (HK4.out.below z4 hb)
  replace z4 : w50.heap.size ≤ w55.heap.size := Nat.le_trans z4 hb.size
  replace HKg0 := Lib.hid (HKg0.out.below zg0 hb)
  replace zg0 : w51.heap.size ≤ w55.heap.size := Nat.le_trans zg0 hb.size
  replace HKG0 := Lib.hid (HKG0.out.below zG0 hb)
  replace zG0 : w52.heap.size ≤ w55.heap.size := Nat.le_trans zG0 hb.size
  replace HBs := Lib.hid (ex_keep HBs.out hb)
  clear hb
  have fa0 := cell_keep HBs.out HC.out.1
  have fb0 := cell_keep HBs.out HC.out.2.1
  have fa1 := cell_keep HBs.out HC.out.2.2.1
  have fb1 := cell_keep HBs.out HC.out.2.2.2.1
  have fa2 := cell_keep HBs.out HC.out.2.2.2.2.1
  have fb2 := cell_keep HBs.out HC.out.2.2.2.2.2.1
  have fa3 := cell_keep HBs.out HC.out.2.2.2.2.2.2.1
  have fb3 := cell_keep HBs.out HC.out.2.2.2.2.2.2.2.1
  have fa4 := cell_keep HBs.out HC.out.2.2.2.2.2.2.2.2.1
  have fb4 := cell_keep HBs.out HC.out.2.2.2.2.2.2.2.2.2
  have l0a := HK0.out.cell (by omega) HCX0.out.1
  have l0b := HK0.out.cell (by omega) HCX0.out.2
  have l1a := HK1.out.cell (by omega) HCX1.out.1
  have l1b := HK1.out.cell (by omega) HCX1.out.2
  have l2a := HK2.out.cell (by omega) HCX2.out.1
  have l2b := HK2.out.cell (by omega) HCX2.out.2
  have l3a := HK3.out.cell (by omega) HCX3.out.1
  have l3b := HK3.out.cell (by omega) HCX3.out.2
  have l4a := HK4.out.cell (by omega) HCX4.out.1
  have l4b := HK4.out.cell (by omega) HCX4.out.2
  have HSW1 := Lib.hid (HW1.out.keep (ex_keep HB.out HBs.out))
  have HXR1 := Lib.hid (HX1.out.same HK1.out).reads
  go_wp2_with fail
  have ea := World.new_ne w55 _ fa1
  have eb := World.new_ne w55 _ l1a
  go_region_held3 (fun w' => w'.cell? ⟨w.heap.size + 1, 0, none⟩ = some (.int .i64 s1.sorts) ∧ w'.cell? ⟨w.heap.size + 1, 1, none⟩ = some (.slice A1a s1.ops.length c1a) ∧ w'.cell? ⟨w43.heap.size, 0, none⟩ = some (.int .i64 s1.sorts) ∧ w'.cell? ⟨w43.heap.size, 1, none⟩ = some (.slice AX1a s1.ops.length cX1a))
    (first | go_keep)
    (first
      | (go_at_call 12; refine (toSig_any _ s1 w55.drew HSW1.out HF1.out).mono ?_; rintro e w56 ⟨yj, rfl, hoj, hbj⟩; have HOj := Lib.hid hoj; have HBj := Lib.hid (show Below w55.heap.size w55 w56 from below_undrew hbj); have o0 := cell_keep HBj.out fa1; have o1 := cell_keep HBj.out fb1; have o2 := cell_keep HBj.out l1a; have o3 := cell_keep HBj.out l1b; clear hoj hbj)
      | (go_at_call 15; refine (eqSig_is _ _ s1 s1 _ true (sameS_self _) (HXR1.out.keep HBj.out) HOj.out.reads).mono ?_; rintro e w57 ⟨rfl, hbk⟩; have HBk := Lib.hid (ex_keep HBj.out hbk); have q0 := cell_keep hbk o0; have q1 := cell_keep hbk o1; have q2 := cell_keep hbk o2; have q3 := cell_keep hbk o3; clear hbk))
  have hb := HBk.out
  clear fa0 fb0 fa1 fb1 fa2 fb2 fa3 fb3 fa4 fb4 l0a l0b l1a l1b l2a l2b l3a l3b l4a l4b o0 q0 o1 q1 o2 q2 o3 q3 ea eb HBj HBk HOj HSW1 HXR1
  replace HK0 := Lib.hid (HK0.out.below z0 hb)
  replace z0 : w42.heap.size ≤ w57.heap.size := Nat.le_trans z0 hb.size
  replace HK1 := Lib.hid (HK1.out.below z1 hb)
  replace z1 : w44.heap.size ≤ w57.heap.size := Nat.le_trans z1 hb.size
  replace HK2 := Lib.hid (HK2.out.below z2 hb)
  replace z2 : w46.heap.size ≤ w57.heap.size := Nat.le_trans z2 hb.size
  replace HK3 := Lib.hid (HK3.out.below z3 hb)
  replace z3 : w48.heap.size ≤ w57.heap.size := Nat.le_trans z3 hb.size
  replace HK4 := Lib.hid (HK4.out.below z4 hb)
  replace z4 : w50.heap.size ≤ w57.heap.size := Nat.le_trans z4 hb.size
  replace HKg0 := Lib.hid (HKg0.out.below zg0 hb)
  replace zg0 : w51.heap.size ≤ w57.heap.size := Nat.le_trans zg0 hb.size
  replace HKG0 := Lib.hid (HKG0.out.below zG0 hb)
  replace zG0 : w52.heap.size ≤ w57.heap.size := Nat.le_trans zG0 hb.size
  replace HBs := Lib.hid (ex_keep HBs.out hb)
  clear hb
  have fa0 := cell_keep HBs.out HC.out.1
  have fb0 := cell_keep HBs.out HC.out.2.1
  have fa1 := cell_keep HBs.out HC.out.2.2.1
  have fb1 := cell_keep HBs.out HC.out.2.2.2.1
  have fa2 := cell_keep HBs.out HC.out.2.2.2.2.1
  have fb2 := cell_keep HBs.out HC.out.2.2.2.2.2.1
  have fa3 := cell_keep HBs.out HC.out.2.2.2.2.2.2.1
  have fb3 := cell_keep HBs.out HC.out.2.2.2.2.2.2.2.1
  have fa4 := cell_keep HBs.out HC.out.2.2.2.2.2.2.2.2.1
  have fb4 := cell_keep HBs.out HC.out.2.2.2.2.2.2.2.2.2
  have l0a := HK0.out.cell (by omega) HCX0.out.1
  have l0b := HK0.out.cell (by omega) HCX0.out.2
  have l1a := HK1.out.cell (by omega) HCX1.out.1
  have l1b := HK1.out.cell (by omega) HCX1.out.2
  have l2a := HK2.out.cell (by omega) HCX2.out.1
  have l2b := HK2.out.cell (by omega) HCX2.out.2
  have l3a := HK3.out.cell (by omega) HCX3.out.1
  have l3b := HK3.out.cell (by omega) HCX3.out.2
  have l4a := HK4.out.cell (by omega) HCX4.out.1
  have l4b := HK4.out.cell (by omega) HCX4.out.2
  have HSW2 := Lib.hid (HW2.out.keep (ex_keep HB.out HBs.out))
  have HXR2 := Lib.hid (HX2.out.same HK2.out).reads
  go_wp2_with fail
  have ea := World.new_ne w57 _ fa2
  have eb := World.new_ne w57 _ l2a
  go_region_held3 (fun w' => w'.cell? ⟨w.heap.size + 1 + 1, 0, none⟩ = some (.int .i64 s2.sorts) ∧ w'.cell? ⟨w.heap.size + 1 + 1, 1, none⟩ = some (.slice A2a s2.ops.length c2a) ∧ w'.cell? ⟨w45.heap.size, 0, none⟩ = some (.int .i64 s2.sorts) ∧ w'.cell? ⟨w45.heap.size, 1, none⟩ = some (.slice AX2a s2.ops.length cX2a))
    (first | go_keep)
    (first
      | (go_at_call 12; refine (toSig_any _ s2 w57.drew HSW2.out HF2.out).mono ?_; rintro e w58 ⟨yj, rfl, hoj, hbj⟩; have HOj := Lib.hid hoj; have HBj := Lib.hid (show Below w57.heap.size w57 w58 from below_undrew hbj); have o0 := cell_keep HBj.out fa2; have o1 := cell_keep HBj.out fb2; have o2 := cell_keep HBj.out l2a; have o3 := cell_keep HBj.out l2b; clear hoj hbj)
      | (go_at_call 15; refine (eqSig_is _ _ s2 s2 _ true (sameS_self _) (HXR2.out.keep HBj.out) HOj.out.reads).mono ?_; rintro e w59 ⟨rfl, hbk⟩; have HBk := Lib.hid (ex_keep HBj.out hbk); have q0 := cell_keep hbk o0; have q1 := cell_keep hbk o1; have q2 := cell_keep hbk o2; have q3 := cell_keep hbk o3; clear hbk))
  have hb := HBk.out
  clear fa0 fb0 fa1 fb1 fa2 fb2 fa3 fb3 fa4 fb4 l0a l0b l1a l1b l2a l2b l3a l3b l4a l4b o0 q0 o1 q1 o2 q2 o3 q3 ea eb HBj HBk HOj HSW2 HXR2
  replace HK0 := Lib.hid (HK0.out.below z0 hb)
  replace z0 : w42.heap.size ≤ w59.heap.size := Nat.le_trans z0 hb.size
  replace HK1 := Lib.hid (HK1.out.below z1 hb)
  replace z1 : w44.heap.size ≤ w59.heap.size := Nat.le_trans z1 hb.size
  replace HK2 := Lib.hid (HK2.out.below z2 hb)
  replace z2 : w46.heap.size ≤ w59.heap.size := Nat.le_trans z2 hb.size
  replace HK3 := Lib.hid (HK3.out.below z3 hb)
  replace z3 : w48.heap.size ≤ w59.heap.size := Nat.le_trans z3 hb.size
  replace HK4 := Lib.hid (HK4.out.below z4 hb)
  replace z4 : w50.heap.size ≤ w59.heap.size := Nat.le_trans z4 hb.size
  replace HKg0 := Lib.hid (HKg0.out.below zg0 hb)
  replace zg0 : w51.heap.size ≤ w59.heap.size := Nat.le_trans zg0 hb.size
  replace HKG0 := Lib.hid (HKG0.out.below zG0 hb)
  replace zG0 : w52.heap.size ≤ w59.heap.size := Nat.le_trans zG0 hb.size
  replace HBs := Lib.hid (ex_keep HBs.out hb)
  clear hb
  have fa0 := cell_keep HBs.out HC.out.1
  have fb0 := cell_keep HBs.out HC.out.2.1
  have fa1 := cell_keep HBs.out HC.out.2.2.1
  have fb1 := cell_keep HBs.out HC.out.2.2.2.1
  have fa2 := cell_keep HBs.out HC.out.2.2.2.2.1
  have fb2 := cell_keep HBs.out HC.out.2.2.2.2.2.1
  have fa3 := cell_keep HBs.out HC.out.2.2.2.2.2.2.1
  have fb3 := cell_keep HBs.out HC.out.2.2.2.2.2.2.2.1
  have fa4 := cell_keep HBs.out HC.out.2.2.2.2.2.2.2.2.1
  have fb4 := cell_keep HBs.out HC.out.2.2.2.2.2.2.2.2.2
  have l0a := HK0.out.cell (by omega) HCX0.out.1
  have l0b := HK0.out.cell (by omega) HCX0.out.2
  have l1a := HK1.out.cell (by omega) HCX1.out.1
  have l1b := HK1.out.cell (by omega) HCX1.out.2
  have l2a := HK2.out.cell (by omega) HCX2.out.1
  have l2b := HK2.out.cell (by omega) HCX2.out.2
  have l3a := HK3.out.cell (by omega) HCX3.out.1
  have l3b := HK3.out.cell (by omega) HCX3.out.2
  have l4a := HK4.out.cell (by omega) HCX4.out.1
  have l4b := HK4.out.cell (by omega) HCX4.out.2
  have HSW3 := Lib.hid (HW3.out.keep (ex_keep HB.out HBs.out))
  have HXR3 := Lib.hid (HX3.out.same HK3.out).reads
  go_wp2_with fail
  have ea := World.new_ne w59 _ fa3
  have eb := World.new_ne w59 _ l3a
  go_region_held3 (fun w' => w'.cell? ⟨w.heap.size + 1 + 1 + 1, 0, none⟩ = some (.slice A3a s3.sorts.length c3a) ∧ w'.cell? ⟨w.heap.size + 1 + 1 + 1, 1, none⟩ = some (.slice A3b s3.ops.length c3b) ∧ w'.cell? ⟨w47.heap.size, 0, none⟩ = some (.slice AX3a s3.sorts.length cX3a) ∧ w'.cell? ⟨w47.heap.size, 1, none⟩ = some (.slice AX3b s3.ops.length cX3b))
    (first | go_keep)
    (first
      | (go_at_call 13; refine (toMap_any _ s3 w59.drew HSW3.out HF3.out).mono ?_; rintro e w60 ⟨yj, rfl, hoj, hbj⟩; have HOj := Lib.hid hoj; have HBj := Lib.hid (show Below w59.heap.size w59 w60 from below_undrew hbj); have o0 := cell_keep HBj.out fa3; have o1 := cell_keep HBj.out fb3; have o2 := cell_keep HBj.out l3a; have o3 := cell_keep HBj.out l3b; clear hoj hbj)
      | (go_at_call 16; refine (eqMap_is _ _ s3 s3 _ true (sameMp_self _) (HXR3.out.keep HBj.out) HOj.out.reads).mono ?_; rintro e w61 ⟨rfl, hbk⟩; have HBk := Lib.hid (ex_keep HBj.out hbk); have q0 := cell_keep hbk o0; have q1 := cell_keep hbk o1; have q2 := cell_keep hbk o2; have q3 := cell_keep hbk o3; clear hbk))
  have hb := HBk.out
  clear fa0 fb0 fa1 fb1 fa2 fb2 fa3 fb3 fa4 fb4 l0a l0b l1a l1b l2a l2b l3a l3b l4a l4b o0 q0 o1 q1 o2 q2 o3 q3 ea eb HBj HBk HOj HSW3 HXR3
  replace HK0 := Lib.hid (HK0.out.below z0 hb)
  replace z0 : w42.heap.size ≤ w61.heap.size := Nat.le_trans z0 hb.size
  replace HK1 := Lib.hid (HK1.out.below z1 hb)
  replace z1 : w44.heap.size ≤ w61.heap.size := Nat.le_trans z1 hb.size
  replace HK2 := Lib.hid (HK2.out.below z2 hb)
  replace z2 : w46.heap.size ≤ w61.heap.size := Nat.le_trans z2 hb.size
  replace HK3 := Lib.hid (HK3.out.below z3 hb)
  replace z3 : w48.heap.size ≤ w61.heap.size := Nat.le_trans z3 hb.size
  replace HK4 := Lib.hid (HK4.out.below z4 hb)
  replace z4 : w50.heap.size ≤ w61.heap.size := Nat.le_trans z4 hb.size
  replace HKg0 := Lib.hid (HKg0.out.below zg0 hb)
  replace zg0 : w51.heap.size ≤ w61.heap.size := Nat.le_trans zg0 hb.size
  replace HKG0 := Lib.hid (HKG0.out.below zG0 hb)
  replace zG0 : w52.heap.size ≤ w61.heap.size := Nat.le_trans zG0 hb.size
  replace HBs := Lib.hid (ex_keep HBs.out hb)
  clear hb
  have fa0 := cell_keep HBs.out HC.out.1
  have fb0 := cell_keep HBs.out HC.out.2.1
  have fa1 := cell_keep HBs.out HC.out.2.2.1
  have fb1 := cell_keep HBs.out HC.out.2.2.2.1
  have fa2 := cell_keep HBs.out HC.out.2.2.2.2.1
  have fb2 := cell_keep HBs.out HC.out.2.2.2.2.2.1
  have fa3 := cell_keep HBs.out HC.out.2.2.2.2.2.2.1
  have fb3 := cell_keep HBs.out HC.out.2.2.2.2.2.2.2.1
  have fa4 := cell_keep HBs.out HC.out.2.2.2.2.2.2.2.2.1
  have fb4 := cell_keep HBs.out HC.out.2.2.2.2.2.2.2.2.2
  have l0a := HK0.out.cell (by omega) HCX0.out.1
  have l0b := HK0.out.cell (by omega) HCX0.out.2
  have l1a := HK1.out.cell (by omega) HCX1.out.1
  have l1b := HK1.out.cell (by omega) HCX1.out.2
  have l2a := HK2.out.cell (by omega) HCX2.out.1
  have l2b := HK2.out.cell (by omega) HCX2.out.2
  have l3a := HK3.out.cell (by omega) HCX3.out.1
  have l3b := HK3.out.cell (by omega) HCX3.out.2
  have l4a := HK4.out.cell (by omega) HCX4.out.1
  have l4b := HK4.out.cell (by omega) HCX4.out.2
  have HSW4 := Lib.hid (HW4.out.keep (ex_keep HB.out HBs.out))
  have HXR4 := Lib.hid (HX4.out.same HK4.out).reads
  go_wp2_with fail
  have ea := World.new_ne w61 _ fa4
  have eb := World.new_ne w61 _ l4a
  go_region_held3 (fun w' => w'.cell? ⟨w.heap.size + 1 + 1 + 1 + 1, 0, none⟩ = some (.slice A4a s4.sorts.length c4a) ∧ w'.cell? ⟨w.heap.size + 1 + 1 + 1 + 1, 1, none⟩ = some (.slice A4b s4.ops.length c4b) ∧ w'.cell? ⟨w49.heap.size, 0, none⟩ = some (.slice AX4a s4.sorts.length cX4a) ∧ w'.cell? ⟨w49.heap.size, 1, none⟩ = some (.slice AX4b s4.ops.length cX4b))
    (first | go_keep)
    (first
      | (go_at_call 13; refine (toMap_any _ s4 w61.drew HSW4.out HF4.out).mono ?_; rintro e w62 ⟨yj, rfl, hoj, hbj⟩; have HOj := Lib.hid hoj; have HBj := Lib.hid (show Below w61.heap.size w61 w62 from below_undrew hbj); have o0 := cell_keep HBj.out fa4; have o1 := cell_keep HBj.out fb4; have o2 := cell_keep HBj.out l4a; have o3 := cell_keep HBj.out l4b; clear hoj hbj)
      | (go_at_call 16; refine (eqMap_is _ _ s4 s4 _ true (sameMp_self _) (HXR4.out.keep HBj.out) HOj.out.reads).mono ?_; rintro e w63 ⟨rfl, hbk⟩; have HBk := Lib.hid (ex_keep HBj.out hbk); have q0 := cell_keep hbk o0; have q1 := cell_keep hbk o1; have q2 := cell_keep hbk o2; have q3 := cell_keep hbk o3; clear hbk))
  have hb := HBk.out
  clear fa0 fb0 fa1 fb1 fa2 fb2 fa3 fb3 fa4 fb4 l0a l0b l1a l1b l2a l2b l3a l3b l4a l4b o0 q0 o1 q1 o2 q2 o3 q3 ea eb HBj HBk HOj HSW4 HXR4
  replace HK0 := Lib.hid (HK0.out.below z0 hb)
  replace z0 : w42.heap.size ≤ w63.heap.size := Nat.le_trans z0 hb.size
  replace HK1 := Lib.hid (HK1.out.below z1 hb)
  replace z1 : w44.heap.size ≤ w63.heap.size := Nat.le_trans z1 hb.size
  replace HK2 := Lib.hid (HK2.out.below z2 hb)
  replace z2 : w46.heap.size ≤ w63.heap.size := Nat.le_trans z2 hb.size
  replace HK3 := Lib.hid (HK3.out.below z3 hb)
  replace z3 : w48.heap.size ≤ w63.heap.size := Nat.le_trans z3 hb.size
  replace HK4 := Lib.hid (HK4.out.below z4 hb)
  replace z4 : w50.heap.size ≤ w63.heap.size := Nat.le_trans z4 hb.size
  replace HKg0 := Lib.hid (HKg0.out.below zg0 hb)
  replace zg0 : w51.heap.size ≤ w63.heap.size := Nat.le_trans zg0 hb.size
  replace HKG0 := Lib.hid (HKG0.out.below zG0 hb)
  replace zG0 : w52.heap.size ≤ w63.heap.size := Nat.le_trans zG0 hb.size
  replace HBs := Lib.hid (ex_keep HBs.out hb)
  clear hb
  have l0a := HK0.out.cell (by omega) HCX0.out.1
  have l0b := HK0.out.cell (by omega) HCX0.out.2
  go_wp2_with fail
  refine (markSig_go _ _ s0 _ w42 _ HX0.out HK0.out z0 HF0.out (by omega) (by omega)).mono ?_
  rintro e w64 ⟨k0, rfl, hka0, hkb0, wa, hb, hout⟩
  have hzo := hout.size
  replace HK1 := Lib.hid ((HK1.out.below z1 hb).outside hout (by omega))
  replace z1 : w44.heap.size ≤ w64.heap.size := by have := hb.size; omega
  replace HK2 := Lib.hid ((HK2.out.below z2 hb).outside hout (by omega))
  replace z2 : w46.heap.size ≤ w64.heap.size := by have := hb.size; omega
  replace HK3 := Lib.hid ((HK3.out.below z3 hb).outside hout (by omega))
  replace z3 : w48.heap.size ≤ w64.heap.size := by have := hb.size; omega
  replace HK4 := Lib.hid ((HK4.out.below z4 hb).outside hout (by omega))
  replace z4 : w50.heap.size ≤ w64.heap.size := by have := hb.size; omega
  replace HKg0 := Lib.hid ((HKg0.out.below zg0 hb).outside hout (by omega))
  replace zg0 : w51.heap.size ≤ w64.heap.size := by have := hb.size; omega
  replace HKG0 := Lib.hid ((HKG0.out.below zG0 hb).outside hout (by omega))
  replace zG0 : w52.heap.size ≤ w64.heap.size := by have := hb.size; omega
  replace HBs := Lib.hid ((ex_keep HBs.out hb).trans (hout.below.mono (by omega)))
  clear hb hout hzo HK0 z0 HX0 l0a l0b
  have l1a := HK1.out.cell (by omega) HCX1.out.1
  have l1b := HK1.out.cell (by omega) HCX1.out.2
  go_wp2_with fail
  refine (markSig_go _ _ s1 _ w44 _ HX1.out HK1.out z1 HF1.out (by omega) (by omega)).mono ?_
  rintro e w65 ⟨k1, rfl, hka1, hkb1, wa, hb, hout⟩
  have hzo := hout.size
  replace HK2 := Lib.hid ((HK2.out.below z2 hb).outside hout (by omega))
  replace z2 : w46.heap.size ≤ w65.heap.size := by have := hb.size; omega
  replace HK3 := Lib.hid ((HK3.out.below z3 hb).outside hout (by omega))
  replace z3 : w48.heap.size ≤ w65.heap.size := by have := hb.size; omega
  replace HK4 := Lib.hid ((HK4.out.below z4 hb).outside hout (by omega))
  replace z4 : w50.heap.size ≤ w65.heap.size := by have := hb.size; omega
  replace HKg0 := Lib.hid ((HKg0.out.below zg0 hb).outside hout (by omega))
  replace zg0 : w51.heap.size ≤ w65.heap.size := by have := hb.size; omega
  replace HKG0 := Lib.hid ((HKG0.out.below zG0 hb).outside hout (by omega))
  replace zG0 : w52.heap.size ≤ w65.heap.size := by have := hb.size; omega
  replace HBs := Lib.hid ((ex_keep HBs.out hb).trans (hout.below.mono (by omega)))
  clear hb hout hzo HK1 z1 HX1 l1a l1b
  have l2a := HK2.out.cell (by omega) HCX2.out.1
  have l2b := HK2.out.cell (by omega) HCX2.out.2
  go_wp2_with fail
  refine (markSig_go _ _ s2 _ w46 _ HX2.out HK2.out z2 HF2.out (by omega) (by omega)).mono ?_
  rintro e w66 ⟨k2, rfl, hka2, hkb2, wa, hb, hout⟩
  have hzo := hout.size
  replace HK3 := Lib.hid ((HK3.out.below z3 hb).outside hout (by omega))
  replace z3 : w48.heap.size ≤ w66.heap.size := by have := hb.size; omega
  replace HK4 := Lib.hid ((HK4.out.below z4 hb).outside hout (by omega))
  replace z4 : w50.heap.size ≤ w66.heap.size := by have := hb.size; omega
  replace HKg0 := Lib.hid ((HKg0.out.below zg0 hb).outside hout (by omega))
  replace zg0 : w51.heap.size ≤ w66.heap.size := by have := hb.size; omega
  replace HKG0 := Lib.hid ((HKG0.out.below zG0 hb).outside hout (by omega))
  replace zG0 : w52.heap.size ≤ w66.heap.size := by have := hb.size; omega
  replace HBs := Lib.hid ((ex_keep HBs.out hb).trans (hout.below.mono (by omega)))
  clear hb hout hzo HK2 z2 HX2 l2a l2b
  have l3a := HK3.out.cell (by omega) HCX3.out.1
  have l3b := HK3.out.cell (by omega) HCX3.out.2
  go_wp2_with fail
  refine (markMap_go _ _ s3 _ w48 _ HX3.out HK3.out z3 HF3.out (by omega) (by omega)).mono ?_
  rintro e w67 ⟨k3, rfl, hka3, hkb3, wa, hb, hout⟩
  have hzo := hout.size
  replace HK4 := Lib.hid ((HK4.out.below z4 hb).outside hout (by omega))
  replace z4 : w50.heap.size ≤ w67.heap.size := by have := hb.size; omega
  replace HKg0 := Lib.hid ((HKg0.out.below zg0 hb).outside hout (by omega))
  replace zg0 : w51.heap.size ≤ w67.heap.size := by have := hb.size; omega
  replace HKG0 := Lib.hid ((HKG0.out.below zG0 hb).outside hout (by omega))
  replace zG0 : w52.heap.size ≤ w67.heap.size := by have := hb.size; omega
  replace HBs := Lib.hid ((ex_keep HBs.out hb).trans (hout.below.mono (by omega)))
  clear hb hout hzo HK3 z3 HX3 l3a l3b
  have l4a := HK4.out.cell (by omega) HCX4.out.1
  have l4b := HK4.out.cell (by omega) HCX4.out.2
  go_wp2_with fail
  refine (markMap_go _ _ s4 _ w50 _ HX4.out HK4.out z4 HF4.out (by omega) (by omega)).mono ?_
  rintro e w68 ⟨k4, rfl, hka4, hkb4, wa, hb, hout⟩
  have hzo := hout.size
  replace HKg0 := Lib.hid ((HKg0.out.below zg0 hb).outside hout (by omega))
  replace zg0 : w51.heap.size ≤ w68.heap.size := by have := hb.size; omega
  replace HKG0 := Lib.hid ((HKG0.out.below zG0 hb).outside hout (by omega))
  replace zG0 : w52.heap.size ≤ w68.heap.size := by have := hb.size; omega
  replace HBs := Lib.hid ((ex_keep HBs.out hb).trans (hout.below.mono (by omega)))
  clear hb hout hzo HK4 z4 HX4 l4a l4b
  have u0a := HKG0.out.cell (by omega) HCG0.out.1
  have u0b := HKG0.out.cell (by omega) HCG0.out.2
  have v0a := cell_keep HBs.out (blk_cell_at HCZ0.out (i := 0) (u := .slice Az0a R1.sorts.length cz0a) rfl)
  have v0b := cell_keep HBs.out (blk_cell_at HCZ0.out (i := 1) (u := .slice Az0b R1.ops.length cz0b) rfl)
  go_wp2_with fail
  refine (eqMap_is _ _ R1 R1 _ true (sameMp_self _) (HG0.out.same HKg0.out).reads (HZ0.out.keep HBs.out).reads).mono ?_
  rintro e w69 ⟨rfl, hb⟩
  clear u0a u0b v0a v0b
  replace HKg0 := Lib.hid (HKg0.out.below zg0 hb)
  replace zg0 : w51.heap.size ≤ w69.heap.size := Nat.le_trans zg0 hb.size
  replace HKG0 := Lib.hid (HKG0.out.below zG0 hb)
  replace zG0 : w52.heap.size ≤ w69.heap.size := Nat.le_trans zG0 hb.size
  replace HBs := Lib.hid (ex_keep HBs.out hb)
  clear hb
  have u0a := HKG0.out.cell (by omega) HCG0.out.1
  have u0b := HKG0.out.cell (by omega) HCG0.out.2
  go_wp2_with fail
  refine (markMap_g _ _ R1 w51 _ HG0.out HKg0.out zg0 HLEN.out).mono ?_
  rintro e w70 ⟨K0, rfl, hK0, hheld, wa, hb, hout⟩
  have HH0 := Lib.hid hheld
  have hzo := hout.size
  replace HKG0 := Lib.hid ((HKG0.out.below zG0 hb).outside hout (by omega))
  replace zG0 : w52.heap.size ≤ w70.heap.size := by have := hb.size; omega
  replace HBs := Lib.hid ((ex_keep HBs.out hb).trans (hout.below.mono (by omega)))
  clear hb hout hzo hheld HKg0 HG0 u0a u0b
  clear zg0
  have HKh0 : Hid (Keeps w50.heap.size w70 w70) := Keeps.refl _ _
  have zh0 : w70.heap.size ≤ w70.heap.size := Nat.le_refl _
  have ek : (K0 != K0) = false := by simp
  have u0a := HKG0.out.cell (by omega) HCG0.out.1
  have u0b := HKG0.out.cell (by omega) HCG0.out.2
  go_wp2_with fail
  refine (HH0.out _ HKh0.out).mono ?_
  rintro e w71 ⟨rfl, hb⟩
  clear u0a u0b
  replace HKG0 := Lib.hid (HKG0.out.below zG0 hb)
  replace zG0 : w52.heap.size ≤ w71.heap.size := Nat.le_trans zG0 hb.size
  replace HKh0 := Lib.hid (HKh0.out.below zh0 hb)
  replace zh0 : w70.heap.size ≤ w71.heap.size := Nat.le_trans zh0 hb.size
  replace HBs := Lib.hid (ex_keep HBs.out hb)
  clear hb
  have fa0 := cell_keep HBs.out HC.out.1
  have fb0 := cell_keep HBs.out HC.out.2.1
  have fa1 := cell_keep HBs.out HC.out.2.2.1
  have fb1 := cell_keep HBs.out HC.out.2.2.2.1
  have fa2 := cell_keep HBs.out HC.out.2.2.2.2.1
  have fb2 := cell_keep HBs.out HC.out.2.2.2.2.2.1
  have fa3 := cell_keep HBs.out HC.out.2.2.2.2.2.2.1
  have fb3 := cell_keep HBs.out HC.out.2.2.2.2.2.2.2.1
  have fa4 := cell_keep HBs.out HC.out.2.2.2.2.2.2.2.2.1
  have fb4 := cell_keep HBs.out HC.out.2.2.2.2.2.2.2.2.2
  have hbx := World.block_lt_of_cell? w71 _ fb4
  simp only at hbx
  go_wp2_with fail
  go_cut [24, 25] (fun s0 s1 wx => ∃ (bz : Nat) (Ah0a : Option Addr) (ch0a : Nat) (Ah0b : Option Addr) (ch0b : Nat), s0 = .pointer (some ⟨bz, 0, none⟩) ∧ s1 = .bool R2 ∧ w71.heap.size ≤ bz ∧ wx.heap[bz]? = some (.cells #[.slice Ah0a R1.sorts.length ch0a, .slice Ah0b R1.ops.length ch0b] 33 (0, 0)) ∧ OMap wx w71.heap.size (.agg #[.slice Ah0a R1.sorts.length ch0a, .slice Ah0b R1.ops.length ch0b]) R1 ∧ Below w71.heap.size w71 wx)
  case first =>
    as_aux_lemma =>
      refine wp_region_held_drew (S := (fun w' => w'.cell? ⟨w.heap.size, 0, none⟩ = some (.int .i64 s0.sorts) ∧ w'.cell? ⟨w.heap.size, 1, none⟩ = some (.slice A0a s0.ops.length c0a) ∧ w'.cell? ⟨w.heap.size + 1, 0, none⟩ = some (.int .i64 s1.sorts) ∧ w'.cell? ⟨w.heap.size + 1, 1, none⟩ = some (.slice A1a s1.ops.length c1a) ∧ w'.cell? ⟨w.heap.size + 1 + 1, 0, none⟩ = some (.int .i64 s2.sorts) ∧ w'.cell? ⟨w.heap.size + 1 + 1, 1, none⟩ = some (.slice A2a s2.ops.length c2a) ∧ w'.cell? ⟨w.heap.size + 1 + 1 + 1, 0, none⟩ = some (.slice A3a s3.sorts.length c3a) ∧ w'.cell? ⟨w.heap.size + 1 + 1 + 1, 1, none⟩ = some (.slice A3b s3.ops.length c3b) ∧ w'.cell? ⟨w.heap.size + 1 + 1 + 1 + 1, 0, none⟩ = some (.slice A4a s4.sorts.length c4a) ∧ w'.cell? ⟨w.heap.size + 1 + 1 + 1 + 1, 1, none⟩ = some (.slice A4b s4.ops.length c4b))) (by kernel_rfl) ?_ (fun hHeld => ?_)
      · exact ⟨fa0, fb0, fa1, fb1, fa2, fb2, fa3, fb3, fa4, fb4⟩
      refine wpAnyH_take (i := 0) (oi := _) (v := ?_) rfl (by kernel_rfl) (by kernel_rfl) (by kernel_rfl) (fun _ _ _ h => h) (Or.inl ⟨by rfl, ?_⟩) (by assumption) ?_
      rotate_left
      · first | (intro w' hSw; (try dsimp only at hSw); go_simp; done) | (intro w' hSw; (try dsimp only at hSw); go_simp; with_reducible rfl)
      try simp only [Act.put, List.getElem_toArray, List.getElem_cons_zero, List.getElem_cons_succ, List.setIfInBounds_toArray, List.set_cons_zero, List.set_cons_succ]
      refine wpAnyH_take (i := 2) (oi := _) (v := ?_) rfl (by kernel_rfl) (by kernel_rfl) (by kernel_rfl) (fun _ _ _ h => h) (Or.inl ⟨by rfl, ?_⟩) (by assumption) ?_
      rotate_left
      · first | (intro w' hSw; (try dsimp only at hSw); go_simp; done) | (intro w' hSw; (try dsimp only at hSw); go_simp; with_reducible rfl)
      try simp only [Act.put, List.getElem_toArray, List.getElem_cons_zero, List.getElem_cons_succ, List.setIfInBounds_toArray, List.set_cons_zero, List.set_cons_succ]
      refine wpAnyH_take (i := 4) (oi := _) (v := ?_) rfl (by kernel_rfl) (by kernel_rfl) (by kernel_rfl) (fun _ _ _ h => h) (Or.inl ⟨by rfl, ?_⟩) (by assumption) ?_
      rotate_left
      · first | (intro w' hSw; (try dsimp only at hSw); go_simp; done) | (intro w' hSw; (try dsimp only at hSw); go_simp; with_reducible rfl)
      try simp only [Act.put, List.getElem_toArray, List.getElem_cons_zero, List.getElem_cons_succ, List.setIfInBounds_toArray, List.set_cons_zero, List.set_cons_succ]
      refine wpAnyH_take (i := 6) (oi := _) (v := ?_) rfl (by kernel_rfl) (by kernel_rfl) (by kernel_rfl) (fun _ _ _ h => h) (Or.inl ⟨by rfl, ?_⟩) (by assumption) ?_
      rotate_left
      · first | (intro w' hSw; (try dsimp only at hSw); go_simp; done) | (intro w' hSw; (try dsimp only at hSw); go_simp; with_reducible rfl)
      try simp only [Act.put, List.getElem_toArray, List.getElem_cons_zero, List.getElem_cons_succ, List.setIfInBounds_toArray, List.set_cons_zero, List.set_cons_succ]
      refine wpAnyH_take (i := 8) (oi := _) (v := ?_) rfl (by kernel_rfl) (by kernel_rfl) (by kernel_rfl) (fun _ _ _ h => h) (Or.inl ⟨by rfl, ?_⟩) (by assumption) ?_
      rotate_left
      · first | (intro w' hSw; (try dsimp only at hSw); go_simp; done) | (intro w' hSw; (try dsimp only at hSw); go_simp; with_reducible rfl)
      try simp only [Act.put, List.getElem_toArray, List.getElem_cons_zero, List.getElem_cons_succ, List.setIfInBounds_toArray, List.set_cons_zero, List.set_cons_succ]
      refine wpAnyH_ready (rs := [1, 14]) (by kernel_rfl) (by simp) ?_
      refine AllReadyH.cons (o := _) rfl (fun K hK => ?_) (AllReadyH.cons (o := _) rfl (fun K hK => ?_) AllReadyH.nil)
      · skip
        go_simp
        refine (toSig_any _ s0 _ (HW0.out.keep (ex_drew (ex_keep HB.out HBs.out))) HF0.out).mono ?_
        rintro e w73 ⟨y0, rfl, ho, hb⟩
        replace hb := ex_undrew hb
        replace fa0 := cell_keep hb fa0
        replace fb0 := cell_keep hb fb0
        replace fa1 := cell_keep hb fa1
        replace fb1 := cell_keep hb fb1
        replace fa2 := cell_keep hb fa2
        replace fb2 := cell_keep hb fb2
        replace fa3 := cell_keep hb fa3
        replace fb3 := cell_keep hb fb3
        replace fa4 := cell_keep hb fa4
        replace fb4 := cell_keep hb fb4
        have HP := Lib.hid hb
        have PP0 := Lib.hid ho.reads
        obtain ⟨AY0a, cY0a, rfl⟩ := ho.reads.form
        clear ho hb
        go_wp2_with fail
        refine hK.out _ _ ?_ (fun hHeld => ?_)
        · exact ⟨fa0, fb0, fa1, fb1, fa2, fb2, fa3, fb3, fa4, fb4⟩
        clear hK K
        try simp only [Act.put, List.getElem_toArray, List.getElem_cons_zero, List.getElem_cons_succ, List.setIfInBounds_toArray, List.set_cons_zero, List.set_cons_succ]
        refine wpAnyH_ready (rs := [3, 14]) (by kernel_rfl) (by simp) ?_
        refine AllReadyH.cons (o := _) rfl (fun K hK => ?_) (AllReadyH.cons (o := _) rfl (fun K hK => ?_) AllReadyH.nil)
        · skip
          go_simp
          refine (toSig_any _ s1 _ (HW1.out.keep (ex_keep (ex_keep HB.out HBs.out) HP.out)) HF1.out).mono ?_
          rintro e w74 ⟨y1, rfl, ho, hb⟩
          replace fa0 := cell_keep hb fa0
          replace fb0 := cell_keep hb fb0
          replace fa1 := cell_keep hb fa1
          replace fb1 := cell_keep hb fb1
          replace fa2 := cell_keep hb fa2
          replace fb2 := cell_keep hb fb2
          replace fa3 := cell_keep hb fa3
          replace fb3 := cell_keep hb fb3
          replace fa4 := cell_keep hb fa4
          replace fb4 := cell_keep hb fb4
          replace PP0 := Lib.hid (PP0.out.keep hb)
          replace HP := Lib.hid (ex_keep HP.out hb)
          have PP1 := Lib.hid ho.reads
          obtain ⟨AY1a, cY1a, rfl⟩ := ho.reads.form
          clear ho hb
          go_wp2_with fail
          refine hK.out _ _ ?_ (fun hHeld => ?_)
          · exact ⟨fa0, fb0, fa1, fb1, fa2, fb2, fa3, fb3, fa4, fb4⟩
          clear hK K
          try simp only [Act.put, List.getElem_toArray, List.getElem_cons_zero, List.getElem_cons_succ, List.setIfInBounds_toArray, List.set_cons_zero, List.set_cons_succ]
          refine wpAnyH_ready (rs := [5, 14]) (by kernel_rfl) (by simp) ?_
          refine AllReadyH.cons (o := _) rfl (fun K hK => ?_) (AllReadyH.cons (o := _) rfl (fun K hK => ?_) AllReadyH.nil)
          · skip
            go_simp
            refine (toSig_any _ s2 _ (HW2.out.keep (ex_keep (ex_keep HB.out HBs.out) HP.out)) HF2.out).mono ?_
            rintro e w75 ⟨y2, rfl, ho, hb⟩
            replace fa0 := cell_keep hb fa0
            replace fb0 := cell_keep hb fb0
            replace fa1 := cell_keep hb fa1
            replace fb1 := cell_keep hb fb1
            replace fa2 := cell_keep hb fa2
            replace fb2 := cell_keep hb fb2
            replace fa3 := cell_keep hb fa3
            replace fb3 := cell_keep hb fb3
            replace fa4 := cell_keep hb fa4
            replace fb4 := cell_keep hb fb4
            replace PP0 := Lib.hid (PP0.out.keep hb)
            replace PP1 := Lib.hid (PP1.out.keep hb)
            replace HP := Lib.hid (ex_keep HP.out hb)
            have PP2 := Lib.hid ho.reads
            obtain ⟨AY2a, cY2a, rfl⟩ := ho.reads.form
            clear ho hb
            go_wp2_with fail
            refine hK.out _ _ ?_ (fun hHeld => ?_)
            · exact ⟨fa0, fb0, fa1, fb1, fa2, fb2, fa3, fb3, fa4, fb4⟩
            clear hK K
            try simp only [Act.put, List.getElem_toArray, List.getElem_cons_zero, List.getElem_cons_succ, List.setIfInBounds_toArray, List.set_cons_zero, List.set_cons_succ]
            refine wpAnyH_ready (rs := [7, 14]) (by kernel_rfl) (by simp) ?_
            refine AllReadyH.cons (o := _) rfl (fun K hK => ?_) (AllReadyH.cons (o := _) rfl (fun K hK => ?_) AllReadyH.nil)
            · skip
              go_simp
              refine (toMap_any _ s3 _ (HW3.out.keep (ex_keep (ex_keep HB.out HBs.out) HP.out)) HF3.out).mono ?_
              rintro e w76 ⟨y3, rfl, ho, hb⟩
              replace fa0 := cell_keep hb fa0
              replace fb0 := cell_keep hb fb0
              replace fa1 := cell_keep hb fa1
              replace fb1 := cell_keep hb fb1
              replace fa2 := cell_keep hb fa2
              replace fb2 := cell_keep hb fb2
              replace fa3 := cell_keep hb fa3
              replace fb3 := cell_keep hb fb3
              replace fa4 := cell_keep hb fa4
              replace fb4 := cell_keep hb fb4
              replace PP0 := Lib.hid (PP0.out.keep hb)
              replace PP1 := Lib.hid (PP1.out.keep hb)
              replace PP2 := Lib.hid (PP2.out.keep hb)
              replace HP := Lib.hid (ex_keep HP.out hb)
              have PP3 := Lib.hid ho.reads
              obtain ⟨AY3a, cY3a, AY3b, cY3b, rfl⟩ := ho.reads.form
              clear ho hb
              go_wp2_with fail
              refine hK.out _ _ ?_ (fun hHeld => ?_)
              · exact ⟨fa0, fb0, fa1, fb1, fa2, fb2, fa3, fb3, fa4, fb4⟩
              clear hK K
              try simp only [Act.put, List.getElem_toArray, List.getElem_cons_zero, List.getElem_cons_succ, List.setIfInBounds_toArray, List.set_cons_zero, List.set_cons_succ]
              refine wpAnyH_ready (rs := [9, 14]) (by kernel_rfl) (by simp) ?_
              refine AllReadyH.cons (o := _) rfl (fun K hK => ?_) (AllReadyH.cons (o := _) rfl (fun K hK => ?_) AllReadyH.nil)
              · skip
                go_simp
                refine (toMap_any _ s4 _ (HW4.out.keep (ex_keep (ex_keep HB.out HBs.out) HP.out)) HF4.out).mono ?_
                rintro e w77 ⟨y4, rfl, ho, hb⟩
                replace fa0 := cell_keep hb fa0
                replace fb0 := cell_keep hb fb0
                replace fa1 := cell_keep hb fa1
                replace fb1 := cell_keep hb fb1
                replace fa2 := cell_keep hb fa2
                replace fb2 := cell_keep hb fb2
                replace fa3 := cell_keep hb fa3
                replace fb3 := cell_keep hb fb3
                replace fa4 := cell_keep hb fa4
                replace fb4 := cell_keep hb fb4
                replace PP0 := Lib.hid (PP0.out.keep hb)
                replace PP1 := Lib.hid (PP1.out.keep hb)
                replace PP2 := Lib.hid (PP2.out.keep hb)
                replace PP3 := Lib.hid (PP3.out.keep hb)
                replace HP := Lib.hid (ex_keep HP.out hb)
                have PP4 := Lib.hid ho.reads
                obtain ⟨AY4a, cY4a, AY4b, cY4b, rfl⟩ := ho.reads.form
                clear ho hb
                go_wp2_with fail
                refine hK.out _ _ ?_ (fun hHeld => ?_)
                · exact ⟨fa0, fb0, fa1, fb1, fa2, fb2, fa3, fb3, fa4, fb4⟩
                clear hK K
                try simp only [Act.put, List.getElem_toArray, List.getElem_cons_zero, List.getElem_cons_succ, List.setIfInBounds_toArray, List.set_cons_zero, List.set_cons_succ]
                refine wpAnyH_ready (rs := [10, 14]) (by kernel_rfl) (by simp) ?_
                refine AllReadyH.cons (o := _) rfl (fun K hK => ?_) (AllReadyH.cons (o := _) rfl (fun K hK => ?_) AllReadyH.nil)
                · skip
                  go_simp
                  have hs1 := HP.out.size
                  refine (mapThen_any s0 s1 s2 s3 s4 _ _ _ _ _ _ PP0.out PP1.out PP2.out PP3.out PP4.out).mono ?_
                  rw [HR.out]
                  rintro e w78 ⟨h0, rfl, ho0, hb⟩
                  obtain ⟨Ah0a, ch0a, Ah0b, ch0b, rfl⟩ := ho0.reads.form
                  have HO := Lib.hid ho0
                  have hs2 := hb.size
                  replace fa0 := cell_keep hb fa0
                  replace fb0 := cell_keep hb fb0
                  replace fa1 := cell_keep hb fa1
                  replace fb1 := cell_keep hb fb1
                  replace fa2 := cell_keep hb fa2
                  replace fb2 := cell_keep hb fb2
                  replace fa3 := cell_keep hb fa3
                  replace fb3 := cell_keep hb fb3
                  replace fa4 := cell_keep hb fa4
                  replace fb4 := cell_keep hb fb4
                  replace HP := Lib.hid (ex_keep HP.out hb)
                  clear ho0 hb PP0 PP1 PP2 PP3 PP4
                  go_wp2_with fail
                  refine hK.out _ _ ?_ (fun hHeld => ?_)
                  · exact ⟨fa0, fb0, fa1, fb1, fa2, fb2, fa3, fb3, fa4, fb4⟩
                  clear hK K
                  try simp only [Act.put, List.getElem_toArray, List.getElem_cons_zero, List.getElem_cons_succ, List.setIfInBounds_toArray, List.set_cons_zero, List.set_cons_succ]
                  refine wpAnyH_take (i := 11) (oi := _) (v := ?_) rfl (by kernel_rfl) (by kernel_rfl) (by kernel_rfl) (fun _ _ _ h => h) (Or.inl ⟨by rfl, ?_⟩) (by assumption) ?_
                  rotate_left
                  · first | (intro w' hSw; (try dsimp only at hSw); go_simp; done) | (intro w' hSw; (try dsimp only at hSw); go_simp; with_reducible rfl)
                  try simp only [Act.put, List.getElem_toArray, List.getElem_cons_zero, List.getElem_cons_succ, List.setIfInBounds_toArray, List.set_cons_zero, List.set_cons_succ]
                  refine wpAnyH_take (i := 12) (oi := _) (v := ?_) rfl (by kernel_rfl) (by kernel_rfl) (by kernel_rfl) (fun _ _ _ h => h) (Or.inl ⟨by rfl, ?_⟩) (by assumption) ?_
                  rotate_left
                  · first | (intro w' hSw; (try dsimp only at hSw); go_simp; done) | (intro w' hSw; (try dsimp only at hSw); go_simp; with_reducible rfl)
                  try simp only [Act.put, List.getElem_toArray, List.getElem_cons_zero, List.getElem_cons_succ, List.setIfInBounds_toArray, List.set_cons_zero, List.set_cons_succ]
                  refine wpAnyH_take (i := 13) (oi := _) (v := ?_) rfl (by kernel_rfl) (by kernel_rfl) (by kernel_rfl) (fun _ _ _ h => h) (Or.inl ⟨by rfl, ?_⟩) (by assumption) ?_
                  rotate_left
                  · first | (intro w' hSw; (try dsimp only at hSw); go_simp; done) | (intro w' hSw; (try dsimp only at hSw); go_simp; with_reducible rfl)
                  try simp only [Act.put, List.getElem_toArray, List.getElem_cons_zero, List.getElem_cons_succ, List.setIfInBounds_toArray, List.set_cons_zero, List.set_cons_succ]
                  refine wpAnyH_ready (rs := [14]) (by kernel_rfl) (by simp) ?_
                  refine AllReadyH.cons (o := _) rfl (fun K hK => ?_) AllReadyH.nil
                  have hzl := HP.out.size
                  go_simp
                  have hb := below_alloc w78 (.cells #[.slice none 0 0, .slice none 0 0] 33)
                  have hz := heap_alloc_new w78 (.cells #[.slice none 0 0, .slice none 0 0] 33)
                  generalize hWA : w78.alloc (.cells #[.slice none 0 0, .slice none 0 0] 33) = w79 at hb hz ⊢
                  clear hWA
                  have HZb := Lib.hid (show w79.heap[w78.heap.size]? = some (.cells #[.slice none 0 0, .slice none 0 0] 33 (0, 0)) from hz)
                  have HLATE := Lib.hid hb.block
                  replace fa0 := cell_keep hb fa0
                  replace fb0 := cell_keep hb fb0
                  replace fa1 := cell_keep hb fa1
                  replace fb1 := cell_keep hb fb1
                  replace fa2 := cell_keep hb fa2
                  replace fb2 := cell_keep hb fb2
                  replace fa3 := cell_keep hb fa3
                  replace fb3 := cell_keep hb fb3
                  replace fa4 := cell_keep hb fa4
                  replace fb4 := cell_keep hb fb4
                  replace HP := Lib.hid (ex_keep HP.out hb)
                  have j0 := blk_cell HZb.out 0
                  have jf0 := blk_free HZb.out 0
                  have j1 := blk_cell HZb.out 1
                  have jf1 := blk_free HZb.out 1
                  simp at j0 j1
                  clear hb hz
                  go_wp2_with fail
                  refine hK.out _ _ ?_ (fun hHeld => ?_)
                  · exact ⟨fa0, fb0, fa1, fb1, fa2, fb2, fa3, fb3, fa4, fb4⟩
                  clear hK K
                  try simp only [Act.put, List.getElem_toArray, List.getElem_cons_zero, List.getElem_cons_succ, List.setIfInBounds_toArray, List.set_cons_zero, List.set_cons_succ]
                  refine wpAnyH_ready (rs := [15]) (by kernel_rfl) (by simp) ?_
                  refine AllReadyH.cons (o := _) rfl (fun K hK => ?_) AllReadyH.nil
                  go_simp
                  go_wp2_with fail
                  refine hK.out _ _ ?_ (fun hHeld => ?_)
                  · exact ⟨(set_far (by omega) _ _ _).trans ((set_far (by omega) _ _ _).trans (fa0)), (set_far (by omega) _ _ _).trans ((set_far (by omega) _ _ _).trans (fb0)), (set_far (by omega) _ _ _).trans ((set_far (by omega) _ _ _).trans (fa1)), (set_far (by omega) _ _ _).trans ((set_far (by omega) _ _ _).trans (fb1)), (set_far (by omega) _ _ _).trans ((set_far (by omega) _ _ _).trans (fa2)), (set_far (by omega) _ _ _).trans ((set_far (by omega) _ _ _).trans (fb2)), (set_far (by omega) _ _ _).trans ((set_far (by omega) _ _ _).trans (fa3)), (set_far (by omega) _ _ _).trans ((set_far (by omega) _ _ _).trans (fb3)), (set_far (by omega) _ _ _).trans ((set_far (by omega) _ _ _).trans (fa4)), (set_far (by omega) _ _ _).trans ((set_far (by omega) _ _ _).trans (fb4))⟩
                  clear hK K
                  try simp only [Act.put, List.getElem_toArray, List.getElem_cons_zero, List.getElem_cons_succ, List.setIfInBounds_toArray, List.set_cons_zero, List.set_cons_succ]
                  refine wpAnyH_take (i := 16) (oi := _) (v := ?_) rfl (by kernel_rfl) (by kernel_rfl) (by kernel_rfl) (fun _ _ _ h => h) (Or.inl ⟨by rfl, ?_⟩) (by assumption) ?_
                  rotate_left
                  · first | (intro w' hSw; (try dsimp only at hSw); go_simp; done) | (intro w' hSw; (try dsimp only at hSw); go_simp; with_reducible rfl)
                  try simp only [Act.put, List.getElem_toArray, List.getElem_cons_zero, List.getElem_cons_succ, List.setIfInBounds_toArray, List.set_cons_zero, List.set_cons_succ]
                  refine wpAnyH_done (by kernel_rfl) ?_ _
                  go_wp2_with fail
                  go_meet
                  exact ⟨_, _, _, _, _, rfl, rfl, hzl, (blk_set (blk_set HZb.out 0 (.slice Ah0a R1.sorts.length ch0a)) 1 (.slice Ah0b R1.ops.length ch0b)), (HO.out.same (fun k q1 q2 => ((set_blk (by omega) _ _).trans (set_blk (by omega) _ _)).trans (HLATE.out k q2))).base (by omega), ((HP.out.setCell (p := ⟨w78.heap.size, 0, none⟩) hzl (.slice Ah0a R1.sorts.length ch0a)).setCell (p := ⟨w78.heap.size, 1, none⟩) hzl (.slice Ah0b R1.ops.length ch0b))⟩
                · skip
                  go_simp
                  have hb := below_alloc w77 (.cells #[.slice none 0 0, .slice none 0 0] 33)
                  have hz := heap_alloc_new w77 (.cells #[.slice none 0 0, .slice none 0 0] 33)
                  generalize hWA : w77.alloc (.cells #[.slice none 0 0, .slice none 0 0] 33) = w80 at hb hz ⊢
                  clear hWA
                  have HZb := Lib.hid (show w80.heap[w77.heap.size]? = some (.cells #[.slice none 0 0, .slice none 0 0] 33 (0, 0)) from hz)
                  have hzl : w71.heap.size ≤ w77.heap.size := HP.out.size
                  replace fa0 := cell_keep hb fa0
                  replace fb0 := cell_keep hb fb0
                  replace fa1 := cell_keep hb fa1
                  replace fb1 := cell_keep hb fb1
                  replace fa2 := cell_keep hb fa2
                  replace fb2 := cell_keep hb fb2
                  replace fa3 := cell_keep hb fa3
                  replace fb3 := cell_keep hb fb3
                  replace fa4 := cell_keep hb fa4
                  replace fb4 := cell_keep hb fb4
                  replace PP0 := Lib.hid (PP0.out.keep hb)
                  replace PP1 := Lib.hid (PP1.out.keep hb)
                  replace PP2 := Lib.hid (PP2.out.keep hb)
                  replace PP3 := Lib.hid (PP3.out.keep hb)
                  replace PP4 := Lib.hid (PP4.out.keep hb)
                  replace HP := Lib.hid (ex_keep HP.out hb)
                  clear hb hz
                  go_wp2_with fail
                  refine hK.out _ _ ?_ (fun hHeld => ?_)
                  · exact ⟨fa0, fb0, fa1, fb1, fa2, fb2, fa3, fb3, fa4, fb4⟩
                  clear hK K
                  try simp only [Act.put, List.getElem_toArray, List.getElem_cons_zero, List.getElem_cons_succ, List.setIfInBounds_toArray, List.set_cons_zero, List.set_cons_succ]
                  refine wpAnyH_ready (rs := [10]) (by kernel_rfl) (by simp) ?_
                  refine AllReadyH.cons (o := _) rfl (fun K hK => ?_) AllReadyH.nil
                  go_simp
                  have hs1 := HP.out.size
                  have hbl := (Array.getElem?_eq_some_iff.1 HZb.out).1
                  refine (mapThen_any s0 s1 s2 s3 s4 _ _ _ _ _ _ PP0.out PP1.out PP2.out PP3.out PP4.out).mono ?_
                  rw [HR.out]
                  rintro e w81 ⟨h0, rfl, ho0, hb⟩
                  obtain ⟨Ah0a, ch0a, Ah0b, ch0b, rfl⟩ := ho0.reads.form
                  have HO := Lib.hid ho0
                  have hs2 := hb.size
                  replace fa0 := cell_keep hb fa0
                  replace fb0 := cell_keep hb fb0
                  replace fa1 := cell_keep hb fa1
                  replace fb1 := cell_keep hb fb1
                  replace fa2 := cell_keep hb fa2
                  replace fb2 := cell_keep hb fb2
                  replace fa3 := cell_keep hb fa3
                  replace fb3 := cell_keep hb fb3
                  replace fa4 := cell_keep hb fa4
                  replace fb4 := cell_keep hb fb4
                  replace HP := Lib.hid (ex_keep HP.out hb)
                  replace HZb := Lib.hid (blk_at HZb.out hb)
                  have j0 := blk_cell HZb.out 0
                  have jf0 := blk_free HZb.out 0
                  have j1 := blk_cell HZb.out 1
                  have jf1 := blk_free HZb.out 1
                  simp at j0 j1
                  clear ho0 hb PP0 PP1 PP2 PP3 PP4
                  go_wp2_with fail
                  refine hK.out _ _ ?_ (fun hHeld => ?_)
                  · exact ⟨fa0, fb0, fa1, fb1, fa2, fb2, fa3, fb3, fa4, fb4⟩
                  clear hK K
                  try simp only [Act.put, List.getElem_toArray, List.getElem_cons_zero, List.getElem_cons_succ, List.setIfInBounds_toArray, List.set_cons_zero, List.set_cons_succ]
                  refine wpAnyH_take (i := 11) (oi := _) (v := ?_) rfl (by kernel_rfl) (by kernel_rfl) (by kernel_rfl) (fun _ _ _ h => h) (Or.inl ⟨by rfl, ?_⟩) (by assumption) ?_
                  rotate_left
                  · first | (intro w' hSw; (try dsimp only at hSw); go_simp; done) | (intro w' hSw; (try dsimp only at hSw); go_simp; with_reducible rfl)
                  try simp only [Act.put, List.getElem_toArray, List.getElem_cons_zero, List.getElem_cons_succ, List.setIfInBounds_toArray, List.set_cons_zero, List.set_cons_succ]
                  refine wpAnyH_take (i := 12) (oi := _) (v := ?_) rfl (by kernel_rfl) (by kernel_rfl) (by kernel_rfl) (fun _ _ _ h => h) (Or.inl ⟨by rfl, ?_⟩) (by assumption) ?_
                  rotate_left
                  · first | (intro w' hSw; (try dsimp only at hSw); go_simp; done) | (intro w' hSw; (try dsimp only at hSw); go_simp; with_reducible rfl)
                  try simp only [Act.put, List.getElem_toArray, List.getElem_cons_zero, List.getElem_cons_succ, List.setIfInBounds_toArray, List.set_cons_zero, List.set_cons_succ]
                  refine wpAnyH_take (i := 13) (oi := _) (v := ?_) rfl (by kernel_rfl) (by kernel_rfl) (by kernel_rfl) (fun _ _ _ h => h) (Or.inl ⟨by rfl, ?_⟩) (by assumption) ?_
                  rotate_left
                  · first | (intro w' hSw; (try dsimp only at hSw); go_simp; done) | (intro w' hSw; (try dsimp only at hSw); go_simp; with_reducible rfl)
                  try simp only [Act.put, List.getElem_toArray, List.getElem_cons_zero, List.getElem_cons_succ, List.setIfInBounds_toArray, List.set_cons_zero, List.set_cons_succ]
                  refine wpAnyH_ready (rs := [15]) (by kernel_rfl) (by simp) ?_
                  refine AllReadyH.cons (o := _) rfl (fun K hK => ?_) AllReadyH.nil
                  go_simp
                  go_wp2_with fail
                  refine hK.out _ _ ?_ (fun hHeld => ?_)
                  · exact ⟨(set_far (by omega) _ _ _).trans ((set_far (by omega) _ _ _).trans (fa0)), (set_far (by omega) _ _ _).trans ((set_far (by omega) _ _ _).trans (fb0)), (set_far (by omega) _ _ _).trans ((set_far (by omega) _ _ _).trans (fa1)), (set_far (by omega) _ _ _).trans ((set_far (by omega) _ _ _).trans (fb1)), (set_far (by omega) _ _ _).trans ((set_far (by omega) _ _ _).trans (fa2)), (set_far (by omega) _ _ _).trans ((set_far (by omega) _ _ _).trans (fb2)), (set_far (by omega) _ _ _).trans ((set_far (by omega) _ _ _).trans (fa3)), (set_far (by omega) _ _ _).trans ((set_far (by omega) _ _ _).trans (fb3)), (set_far (by omega) _ _ _).trans ((set_far (by omega) _ _ _).trans (fa4)), (set_far (by omega) _ _ _).trans ((set_far (by omega) _ _ _).trans (fb4))⟩
                  clear hK K
                  try simp only [Act.put, List.getElem_toArray, List.getElem_cons_zero, List.getElem_cons_succ, List.setIfInBounds_toArray, List.set_cons_zero, List.set_cons_succ]
                  refine wpAnyH_take (i := 16) (oi := _) (v := ?_) rfl (by kernel_rfl) (by kernel_rfl) (by kernel_rfl) (fun _ _ _ h => h) (Or.inl ⟨by rfl, ?_⟩) (by assumption) ?_
                  rotate_left
                  · first | (intro w' hSw; (try dsimp only at hSw); go_simp; done) | (intro w' hSw; (try dsimp only at hSw); go_simp; with_reducible rfl)
                  try simp only [Act.put, List.getElem_toArray, List.getElem_cons_zero, List.getElem_cons_succ, List.setIfInBounds_toArray, List.set_cons_zero, List.set_cons_succ]
                  refine wpAnyH_done (by kernel_rfl) ?_ _
                  go_wp2_with fail
                  go_meet
                  exact ⟨_, _, _, _, _, rfl, rfl, hzl, (blk_set (blk_set HZb.out 0 (.slice Ah0a R1.sorts.length ch0a)) 1 (.slice Ah0b R1.ops.length ch0b)), (HO.out.same (fun k q1 q2 => ((set_blk (by omega) _ _).trans (set_blk (by omega) _ _)))).base (by omega), ((HP.out.setCell (p := ⟨w77.heap.size, 0, none⟩) hzl (.slice Ah0a R1.sorts.length ch0a)).setCell (p := ⟨w77.heap.size, 1, none⟩) hzl (.slice Ah0b R1.ops.length ch0b))⟩
              · skip
                go_simp
                have hb := below_alloc w76 (.cells #[.slice none 0 0, .slice none 0 0] 33)
                have hz := heap_alloc_new w76 (.cells #[.slice none 0 0, .slice none 0 0] 33)
                generalize hWA : w76.alloc (.cells #[.slice none 0 0, .slice none 0 0] 33) = w82 at hb hz ⊢
                clear hWA
                have HZb := Lib.hid (show w82.heap[w76.heap.size]? = some (.cells #[.slice none 0 0, .slice none 0 0] 33 (0, 0)) from hz)
                have hzl : w71.heap.size ≤ w76.heap.size := HP.out.size
                replace fa0 := cell_keep hb fa0
                replace fb0 := cell_keep hb fb0
                replace fa1 := cell_keep hb fa1
                replace fb1 := cell_keep hb fb1
                replace fa2 := cell_keep hb fa2
                replace fb2 := cell_keep hb fb2
                replace fa3 := cell_keep hb fa3
                replace fb3 := cell_keep hb fb3
                replace fa4 := cell_keep hb fa4
                replace fb4 := cell_keep hb fb4
                replace PP0 := Lib.hid (PP0.out.keep hb)
                replace PP1 := Lib.hid (PP1.out.keep hb)
                replace PP2 := Lib.hid (PP2.out.keep hb)
                replace PP3 := Lib.hid (PP3.out.keep hb)
                replace HP := Lib.hid (ex_keep HP.out hb)
                clear hb hz
                go_wp2_with fail
                refine hK.out _ _ ?_ (fun hHeld => ?_)
                · exact ⟨fa0, fb0, fa1, fb1, fa2, fb2, fa3, fb3, fa4, fb4⟩
                clear hK K
                try simp only [Act.put, List.getElem_toArray, List.getElem_cons_zero, List.getElem_cons_succ, List.setIfInBounds_toArray, List.set_cons_zero, List.set_cons_succ]
                refine wpAnyH_ready (rs := [9]) (by kernel_rfl) (by simp) ?_
                refine AllReadyH.cons (o := _) rfl (fun K hK => ?_) AllReadyH.nil
                go_simp
                refine (toMap_any _ s4 _ (HW4.out.keep (ex_keep (ex_keep HB.out HBs.out) HP.out)) HF4.out).mono ?_
                rintro e w83 ⟨y4, rfl, ho, hb⟩
                replace fa0 := cell_keep hb fa0
                replace fb0 := cell_keep hb fb0
                replace fa1 := cell_keep hb fa1
                replace fb1 := cell_keep hb fb1
                replace fa2 := cell_keep hb fa2
                replace fb2 := cell_keep hb fb2
                replace fa3 := cell_keep hb fa3
                replace fb3 := cell_keep hb fb3
                replace fa4 := cell_keep hb fa4
                replace fb4 := cell_keep hb fb4
                replace PP0 := Lib.hid (PP0.out.keep hb)
                replace PP1 := Lib.hid (PP1.out.keep hb)
                replace PP2 := Lib.hid (PP2.out.keep hb)
                replace PP3 := Lib.hid (PP3.out.keep hb)
                replace HP := Lib.hid (ex_keep HP.out hb)
                replace HZb := Lib.hid (blk_at HZb.out hb)
                have PP4 := Lib.hid ho.reads
                obtain ⟨AY4a, cY4a, AY4b, cY4b, rfl⟩ := ho.reads.form
                clear ho hb
                go_wp2_with fail
                refine hK.out _ _ ?_ (fun hHeld => ?_)
                · exact ⟨fa0, fb0, fa1, fb1, fa2, fb2, fa3, fb3, fa4, fb4⟩
                clear hK K
                try simp only [Act.put, List.getElem_toArray, List.getElem_cons_zero, List.getElem_cons_succ, List.setIfInBounds_toArray, List.set_cons_zero, List.set_cons_succ]
                refine wpAnyH_ready (rs := [10]) (by kernel_rfl) (by simp) ?_
                refine AllReadyH.cons (o := _) rfl (fun K hK => ?_) AllReadyH.nil
                go_simp
                have hs1 := HP.out.size
                have hbl := (Array.getElem?_eq_some_iff.1 HZb.out).1
                refine (mapThen_any s0 s1 s2 s3 s4 _ _ _ _ _ _ PP0.out PP1.out PP2.out PP3.out PP4.out).mono ?_
                rw [HR.out]
                rintro e w84 ⟨h0, rfl, ho0, hb⟩
                obtain ⟨Ah0a, ch0a, Ah0b, ch0b, rfl⟩ := ho0.reads.form
                have HO := Lib.hid ho0
                have hs2 := hb.size
                replace fa0 := cell_keep hb fa0
                replace fb0 := cell_keep hb fb0
                replace fa1 := cell_keep hb fa1
                replace fb1 := cell_keep hb fb1
                replace fa2 := cell_keep hb fa2
                replace fb2 := cell_keep hb fb2
                replace fa3 := cell_keep hb fa3
                replace fb3 := cell_keep hb fb3
                replace fa4 := cell_keep hb fa4
                replace fb4 := cell_keep hb fb4
                replace HP := Lib.hid (ex_keep HP.out hb)
                replace HZb := Lib.hid (blk_at HZb.out hb)
                have j0 := blk_cell HZb.out 0
                have jf0 := blk_free HZb.out 0
                have j1 := blk_cell HZb.out 1
                have jf1 := blk_free HZb.out 1
                simp at j0 j1
                clear ho0 hb PP0 PP1 PP2 PP3 PP4
                go_wp2_with fail
                refine hK.out _ _ ?_ (fun hHeld => ?_)
                · exact ⟨fa0, fb0, fa1, fb1, fa2, fb2, fa3, fb3, fa4, fb4⟩
                clear hK K
                try simp only [Act.put, List.getElem_toArray, List.getElem_cons_zero, List.getElem_cons_succ, List.setIfInBounds_toArray, List.set_cons_zero, List.set_cons_succ]
                refine wpAnyH_take (i := 11) (oi := _) (v := ?_) rfl (by kernel_rfl) (by kernel_rfl) (by kernel_rfl) (fun _ _ _ h => h) (Or.inl ⟨by rfl, ?_⟩) (by assumption) ?_
                rotate_left
                · first | (intro w' hSw; (try dsimp only at hSw); go_simp; done) | (intro w' hSw; (try dsimp only at hSw); go_simp; with_reducible rfl)
                try simp only [Act.put, List.getElem_toArray, List.getElem_cons_zero, List.getElem_cons_succ, List.setIfInBounds_toArray, List.set_cons_zero, List.set_cons_succ]
                refine wpAnyH_take (i := 12) (oi := _) (v := ?_) rfl (by kernel_rfl) (by kernel_rfl) (by kernel_rfl) (fun _ _ _ h => h) (Or.inl ⟨by rfl, ?_⟩) (by assumption) ?_
                rotate_left
                · first | (intro w' hSw; (try dsimp only at hSw); go_simp; done) | (intro w' hSw; (try dsimp only at hSw); go_simp; with_reducible rfl)
                try simp only [Act.put, List.getElem_toArray, List.getElem_cons_zero, List.getElem_cons_succ, List.setIfInBounds_toArray, List.set_cons_zero, List.set_cons_succ]
                refine wpAnyH_take (i := 13) (oi := _) (v := ?_) rfl (by kernel_rfl) (by kernel_rfl) (by kernel_rfl) (fun _ _ _ h => h) (Or.inl ⟨by rfl, ?_⟩) (by assumption) ?_
                rotate_left
                · first | (intro w' hSw; (try dsimp only at hSw); go_simp; done) | (intro w' hSw; (try dsimp only at hSw); go_simp; with_reducible rfl)
                try simp only [Act.put, List.getElem_toArray, List.getElem_cons_zero, List.getElem_cons_succ, List.setIfInBounds_toArray, List.set_cons_zero, List.set_cons_succ]
                refine wpAnyH_ready (rs := [15]) (by kernel_rfl) (by simp) ?_
                refine AllReadyH.cons (o := _) rfl (fun K hK => ?_) AllReadyH.nil
                go_simp
                go_wp2_with fail
                refine hK.out _ _ ?_ (fun hHeld => ?_)
                · exact ⟨(set_far (by omega) _ _ _).trans ((set_far (by omega) _ _ _).trans (fa0)), (set_far (by omega) _ _ _).trans ((set_far (by omega) _ _ _).trans (fb0)), (set_far (by omega) _ _ _).trans ((set_far (by omega) _ _ _).trans (fa1)), (set_far (by omega) _ _ _).trans ((set_far (by omega) _ _ _).trans (fb1)), (set_far (by omega) _ _ _).trans ((set_far (by omega) _ _ _).trans (fa2)), (set_far (by omega) _ _ _).trans ((set_far (by omega) _ _ _).trans (fb2)), (set_far (by omega) _ _ _).trans ((set_far (by omega) _ _ _).trans (fa3)), (set_far (by omega) _ _ _).trans ((set_far (by omega) _ _ _).trans (fb3)), (set_far (by omega) _ _ _).trans ((set_far (by omega) _ _ _).trans (fa4)), (set_far (by omega) _ _ _).trans ((set_far (by omega) _ _ _).trans (fb4))⟩
                clear hK K
                try simp only [Act.put, List.getElem_toArray, List.getElem_cons_zero, List.getElem_cons_succ, List.setIfInBounds_toArray, List.set_cons_zero, List.set_cons_succ]
                refine wpAnyH_take (i := 16) (oi := _) (v := ?_) rfl (by kernel_rfl) (by kernel_rfl) (by kernel_rfl) (fun _ _ _ h => h) (Or.inl ⟨by rfl, ?_⟩) (by assumption) ?_
                rotate_left
                · first | (intro w' hSw; (try dsimp only at hSw); go_simp; done) | (intro w' hSw; (try dsimp only at hSw); go_simp; with_reducible rfl)
                try simp only [Act.put, List.getElem_toArray, List.getElem_cons_zero, List.getElem_cons_succ, List.setIfInBounds_toArray, List.set_cons_zero, List.set_cons_succ]
                refine wpAnyH_done (by kernel_rfl) ?_ _
                go_wp2_with fail
                go_meet
                exact ⟨_, _, _, _, _, rfl, rfl, hzl, (blk_set (blk_set HZb.out 0 (.slice Ah0a R1.sorts.length ch0a)) 1 (.slice Ah0b R1.ops.length ch0b)), (HO.out.same (fun k q1 q2 => ((set_blk (by omega) _ _).trans (set_blk (by omega) _ _)))).base (by omega), ((HP.out.setCell (p := ⟨w76.heap.size, 0, none⟩) hzl (.slice Ah0a R1.sorts.length ch0a)).setCell (p := ⟨w76.heap.size, 1, none⟩) hzl (.slice Ah0b R1.ops.length ch0b))⟩
            · skip
              go_simp
              have hb := below_alloc w75 (.cells #[.slice none 0 0, .slice none 0 0] 33)
              have hz := heap_alloc_new w75 (.cells #[.slice none 0 0, .slice none 0 0] 33)
              generalize hWA : w75.alloc (.cells #[.slice none 0 0, .slice none 0 0] 33) = w85 at hb hz ⊢
              clear hWA
              have HZb := Lib.hid (show w85.heap[w75.heap.size]? = some (.cells #[.slice none 0 0, .slice none 0 0] 33 (0, 0)) from hz)
              have hzl : w71.heap.size ≤ w75.heap.size := HP.out.size
              replace fa0 := cell_keep hb fa0
              replace fb0 := cell_keep hb fb0
              replace fa1 := cell_keep hb fa1
              replace fb1 := cell_keep hb fb1
              replace fa2 := cell_keep hb fa2
              replace fb2 := cell_keep hb fb2
              replace fa3 := cell_keep hb fa3
              replace fb3 := cell_keep hb fb3
              replace fa4 := cell_keep hb fa4
              replace fb4 := cell_keep hb fb4
              replace PP0 := Lib.hid (PP0.out.keep hb)
              replace PP1 := Lib.hid (PP1.out.keep hb)
              replace PP2 := Lib.hid (PP2.out.keep hb)
              replace HP := Lib.hid (ex_keep HP.out hb)
              clear hb hz
              go_wp2_with fail
              refine hK.out _ _ ?_ (fun hHeld => ?_)
              · exact ⟨fa0, fb0, fa1, fb1, fa2, fb2, fa3, fb3, fa4, fb4⟩
              clear hK K
              try simp only [Act.put, List.getElem_toArray, List.getElem_cons_zero, List.getElem_cons_succ, List.setIfInBounds_toArray, List.set_cons_zero, List.set_cons_succ]
              refine wpAnyH_ready (rs := [7]) (by kernel_rfl) (by simp) ?_
              refine AllReadyH.cons (o := _) rfl (fun K hK => ?_) AllReadyH.nil
              go_simp
              refine (toMap_any _ s3 _ (HW3.out.keep (ex_keep (ex_keep HB.out HBs.out) HP.out)) HF3.out).mono ?_
              rintro e w86 ⟨y3, rfl, ho, hb⟩
              replace fa0 := cell_keep hb fa0
              replace fb0 := cell_keep hb fb0
              replace fa1 := cell_keep hb fa1
              replace fb1 := cell_keep hb fb1
              replace fa2 := cell_keep hb fa2
              replace fb2 := cell_keep hb fb2
              replace fa3 := cell_keep hb fa3
              replace fb3 := cell_keep hb fb3
              replace fa4 := cell_keep hb fa4
              replace fb4 := cell_keep hb fb4
              replace PP0 := Lib.hid (PP0.out.keep hb)
              replace PP1 := Lib.hid (PP1.out.keep hb)
              replace PP2 := Lib.hid (PP2.out.keep hb)
              replace HP := Lib.hid (ex_keep HP.out hb)
              replace HZb := Lib.hid (blk_at HZb.out hb)
              have PP3 := Lib.hid ho.reads
              obtain ⟨AY3a, cY3a, AY3b, cY3b, rfl⟩ := ho.reads.form
              clear ho hb
              go_wp2_with fail
              refine hK.out _ _ ?_ (fun hHeld => ?_)
              · exact ⟨fa0, fb0, fa1, fb1, fa2, fb2, fa3, fb3, fa4, fb4⟩
              clear hK K
              try simp only [Act.put, List.getElem_toArray, List.getElem_cons_zero, List.getElem_cons_succ, List.setIfInBounds_toArray, List.set_cons_zero, List.set_cons_succ]
              refine wpAnyH_ready (rs := [9]) (by kernel_rfl) (by simp) ?_
              refine AllReadyH.cons (o := _) rfl (fun K hK => ?_) AllReadyH.nil
              go_simp
              refine (toMap_any _ s4 _ (HW4.out.keep (ex_keep (ex_keep HB.out HBs.out) HP.out)) HF4.out).mono ?_
              rintro e w87 ⟨y4, rfl, ho, hb⟩
              replace fa0 := cell_keep hb fa0
              replace fb0 := cell_keep hb fb0
              replace fa1 := cell_keep hb fa1
              replace fb1 := cell_keep hb fb1
              replace fa2 := cell_keep hb fa2
              replace fb2 := cell_keep hb fb2
              replace fa3 := cell_keep hb fa3
              replace fb3 := cell_keep hb fb3
              replace fa4 := cell_keep hb fa4
              replace fb4 := cell_keep hb fb4
              replace PP0 := Lib.hid (PP0.out.keep hb)
              replace PP1 := Lib.hid (PP1.out.keep hb)
              replace PP2 := Lib.hid (PP2.out.keep hb)
              replace PP3 := Lib.hid (PP3.out.keep hb)
              replace HP := Lib.hid (ex_keep HP.out hb)
              replace HZb := Lib.hid (blk_at HZb.out hb)
              have PP4 := Lib.hid ho.reads
              obtain ⟨AY4a, cY4a, AY4b, cY4b, rfl⟩ := ho.reads.form
              clear ho hb
              go_wp2_with fail
              refine hK.out _ _ ?_ (fun hHeld => ?_)
              · exact ⟨fa0, fb0, fa1, fb1, fa2, fb2, fa3, fb3, fa4, fb4⟩
              clear hK K
              try simp only [Act.put, List.getElem_toArray, List.getElem_cons_zero, List.getElem_cons_succ, List.setIfInBounds_toArray, List.set_cons_zero, List.set_cons_succ]
              refine wpAnyH_ready (rs := [10]) (by kernel_rfl) (by simp) ?_
              refine AllReadyH.cons (o := _) rfl (fun K hK => ?_) AllReadyH.nil
              go_simp
              have hs1 := HP.out.size
              have hbl := (Array.getElem?_eq_some_iff.1 HZb.out).1
              refine (mapThen_any s0 s1 s2 s3 s4 _ _ _ _ _ _ PP0.out PP1.out PP2.out PP3.out PP4.out).mono ?_
              rw [HR.out]
              rintro e w88 ⟨h0, rfl, ho0, hb⟩
              obtain ⟨Ah0a, ch0a, Ah0b, ch0b, rfl⟩ := ho0.reads.form
              have HO := Lib.hid ho0
              have hs2 := hb.size
              replace fa0 := cell_keep hb fa0
              replace fb0 := cell_keep hb fb0
              replace fa1 := cell_keep hb fa1
              replace fb1 := cell_keep hb fb1
              replace fa2 := cell_keep hb fa2
              replace fb2 := cell_keep hb fb2
              replace fa3 := cell_keep hb fa3
              replace fb3 := cell_keep hb fb3
              replace fa4 := cell_keep hb fa4
              replace fb4 := cell_keep hb fb4
              replace HP := Lib.hid (ex_keep HP.out hb)
              replace HZb := Lib.hid (blk_at HZb.out hb)
              have j0 := blk_cell HZb.out 0
              have jf0 := blk_free HZb.out 0
              have j1 := blk_cell HZb.out 1
              have jf1 := blk_free HZb.out 1
              simp at j0 j1
              clear ho0 hb PP0 PP1 PP2 PP3 PP4
              go_wp2_with fail
              refine hK.out _ _ ?_ (fun hHeld => ?_)
              · exact ⟨fa0, fb0, fa1, fb1, fa2, fb2, fa3, fb3, fa4, fb4⟩
              clear hK K
              try simp only [Act.put, List.getElem_toArray, List.getElem_cons_zero, List.getElem_cons_succ, List.setIfInBounds_toArray, List.set_cons_zero, List.set_cons_succ]
              refine wpAnyH_take (i := 11) (oi := _) (v := ?_) rfl (by kernel_rfl) (by kernel_rfl) (by kernel_rfl) (fun _ _ _ h => h) (Or.inl ⟨by rfl, ?_⟩) (by assumption) ?_
              rotate_left
              · first | (intro w' hSw; (try dsimp only at hSw); go_simp; done) | (intro w' hSw; (try dsimp only at hSw); go_simp; with_reducible rfl)
              try simp only [Act.put, List.getElem_toArray, List.getElem_cons_zero, List.getElem_cons_succ, List.setIfInBounds_toArray, List.set_cons_zero, List.set_cons_succ]
              refine wpAnyH_take (i := 12) (oi := _) (v := ?_) rfl (by kernel_rfl) (by kernel_rfl) (by kernel_rfl) (fun _ _ _ h => h) (Or.inl ⟨by rfl, ?_⟩) (by assumption) ?_
              rotate_left
              · first | (intro w' hSw; (try dsimp only at hSw); go_simp; done) | (intro w' hSw; (try dsimp only at hSw); go_simp; with_reducible rfl)
              try simp only [Act.put, List.getElem_toArray, List.getElem_cons_zero, List.getElem_cons_succ, List.setIfInBounds_toArray, List.set_cons_zero, List.set_cons_succ]
              refine wpAnyH_take (i := 13) (oi := _) (v := ?_) rfl (by kernel_rfl) (by kernel_rfl) (by kernel_rfl) (fun _ _ _ h => h) (Or.inl ⟨by rfl, ?_⟩) (by assumption) ?_
              rotate_left
              · first | (intro w' hSw; (try dsimp only at hSw); go_simp; done) | (intro w' hSw; (try dsimp only at hSw); go_simp; with_reducible rfl)
              try simp only [Act.put, List.getElem_toArray, List.getElem_cons_zero, List.getElem_cons_succ, List.setIfInBounds_toArray, List.set_cons_zero, List.set_cons_succ]
              refine wpAnyH_ready (rs := [15]) (by kernel_rfl) (by simp) ?_
              refine AllReadyH.cons (o := _) rfl (fun K hK => ?_) AllReadyH.nil
              go_simp
              go_wp2_with fail
              refine hK.out _ _ ?_ (fun hHeld => ?_)
              · exact ⟨(set_far (by omega) _ _ _).trans ((set_far (by omega) _ _ _).trans (fa0)), (set_far (by omega) _ _ _).trans ((set_far (by omega) _ _ _).trans (fb0)), (set_far (by omega) _ _ _).trans ((set_far (by omega) _ _ _).trans (fa1)), (set_far (by omega) _ _ _).trans ((set_far (by omega) _ _ _).trans (fb1)), (set_far (by omega) _ _ _).trans ((set_far (by omega) _ _ _).trans (fa2)), (set_far (by omega) _ _ _).trans ((set_far (by omega) _ _ _).trans (fb2)), (set_far (by omega) _ _ _).trans ((set_far (by omega) _ _ _).trans (fa3)), (set_far (by omega) _ _ _).trans ((set_far (by omega) _ _ _).trans (fb3)), (set_far (by omega) _ _ _).trans ((set_far (by omega) _ _ _).trans (fa4)), (set_far (by omega) _ _ _).trans ((set_far (by omega) _ _ _).trans (fb4))⟩
              clear hK K
              try simp only [Act.put, List.getElem_toArray, List.getElem_cons_zero, List.getElem_cons_succ, List.setIfInBounds_toArray, List.set_cons_zero, List.set_cons_succ]
              refine wpAnyH_take (i := 16) (oi := _) (v := ?_) rfl (by kernel_rfl) (by kernel_rfl) (by kernel_rfl) (fun _ _ _ h => h) (Or.inl ⟨by rfl, ?_⟩) (by assumption) ?_
              rotate_left
              · first | (intro w' hSw; (try dsimp only at hSw); go_simp; done) | (intro w' hSw; (try dsimp only at hSw); go_simp; with_reducible rfl)
              try simp only [Act.put, List.getElem_toArray, List.getElem_cons_zero, List.getElem_cons_succ, List.setIfInBounds_toArray, List.set_cons_zero, List.set_cons_succ]
              refine wpAnyH_done (by kernel_rfl) ?_ _
              go_wp2_with fail
              go_meet
              exact ⟨_, _, _, _, _, rfl, rfl, hzl, (blk_set (blk_set HZb.out 0 (.slice Ah0a R1.sorts.length ch0a)) 1 (.slice Ah0b R1.ops.length ch0b)), (HO.out.same (fun k q1 q2 => ((set_blk (by omega) _ _).trans (set_blk (by omega) _ _)))).base (by omega), ((HP.out.setCell (p := ⟨w75.heap.size, 0, none⟩) hzl (.slice Ah0a R1.sorts.length ch0a)).setCell (p := ⟨w75.heap.size, 1, none⟩) hzl (.slice Ah0b R1.ops.length ch0b))⟩
          · skip
            go_simp
            have hb := below_alloc w74 (.cells #[.slice none 0 0, .slice none 0 0] 33)
            have hz := heap_alloc_new w74 (.cells #[.slice none 0 0, .slice none 0 0] 33)
            generalize hWA : w74.alloc (.cells #[.slice none 0 0, .slice none 0 0] 33) = w89 at hb hz ⊢
            clear hWA
            have HZb := Lib.hid (show w89.heap[w74.heap.size]? = some (.cells #[.slice none 0 0, .slice none 0 0] 33 (0, 0)) from hz)
            have hzl : w71.heap.size ≤ w74.heap.size := HP.out.size
            replace fa0 := cell_keep hb fa0
            replace fb0 := cell_keep hb fb0
            replace fa1 := cell_keep hb fa1
            replace fb1 := cell_keep hb fb1
            replace fa2 := cell_keep hb fa2
            replace fb2 := cell_keep hb fb2
            replace fa3 := cell_keep hb fa3
            replace fb3 := cell_keep hb fb3
            replace fa4 := cell_keep hb fa4
            replace fb4 := cell_keep hb fb4
            replace PP0 := Lib.hid (PP0.out.keep hb)
            replace PP1 := Lib.hid (PP1.out.keep hb)
            replace HP := Lib.hid (ex_keep HP.out hb)
            clear hb hz
            go_wp2_with fail
            refine hK.out _ _ ?_ (fun hHeld => ?_)
            · exact ⟨fa0, fb0, fa1, fb1, fa2, fb2, fa3, fb3, fa4, fb4⟩
            clear hK K
            try simp only [Act.put, List.getElem_toArray, List.getElem_cons_zero, List.getElem_cons_succ, List.setIfInBounds_toArray, List.set_cons_zero, List.set_cons_succ]
            refine wpAnyH_ready (rs := [5]) (by kernel_rfl) (by simp) ?_
            refine AllReadyH.cons (o := _) rfl (fun K hK => ?_) AllReadyH.nil
            go_simp
            refine (toSig_any _ s2 _ (HW2.out.keep (ex_keep (ex_keep HB.out HBs.out) HP.out)) HF2.out).mono ?_
            rintro e w90 ⟨y2, rfl, ho, hb⟩
            replace fa0 := cell_keep hb fa0
            replace fb0 := cell_keep hb fb0
            replace fa1 := cell_keep hb fa1
            replace fb1 := cell_keep hb fb1
            replace fa2 := cell_keep hb fa2
            replace fb2 := cell_keep hb fb2
            replace fa3 := cell_keep hb fa3
            replace fb3 := cell_keep hb fb3
            replace fa4 := cell_keep hb fa4
            replace fb4 := cell_keep hb fb4
            replace PP0 := Lib.hid (PP0.out.keep hb)
            replace PP1 := Lib.hid (PP1.out.keep hb)
            replace HP := Lib.hid (ex_keep HP.out hb)
            replace HZb := Lib.hid (blk_at HZb.out hb)
            have PP2 := Lib.hid ho.reads
            obtain ⟨AY2a, cY2a, rfl⟩ := ho.reads.form
            clear ho hb
            go_wp2_with fail
            refine hK.out _ _ ?_ (fun hHeld => ?_)
            · exact ⟨fa0, fb0, fa1, fb1, fa2, fb2, fa3, fb3, fa4, fb4⟩
            clear hK K
            try simp only [Act.put, List.getElem_toArray, List.getElem_cons_zero, List.getElem_cons_succ, List.setIfInBounds_toArray, List.set_cons_zero, List.set_cons_succ]
            refine wpAnyH_ready (rs := [7]) (by kernel_rfl) (by simp) ?_
            refine AllReadyH.cons (o := _) rfl (fun K hK => ?_) AllReadyH.nil
            go_simp
            refine (toMap_any _ s3 _ (HW3.out.keep (ex_keep (ex_keep HB.out HBs.out) HP.out)) HF3.out).mono ?_
            rintro e w91 ⟨y3, rfl, ho, hb⟩
            replace fa0 := cell_keep hb fa0
            replace fb0 := cell_keep hb fb0
            replace fa1 := cell_keep hb fa1
            replace fb1 := cell_keep hb fb1
            replace fa2 := cell_keep hb fa2
            replace fb2 := cell_keep hb fb2
            replace fa3 := cell_keep hb fa3
            replace fb3 := cell_keep hb fb3
            replace fa4 := cell_keep hb fa4
            replace fb4 := cell_keep hb fb4
            replace PP0 := Lib.hid (PP0.out.keep hb)
            replace PP1 := Lib.hid (PP1.out.keep hb)
            replace PP2 := Lib.hid (PP2.out.keep hb)
            replace HP := Lib.hid (ex_keep HP.out hb)
            replace HZb := Lib.hid (blk_at HZb.out hb)
            have PP3 := Lib.hid ho.reads
            obtain ⟨AY3a, cY3a, AY3b, cY3b, rfl⟩ := ho.reads.form
            clear ho hb
            go_wp2_with fail
            refine hK.out _ _ ?_ (fun hHeld => ?_)
            · exact ⟨fa0, fb0, fa1, fb1, fa2, fb2, fa3, fb3, fa4, fb4⟩
            clear hK K
            try simp only [Act.put, List.getElem_toArray, List.getElem_cons_zero, List.getElem_cons_succ, List.setIfInBounds_toArray, List.set_cons_zero, List.set_cons_succ]
            refine wpAnyH_ready (rs := [9]) (by kernel_rfl) (by simp) ?_
            refine AllReadyH.cons (o := _) rfl (fun K hK => ?_) AllReadyH.nil
            go_simp
            refine (toMap_any _ s4 _ (HW4.out.keep (ex_keep (ex_keep HB.out HBs.out) HP.out)) HF4.out).mono ?_
            rintro e w92 ⟨y4, rfl, ho, hb⟩
            replace fa0 := cell_keep hb fa0
            replace fb0 := cell_keep hb fb0
            replace fa1 := cell_keep hb fa1
            replace fb1 := cell_keep hb fb1
            replace fa2 := cell_keep hb fa2
            replace fb2 := cell_keep hb fb2
            replace fa3 := cell_keep hb fa3
            replace fb3 := cell_keep hb fb3
            replace fa4 := cell_keep hb fa4
            replace fb4 := cell_keep hb fb4
            replace PP0 := Lib.hid (PP0.out.keep hb)
            replace PP1 := Lib.hid (PP1.out.keep hb)
            replace PP2 := Lib.hid (PP2.out.keep hb)
            replace PP3 := Lib.hid (PP3.out.keep hb)
            replace HP := Lib.hid (ex_keep HP.out hb)
            replace HZb := Lib.hid (blk_at HZb.out hb)
            have PP4 := Lib.hid ho.reads
            obtain ⟨AY4a, cY4a, AY4b, cY4b, rfl⟩ := ho.reads.form
            clear ho hb
            go_wp2_with fail
            refine hK.out _ _ ?_ (fun hHeld => ?_)
            · exact ⟨fa0, fb0, fa1, fb1, fa2, fb2, fa3, fb3, fa4, fb4⟩
            clear hK K
            try simp only [Act.put, List.getElem_toArray, List.getElem_cons_zero, List.getElem_cons_succ, List.setIfInBounds_toArray, List.set_cons_zero, List.set_cons_succ]
            refine wpAnyH_ready (rs := [10]) (by kernel_rfl) (by simp) ?_
            refine AllReadyH.cons (o := _) rfl (fun K hK => ?_) AllReadyH.nil
            go_simp
            have hs1 := HP.out.size
            have hbl := (Array.getElem?_eq_some_iff.1 HZb.out).1
            refine (mapThen_any s0 s1 s2 s3 s4 _ _ _ _ _ _ PP0.out PP1.out PP2.out PP3.out PP4.out).mono ?_
            rw [HR.out]
            rintro e w93 ⟨h0, rfl, ho0, hb⟩
            obtain ⟨Ah0a, ch0a, Ah0b, ch0b, rfl⟩ := ho0.reads.form
            have HO := Lib.hid ho0
            have hs2 := hb.size
            replace fa0 := cell_keep hb fa0
            replace fb0 := cell_keep hb fb0
            replace fa1 := cell_keep hb fa1
            replace fb1 := cell_keep hb fb1
            replace fa2 := cell_keep hb fa2
            replace fb2 := cell_keep hb fb2
            replace fa3 := cell_keep hb fa3
            replace fb3 := cell_keep hb fb3
            replace fa4 := cell_keep hb fa4
            replace fb4 := cell_keep hb fb4
            replace HP := Lib.hid (ex_keep HP.out hb)
            replace HZb := Lib.hid (blk_at HZb.out hb)
            have j0 := blk_cell HZb.out 0
            have jf0 := blk_free HZb.out 0
            have j1 := blk_cell HZb.out 1
            have jf1 := blk_free HZb.out 1
            simp at j0 j1
            clear ho0 hb PP0 PP1 PP2 PP3 PP4
            go_wp2_with fail
            refine hK.out _ _ ?_ (fun hHeld => ?_)
            · exact ⟨fa0, fb0, fa1, fb1, fa2, fb2, fa3, fb3, fa4, fb4⟩
            clear hK K
            try simp only [Act.put, List.getElem_toArray, List.getElem_cons_zero, List.getElem_cons_succ, List.setIfInBounds_toArray, List.set_cons_zero, List.set_cons_succ]
            refine wpAnyH_take (i := 11) (oi := _) (v := ?_) rfl (by kernel_rfl) (by kernel_rfl) (by kernel_rfl) (fun _ _ _ h => h) (Or.inl ⟨by rfl, ?_⟩) (by assumption) ?_
            rotate_left
            · first | (intro w' hSw; (try dsimp only at hSw); go_simp; done) | (intro w' hSw; (try dsimp only at hSw); go_simp; with_reducible rfl)
            try simp only [Act.put, List.getElem_toArray, List.getElem_cons_zero, List.getElem_cons_succ, List.setIfInBounds_toArray, List.set_cons_zero, List.set_cons_succ]
            refine wpAnyH_take (i := 12) (oi := _) (v := ?_) rfl (by kernel_rfl) (by kernel_rfl) (by kernel_rfl) (fun _ _ _ h => h) (Or.inl ⟨by rfl, ?_⟩) (by assumption) ?_
            rotate_left
            · first | (intro w' hSw; (try dsimp only at hSw); go_simp; done) | (intro w' hSw; (try dsimp only at hSw); go_simp; with_reducible rfl)
            try simp only [Act.put, List.getElem_toArray, List.getElem_cons_zero, List.getElem_cons_succ, List.setIfInBounds_toArray, List.set_cons_zero, List.set_cons_succ]
            refine wpAnyH_take (i := 13) (oi := _) (v := ?_) rfl (by kernel_rfl) (by kernel_rfl) (by kernel_rfl) (fun _ _ _ h => h) (Or.inl ⟨by rfl, ?_⟩) (by assumption) ?_
            rotate_left
            · first | (intro w' hSw; (try dsimp only at hSw); go_simp; done) | (intro w' hSw; (try dsimp only at hSw); go_simp; with_reducible rfl)
            try simp only [Act.put, List.getElem_toArray, List.getElem_cons_zero, List.getElem_cons_succ, List.setIfInBounds_toArray, List.set_cons_zero, List.set_cons_succ]
            refine wpAnyH_ready (rs := [15]) (by kernel_rfl) (by simp) ?_
            refine AllReadyH.cons (o := _) rfl (fun K hK => ?_) AllReadyH.nil
            go_simp
            go_wp2_with fail
            refine hK.out _ _ ?_ (fun hHeld => ?_)
            · exact ⟨(set_far (by omega) _ _ _).trans ((set_far (by omega) _ _ _).trans (fa0)), (set_far (by omega) _ _ _).trans ((set_far (by omega) _ _ _).trans (fb0)), (set_far (by omega) _ _ _).trans ((set_far (by omega) _ _ _).trans (fa1)), (set_far (by omega) _ _ _).trans ((set_far (by omega) _ _ _).trans (fb1)), (set_far (by omega) _ _ _).trans ((set_far (by omega) _ _ _).trans (fa2)), (set_far (by omega) _ _ _).trans ((set_far (by omega) _ _ _).trans (fb2)), (set_far (by omega) _ _ _).trans ((set_far (by omega) _ _ _).trans (fa3)), (set_far (by omega) _ _ _).trans ((set_far (by omega) _ _ _).trans (fb3)), (set_far (by omega) _ _ _).trans ((set_far (by omega) _ _ _).trans (fa4)), (set_far (by omega) _ _ _).trans ((set_far (by omega) _ _ _).trans (fb4))⟩
            clear hK K
            try simp only [Act.put, List.getElem_toArray, List.getElem_cons_zero, List.getElem_cons_succ, List.setIfInBounds_toArray, List.set_cons_zero, List.set_cons_succ]
            refine wpAnyH_take (i := 16) (oi := _) (v := ?_) rfl (by kernel_rfl) (by kernel_rfl) (by kernel_rfl) (fun _ _ _ h => h) (Or.inl ⟨by rfl, ?_⟩) (by assumption) ?_
            rotate_left
            · first | (intro w' hSw; (try dsimp only at hSw); go_simp; done) | (intro w' hSw; (try dsimp only at hSw); go_simp; with_reducible rfl)
            try simp only [Act.put, List.getElem_toArray, List.getElem_cons_zero, List.getElem_cons_succ, List.setIfInBounds_toArray, List.set_cons_zero, List.set_cons_succ]
            refine wpAnyH_done (by kernel_rfl) ?_ _
            go_wp2_with fail
            go_meet
            exact ⟨_, _, _, _, _, rfl, rfl, hzl, (blk_set (blk_set HZb.out 0 (.slice Ah0a R1.sorts.length ch0a)) 1 (.slice Ah0b R1.ops.length ch0b)), (HO.out.same (fun k q1 q2 => ((set_blk (by omega) _ _).trans (set_blk (by omega) _ _)))).base (by omega), ((HP.out.setCell (p := ⟨w74.heap.size, 0, none⟩) hzl (.slice Ah0a R1.sorts.length ch0a)).setCell (p := ⟨w74.heap.size, 1, none⟩) hzl (.slice Ah0b R1.ops.length ch0b))⟩
        · skip
          go_simp
          have hb := below_alloc w73 (.cells #[.slice none 0 0, .slice none 0 0] 33)
          have hz := heap_alloc_new w73 (.cells #[.slice none 0 0, .slice none 0 0] 33)
          generalize hWA : w73.alloc (.cells #[.slice none 0 0, .slice none 0 0] 33) = w94 at hb hz ⊢
          clear hWA
          have HZb := Lib.hid (show w94.heap[w73.heap.size]? = some (.cells #[.slice none 0 0, .slice none 0 0] 33 (0, 0)) from hz)
          have hzl : w71.heap.size ≤ w73.heap.size := HP.out.size
          replace fa0 := cell_keep hb fa0
          replace fb0 := cell_keep hb fb0
          replace fa1 := cell_keep hb fa1
          replace fb1 := cell_keep hb fb1
          replace fa2 := cell_keep hb fa2
          replace fb2 := cell_keep hb fb2
          replace fa3 := cell_keep hb fa3
          replace fb3 := cell_keep hb fb3
          replace fa4 := cell_keep hb fa4
          replace fb4 := cell_keep hb fb4
          replace PP0 := Lib.hid (PP0.out.keep hb)
          replace HP := Lib.hid (ex_keep HP.out hb)
          clear hb hz
          go_wp2_with fail
          refine hK.out _ _ ?_ (fun hHeld => ?_)
          · exact ⟨fa0, fb0, fa1, fb1, fa2, fb2, fa3, fb3, fa4, fb4⟩
          clear hK K
          try simp only [Act.put, List.getElem_toArray, List.getElem_cons_zero, List.getElem_cons_succ, List.setIfInBounds_toArray, List.set_cons_zero, List.set_cons_succ]
          refine wpAnyH_ready (rs := [3]) (by kernel_rfl) (by simp) ?_
          refine AllReadyH.cons (o := _) rfl (fun K hK => ?_) AllReadyH.nil
          go_simp
          refine (toSig_any _ s1 _ (HW1.out.keep (ex_keep (ex_keep HB.out HBs.out) HP.out)) HF1.out).mono ?_
          rintro e w95 ⟨y1, rfl, ho, hb⟩
          replace fa0 := cell_keep hb fa0
          replace fb0 := cell_keep hb fb0
          replace fa1 := cell_keep hb fa1
          replace fb1 := cell_keep hb fb1
          replace fa2 := cell_keep hb fa2
          replace fb2 := cell_keep hb fb2
          replace fa3 := cell_keep hb fa3
          replace fb3 := cell_keep hb fb3
          replace fa4 := cell_keep hb fa4
          replace fb4 := cell_keep hb fb4
          replace PP0 := Lib.hid (PP0.out.keep hb)
          replace HP := Lib.hid (ex_keep HP.out hb)
          replace HZb := Lib.hid (blk_at HZb.out hb)
          have PP1 := Lib.hid ho.reads
          obtain ⟨AY1a, cY1a, rfl⟩ := ho.reads.form
          clear ho hb
          go_wp2_with fail
          refine hK.out _ _ ?_ (fun hHeld => ?_)
          · exact ⟨fa0, fb0, fa1, fb1, fa2, fb2, fa3, fb3, fa4, fb4⟩
          clear hK K
          try simp only [Act.put, List.getElem_toArray, List.getElem_cons_zero, List.getElem_cons_succ, List.setIfInBounds_toArray, List.set_cons_zero, List.set_cons_succ]
          refine wpAnyH_ready (rs := [5]) (by kernel_rfl) (by simp) ?_
          refine AllReadyH.cons (o := _) rfl (fun K hK => ?_) AllReadyH.nil
          go_simp
          refine (toSig_any _ s2 _ (HW2.out.keep (ex_keep (ex_keep HB.out HBs.out) HP.out)) HF2.out).mono ?_
          rintro e w96 ⟨y2, rfl, ho, hb⟩
          replace fa0 := cell_keep hb fa0
          replace fb0 := cell_keep hb fb0
          replace fa1 := cell_keep hb fa1
          replace fb1 := cell_keep hb fb1
          replace fa2 := cell_keep hb fa2
          replace fb2 := cell_keep hb fb2
          replace fa3 := cell_keep hb fa3
          replace fb3 := cell_keep hb fb3
          replace fa4 := cell_keep hb fa4
          replace fb4 := cell_keep hb fb4
          replace PP0 := Lib.hid (PP0.out.keep hb)
          replace PP1 := Lib.hid (PP1.out.keep hb)
          replace HP := Lib.hid (ex_keep HP.out hb)
          replace HZb := Lib.hid (blk_at HZb.out hb)
          have PP2 := Lib.hid ho.reads
          obtain ⟨AY2a, cY2a, rfl⟩ := ho.reads.form
          clear ho hb
          go_wp2_with fail
          refine hK.out _ _ ?_ (fun hHeld => ?_)
          · exact ⟨fa0, fb0, fa1, fb1, fa2, fb2, fa3, fb3, fa4, fb4⟩
          clear hK K
          try simp only [Act.put, List.getElem_toArray, List.getElem_cons_zero, List.getElem_cons_succ, List.setIfInBounds_toArray, List.set_cons_zero, List.set_cons_succ]
          refine wpAnyH_ready (rs := [7]) (by kernel_rfl) (by simp) ?_
          refine AllReadyH.cons (o := _) rfl (fun K hK => ?_) AllReadyH.nil
          go_simp
          refine (toMap_any _ s3 _ (HW3.out.keep (ex_keep (ex_keep HB.out HBs.out) HP.out)) HF3.out).mono ?_
          rintro e w97 ⟨y3, rfl, ho, hb⟩
          replace fa0 := cell_keep hb fa0
          replace fb0 := cell_keep hb fb0
          replace fa1 := cell_keep hb fa1
          replace fb1 := cell_keep hb fb1
          replace fa2 := cell_keep hb fa2
          replace fb2 := cell_keep hb fb2
          replace fa3 := cell_keep hb fa3
          replace fb3 := cell_keep hb fb3
          replace fa4 := cell_keep hb fa4
          replace fb4 := cell_keep hb fb4
          replace PP0 := Lib.hid (PP0.out.keep hb)
          replace PP1 := Lib.hid (PP1.out.keep hb)
          replace PP2 := Lib.hid (PP2.out.keep hb)
          replace HP := Lib.hid (ex_keep HP.out hb)
          replace HZb := Lib.hid (blk_at HZb.out hb)
          have PP3 := Lib.hid ho.reads
          obtain ⟨AY3a, cY3a, AY3b, cY3b, rfl⟩ := ho.reads.form
          clear ho hb
          go_wp2_with fail
          refine hK.out _ _ ?_ (fun hHeld => ?_)
          · exact ⟨fa0, fb0, fa1, fb1, fa2, fb2, fa3, fb3, fa4, fb4⟩
          clear hK K
          try simp only [Act.put, List.getElem_toArray, List.getElem_cons_zero, List.getElem_cons_succ, List.setIfInBounds_toArray, List.set_cons_zero, List.set_cons_succ]
          refine wpAnyH_ready (rs := [9]) (by kernel_rfl) (by simp) ?_
          refine AllReadyH.cons (o := _) rfl (fun K hK => ?_) AllReadyH.nil
          go_simp
          refine (toMap_any _ s4 _ (HW4.out.keep (ex_keep (ex_keep HB.out HBs.out) HP.out)) HF4.out).mono ?_
          rintro e w98 ⟨y4, rfl, ho, hb⟩
          replace fa0 := cell_keep hb fa0
          replace fb0 := cell_keep hb fb0
          replace fa1 := cell_keep hb fa1
          replace fb1 := cell_keep hb fb1
          replace fa2 := cell_keep hb fa2
          replace fb2 := cell_keep hb fb2
          replace fa3 := cell_keep hb fa3
          replace fb3 := cell_keep hb fb3
          replace fa4 := cell_keep hb fa4
          replace fb4 := cell_keep hb fb4
          replace PP0 := Lib.hid (PP0.out.keep hb)
          replace PP1 := Lib.hid (PP1.out.keep hb)
          replace PP2 := Lib.hid (PP2.out.keep hb)
          replace PP3 := Lib.hid (PP3.out.keep hb)
          replace HP := Lib.hid (ex_keep HP.out hb)
          replace HZb := Lib.hid (blk_at HZb.out hb)
          have PP4 := Lib.hid ho.reads
          obtain ⟨AY4a, cY4a, AY4b, cY4b, rfl⟩ := ho.reads.form
          clear ho hb
          go_wp2_with fail
          refine hK.out _ _ ?_ (fun hHeld => ?_)
          · exact ⟨fa0, fb0, fa1, fb1, fa2, fb2, fa3, fb3, fa4, fb4⟩
          clear hK K
          try simp only [Act.put, List.getElem_toArray, List.getElem_cons_zero, List.getElem_cons_succ, List.setIfInBounds_toArray, List.set_cons_zero, List.set_cons_succ]
          refine wpAnyH_ready (rs := [10]) (by kernel_rfl) (by simp) ?_
          refine AllReadyH.cons (o := _) rfl (fun K hK => ?_) AllReadyH.nil
          go_simp
          have hs1 := HP.out.size
          have hbl := (Array.getElem?_eq_some_iff.1 HZb.out).1
          refine (mapThen_any s0 s1 s2 s3 s4 _ _ _ _ _ _ PP0.out PP1.out PP2.out PP3.out PP4.out).mono ?_
          rw [HR.out]
          rintro e w99 ⟨h0, rfl, ho0, hb⟩
          obtain ⟨Ah0a, ch0a, Ah0b, ch0b, rfl⟩ := ho0.reads.form
          have HO := Lib.hid ho0
          have hs2 := hb.size
          replace fa0 := cell_keep hb fa0
          replace fb0 := cell_keep hb fb0
          replace fa1 := cell_keep hb fa1
          replace fb1 := cell_keep hb fb1
          replace fa2 := cell_keep hb fa2
          replace fb2 := cell_keep hb fb2
          replace fa3 := cell_keep hb fa3
          replace fb3 := cell_keep hb fb3
          replace fa4 := cell_keep hb fa4
          replace fb4 := cell_keep hb fb4
          replace HP := Lib.hid (ex_keep HP.out hb)
          replace HZb := Lib.hid (blk_at HZb.out hb)
          have j0 := blk_cell HZb.out 0
          have jf0 := blk_free HZb.out 0
          have j1 := blk_cell HZb.out 1
          have jf1 := blk_free HZb.out 1
          simp at j0 j1
          clear ho0 hb PP0 PP1 PP2 PP3 PP4
          go_wp2_with fail
          refine hK.out _ _ ?_ (fun hHeld => ?_)
          · exact ⟨fa0, fb0, fa1, fb1, fa2, fb2, fa3, fb3, fa4, fb4⟩
          clear hK K
          try simp only [Act.put, List.getElem_toArray, List.getElem_cons_zero, List.getElem_cons_succ, List.setIfInBounds_toArray, List.set_cons_zero, List.set_cons_succ]
          refine wpAnyH_take (i := 11) (oi := _) (v := ?_) rfl (by kernel_rfl) (by kernel_rfl) (by kernel_rfl) (fun _ _ _ h => h) (Or.inl ⟨by rfl, ?_⟩) (by assumption) ?_
          rotate_left
          · first | (intro w' hSw; (try dsimp only at hSw); go_simp; done) | (intro w' hSw; (try dsimp only at hSw); go_simp; with_reducible rfl)
          try simp only [Act.put, List.getElem_toArray, List.getElem_cons_zero, List.getElem_cons_succ, List.setIfInBounds_toArray, List.set_cons_zero, List.set_cons_succ]
          refine wpAnyH_take (i := 12) (oi := _) (v := ?_) rfl (by kernel_rfl) (by kernel_rfl) (by kernel_rfl) (fun _ _ _ h => h) (Or.inl ⟨by rfl, ?_⟩) (by assumption) ?_
          rotate_left
          · first | (intro w' hSw; (try dsimp only at hSw); go_simp; done) | (intro w' hSw; (try dsimp only at hSw); go_simp; with_reducible rfl)
          try simp only [Act.put, List.getElem_toArray, List.getElem_cons_zero, List.getElem_cons_succ, List.setIfInBounds_toArray, List.set_cons_zero, List.set_cons_succ]
          refine wpAnyH_take (i := 13) (oi := _) (v := ?_) rfl (by kernel_rfl) (by kernel_rfl) (by kernel_rfl) (fun _ _ _ h => h) (Or.inl ⟨by rfl, ?_⟩) (by assumption) ?_
          rotate_left
          · first | (intro w' hSw; (try dsimp only at hSw); go_simp; done) | (intro w' hSw; (try dsimp only at hSw); go_simp; with_reducible rfl)
          try simp only [Act.put, List.getElem_toArray, List.getElem_cons_zero, List.getElem_cons_succ, List.setIfInBounds_toArray, List.set_cons_zero, List.set_cons_succ]
          refine wpAnyH_ready (rs := [15]) (by kernel_rfl) (by simp) ?_
          refine AllReadyH.cons (o := _) rfl (fun K hK => ?_) AllReadyH.nil
          go_simp
          go_wp2_with fail
          refine hK.out _ _ ?_ (fun hHeld => ?_)
          · exact ⟨(set_far (by omega) _ _ _).trans ((set_far (by omega) _ _ _).trans (fa0)), (set_far (by omega) _ _ _).trans ((set_far (by omega) _ _ _).trans (fb0)), (set_far (by omega) _ _ _).trans ((set_far (by omega) _ _ _).trans (fa1)), (set_far (by omega) _ _ _).trans ((set_far (by omega) _ _ _).trans (fb1)), (set_far (by omega) _ _ _).trans ((set_far (by omega) _ _ _).trans (fa2)), (set_far (by omega) _ _ _).trans ((set_far (by omega) _ _ _).trans (fb2)), (set_far (by omega) _ _ _).trans ((set_far (by omega) _ _ _).trans (fa3)), (set_far (by omega) _ _ _).trans ((set_far (by omega) _ _ _).trans (fb3)), (set_far (by omega) _ _ _).trans ((set_far (by omega) _ _ _).trans (fa4)), (set_far (by omega) _ _ _).trans ((set_far (by omega) _ _ _).trans (fb4))⟩
          clear hK K
          try simp only [Act.put, List.getElem_toArray, List.getElem_cons_zero, List.getElem_cons_succ, List.setIfInBounds_toArray, List.set_cons_zero, List.set_cons_succ]
          refine wpAnyH_take (i := 16) (oi := _) (v := ?_) rfl (by kernel_rfl) (by kernel_rfl) (by kernel_rfl) (fun _ _ _ h => h) (Or.inl ⟨by rfl, ?_⟩) (by assumption) ?_
          rotate_left
          · first | (intro w' hSw; (try dsimp only at hSw); go_simp; done) | (intro w' hSw; (try dsimp only at hSw); go_simp; with_reducible rfl)
          try simp only [Act.put, List.getElem_toArray, List.getElem_cons_zero, List.getElem_cons_succ, List.setIfInBounds_toArray, List.set_cons_zero, List.set_cons_succ]
          refine wpAnyH_done (by kernel_rfl) ?_ _
          go_wp2_with fail
          go_meet
          exact ⟨_, _, _, _, _, rfl, rfl, hzl, (blk_set (blk_set HZb.out 0 (.slice Ah0a R1.sorts.length ch0a)) 1 (.slice Ah0b R1.ops.length ch0b)), (HO.out.same (fun k q1 q2 => ((set_blk (by omega) _ _).trans (set_blk (by omega) _ _)))).base (by omega), ((HP.out.setCell (p := ⟨w73.heap.size, 0, none⟩) hzl (.slice Ah0a R1.sorts.length ch0a)).setCell (p := ⟨w73.heap.size, 1, none⟩) hzl (.slice Ah0b R1.ops.length ch0b))⟩
      · skip
        go_simp
        have hb := below_alloc w71 (.cells #[.slice none 0 0, .slice none 0 0] 33)
        have hz := heap_alloc_new w71 (.cells #[.slice none 0 0, .slice none 0 0] 33)
        generalize hWA : w71.alloc (.cells #[.slice none 0 0, .slice none 0 0] 33) = w100 at hb hz ⊢
        clear hWA
        have HZb := Lib.hid (show w100.heap[w71.heap.size]? = some (.cells #[.slice none 0 0, .slice none 0 0] 33 (0, 0)) from hz)
        have hzl : w71.heap.size ≤ w71.heap.size := Nat.le_refl _
        replace fa0 := cell_keep hb fa0
        replace fb0 := cell_keep hb fb0
        replace fa1 := cell_keep hb fa1
        replace fb1 := cell_keep hb fb1
        replace fa2 := cell_keep hb fa2
        replace fb2 := cell_keep hb fb2
        replace fa3 := cell_keep hb fa3
        replace fb3 := cell_keep hb fb3
        replace fa4 := cell_keep hb fa4
        replace fb4 := cell_keep hb fb4
        have HP := Lib.hid hb
        clear hb hz
        go_wp2_with fail
        refine hK.out _ _ ?_ (fun hHeld => ?_)
        · exact ⟨fa0, fb0, fa1, fb1, fa2, fb2, fa3, fb3, fa4, fb4⟩
        clear hK K
        try simp only [Act.put, List.getElem_toArray, List.getElem_cons_zero, List.getElem_cons_succ, List.setIfInBounds_toArray, List.set_cons_zero, List.set_cons_succ]
        refine wpAnyH_ready (rs := [1]) (by kernel_rfl) (by simp) ?_
        refine AllReadyH.cons (o := _) rfl (fun K hK => ?_) AllReadyH.nil
        go_simp
        refine (toSig_any _ s0 _ (HW0.out.keep (ex_drew (ex_keep (ex_keep HB.out HBs.out) HP.out))) HF0.out).mono ?_
        rintro e w101 ⟨y0, rfl, ho, hb⟩
        replace hb := ex_undrew hb
        replace fa0 := cell_keep hb fa0
        replace fb0 := cell_keep hb fb0
        replace fa1 := cell_keep hb fa1
        replace fb1 := cell_keep hb fb1
        replace fa2 := cell_keep hb fa2
        replace fb2 := cell_keep hb fb2
        replace fa3 := cell_keep hb fa3
        replace fb3 := cell_keep hb fb3
        replace fa4 := cell_keep hb fa4
        replace fb4 := cell_keep hb fb4
        replace HP := Lib.hid (ex_keep HP.out hb)
        replace HZb := Lib.hid (blk_at HZb.out hb)
        have PP0 := Lib.hid ho.reads
        obtain ⟨AY0a, cY0a, rfl⟩ := ho.reads.form
        clear ho hb
        go_wp2_with fail
        refine hK.out _ _ ?_ (fun hHeld => ?_)
        · exact ⟨fa0, fb0, fa1, fb1, fa2, fb2, fa3, fb3, fa4, fb4⟩
        clear hK K
        try simp only [Act.put, List.getElem_toArray, List.getElem_cons_zero, List.getElem_cons_succ, List.setIfInBounds_toArray, List.set_cons_zero, List.set_cons_succ]
        refine wpAnyH_ready (rs := [3]) (by kernel_rfl) (by simp) ?_
        refine AllReadyH.cons (o := _) rfl (fun K hK => ?_) AllReadyH.nil
        go_simp
        refine (toSig_any _ s1 _ (HW1.out.keep (ex_keep (ex_keep HB.out HBs.out) HP.out)) HF1.out).mono ?_
        rintro e w102 ⟨y1, rfl, ho, hb⟩
        replace fa0 := cell_keep hb fa0
        replace fb0 := cell_keep hb fb0
        replace fa1 := cell_keep hb fa1
        replace fb1 := cell_keep hb fb1
        replace fa2 := cell_keep hb fa2
        replace fb2 := cell_keep hb fb2
        replace fa3 := cell_keep hb fa3
        replace fb3 := cell_keep hb fb3
        replace fa4 := cell_keep hb fa4
        replace fb4 := cell_keep hb fb4
        replace PP0 := Lib.hid (PP0.out.keep hb)
        replace HP := Lib.hid (ex_keep HP.out hb)
        replace HZb := Lib.hid (blk_at HZb.out hb)
        have PP1 := Lib.hid ho.reads
        obtain ⟨AY1a, cY1a, rfl⟩ := ho.reads.form
        clear ho hb
        go_wp2_with fail
        refine hK.out _ _ ?_ (fun hHeld => ?_)
        · exact ⟨fa0, fb0, fa1, fb1, fa2, fb2, fa3, fb3, fa4, fb4⟩
        clear hK K
        try simp only [Act.put, List.getElem_toArray, List.getElem_cons_zero, List.getElem_cons_succ, List.setIfInBounds_toArray, List.set_cons_zero, List.set_cons_succ]
        refine wpAnyH_ready (rs := [5]) (by kernel_rfl) (by simp) ?_
        refine AllReadyH.cons (o := _) rfl (fun K hK => ?_) AllReadyH.nil
        go_simp
        refine (toSig_any _ s2 _ (HW2.out.keep (ex_keep (ex_keep HB.out HBs.out) HP.out)) HF2.out).mono ?_
        rintro e w103 ⟨y2, rfl, ho, hb⟩
        replace fa0 := cell_keep hb fa0
        replace fb0 := cell_keep hb fb0
        replace fa1 := cell_keep hb fa1
        replace fb1 := cell_keep hb fb1
        replace fa2 := cell_keep hb fa2
        replace fb2 := cell_keep hb fb2
        replace fa3 := cell_keep hb fa3
        replace fb3 := cell_keep hb fb3
        replace fa4 := cell_keep hb fa4
        replace fb4 := cell_keep hb fb4
        replace PP0 := Lib.hid (PP0.out.keep hb)
        replace PP1 := Lib.hid (PP1.out.keep hb)
        replace HP := Lib.hid (ex_keep HP.out hb)
        replace HZb := Lib.hid (blk_at HZb.out hb)
        have PP2 := Lib.hid ho.reads
        obtain ⟨AY2a, cY2a, rfl⟩ := ho.reads.form
        clear ho hb
        go_wp2_with fail
        refine hK.out _ _ ?_ (fun hHeld => ?_)
        · exact ⟨fa0, fb0, fa1, fb1, fa2, fb2, fa3, fb3, fa4, fb4⟩
        clear hK K
        try simp only [Act.put, List.getElem_toArray, List.getElem_cons_zero, List.getElem_cons_succ, List.setIfInBounds_toArray, List.set_cons_zero, List.set_cons_succ]
        refine wpAnyH_ready (rs := [7]) (by kernel_rfl) (by simp) ?_
        refine AllReadyH.cons (o := _) rfl (fun K hK => ?_) AllReadyH.nil
        go_simp
        refine (toMap_any _ s3 _ (HW3.out.keep (ex_keep (ex_keep HB.out HBs.out) HP.out)) HF3.out).mono ?_
        rintro e w104 ⟨y3, rfl, ho, hb⟩
        replace fa0 := cell_keep hb fa0
        replace fb0 := cell_keep hb fb0
        replace fa1 := cell_keep hb fa1
        replace fb1 := cell_keep hb fb1
        replace fa2 := cell_keep hb fa2
        replace fb2 := cell_keep hb fb2
        replace fa3 := cell_keep hb fa3
        replace fb3 := cell_keep hb fb3
        replace fa4 := cell_keep hb fa4
        replace fb4 := cell_keep hb fb4
        replace PP0 := Lib.hid (PP0.out.keep hb)
        replace PP1 := Lib.hid (PP1.out.keep hb)
        replace PP2 := Lib.hid (PP2.out.keep hb)
        replace HP := Lib.hid (ex_keep HP.out hb)
        replace HZb := Lib.hid (blk_at HZb.out hb)
        have PP3 := Lib.hid ho.reads
        obtain ⟨AY3a, cY3a, AY3b, cY3b, rfl⟩ := ho.reads.form
        clear ho hb
        go_wp2_with fail
        refine hK.out _ _ ?_ (fun hHeld => ?_)
        · exact ⟨fa0, fb0, fa1, fb1, fa2, fb2, fa3, fb3, fa4, fb4⟩
        clear hK K
        try simp only [Act.put, List.getElem_toArray, List.getElem_cons_zero, List.getElem_cons_succ, List.setIfInBounds_toArray, List.set_cons_zero, List.set_cons_succ]
        refine wpAnyH_ready (rs := [9]) (by kernel_rfl) (by simp) ?_
        refine AllReadyH.cons (o := _) rfl (fun K hK => ?_) AllReadyH.nil
        go_simp
        refine (toMap_any _ s4 _ (HW4.out.keep (ex_keep (ex_keep HB.out HBs.out) HP.out)) HF4.out).mono ?_
        rintro e w105 ⟨y4, rfl, ho, hb⟩
        replace fa0 := cell_keep hb fa0
        replace fb0 := cell_keep hb fb0
        replace fa1 := cell_keep hb fa1
        replace fb1 := cell_keep hb fb1
        replace fa2 := cell_keep hb fa2
        replace fb2 := cell_keep hb fb2
        replace fa3 := cell_keep hb fa3
        replace fb3 := cell_keep hb fb3
        replace fa4 := cell_keep hb fa4
        replace fb4 := cell_keep hb fb4
        replace PP0 := Lib.hid (PP0.out.keep hb)
        replace PP1 := Lib.hid (PP1.out.keep hb)
        replace PP2 := Lib.hid (PP2.out.keep hb)
        replace PP3 := Lib.hid (PP3.out.keep hb)
        replace HP := Lib.hid (ex_keep HP.out hb)
        replace HZb := Lib.hid (blk_at HZb.out hb)
        have PP4 := Lib.hid ho.reads
        obtain ⟨AY4a, cY4a, AY4b, cY4b, rfl⟩ := ho.reads.form
        clear ho hb
        go_wp2_with fail
        refine hK.out _ _ ?_ (fun hHeld => ?_)
        · exact ⟨fa0, fb0, fa1, fb1, fa2, fb2, fa3, fb3, fa4, fb4⟩
        clear hK K
        try simp only [Act.put, List.getElem_toArray, List.getElem_cons_zero, List.getElem_cons_succ, List.setIfInBounds_toArray, List.set_cons_zero, List.set_cons_succ]
        refine wpAnyH_ready (rs := [10]) (by kernel_rfl) (by simp) ?_
        refine AllReadyH.cons (o := _) rfl (fun K hK => ?_) AllReadyH.nil
        go_simp
        have hs1 := HP.out.size
        have hbl := (Array.getElem?_eq_some_iff.1 HZb.out).1
        refine (mapThen_any s0 s1 s2 s3 s4 _ _ _ _ _ _ PP0.out PP1.out PP2.out PP3.out PP4.out).mono ?_
        rw [HR.out]
        rintro e w106 ⟨h0, rfl, ho0, hb⟩
        obtain ⟨Ah0a, ch0a, Ah0b, ch0b, rfl⟩ := ho0.reads.form
        have HO := Lib.hid ho0
        have hs2 := hb.size
        replace fa0 := cell_keep hb fa0
        replace fb0 := cell_keep hb fb0
        replace fa1 := cell_keep hb fa1
        replace fb1 := cell_keep hb fb1
        replace fa2 := cell_keep hb fa2
        replace fb2 := cell_keep hb fb2
        replace fa3 := cell_keep hb fa3
        replace fb3 := cell_keep hb fb3
        replace fa4 := cell_keep hb fa4
        replace fb4 := cell_keep hb fb4
        replace HP := Lib.hid (ex_keep HP.out hb)
        replace HZb := Lib.hid (blk_at HZb.out hb)
        have j0 := blk_cell HZb.out 0
        have jf0 := blk_free HZb.out 0
        have j1 := blk_cell HZb.out 1
        have jf1 := blk_free HZb.out 1
        simp at j0 j1
        clear ho0 hb PP0 PP1 PP2 PP3 PP4
        go_wp2_with fail
        refine hK.out _ _ ?_ (fun hHeld => ?_)
        · exact ⟨fa0, fb0, fa1, fb1, fa2, fb2, fa3, fb3, fa4, fb4⟩
        clear hK K
        try simp only [Act.put, List.getElem_toArray, List.getElem_cons_zero, List.getElem_cons_succ, List.setIfInBounds_toArray, List.set_cons_zero, List.set_cons_succ]
        refine wpAnyH_take (i := 11) (oi := _) (v := ?_) rfl (by kernel_rfl) (by kernel_rfl) (by kernel_rfl) (fun _ _ _ h => h) (Or.inl ⟨by rfl, ?_⟩) (by assumption) ?_
        rotate_left
        · first | (intro w' hSw; (try dsimp only at hSw); go_simp; done) | (intro w' hSw; (try dsimp only at hSw); go_simp; with_reducible rfl)
        try simp only [Act.put, List.getElem_toArray, List.getElem_cons_zero, List.getElem_cons_succ, List.setIfInBounds_toArray, List.set_cons_zero, List.set_cons_succ]
        refine wpAnyH_take (i := 12) (oi := _) (v := ?_) rfl (by kernel_rfl) (by kernel_rfl) (by kernel_rfl) (fun _ _ _ h => h) (Or.inl ⟨by rfl, ?_⟩) (by assumption) ?_
        rotate_left
        · first | (intro w' hSw; (try dsimp only at hSw); go_simp; done) | (intro w' hSw; (try dsimp only at hSw); go_simp; with_reducible rfl)
        try simp only [Act.put, List.getElem_toArray, List.getElem_cons_zero, List.getElem_cons_succ, List.setIfInBounds_toArray, List.set_cons_zero, List.set_cons_succ]
        refine wpAnyH_take (i := 13) (oi := _) (v := ?_) rfl (by kernel_rfl) (by kernel_rfl) (by kernel_rfl) (fun _ _ _ h => h) (Or.inl ⟨by rfl, ?_⟩) (by assumption) ?_
        rotate_left
        · first | (intro w' hSw; (try dsimp only at hSw); go_simp; done) | (intro w' hSw; (try dsimp only at hSw); go_simp; with_reducible rfl)
        try simp only [Act.put, List.getElem_toArray, List.getElem_cons_zero, List.getElem_cons_succ, List.setIfInBounds_toArray, List.set_cons_zero, List.set_cons_succ]
        refine wpAnyH_ready (rs := [15]) (by kernel_rfl) (by simp) ?_
        refine AllReadyH.cons (o := _) rfl (fun K hK => ?_) AllReadyH.nil
        go_simp
        go_wp2_with fail
        refine hK.out _ _ ?_ (fun hHeld => ?_)
        · exact ⟨(set_far (by omega) _ _ _).trans ((set_far (by omega) _ _ _).trans (fa0)), (set_far (by omega) _ _ _).trans ((set_far (by omega) _ _ _).trans (fb0)), (set_far (by omega) _ _ _).trans ((set_far (by omega) _ _ _).trans (fa1)), (set_far (by omega) _ _ _).trans ((set_far (by omega) _ _ _).trans (fb1)), (set_far (by omega) _ _ _).trans ((set_far (by omega) _ _ _).trans (fa2)), (set_far (by omega) _ _ _).trans ((set_far (by omega) _ _ _).trans (fb2)), (set_far (by omega) _ _ _).trans ((set_far (by omega) _ _ _).trans (fa3)), (set_far (by omega) _ _ _).trans ((set_far (by omega) _ _ _).trans (fb3)), (set_far (by omega) _ _ _).trans ((set_far (by omega) _ _ _).trans (fa4)), (set_far (by omega) _ _ _).trans ((set_far (by omega) _ _ _).trans (fb4))⟩
        clear hK K
        try simp only [Act.put, List.getElem_toArray, List.getElem_cons_zero, List.getElem_cons_succ, List.setIfInBounds_toArray, List.set_cons_zero, List.set_cons_succ]
        refine wpAnyH_take (i := 16) (oi := _) (v := ?_) rfl (by kernel_rfl) (by kernel_rfl) (by kernel_rfl) (fun _ _ _ h => h) (Or.inl ⟨by rfl, ?_⟩) (by assumption) ?_
        rotate_left
        · first | (intro w' hSw; (try dsimp only at hSw); go_simp; done) | (intro w' hSw; (try dsimp only at hSw); go_simp; with_reducible rfl)
        try simp only [Act.put, List.getElem_toArray, List.getElem_cons_zero, List.getElem_cons_succ, List.setIfInBounds_toArray, List.set_cons_zero, List.set_cons_succ]
        refine wpAnyH_done (by kernel_rfl) ?_ _
        go_wp2_with fail
        go_meet
        exact ⟨_, _, _, _, _, rfl, rfl, hzl, (blk_set (blk_set HZb.out 0 (.slice Ah0a R1.sorts.length ch0a)) 1 (.slice Ah0b R1.ops.length ch0b)), (HO.out.same (fun k q1 q2 => ((set_blk (by omega) _ _).trans (set_blk (by omega) _ _)))).base (by omega), ((HP.out.setCell (p := ⟨w71.heap.size, 0, none⟩) hzl (.slice Ah0a R1.sorts.length ch0a)).setCell (p := ⟨w71.heap.size, 1, none⟩) hzl (.slice Ah0b R1.ops.length ch0b))⟩
  case rest =>
  obtain ⟨bzh, Ah0a, ch0a, Ah0b, ch0b, rfl, rfl, hle, hblk, ho0, hb⟩ := hcut
  obtain ⟨w72, hwn⟩ : ∃ W', W' = wc := ⟨_, rfl⟩
  subst hwn
  clear hbx
  have HG10 := Lib.hid ho0.reads
  have HCH0 := Lib.hid hblk
  clear ho0 hle hblk
  clear fa0 fb0 fa1 fb1 fa2 fb2 fa3 fb3 fa4 fb4
  replace HKG0 := Lib.hid (HKG0.out.below zG0 hb)
  replace zG0 : w52.heap.size ≤ w72.heap.size := Nat.le_trans zG0 hb.size
  replace HKh0 := Lib.hid (HKh0.out.below zh0 hb)
  replace zh0 : w70.heap.size ≤ w72.heap.size := Nat.le_trans zh0 hb.size
  replace HBs := Lib.hid (ex_keep HBs.out hb)
  clear hb
  have HBh : Hid (Below w72.heap.size w72 w72) := Below.refl _ _
  have u0a := blk_cell_at HCH0.out (i := 0) (u := .slice Ah0a R1.sorts.length ch0a) rfl
  have u0b := blk_cell_at HCH0.out (i := 1) (u := .slice Ah0b R1.ops.length ch0b) rfl
  have v0a := cell_keep HBs.out (blk_cell_at HCZ0.out (i := 0) (u := .slice Az0a R1.sorts.length cz0a) rfl)
  have v0b := cell_keep HBs.out (blk_cell_at HCZ0.out (i := 1) (u := .slice Az0b R1.ops.length cz0b) rfl)
  go_wp2_with fail
  refine (eqMap_is _ _ R1 R1 _ true (sameMp_self _) HG10.out (HZ0.out.keep HBs.out).reads).mono ?_
  rintro e w107 ⟨rfl, hb⟩
  clear u0a u0b v0a v0b
  clear HG10
  replace HKG0 := Lib.hid (HKG0.out.below zG0 hb)
  replace zG0 : w52.heap.size ≤ w107.heap.size := Nat.le_trans zG0 hb.size
  replace HKh0 := Lib.hid (HKh0.out.below zh0 hb)
  replace zh0 : w70.heap.size ≤ w107.heap.size := Nat.le_trans zh0 hb.size
  replace HBs := Lib.hid (ex_keep HBs.out hb)
  clear hb
  have u0a := HKG0.out.cell (by omega) HCG0.out.1
  have u0b := HKG0.out.cell (by omega) HCG0.out.2
  go_wp2_with fail
  refine (HH0.out _ HKh0.out).mono ?_
  rintro e w108 ⟨rfl, hb⟩
  clear u0a u0b
  replace HKG0 := Lib.hid (HKG0.out.below zG0 hb)
  replace zG0 : w52.heap.size ≤ w108.heap.size := Nat.le_trans zG0 hb.size
  replace HKh0 := Lib.hid (HKh0.out.below zh0 hb)
  replace zh0 : w70.heap.size ≤ w108.heap.size := Nat.le_trans zh0 hb.size
  replace HBs := Lib.hid (ex_keep HBs.out hb)
  clear hb
  go_wp2
  go_ret
  exact ⟨rfl, ex_keep HB.out HBs.out⟩

set_option maxRecDepth 100000 in
theorem lifted_FnExactMapThen (os : Os) (started : os.Started) (H : Type) (enc : TypeId × Value → H) :
    ReturnsInHanded {} Try.checked os 5 .any (Rows.fnExactMapThenSpec.pre6 enc Try.prog Try.f5 Rows.fnExactMapThenRow.domain false) (Rows.fnExactMapThenSpec.post enc Try.prog Try.f5 false true false false) := by
  refine returnsInHanded_of_change (C := Try.checked) own started (by kernel_rfl) Try.func5
    (ChangeSpec.witness6 (enc := enc) (C := Try.checked) false ⟨#[], #[.agg #[.int .i64 0, .slice none 0 0], .agg #[.int .i64 0, .slice none 0 0], .agg #[.int .i64 0, .slice none 0 0], .agg #[.slice none 0 0, .slice none 0 0], .agg #[.slice none 0 0, .slice none 0 0]], []⟩ 8 (by kernel_rfl) (by kernel_rfl) (by kernel_rfl) (by kernel_rfl)) ?_
  intro W base args ds gs before hval0 hW hcnd _
  have hval : ∀ (j : Nat) t v, Try.f5.params[j]? = some t → args[j]? = some v → Value.okWide Try.prog W .any base t v := hval0
  have hW' := hW
  obtain ⟨p, q, hA0, hV, rfl, hfz, hnd⟩ := hW
  have hA : DataW.TrodAll enc Try.prog W 0 (fun _ => true) true Try.f5.params.toList args.toList ds p := hA0
  rw [Try.params5] at hA hval
  obtain ⟨v0, vs0, d0, ds0, p0, q0, hargs, rfl, rfl, h0, r0⟩ := trodAll_cons hA
  obtain ⟨v1, vs1, d1, ds1, p1, q1, rfl, rfl, rfl, h1, r1⟩ := trodAll_cons r0
  obtain ⟨v2, vs2, d2, ds2, p2, q2, rfl, rfl, rfl, h2, r2⟩ := trodAll_cons r1
  obtain ⟨v3, vs3, d3, ds3, p3, q3, rfl, rfl, rfl, h3, r3⟩ := trodAll_cons r2
  obtain ⟨v4, vs4, d4, ds4, p4, q4, rfl, rfl, rfl, h4, r4⟩ := trodAll_cons r3
  obtain ⟨rfl, rfl, rfl⟩ := trodAll_nil r4
  obtain rfl : args = #[v0, v1, v2, v3, v4] := by cases args; simp_all
  obtain ⟨rfl, rfl⟩ := trodVars_none hV
  have k0 := h0
  have lt0 : ∀ x ∈ p0, x.block < W.heap.size := by obtain ⟨m, hm⟩ := k0; exact DataW.trod_lt m _ _ _ hm
  obtain ⟨s0, w0⟩ : ∃ s, RSig W v0 s := sig_of (hval 0 24 v0 rfl rfl) h0
  have k1 := h1
  have lt1 : ∀ x ∈ p1, x.block < W.heap.size := by obtain ⟨m, hm⟩ := k1; exact DataW.trod_lt m _ _ _ hm
  obtain ⟨s1, w1⟩ : ∃ s, RSig W v1 s := sig_of (hval 1 24 v1 rfl rfl) h1
  have k2 := h2
  have lt2 : ∀ x ∈ p2, x.block < W.heap.size := by obtain ⟨m, hm⟩ := k2; exact DataW.trod_lt m _ _ _ hm
  obtain ⟨s2, w2⟩ : ∃ s, RSig W v2 s := sig_of (hval 2 24 v2 rfl rfl) h2
  have k3 := h3
  have lt3 : ∀ x ∈ p3, x.block < W.heap.size := by obtain ⟨m, hm⟩ := k3; exact DataW.trod_lt m _ _ _ hm
  obtain ⟨s3, w3⟩ : ∃ s, RMap W v3 s := map_of (hval 3 27 v3 rfl rfl) h3
  have k4 := h4
  have lt4 : ∀ x ∈ p4, x.block < W.heap.size := by obtain ⟨m, hm⟩ := k4; exact DataW.trod_lt m _ _ _ hm
  obtain ⟨s4, w4⟩ : ∃ s, RMap W v4 s := map_of (hval 4 27 v4 rfl rfl) h4
  clear hA0 hval0
  refine (walk_FnExactMapThen _ s0 _ s1 _ s2 _ s3 _ s4 W w0 w1 w2 w3 w4).mono fun e W' ⟨he, bel⟩ => ?_
  subst he
  exact ⟨_, rfl, _, _, _, [], _, [], hW', trodAll_mk1 (shut_bool Try.underlying4 _), (trodAll_cons_mk (Below.trod laidOut (by kernel_rfl) (of_decide_eq_true (by kernel_rfl)) k0 bel lt0) (trodAll_cons_mk (Below.trod laidOut (by kernel_rfl) (of_decide_eq_true (by kernel_rfl)) k1 bel lt1) (trodAll_cons_mk (Below.trod laidOut (by kernel_rfl) (of_decide_eq_true (by kernel_rfl)) k2 bel lt2) (trodAll_cons_mk (Below.trod laidOut (by kernel_rfl) (of_decide_eq_true (by kernel_rfl)) k3 bel lt3) (trodAll_cons_mk (Below.trod laidOut (by kernel_rfl) (of_decide_eq_true (by kernel_rfl)) k4 bel lt4) trodAll_mk0))))), rfl, bel.frame _, fun h => by cases h⟩

theorem over_FnExactMapThen : Rows.fnExactMapThenRow.holds Try.pinned (OpenSpec.ofChange Rows.fnExactMapThenSpec) :=
  OpenClaim.holds_of_wide 5 Try.f5 rfl rfl rfl rfl rfl rfl rfl ⟨rfl, rfl, rfl, rfl, rfl⟩ rfl rfl rfl rfl rfl (by kernel_rfl) Try.func5 (by kernel_rfl)
    (of_decide_eq_true (by kernel_rfl)) (by unfold Func.isWrapper; first | (rw [if_pos (by decide +kernel)]; kernel_rfl) | (rw [if_neg (by decide +kernel)]; exact ⟨rfl, rfl⟩))
    (fun os started H enc _ => lifted_FnExactMapThen os started H enc)

theorem proved_FnExactMapThen : Rows.FnExactMapThenSaid := over_FnExactMapThen
end Go.Proofs.Ytonainidjkcoeaa
