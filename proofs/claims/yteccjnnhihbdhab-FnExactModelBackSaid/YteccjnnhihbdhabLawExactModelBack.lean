/- FnExactModelBack answers true at every two signatures, map and model. No condition. -/
import Derived.Test.YteccjnnhihbdhabModG
import Derived.Test.YteccjnnhihbdhabExB
import Derived.Test.YteccjnnhihbdhabFrameM
import Derived.Test.YteccjnnhihbdhabFrameMd
import Derived.Test.YteccjnnhihbdhabModBkS
namespace Go.Proofs.Yteccjnnhihbdhab
open Go.ChangeShapes Go.WideShapes Go.ChangeAt Go.RowKit
set_option linter.unusedVariables false
set_option linter.unusedSimpArgs false

theorem modBackM_fits (a b : MSig) (f : MMap) (m : MModel) : FitsMd (modBackM a b f m) := by
  unfold modBackM
  split
  · rename_i h
    simp only [Bool.and_eq_true] at h
    have hf := mapOk_facts h.1
    have hm := model_facts h.2
    have v := valid_sorts hf.va
    have := hf.sl
    have := hf.ol
    refine ⟨by simp only [ledM_len]; omega, by simp only [List.length_map]; omega, ?_⟩
    intro row hr
    obtain ⟨o, ho, rfl⟩ := List.mem_map.1 hr
    have hb := hf.ob o ho
    have hq : o.toNat < m.tables.length := by rw [hm.tl]; omega
    rw [getD_at _ hq]
    have := table_len hm hq
    omega
  · exact ⟨by simp, by simp, by simp⟩

set_option maxHeartbeats 12800000 in
set_option maxRecDepth 100000 in
theorem walk_FnExactModelBack (v0 : Value) (s0 : MSig) (v1 : Value) (s1 : MSig) (v2 : Value) (s2 : MMap) (v3 : Value) (s3 : MModel) (w : World) (h0 : RSig w v0 s0) (h1 : RSig w v1 s1) (h2 : RMap w v2 s2) (h3 : RModel w v3 s3) :
    Calls Try.prog 3 #[v0, v1, v2, v3] w fun e w' => e = .returned (.bool true) ∧ Below w.heap.size w w' := by
  have HB : Hid (Below w.heap.size w w) := Below.refl _ _
  obtain ⟨A0a, c0a, rfl⟩ := h0.form
  have HW0 := Lib.hid h0
  have hb := below_alloc (w) (.cells #[.int .i64 s0.sorts, .slice A0a s0.ops.length c0a] 24)
  have fa0 := (bx_cells (w) (.int .i64 s0.sorts) (.slice A0a s0.ops.length c0a) 24).1
  have fb0 := (bx_cells (w) (.int .i64 s0.sorts) (.slice A0a s0.ops.length c0a) 24).2
  replace HB := Lib.hid (ex_keep HB.out hb)
  clear hb h0
  obtain ⟨A1a, c1a, rfl⟩ := h1.form
  have HW1 := Lib.hid h1
  have hb := below_alloc (w.alloc (.cells #[.int .i64 s0.sorts, .slice A0a s0.ops.length c0a] 24)) (.cells #[.int .i64 s1.sorts, .slice A1a s1.ops.length c1a] 24)
  replace fa0 := cell_keep hb fa0
  replace fb0 := cell_keep hb fb0
  have fa1 := (bx_cells (w.alloc (.cells #[.int .i64 s0.sorts, .slice A0a s0.ops.length c0a] 24)) (.int .i64 s1.sorts) (.slice A1a s1.ops.length c1a) 24).1
  have fb1 := (bx_cells (w.alloc (.cells #[.int .i64 s0.sorts, .slice A0a s0.ops.length c0a] 24)) (.int .i64 s1.sorts) (.slice A1a s1.ops.length c1a) 24).2
  simp only [World.size_alloc] at fa1 fb1
  replace HB := Lib.hid (ex_keep HB.out hb)
  clear hb h1
  obtain ⟨A2a, c2a, A2b, c2b, rfl⟩ := h2.form
  have HW2 := Lib.hid h2
  have hb := below_alloc ((w.alloc (.cells #[.int .i64 s0.sorts, .slice A0a s0.ops.length c0a] 24)).alloc (.cells #[.int .i64 s1.sorts, .slice A1a s1.ops.length c1a] 24)) (.cells #[.slice A2a s2.sorts.length c2a, .slice A2b s2.ops.length c2b] 27)
  replace fa0 := cell_keep hb fa0
  replace fb0 := cell_keep hb fb0
  replace fa1 := cell_keep hb fa1
  replace fb1 := cell_keep hb fb1
  have fa2 := (bx_cells ((w.alloc (.cells #[.int .i64 s0.sorts, .slice A0a s0.ops.length c0a] 24)).alloc (.cells #[.int .i64 s1.sorts, .slice A1a s1.ops.length c1a] 24)) (.slice A2a s2.sorts.length c2a) (.slice A2b s2.ops.length c2b) 27).1
  have fb2 := (bx_cells ((w.alloc (.cells #[.int .i64 s0.sorts, .slice A0a s0.ops.length c0a] 24)).alloc (.cells #[.int .i64 s1.sorts, .slice A1a s1.ops.length c1a] 24)) (.slice A2a s2.sorts.length c2a) (.slice A2b s2.ops.length c2b) 27).2
  simp only [World.size_alloc] at fa2 fb2
  replace HB := Lib.hid (ex_keep HB.out hb)
  clear hb h2
  obtain ⟨A3a, c3a, A3b, c3b, rfl⟩ := h3.form
  have HW3 := Lib.hid h3
  have hb := below_alloc (((w.alloc (.cells #[.int .i64 s0.sorts, .slice A0a s0.ops.length c0a] 24)).alloc (.cells #[.int .i64 s1.sorts, .slice A1a s1.ops.length c1a] 24)).alloc (.cells #[.slice A2a s2.sorts.length c2a, .slice A2b s2.ops.length c2b] 27)) (.cells #[.slice A3a s3.sizes.length c3a, .slice A3b s3.tables.length c3b] 29)
  replace fa0 := cell_keep hb fa0
  replace fb0 := cell_keep hb fb0
  replace fa1 := cell_keep hb fa1
  replace fb1 := cell_keep hb fb1
  replace fa2 := cell_keep hb fa2
  replace fb2 := cell_keep hb fb2
  have fa3 := (bx_cells (((w.alloc (.cells #[.int .i64 s0.sorts, .slice A0a s0.ops.length c0a] 24)).alloc (.cells #[.int .i64 s1.sorts, .slice A1a s1.ops.length c1a] 24)).alloc (.cells #[.slice A2a s2.sorts.length c2a, .slice A2b s2.ops.length c2b] 27)) (.slice A3a s3.sizes.length c3a) (.slice A3b s3.tables.length c3b) 29).1
  have fb3 := (bx_cells (((w.alloc (.cells #[.int .i64 s0.sorts, .slice A0a s0.ops.length c0a] 24)).alloc (.cells #[.int .i64 s1.sorts, .slice A1a s1.ops.length c1a] 24)).alloc (.cells #[.slice A2a s2.sorts.length c2a, .slice A2b s2.ops.length c2b] 27)) (.slice A3a s3.sizes.length c3a) (.slice A3b s3.tables.length c3b) 29).2
  simp only [World.size_alloc] at fa3 fb3
  replace HB := Lib.hid (ex_keep HB.out hb)
  clear hb h3
  go_enter Try.func3, Try.ntmps3
  go_wp2_with fail
  refine (szSig_any _ s0 _ _ (HW0.out.keep HB.out) (by omega) (by omega)).mono ?_
  rintro e w1 ⟨r1, rfl, hr, hb⟩
  replace fa0 := cell_keep hb fa0
  replace fb0 := cell_keep hb fb0
  replace fa1 := cell_keep hb fa1
  replace fb1 := cell_keep hb fb1
  replace fa2 := cell_keep hb fa2
  replace fb2 := cell_keep hb fb2
  replace fa3 := cell_keep hb fa3
  replace fb3 := cell_keep hb fb3
  replace HB := Lib.hid (ex_keep HB.out hb)
  clear hb
  by_cases hneg1 : r1 < 0
  · clear hr
    go_wp2
    go_ret
    exact ⟨rfl, HB.out⟩
  obtain ⟨hp1, hq1, hfit⟩ := hr.resolve_left hneg1
  have HF0 := Lib.hid hfit
  clear hr hfit
  go_wp2_with fail
  refine (szSig_any _ s1 _ _ (HW1.out.keep HB.out) (by omega) (by omega)).mono ?_
  rintro e w2 ⟨r2, rfl, hr, hb⟩
  replace fa0 := cell_keep hb fa0
  replace fb0 := cell_keep hb fb0
  replace fa1 := cell_keep hb fa1
  replace fb1 := cell_keep hb fb1
  replace fa2 := cell_keep hb fa2
  replace fb2 := cell_keep hb fb2
  replace fa3 := cell_keep hb fa3
  replace fb3 := cell_keep hb fb3
  replace HB := Lib.hid (ex_keep HB.out hb)
  clear hb
  by_cases hneg2 : r2 < 0
  · clear hr
    go_wp2
    go_ret
    exact ⟨rfl, HB.out⟩
  obtain ⟨hp2, hq2, hfit⟩ := hr.resolve_left hneg2
  have HF1 := Lib.hid hfit
  clear hr hfit
  go_wp2_with fail
  refine (szMap_any _ s2 _ _ (HW2.out.keep HB.out) (by omega) (by omega)).mono ?_
  rintro e w3 ⟨r3, rfl, hr, hb⟩
  replace fa0 := cell_keep hb fa0
  replace fb0 := cell_keep hb fb0
  replace fa1 := cell_keep hb fa1
  replace fb1 := cell_keep hb fb1
  replace fa2 := cell_keep hb fa2
  replace fb2 := cell_keep hb fb2
  replace fa3 := cell_keep hb fa3
  replace fb3 := cell_keep hb fb3
  replace HB := Lib.hid (ex_keep HB.out hb)
  clear hb
  by_cases hneg3 : r3 < 0
  · clear hr
    go_wp2
    go_ret
    exact ⟨rfl, HB.out⟩
  obtain ⟨hp3, hq3, hfit⟩ := hr.resolve_left hneg3
  have HF2 := Lib.hid hfit
  clear hr hfit
  go_wp2_with fail
  refine (szModel_any _ s3 _ _ (HW3.out.keep HB.out) (by omega) (by omega)).mono ?_
  rintro e w4 ⟨r4, rfl, hr, hb⟩
  replace fa0 := cell_keep hb fa0
  replace fb0 := cell_keep hb fb0
  replace fa1 := cell_keep hb fa1
  replace fb1 := cell_keep hb fb1
  replace fa2 := cell_keep hb fa2
  replace fb2 := cell_keep hb fb2
  replace fa3 := cell_keep hb fa3
  replace fb3 := cell_keep hb fb3
  replace HB := Lib.hid (ex_keep HB.out hb)
  clear hb
  by_cases hneg4 : r4 < 0
  · clear hr
    go_wp2
    go_ret
    exact ⟨rfl, HB.out⟩
  obtain ⟨hp4, hq4, hfit⟩ := hr.resolve_left hneg4
  have HF3 := Lib.hid hfit
  clear hr hfit
  obtain ⟨R, hR⟩ : ∃ R, R = modBackM s0 s1 s2 s3 := ⟨_, rfl⟩
  have HLEN := Lib.hid (show _ from modBackM_fits s0 s1 s2 s3)
  rw [← hR] at HLEN
  have HR := Lib.hid hR.symm
  clear hR
  have hbx := World.block_lt_of_cell? w4 _ fb3
  simp only at hbx
  go_wp2_with fail
  go_cut [10] (fun s0 wx => ∃ (bz : Nat) (Az0a : Option Addr) (cz0a : Nat) (Az0b : Option Addr) (cz0b : Nat), s0 = .pointer (some ⟨bz, 0, none⟩) ∧ w4.heap.size ≤ bz ∧ wx.heap[bz]? = some (.cells #[.slice Az0a R.sizes.length cz0a, .slice Az0b R.tables.length cz0b] 33 (0, 0)) ∧ OModel wx w4.heap.size (.agg #[.slice Az0a R.sizes.length cz0a, .slice Az0b R.tables.length cz0b]) R ∧ Below w4.heap.size w4 wx)
  case first =>
    refine wp_region_held_drew (S := (fun w' => w'.cell? ⟨w.heap.size, 0, none⟩ = some (.int .i64 s0.sorts) ∧ w'.cell? ⟨w.heap.size, 1, none⟩ = some (.slice A0a s0.ops.length c0a) ∧ w'.cell? ⟨w.heap.size + 1, 0, none⟩ = some (.int .i64 s1.sorts) ∧ w'.cell? ⟨w.heap.size + 1, 1, none⟩ = some (.slice A1a s1.ops.length c1a) ∧ w'.cell? ⟨w.heap.size + 1 + 1, 0, none⟩ = some (.slice A2a s2.sorts.length c2a) ∧ w'.cell? ⟨w.heap.size + 1 + 1, 1, none⟩ = some (.slice A2b s2.ops.length c2b) ∧ w'.cell? ⟨w.heap.size + 1 + 1 + 1, 0, none⟩ = some (.slice A3a s3.sizes.length c3a) ∧ w'.cell? ⟨w.heap.size + 1 + 1 + 1, 1, none⟩ = some (.slice A3b s3.tables.length c3b))) (by kernel_rfl) ?_ (fun hHeld => ?_)
    · exact ⟨fa0, fb0, fa1, fb1, fa2, fb2, fa3, fb3⟩
    refine wpAnyH_take (i := 0) (oi := _) (v := ?_) rfl (by kernel_rfl) (by kernel_rfl) (by kernel_rfl) (fun _ _ _ h => h) (Or.inl ⟨by rfl, ?_⟩) (by assumption) ?_
    rotate_left
    · first | (intro w' hSw; (try dsimp only at hSw); go_simp; done) | (intro w' hSw; (try dsimp only at hSw); go_simp; with_reducible rfl)
    try simp only [Act.put, List.getElem_toArray, List.getElem_cons_zero, List.getElem_cons_succ, List.setIfInBounds_toArray, List.set_cons_zero, List.set_cons_succ]
    refine wpAnyH_take (i := 2) (oi := _) (v := ?_) rfl (by kernel_rfl) (by kernel_rfl) (by kernel_rfl) (fun _ _ _ h => h) (Or.inl ⟨by rfl, ?_⟩) (by assumption) ?_
    rotate_left
    · first | (intro w' hSw; (try dsimp only at hSw); go_simp; done) | (intro w' hSw; (try dsimp only at hSw); go_simp; with_reducible rfl)
    try simp only [Act.put, List.getElem_toArray, List.getElem_cons_zero, List.getElem_cons_succ, List.setIfInBounds_toArray, List.set_cons_zero, List.set_cons_succ]
    refine wpAnyH_take (i := 4) (oi := _) (v := ?_) rfl (by kernel_rfl) (by kernel_rfl) (by kernel_rfl) (fun _ _ _ h => h) (Or.inl ⟨by rfl, ?_⟩) (by assumption) ?_
    rotate_left
    · first | (intro w' hSw; (try dsimp only at hSw); go_simp; done) | (intro w' hSw; (try dsimp only at hSw); go_simp; with_reducible rfl)
    try simp only [Act.put, List.getElem_toArray, List.getElem_cons_zero, List.getElem_cons_succ, List.setIfInBounds_toArray, List.set_cons_zero, List.set_cons_succ]
    refine wpAnyH_take (i := 6) (oi := _) (v := ?_) rfl (by kernel_rfl) (by kernel_rfl) (by kernel_rfl) (fun _ _ _ h => h) (Or.inl ⟨by rfl, ?_⟩) (by assumption) ?_
    rotate_left
    · first | (intro w' hSw; (try dsimp only at hSw); go_simp; done) | (intro w' hSw; (try dsimp only at hSw); go_simp; with_reducible rfl)
    try simp only [Act.put, List.getElem_toArray, List.getElem_cons_zero, List.getElem_cons_succ, List.setIfInBounds_toArray, List.set_cons_zero, List.set_cons_succ]
    refine wpAnyH_ready (rs := [1, 9]) (by kernel_rfl) (by simp) ?_
    refine AllReadyH.cons (o := _) rfl (fun K hK => ?_) (AllReadyH.cons (o := _) rfl (fun K hK => ?_) AllReadyH.nil)
    · skip
      go_simp
      refine (toSig_any _ s0 _ (HW0.out.keep (ex_drew HB.out)) HF0.out).mono ?_
      rintro e w6 ⟨y0, rfl, ho, hb⟩
      replace hb := ex_undrew hb
      replace fa0 := cell_keep hb fa0
      replace fb0 := cell_keep hb fb0
      replace fa1 := cell_keep hb fa1
      replace fb1 := cell_keep hb fb1
      replace fa2 := cell_keep hb fa2
      replace fb2 := cell_keep hb fb2
      replace fa3 := cell_keep hb fa3
      replace fb3 := cell_keep hb fb3
      have HP := Lib.hid hb
      have P0 := Lib.hid ho.reads
      obtain ⟨AY0a, cY0a, rfl⟩ := ho.reads.form
      clear ho hb
      go_wp2_with fail
      refine hK.out _ _ ?_ (fun hHeld => ?_)
      · exact ⟨fa0, fb0, fa1, fb1, fa2, fb2, fa3, fb3⟩
      clear hK K
      try simp only [Act.put, List.getElem_toArray, List.getElem_cons_zero, List.getElem_cons_succ, List.setIfInBounds_toArray, List.set_cons_zero, List.set_cons_succ]
      refine wpAnyH_ready (rs := [3, 9]) (by kernel_rfl) (by simp) ?_
      refine AllReadyH.cons (o := _) rfl (fun K hK => ?_) (AllReadyH.cons (o := _) rfl (fun K hK => ?_) AllReadyH.nil)
      · skip
        go_simp
        refine (toSig_any _ s1 _ (HW1.out.keep (ex_keep HB.out HP.out)) HF1.out).mono ?_
        rintro e w7 ⟨y1, rfl, ho, hb⟩
        replace fa0 := cell_keep hb fa0
        replace fb0 := cell_keep hb fb0
        replace fa1 := cell_keep hb fa1
        replace fb1 := cell_keep hb fb1
        replace fa2 := cell_keep hb fa2
        replace fb2 := cell_keep hb fb2
        replace fa3 := cell_keep hb fa3
        replace fb3 := cell_keep hb fb3
        replace P0 := Lib.hid (P0.out.keep hb)
        replace HP := Lib.hid (ex_keep HP.out hb)
        have P1 := Lib.hid ho.reads
        obtain ⟨AY1a, cY1a, rfl⟩ := ho.reads.form
        clear ho hb
        go_wp2_with fail
        refine hK.out _ _ ?_ (fun hHeld => ?_)
        · exact ⟨fa0, fb0, fa1, fb1, fa2, fb2, fa3, fb3⟩
        clear hK K
        try simp only [Act.put, List.getElem_toArray, List.getElem_cons_zero, List.getElem_cons_succ, List.setIfInBounds_toArray, List.set_cons_zero, List.set_cons_succ]
        refine wpAnyH_ready (rs := [5, 9]) (by kernel_rfl) (by simp) ?_
        refine AllReadyH.cons (o := _) rfl (fun K hK => ?_) (AllReadyH.cons (o := _) rfl (fun K hK => ?_) AllReadyH.nil)
        · skip
          go_simp
          refine (toMap_any _ s2 _ (HW2.out.keep (ex_keep HB.out HP.out)) HF2.out).mono ?_
          rintro e w8 ⟨y2, rfl, ho, hb⟩
          replace fa0 := cell_keep hb fa0
          replace fb0 := cell_keep hb fb0
          replace fa1 := cell_keep hb fa1
          replace fb1 := cell_keep hb fb1
          replace fa2 := cell_keep hb fa2
          replace fb2 := cell_keep hb fb2
          replace fa3 := cell_keep hb fa3
          replace fb3 := cell_keep hb fb3
          replace P0 := Lib.hid (P0.out.keep hb)
          replace P1 := Lib.hid (P1.out.keep hb)
          replace HP := Lib.hid (ex_keep HP.out hb)
          have P2 := Lib.hid ho.reads
          obtain ⟨AY2a, cY2a, AY2b, cY2b, rfl⟩ := ho.reads.form
          clear ho hb
          go_wp2_with fail
          refine hK.out _ _ ?_ (fun hHeld => ?_)
          · exact ⟨fa0, fb0, fa1, fb1, fa2, fb2, fa3, fb3⟩
          clear hK K
          try simp only [Act.put, List.getElem_toArray, List.getElem_cons_zero, List.getElem_cons_succ, List.setIfInBounds_toArray, List.set_cons_zero, List.set_cons_succ]
          refine wpAnyH_ready (rs := [7, 9]) (by kernel_rfl) (by simp) ?_
          refine AllReadyH.cons (o := _) rfl (fun K hK => ?_) (AllReadyH.cons (o := _) rfl (fun K hK => ?_) AllReadyH.nil)
          · skip
            go_simp
            refine (toModel_any _ s3 _ (HW3.out.keep (ex_keep HB.out HP.out)) HF3.out).mono ?_
            rintro e w9 ⟨y3, rfl, ho, hb⟩
            replace fa0 := cell_keep hb fa0
            replace fb0 := cell_keep hb fb0
            replace fa1 := cell_keep hb fa1
            replace fb1 := cell_keep hb fb1
            replace fa2 := cell_keep hb fa2
            replace fb2 := cell_keep hb fb2
            replace fa3 := cell_keep hb fa3
            replace fb3 := cell_keep hb fb3
            replace P0 := Lib.hid (P0.out.keep hb)
            replace P1 := Lib.hid (P1.out.keep hb)
            replace P2 := Lib.hid (P2.out.keep hb)
            replace HP := Lib.hid (ex_keep HP.out hb)
            have P3 := Lib.hid ho.reads
            obtain ⟨AY3a, cY3a, AY3b, cY3b, rfl⟩ := ho.reads.form
            clear ho hb
            go_wp2_with fail
            refine hK.out _ _ ?_ (fun hHeld => ?_)
            · exact ⟨fa0, fb0, fa1, fb1, fa2, fb2, fa3, fb3⟩
            clear hK K
            try simp only [Act.put, List.getElem_toArray, List.getElem_cons_zero, List.getElem_cons_succ, List.setIfInBounds_toArray, List.set_cons_zero, List.set_cons_succ]
            refine wpAnyH_ready (rs := [8, 9]) (by kernel_rfl) (by simp) ?_
            refine AllReadyH.cons (o := _) rfl (fun K hK => ?_) (AllReadyH.cons (o := _) rfl (fun K hK => ?_) AllReadyH.nil)
            · skip
              go_simp
              have hs1 := HP.out.size
              refine (specModelBack_any s0 s1 s2 s3 _ _ _ _ _ P0.out P1.out P2.out P3.out).mono ?_
              rw [HR.out]
              rintro e w10 ⟨z0, rfl, ho0, hb⟩
              obtain ⟨Az0a, cz0a, Az0b, cz0b, rfl⟩ := ho0.reads.form
              have HO := Lib.hid ho0
              have hs2 := hb.size
              replace fa0 := cell_keep hb fa0
              replace fb0 := cell_keep hb fb0
              replace fa1 := cell_keep hb fa1
              replace fb1 := cell_keep hb fb1
              replace fa2 := cell_keep hb fa2
              replace fb2 := cell_keep hb fb2
              replace fa3 := cell_keep hb fa3
              replace fb3 := cell_keep hb fb3
              replace HP := Lib.hid (ex_keep HP.out hb)
              clear ho0 hb P0 P1 P2 P3
              go_wp2_with fail
              refine hK.out _ _ ?_ (fun hHeld => ?_)
              · exact ⟨fa0, fb0, fa1, fb1, fa2, fb2, fa3, fb3⟩
              clear hK K
              try simp only [Act.put, List.getElem_toArray, List.getElem_cons_zero, List.getElem_cons_succ, List.setIfInBounds_toArray, List.set_cons_zero, List.set_cons_succ]
              refine wpAnyH_ready (rs := [9]) (by kernel_rfl) (by simp) ?_
              refine AllReadyH.cons (o := _) rfl (fun K hK => ?_) AllReadyH.nil
              have hzl := HP.out.size
              go_simp
              have hb := below_alloc w10 (.cells #[.slice none 0 0, .slice none 0 0] 33)
              have hz := heap_alloc_new w10 (.cells #[.slice none 0 0, .slice none 0 0] 33)
              generalize hWA : w10.alloc (.cells #[.slice none 0 0, .slice none 0 0] 33) = w11 at hb hz ⊢
              clear hWA
              have HZb := Lib.hid (show w11.heap[w10.heap.size]? = some (.cells #[.slice none 0 0, .slice none 0 0] 33 (0, 0)) from hz)
              have HLATE := Lib.hid hb.block
              replace fa0 := cell_keep hb fa0
              replace fb0 := cell_keep hb fb0
              replace fa1 := cell_keep hb fa1
              replace fb1 := cell_keep hb fb1
              replace fa2 := cell_keep hb fa2
              replace fb2 := cell_keep hb fb2
              replace fa3 := cell_keep hb fa3
              replace fb3 := cell_keep hb fb3
              replace HP := Lib.hid (ex_keep HP.out hb)
              have j0 := blk_cell HZb.out 0
              have jf0 := blk_free HZb.out 0
              have j1 := blk_cell HZb.out 1
              have jf1 := blk_free HZb.out 1
              simp at j0 j1
              clear hb hz
              go_wp2_with fail
              refine hK.out _ _ ?_ (fun hHeld => ?_)
              · exact ⟨fa0, fb0, fa1, fb1, fa2, fb2, fa3, fb3⟩
              clear hK K
              try simp only [Act.put, List.getElem_toArray, List.getElem_cons_zero, List.getElem_cons_succ, List.setIfInBounds_toArray, List.set_cons_zero, List.set_cons_succ]
              refine wpAnyH_ready (rs := [10]) (by kernel_rfl) (by simp) ?_
              refine AllReadyH.cons (o := _) rfl (fun K hK => ?_) AllReadyH.nil
              go_simp
              go_wp2_with fail
              refine hK.out _ _ ?_ (fun hHeld => ?_)
              · exact ⟨(set_far (by omega) _ _ _).trans ((set_far (by omega) _ _ _).trans (fa0)), (set_far (by omega) _ _ _).trans ((set_far (by omega) _ _ _).trans (fb0)), (set_far (by omega) _ _ _).trans ((set_far (by omega) _ _ _).trans (fa1)), (set_far (by omega) _ _ _).trans ((set_far (by omega) _ _ _).trans (fb1)), (set_far (by omega) _ _ _).trans ((set_far (by omega) _ _ _).trans (fa2)), (set_far (by omega) _ _ _).trans ((set_far (by omega) _ _ _).trans (fb2)), (set_far (by omega) _ _ _).trans ((set_far (by omega) _ _ _).trans (fa3)), (set_far (by omega) _ _ _).trans ((set_far (by omega) _ _ _).trans (fb3))⟩
              clear hK K
              try simp only [Act.put, List.getElem_toArray, List.getElem_cons_zero, List.getElem_cons_succ, List.setIfInBounds_toArray, List.set_cons_zero, List.set_cons_succ]
              refine wpAnyH_done (by kernel_rfl) ?_ _
              go_wp2_with fail
              go_meet
              exact ⟨_, _, _, _, _, rfl, hzl, (blk_set (blk_set HZb.out 0 (.slice Az0a R.sizes.length cz0a)) 1 (.slice Az0b R.tables.length cz0b)), (HO.out.same (fun k q1 q2 => ((set_blk (by omega) _ _).trans (set_blk (by omega) _ _)).trans (HLATE.out k q2))).base (by omega), ((HP.out.setCell (p := ⟨w10.heap.size, 0, none⟩) hzl (.slice Az0a R.sizes.length cz0a)).setCell (p := ⟨w10.heap.size, 1, none⟩) hzl (.slice Az0b R.tables.length cz0b))⟩
            · skip
              go_simp
              have hb := below_alloc w9 (.cells #[.slice none 0 0, .slice none 0 0] 33)
              have hz := heap_alloc_new w9 (.cells #[.slice none 0 0, .slice none 0 0] 33)
              generalize hWA : w9.alloc (.cells #[.slice none 0 0, .slice none 0 0] 33) = w12 at hb hz ⊢
              clear hWA
              have HZb := Lib.hid (show w12.heap[w9.heap.size]? = some (.cells #[.slice none 0 0, .slice none 0 0] 33 (0, 0)) from hz)
              have hzl : w4.heap.size ≤ w9.heap.size := HP.out.size
              replace fa0 := cell_keep hb fa0
              replace fb0 := cell_keep hb fb0
              replace fa1 := cell_keep hb fa1
              replace fb1 := cell_keep hb fb1
              replace fa2 := cell_keep hb fa2
              replace fb2 := cell_keep hb fb2
              replace fa3 := cell_keep hb fa3
              replace fb3 := cell_keep hb fb3
              replace P0 := Lib.hid (P0.out.keep hb)
              replace P1 := Lib.hid (P1.out.keep hb)
              replace P2 := Lib.hid (P2.out.keep hb)
              replace P3 := Lib.hid (P3.out.keep hb)
              replace HP := Lib.hid (ex_keep HP.out hb)
              clear hb hz
              go_wp2_with fail
              refine hK.out _ _ ?_ (fun hHeld => ?_)
              · exact ⟨fa0, fb0, fa1, fb1, fa2, fb2, fa3, fb3⟩
              clear hK K
              try simp only [Act.put, List.getElem_toArray, List.getElem_cons_zero, List.getElem_cons_succ, List.setIfInBounds_toArray, List.set_cons_zero, List.set_cons_succ]
              refine wpAnyH_ready (rs := [8]) (by kernel_rfl) (by simp) ?_
              refine AllReadyH.cons (o := _) rfl (fun K hK => ?_) AllReadyH.nil
              go_simp
              have hs1 := HP.out.size
              have hbl := (Array.getElem?_eq_some_iff.1 HZb.out).1
              refine (specModelBack_any s0 s1 s2 s3 _ _ _ _ _ P0.out P1.out P2.out P3.out).mono ?_
              rw [HR.out]
              rintro e w13 ⟨z0, rfl, ho0, hb⟩
              obtain ⟨Az0a, cz0a, Az0b, cz0b, rfl⟩ := ho0.reads.form
              have HO := Lib.hid ho0
              have hs2 := hb.size
              replace fa0 := cell_keep hb fa0
              replace fb0 := cell_keep hb fb0
              replace fa1 := cell_keep hb fa1
              replace fb1 := cell_keep hb fb1
              replace fa2 := cell_keep hb fa2
              replace fb2 := cell_keep hb fb2
              replace fa3 := cell_keep hb fa3
              replace fb3 := cell_keep hb fb3
              replace HP := Lib.hid (ex_keep HP.out hb)
              replace HZb := Lib.hid (blk_at HZb.out hb)
              have j0 := blk_cell HZb.out 0
              have jf0 := blk_free HZb.out 0
              have j1 := blk_cell HZb.out 1
              have jf1 := blk_free HZb.out 1
              simp at j0 j1
              clear ho0 hb P0 P1 P2 P3
              go_wp2_with fail
              refine hK.out _ _ ?_ (fun hHeld => ?_)
              · exact ⟨fa0, fb0, fa1, fb1, fa2, fb2, fa3, fb3⟩
              clear hK K
              try simp only [Act.put, List.getElem_toArray, List.getElem_cons_zero, List.getElem_cons_succ, List.setIfInBounds_toArray, List.set_cons_zero, List.set_cons_succ]
              refine wpAnyH_ready (rs := [10]) (by kernel_rfl) (by simp) ?_
              refine AllReadyH.cons (o := _) rfl (fun K hK => ?_) AllReadyH.nil
              go_simp
              go_wp2_with fail
              refine hK.out _ _ ?_ (fun hHeld => ?_)
              · exact ⟨(set_far (by omega) _ _ _).trans ((set_far (by omega) _ _ _).trans (fa0)), (set_far (by omega) _ _ _).trans ((set_far (by omega) _ _ _).trans (fb0)), (set_far (by omega) _ _ _).trans ((set_far (by omega) _ _ _).trans (fa1)), (set_far (by omega) _ _ _).trans ((set_far (by omega) _ _ _).trans (fb1)), (set_far (by omega) _ _ _).trans ((set_far (by omega) _ _ _).trans (fa2)), (set_far (by omega) _ _ _).trans ((set_far (by omega) _ _ _).trans (fb2)), (set_far (by omega) _ _ _).trans ((set_far (by omega) _ _ _).trans (fa3)), (set_far (by omega) _ _ _).trans ((set_far (by omega) _ _ _).trans (fb3))⟩
              clear hK K
              try simp only [Act.put, List.getElem_toArray, List.getElem_cons_zero, List.getElem_cons_succ, List.setIfInBounds_toArray, List.set_cons_zero, List.set_cons_succ]
              refine wpAnyH_done (by kernel_rfl) ?_ _
              go_wp2_with fail
              go_meet
              exact ⟨_, _, _, _, _, rfl, hzl, (blk_set (blk_set HZb.out 0 (.slice Az0a R.sizes.length cz0a)) 1 (.slice Az0b R.tables.length cz0b)), (HO.out.same (fun k q1 q2 => ((set_blk (by omega) _ _).trans (set_blk (by omega) _ _)))).base (by omega), ((HP.out.setCell (p := ⟨w9.heap.size, 0, none⟩) hzl (.slice Az0a R.sizes.length cz0a)).setCell (p := ⟨w9.heap.size, 1, none⟩) hzl (.slice Az0b R.tables.length cz0b))⟩
          · skip
            go_simp
            have hb := below_alloc w8 (.cells #[.slice none 0 0, .slice none 0 0] 33)
            have hz := heap_alloc_new w8 (.cells #[.slice none 0 0, .slice none 0 0] 33)
            generalize hWA : w8.alloc (.cells #[.slice none 0 0, .slice none 0 0] 33) = w14 at hb hz ⊢
            clear hWA
            have HZb := Lib.hid (show w14.heap[w8.heap.size]? = some (.cells #[.slice none 0 0, .slice none 0 0] 33 (0, 0)) from hz)
            have hzl : w4.heap.size ≤ w8.heap.size := HP.out.size
            replace fa0 := cell_keep hb fa0
            replace fb0 := cell_keep hb fb0
            replace fa1 := cell_keep hb fa1
            replace fb1 := cell_keep hb fb1
            replace fa2 := cell_keep hb fa2
            replace fb2 := cell_keep hb fb2
            replace fa3 := cell_keep hb fa3
            replace fb3 := cell_keep hb fb3
            replace P0 := Lib.hid (P0.out.keep hb)
            replace P1 := Lib.hid (P1.out.keep hb)
            replace P2 := Lib.hid (P2.out.keep hb)
            replace HP := Lib.hid (ex_keep HP.out hb)
            clear hb hz
            go_wp2_with fail
            refine hK.out _ _ ?_ (fun hHeld => ?_)
            · exact ⟨fa0, fb0, fa1, fb1, fa2, fb2, fa3, fb3⟩
            clear hK K
            try simp only [Act.put, List.getElem_toArray, List.getElem_cons_zero, List.getElem_cons_succ, List.setIfInBounds_toArray, List.set_cons_zero, List.set_cons_succ]
            refine wpAnyH_ready (rs := [7]) (by kernel_rfl) (by simp) ?_
            refine AllReadyH.cons (o := _) rfl (fun K hK => ?_) AllReadyH.nil
            go_simp
            refine (toModel_any _ s3 _ (HW3.out.keep (ex_keep HB.out HP.out)) HF3.out).mono ?_
            rintro e w15 ⟨y3, rfl, ho, hb⟩
            replace fa0 := cell_keep hb fa0
            replace fb0 := cell_keep hb fb0
            replace fa1 := cell_keep hb fa1
            replace fb1 := cell_keep hb fb1
            replace fa2 := cell_keep hb fa2
            replace fb2 := cell_keep hb fb2
            replace fa3 := cell_keep hb fa3
            replace fb3 := cell_keep hb fb3
            replace P0 := Lib.hid (P0.out.keep hb)
            replace P1 := Lib.hid (P1.out.keep hb)
            replace P2 := Lib.hid (P2.out.keep hb)
            replace HP := Lib.hid (ex_keep HP.out hb)
            replace HZb := Lib.hid (blk_at HZb.out hb)
            have P3 := Lib.hid ho.reads
            obtain ⟨AY3a, cY3a, AY3b, cY3b, rfl⟩ := ho.reads.form
            clear ho hb
            go_wp2_with fail
            refine hK.out _ _ ?_ (fun hHeld => ?_)
            · exact ⟨fa0, fb0, fa1, fb1, fa2, fb2, fa3, fb3⟩
            clear hK K
            try simp only [Act.put, List.getElem_toArray, List.getElem_cons_zero, List.getElem_cons_succ, List.setIfInBounds_toArray, List.set_cons_zero, List.set_cons_succ]
            refine wpAnyH_ready (rs := [8]) (by kernel_rfl) (by simp) ?_
            refine AllReadyH.cons (o := _) rfl (fun K hK => ?_) AllReadyH.nil
            go_simp
            have hs1 := HP.out.size
            have hbl := (Array.getElem?_eq_some_iff.1 HZb.out).1
            refine (specModelBack_any s0 s1 s2 s3 _ _ _ _ _ P0.out P1.out P2.out P3.out).mono ?_
            rw [HR.out]
            rintro e w16 ⟨z0, rfl, ho0, hb⟩
            obtain ⟨Az0a, cz0a, Az0b, cz0b, rfl⟩ := ho0.reads.form
            have HO := Lib.hid ho0
            have hs2 := hb.size
            replace fa0 := cell_keep hb fa0
            replace fb0 := cell_keep hb fb0
            replace fa1 := cell_keep hb fa1
            replace fb1 := cell_keep hb fb1
            replace fa2 := cell_keep hb fa2
            replace fb2 := cell_keep hb fb2
            replace fa3 := cell_keep hb fa3
            replace fb3 := cell_keep hb fb3
            replace HP := Lib.hid (ex_keep HP.out hb)
            replace HZb := Lib.hid (blk_at HZb.out hb)
            have j0 := blk_cell HZb.out 0
            have jf0 := blk_free HZb.out 0
            have j1 := blk_cell HZb.out 1
            have jf1 := blk_free HZb.out 1
            simp at j0 j1
            clear ho0 hb P0 P1 P2 P3
            go_wp2_with fail
            refine hK.out _ _ ?_ (fun hHeld => ?_)
            · exact ⟨fa0, fb0, fa1, fb1, fa2, fb2, fa3, fb3⟩
            clear hK K
            try simp only [Act.put, List.getElem_toArray, List.getElem_cons_zero, List.getElem_cons_succ, List.setIfInBounds_toArray, List.set_cons_zero, List.set_cons_succ]
            refine wpAnyH_ready (rs := [10]) (by kernel_rfl) (by simp) ?_
            refine AllReadyH.cons (o := _) rfl (fun K hK => ?_) AllReadyH.nil
            go_simp
            go_wp2_with fail
            refine hK.out _ _ ?_ (fun hHeld => ?_)
            · exact ⟨(set_far (by omega) _ _ _).trans ((set_far (by omega) _ _ _).trans (fa0)), (set_far (by omega) _ _ _).trans ((set_far (by omega) _ _ _).trans (fb0)), (set_far (by omega) _ _ _).trans ((set_far (by omega) _ _ _).trans (fa1)), (set_far (by omega) _ _ _).trans ((set_far (by omega) _ _ _).trans (fb1)), (set_far (by omega) _ _ _).trans ((set_far (by omega) _ _ _).trans (fa2)), (set_far (by omega) _ _ _).trans ((set_far (by omega) _ _ _).trans (fb2)), (set_far (by omega) _ _ _).trans ((set_far (by omega) _ _ _).trans (fa3)), (set_far (by omega) _ _ _).trans ((set_far (by omega) _ _ _).trans (fb3))⟩
            clear hK K
            try simp only [Act.put, List.getElem_toArray, List.getElem_cons_zero, List.getElem_cons_succ, List.setIfInBounds_toArray, List.set_cons_zero, List.set_cons_succ]
            refine wpAnyH_done (by kernel_rfl) ?_ _
            go_wp2_with fail
            go_meet
            exact ⟨_, _, _, _, _, rfl, hzl, (blk_set (blk_set HZb.out 0 (.slice Az0a R.sizes.length cz0a)) 1 (.slice Az0b R.tables.length cz0b)), (HO.out.same (fun k q1 q2 => ((set_blk (by omega) _ _).trans (set_blk (by omega) _ _)))).base (by omega), ((HP.out.setCell (p := ⟨w8.heap.size, 0, none⟩) hzl (.slice Az0a R.sizes.length cz0a)).setCell (p := ⟨w8.heap.size, 1, none⟩) hzl (.slice Az0b R.tables.length cz0b))⟩
        · skip
          go_simp
          have hb := below_alloc w7 (.cells #[.slice none 0 0, .slice none 0 0] 33)
          have hz := heap_alloc_new w7 (.cells #[.slice none 0 0, .slice none 0 0] 33)
          generalize hWA : w7.alloc (.cells #[.slice none 0 0, .slice none 0 0] 33) = w17 at hb hz ⊢
          clear hWA
          have HZb := Lib.hid (show w17.heap[w7.heap.size]? = some (.cells #[.slice none 0 0, .slice none 0 0] 33 (0, 0)) from hz)
          have hzl : w4.heap.size ≤ w7.heap.size := HP.out.size
          replace fa0 := cell_keep hb fa0
          replace fb0 := cell_keep hb fb0
          replace fa1 := cell_keep hb fa1
          replace fb1 := cell_keep hb fb1
          replace fa2 := cell_keep hb fa2
          replace fb2 := cell_keep hb fb2
          replace fa3 := cell_keep hb fa3
          replace fb3 := cell_keep hb fb3
          replace P0 := Lib.hid (P0.out.keep hb)
          replace P1 := Lib.hid (P1.out.keep hb)
          replace HP := Lib.hid (ex_keep HP.out hb)
          clear hb hz
          go_wp2_with fail
          refine hK.out _ _ ?_ (fun hHeld => ?_)
          · exact ⟨fa0, fb0, fa1, fb1, fa2, fb2, fa3, fb3⟩
          clear hK K
          try simp only [Act.put, List.getElem_toArray, List.getElem_cons_zero, List.getElem_cons_succ, List.setIfInBounds_toArray, List.set_cons_zero, List.set_cons_succ]
          refine wpAnyH_ready (rs := [5]) (by kernel_rfl) (by simp) ?_
          refine AllReadyH.cons (o := _) rfl (fun K hK => ?_) AllReadyH.nil
          go_simp
          refine (toMap_any _ s2 _ (HW2.out.keep (ex_keep HB.out HP.out)) HF2.out).mono ?_
          rintro e w18 ⟨y2, rfl, ho, hb⟩
          replace fa0 := cell_keep hb fa0
          replace fb0 := cell_keep hb fb0
          replace fa1 := cell_keep hb fa1
          replace fb1 := cell_keep hb fb1
          replace fa2 := cell_keep hb fa2
          replace fb2 := cell_keep hb fb2
          replace fa3 := cell_keep hb fa3
          replace fb3 := cell_keep hb fb3
          replace P0 := Lib.hid (P0.out.keep hb)
          replace P1 := Lib.hid (P1.out.keep hb)
          replace HP := Lib.hid (ex_keep HP.out hb)
          replace HZb := Lib.hid (blk_at HZb.out hb)
          have P2 := Lib.hid ho.reads
          obtain ⟨AY2a, cY2a, AY2b, cY2b, rfl⟩ := ho.reads.form
          clear ho hb
          go_wp2_with fail
          refine hK.out _ _ ?_ (fun hHeld => ?_)
          · exact ⟨fa0, fb0, fa1, fb1, fa2, fb2, fa3, fb3⟩
          clear hK K
          try simp only [Act.put, List.getElem_toArray, List.getElem_cons_zero, List.getElem_cons_succ, List.setIfInBounds_toArray, List.set_cons_zero, List.set_cons_succ]
          refine wpAnyH_ready (rs := [7]) (by kernel_rfl) (by simp) ?_
          refine AllReadyH.cons (o := _) rfl (fun K hK => ?_) AllReadyH.nil
          go_simp
          refine (toModel_any _ s3 _ (HW3.out.keep (ex_keep HB.out HP.out)) HF3.out).mono ?_
          rintro e w19 ⟨y3, rfl, ho, hb⟩
          replace fa0 := cell_keep hb fa0
          replace fb0 := cell_keep hb fb0
          replace fa1 := cell_keep hb fa1
          replace fb1 := cell_keep hb fb1
          replace fa2 := cell_keep hb fa2
          replace fb2 := cell_keep hb fb2
          replace fa3 := cell_keep hb fa3
          replace fb3 := cell_keep hb fb3
          replace P0 := Lib.hid (P0.out.keep hb)
          replace P1 := Lib.hid (P1.out.keep hb)
          replace P2 := Lib.hid (P2.out.keep hb)
          replace HP := Lib.hid (ex_keep HP.out hb)
          replace HZb := Lib.hid (blk_at HZb.out hb)
          have P3 := Lib.hid ho.reads
          obtain ⟨AY3a, cY3a, AY3b, cY3b, rfl⟩ := ho.reads.form
          clear ho hb
          go_wp2_with fail
          refine hK.out _ _ ?_ (fun hHeld => ?_)
          · exact ⟨fa0, fb0, fa1, fb1, fa2, fb2, fa3, fb3⟩
          clear hK K
          try simp only [Act.put, List.getElem_toArray, List.getElem_cons_zero, List.getElem_cons_succ, List.setIfInBounds_toArray, List.set_cons_zero, List.set_cons_succ]
          refine wpAnyH_ready (rs := [8]) (by kernel_rfl) (by simp) ?_
          refine AllReadyH.cons (o := _) rfl (fun K hK => ?_) AllReadyH.nil
          go_simp
          have hs1 := HP.out.size
          have hbl := (Array.getElem?_eq_some_iff.1 HZb.out).1
          refine (specModelBack_any s0 s1 s2 s3 _ _ _ _ _ P0.out P1.out P2.out P3.out).mono ?_
          rw [HR.out]
          rintro e w20 ⟨z0, rfl, ho0, hb⟩
          obtain ⟨Az0a, cz0a, Az0b, cz0b, rfl⟩ := ho0.reads.form
          have HO := Lib.hid ho0
          have hs2 := hb.size
          replace fa0 := cell_keep hb fa0
          replace fb0 := cell_keep hb fb0
          replace fa1 := cell_keep hb fa1
          replace fb1 := cell_keep hb fb1
          replace fa2 := cell_keep hb fa2
          replace fb2 := cell_keep hb fb2
          replace fa3 := cell_keep hb fa3
          replace fb3 := cell_keep hb fb3
          replace HP := Lib.hid (ex_keep HP.out hb)
          replace HZb := Lib.hid (blk_at HZb.out hb)
          have j0 := blk_cell HZb.out 0
          have jf0 := blk_free HZb.out 0
          have j1 := blk_cell HZb.out 1
          have jf1 := blk_free HZb.out 1
          simp at j0 j1
          clear ho0 hb P0 P1 P2 P3
          go_wp2_with fail
          refine hK.out _ _ ?_ (fun hHeld => ?_)
          · exact ⟨fa0, fb0, fa1, fb1, fa2, fb2, fa3, fb3⟩
          clear hK K
          try simp only [Act.put, List.getElem_toArray, List.getElem_cons_zero, List.getElem_cons_succ, List.setIfInBounds_toArray, List.set_cons_zero, List.set_cons_succ]
          refine wpAnyH_ready (rs := [10]) (by kernel_rfl) (by simp) ?_
          refine AllReadyH.cons (o := _) rfl (fun K hK => ?_) AllReadyH.nil
          go_simp
          go_wp2_with fail
          refine hK.out _ _ ?_ (fun hHeld => ?_)
          · exact ⟨(set_far (by omega) _ _ _).trans ((set_far (by omega) _ _ _).trans (fa0)), (set_far (by omega) _ _ _).trans ((set_far (by omega) _ _ _).trans (fb0)), (set_far (by omega) _ _ _).trans ((set_far (by omega) _ _ _).trans (fa1)), (set_far (by omega) _ _ _).trans ((set_far (by omega) _ _ _).trans (fb1)), (set_far (by omega) _ _ _).trans ((set_far (by omega) _ _ _).trans (fa2)), (set_far (by omega) _ _ _).trans ((set_far (by omega) _ _ _).trans (fb2)), (set_far (by omega) _ _ _).trans ((set_far (by omega) _ _ _).trans (fa3)), (set_far (by omega) _ _ _).trans ((set_far (by omega) _ _ _).trans (fb3))⟩
          clear hK K
          try simp only [Act.put, List.getElem_toArray, List.getElem_cons_zero, List.getElem_cons_succ, List.setIfInBounds_toArray, List.set_cons_zero, List.set_cons_succ]
          refine wpAnyH_done (by kernel_rfl) ?_ _
          go_wp2_with fail
          go_meet
          exact ⟨_, _, _, _, _, rfl, hzl, (blk_set (blk_set HZb.out 0 (.slice Az0a R.sizes.length cz0a)) 1 (.slice Az0b R.tables.length cz0b)), (HO.out.same (fun k q1 q2 => ((set_blk (by omega) _ _).trans (set_blk (by omega) _ _)))).base (by omega), ((HP.out.setCell (p := ⟨w7.heap.size, 0, none⟩) hzl (.slice Az0a R.sizes.length cz0a)).setCell (p := ⟨w7.heap.size, 1, none⟩) hzl (.slice Az0b R.tables.length cz0b))⟩
      · skip
        go_simp
        have hb := below_alloc w6 (.cells #[.slice none 0 0, .slice none 0 0] 33)
        have hz := heap_alloc_new w6 (.cells #[.slice none 0 0, .slice none 0 0] 33)
        generalize hWA : w6.alloc (.cells #[.slice none 0 0, .slice none 0 0] 33) = w21 at hb hz ⊢
        clear hWA
        have HZb := Lib.hid (show w21.heap[w6.heap.size]? = some (.cells #[.slice none 0 0, .slice none 0 0] 33 (0, 0)) from hz)
        have hzl : w4.heap.size ≤ w6.heap.size := HP.out.size
        replace fa0 := cell_keep hb fa0
        replace fb0 := cell_keep hb fb0
        replace fa1 := cell_keep hb fa1
        replace fb1 := cell_keep hb fb1
        replace fa2 := cell_keep hb fa2
        replace fb2 := cell_keep hb fb2
        replace fa3 := cell_keep hb fa3
        replace fb3 := cell_keep hb fb3
        replace P0 := Lib.hid (P0.out.keep hb)
        replace HP := Lib.hid (ex_keep HP.out hb)
        clear hb hz
        go_wp2_with fail
        refine hK.out _ _ ?_ (fun hHeld => ?_)
        · exact ⟨fa0, fb0, fa1, fb1, fa2, fb2, fa3, fb3⟩
        clear hK K
        try simp only [Act.put, List.getElem_toArray, List.getElem_cons_zero, List.getElem_cons_succ, List.setIfInBounds_toArray, List.set_cons_zero, List.set_cons_succ]
        refine wpAnyH_ready (rs := [3]) (by kernel_rfl) (by simp) ?_
        refine AllReadyH.cons (o := _) rfl (fun K hK => ?_) AllReadyH.nil
        go_simp
        refine (toSig_any _ s1 _ (HW1.out.keep (ex_keep HB.out HP.out)) HF1.out).mono ?_
        rintro e w22 ⟨y1, rfl, ho, hb⟩
        replace fa0 := cell_keep hb fa0
        replace fb0 := cell_keep hb fb0
        replace fa1 := cell_keep hb fa1
        replace fb1 := cell_keep hb fb1
        replace fa2 := cell_keep hb fa2
        replace fb2 := cell_keep hb fb2
        replace fa3 := cell_keep hb fa3
        replace fb3 := cell_keep hb fb3
        replace P0 := Lib.hid (P0.out.keep hb)
        replace HP := Lib.hid (ex_keep HP.out hb)
        replace HZb := Lib.hid (blk_at HZb.out hb)
        have P1 := Lib.hid ho.reads
        obtain ⟨AY1a, cY1a, rfl⟩ := ho.reads.form
        clear ho hb
        go_wp2_with fail
        refine hK.out _ _ ?_ (fun hHeld => ?_)
        · exact ⟨fa0, fb0, fa1, fb1, fa2, fb2, fa3, fb3⟩
        clear hK K
        try simp only [Act.put, List.getElem_toArray, List.getElem_cons_zero, List.getElem_cons_succ, List.setIfInBounds_toArray, List.set_cons_zero, List.set_cons_succ]
        refine wpAnyH_ready (rs := [5]) (by kernel_rfl) (by simp) ?_
        refine AllReadyH.cons (o := _) rfl (fun K hK => ?_) AllReadyH.nil
        go_simp
        refine (toMap_any _ s2 _ (HW2.out.keep (ex_keep HB.out HP.out)) HF2.out).mono ?_
        rintro e w23 ⟨y2, rfl, ho, hb⟩
        replace fa0 := cell_keep hb fa0
        replace fb0 := cell_keep hb fb0
        replace fa1 := cell_keep hb fa1
        replace fb1 := cell_keep hb fb1
        replace fa2 := cell_keep hb fa2
        replace fb2 := cell_keep hb fb2
        replace fa3 := cell_keep hb fa3
        replace fb3 := cell_keep hb fb3
        replace P0 := Lib.hid (P0.out.keep hb)
        replace P1 := Lib.hid (P1.out.keep hb)
        replace HP := Lib.hid (ex_keep HP.out hb)
        replace HZb := Lib.hid (blk_at HZb.out hb)
        have P2 := Lib.hid ho.reads
        obtain ⟨AY2a, cY2a, AY2b, cY2b, rfl⟩ := ho.reads.form
        clear ho hb
        go_wp2_with fail
        refine hK.out _ _ ?_ (fun hHeld => ?_)
        · exact ⟨fa0, fb0, fa1, fb1, fa2, fb2, fa3, fb3⟩
        clear hK K
        try simp only [Act.put, List.getElem_toArray, List.getElem_cons_zero, List.getElem_cons_succ, List.setIfInBounds_toArray, List.set_cons_zero, List.set_cons_succ]
        refine wpAnyH_ready (rs := [7]) (by kernel_rfl) (by simp) ?_
        refine AllReadyH.cons (o := _) rfl (fun K hK => ?_) AllReadyH.nil
        go_simp
        refine (toModel_any _ s3 _ (HW3.out.keep (ex_keep HB.out HP.out)) HF3.out).mono ?_
        rintro e w24 ⟨y3, rfl, ho, hb⟩
        replace fa0 := cell_keep hb fa0
        replace fb0 := cell_keep hb fb0
        replace fa1 := cell_keep hb fa1
        replace fb1 := cell_keep hb fb1
        replace fa2 := cell_keep hb fa2
        replace fb2 := cell_keep hb fb2
        replace fa3 := cell_keep hb fa3
        replace fb3 := cell_keep hb fb3
        replace P0 := Lib.hid (P0.out.keep hb)
        replace P1 := Lib.hid (P1.out.keep hb)
        replace P2 := Lib.hid (P2.out.keep hb)
        replace HP := Lib.hid (ex_keep HP.out hb)
        replace HZb := Lib.hid (blk_at HZb.out hb)
        have P3 := Lib.hid ho.reads
        obtain ⟨AY3a, cY3a, AY3b, cY3b, rfl⟩ := ho.reads.form
        clear ho hb
        go_wp2_with fail
        refine hK.out _ _ ?_ (fun hHeld => ?_)
        · exact ⟨fa0, fb0, fa1, fb1, fa2, fb2, fa3, fb3⟩
        clear hK K
        try simp only [Act.put, List.getElem_toArray, List.getElem_cons_zero, List.getElem_cons_succ, List.setIfInBounds_toArray, List.set_cons_zero, List.set_cons_succ]
        refine wpAnyH_ready (rs := [8]) (by kernel_rfl) (by simp) ?_
        refine AllReadyH.cons (o := _) rfl (fun K hK => ?_) AllReadyH.nil
        go_simp
        have hs1 := HP.out.size
        have hbl := (Array.getElem?_eq_some_iff.1 HZb.out).1
        refine (specModelBack_any s0 s1 s2 s3 _ _ _ _ _ P0.out P1.out P2.out P3.out).mono ?_
        rw [HR.out]
        rintro e w25 ⟨z0, rfl, ho0, hb⟩
        obtain ⟨Az0a, cz0a, Az0b, cz0b, rfl⟩ := ho0.reads.form
        have HO := Lib.hid ho0
        have hs2 := hb.size
        replace fa0 := cell_keep hb fa0
        replace fb0 := cell_keep hb fb0
        replace fa1 := cell_keep hb fa1
        replace fb1 := cell_keep hb fb1
        replace fa2 := cell_keep hb fa2
        replace fb2 := cell_keep hb fb2
        replace fa3 := cell_keep hb fa3
        replace fb3 := cell_keep hb fb3
        replace HP := Lib.hid (ex_keep HP.out hb)
        replace HZb := Lib.hid (blk_at HZb.out hb)
        have j0 := blk_cell HZb.out 0
        have jf0 := blk_free HZb.out 0
        have j1 := blk_cell HZb.out 1
        have jf1 := blk_free HZb.out 1
        simp at j0 j1
        clear ho0 hb P0 P1 P2 P3
        go_wp2_with fail
        refine hK.out _ _ ?_ (fun hHeld => ?_)
        · exact ⟨fa0, fb0, fa1, fb1, fa2, fb2, fa3, fb3⟩
        clear hK K
        try simp only [Act.put, List.getElem_toArray, List.getElem_cons_zero, List.getElem_cons_succ, List.setIfInBounds_toArray, List.set_cons_zero, List.set_cons_succ]
        refine wpAnyH_ready (rs := [10]) (by kernel_rfl) (by simp) ?_
        refine AllReadyH.cons (o := _) rfl (fun K hK => ?_) AllReadyH.nil
        go_simp
        go_wp2_with fail
        refine hK.out _ _ ?_ (fun hHeld => ?_)
        · exact ⟨(set_far (by omega) _ _ _).trans ((set_far (by omega) _ _ _).trans (fa0)), (set_far (by omega) _ _ _).trans ((set_far (by omega) _ _ _).trans (fb0)), (set_far (by omega) _ _ _).trans ((set_far (by omega) _ _ _).trans (fa1)), (set_far (by omega) _ _ _).trans ((set_far (by omega) _ _ _).trans (fb1)), (set_far (by omega) _ _ _).trans ((set_far (by omega) _ _ _).trans (fa2)), (set_far (by omega) _ _ _).trans ((set_far (by omega) _ _ _).trans (fb2)), (set_far (by omega) _ _ _).trans ((set_far (by omega) _ _ _).trans (fa3)), (set_far (by omega) _ _ _).trans ((set_far (by omega) _ _ _).trans (fb3))⟩
        clear hK K
        try simp only [Act.put, List.getElem_toArray, List.getElem_cons_zero, List.getElem_cons_succ, List.setIfInBounds_toArray, List.set_cons_zero, List.set_cons_succ]
        refine wpAnyH_done (by kernel_rfl) ?_ _
        go_wp2_with fail
        go_meet
        exact ⟨_, _, _, _, _, rfl, hzl, (blk_set (blk_set HZb.out 0 (.slice Az0a R.sizes.length cz0a)) 1 (.slice Az0b R.tables.length cz0b)), (HO.out.same (fun k q1 q2 => ((set_blk (by omega) _ _).trans (set_blk (by omega) _ _)))).base (by omega), ((HP.out.setCell (p := ⟨w6.heap.size, 0, none⟩) hzl (.slice Az0a R.sizes.length cz0a)).setCell (p := ⟨w6.heap.size, 1, none⟩) hzl (.slice Az0b R.tables.length cz0b))⟩
    · skip
      go_simp
      have hb := below_alloc w4 (.cells #[.slice none 0 0, .slice none 0 0] 33)
      have hz := heap_alloc_new w4 (.cells #[.slice none 0 0, .slice none 0 0] 33)
      generalize hWA : w4.alloc (.cells #[.slice none 0 0, .slice none 0 0] 33) = w26 at hb hz ⊢
      clear hWA
      have HZb := Lib.hid (show w26.heap[w4.heap.size]? = some (.cells #[.slice none 0 0, .slice none 0 0] 33 (0, 0)) from hz)
      have hzl : w4.heap.size ≤ w4.heap.size := Nat.le_refl _
      replace fa0 := cell_keep hb fa0
      replace fb0 := cell_keep hb fb0
      replace fa1 := cell_keep hb fa1
      replace fb1 := cell_keep hb fb1
      replace fa2 := cell_keep hb fa2
      replace fb2 := cell_keep hb fb2
      replace fa3 := cell_keep hb fa3
      replace fb3 := cell_keep hb fb3
      have HP := Lib.hid hb
      clear hb hz
      go_wp2_with fail
      refine hK.out _ _ ?_ (fun hHeld => ?_)
      · exact ⟨fa0, fb0, fa1, fb1, fa2, fb2, fa3, fb3⟩
      clear hK K
      try simp only [Act.put, List.getElem_toArray, List.getElem_cons_zero, List.getElem_cons_succ, List.setIfInBounds_toArray, List.set_cons_zero, List.set_cons_succ]
      refine wpAnyH_ready (rs := [1]) (by kernel_rfl) (by simp) ?_
      refine AllReadyH.cons (o := _) rfl (fun K hK => ?_) AllReadyH.nil
      go_simp
      refine (toSig_any _ s0 _ (HW0.out.keep (ex_drew (ex_keep HB.out HP.out))) HF0.out).mono ?_
      rintro e w27 ⟨y0, rfl, ho, hb⟩
      replace hb := ex_undrew hb
      replace fa0 := cell_keep hb fa0
      replace fb0 := cell_keep hb fb0
      replace fa1 := cell_keep hb fa1
      replace fb1 := cell_keep hb fb1
      replace fa2 := cell_keep hb fa2
      replace fb2 := cell_keep hb fb2
      replace fa3 := cell_keep hb fa3
      replace fb3 := cell_keep hb fb3
      replace HP := Lib.hid (ex_keep HP.out hb)
      replace HZb := Lib.hid (blk_at HZb.out hb)
      have P0 := Lib.hid ho.reads
      obtain ⟨AY0a, cY0a, rfl⟩ := ho.reads.form
      clear ho hb
      go_wp2_with fail
      refine hK.out _ _ ?_ (fun hHeld => ?_)
      · exact ⟨fa0, fb0, fa1, fb1, fa2, fb2, fa3, fb3⟩
      clear hK K
      try simp only [Act.put, List.getElem_toArray, List.getElem_cons_zero, List.getElem_cons_succ, List.setIfInBounds_toArray, List.set_cons_zero, List.set_cons_succ]
      refine wpAnyH_ready (rs := [3]) (by kernel_rfl) (by simp) ?_
      refine AllReadyH.cons (o := _) rfl (fun K hK => ?_) AllReadyH.nil
      go_simp
      refine (toSig_any _ s1 _ (HW1.out.keep (ex_keep HB.out HP.out)) HF1.out).mono ?_
      rintro e w28 ⟨y1, rfl, ho, hb⟩
      replace fa0 := cell_keep hb fa0
      replace fb0 := cell_keep hb fb0
      replace fa1 := cell_keep hb fa1
      replace fb1 := cell_keep hb fb1
      replace fa2 := cell_keep hb fa2
      replace fb2 := cell_keep hb fb2
      replace fa3 := cell_keep hb fa3
      replace fb3 := cell_keep hb fb3
      replace P0 := Lib.hid (P0.out.keep hb)
      replace HP := Lib.hid (ex_keep HP.out hb)
      replace HZb := Lib.hid (blk_at HZb.out hb)
      have P1 := Lib.hid ho.reads
      obtain ⟨AY1a, cY1a, rfl⟩ := ho.reads.form
      clear ho hb
      go_wp2_with fail
      refine hK.out _ _ ?_ (fun hHeld => ?_)
      · exact ⟨fa0, fb0, fa1, fb1, fa2, fb2, fa3, fb3⟩
      clear hK K
      try simp only [Act.put, List.getElem_toArray, List.getElem_cons_zero, List.getElem_cons_succ, List.setIfInBounds_toArray, List.set_cons_zero, List.set_cons_succ]
      refine wpAnyH_ready (rs := [5]) (by kernel_rfl) (by simp) ?_
      refine AllReadyH.cons (o := _) rfl (fun K hK => ?_) AllReadyH.nil
      go_simp
      refine (toMap_any _ s2 _ (HW2.out.keep (ex_keep HB.out HP.out)) HF2.out).mono ?_
      rintro e w29 ⟨y2, rfl, ho, hb⟩
      replace fa0 := cell_keep hb fa0
      replace fb0 := cell_keep hb fb0
      replace fa1 := cell_keep hb fa1
      replace fb1 := cell_keep hb fb1
      replace fa2 := cell_keep hb fa2
      replace fb2 := cell_keep hb fb2
      replace fa3 := cell_keep hb fa3
      replace fb3 := cell_keep hb fb3
      replace P0 := Lib.hid (P0.out.keep hb)
      replace P1 := Lib.hid (P1.out.keep hb)
      replace HP := Lib.hid (ex_keep HP.out hb)
      replace HZb := Lib.hid (blk_at HZb.out hb)
      have P2 := Lib.hid ho.reads
      obtain ⟨AY2a, cY2a, AY2b, cY2b, rfl⟩ := ho.reads.form
      clear ho hb
      go_wp2_with fail
      refine hK.out _ _ ?_ (fun hHeld => ?_)
      · exact ⟨fa0, fb0, fa1, fb1, fa2, fb2, fa3, fb3⟩
      clear hK K
      try simp only [Act.put, List.getElem_toArray, List.getElem_cons_zero, List.getElem_cons_succ, List.setIfInBounds_toArray, List.set_cons_zero, List.set_cons_succ]
      refine wpAnyH_ready (rs := [7]) (by kernel_rfl) (by simp) ?_
      refine AllReadyH.cons (o := _) rfl (fun K hK => ?_) AllReadyH.nil
      go_simp
      refine (toModel_any _ s3 _ (HW3.out.keep (ex_keep HB.out HP.out)) HF3.out).mono ?_
      rintro e w30 ⟨y3, rfl, ho, hb⟩
      replace fa0 := cell_keep hb fa0
      replace fb0 := cell_keep hb fb0
      replace fa1 := cell_keep hb fa1
      replace fb1 := cell_keep hb fb1
      replace fa2 := cell_keep hb fa2
      replace fb2 := cell_keep hb fb2
      replace fa3 := cell_keep hb fa3
      replace fb3 := cell_keep hb fb3
      replace P0 := Lib.hid (P0.out.keep hb)
      replace P1 := Lib.hid (P1.out.keep hb)
      replace P2 := Lib.hid (P2.out.keep hb)
      replace HP := Lib.hid (ex_keep HP.out hb)
      replace HZb := Lib.hid (blk_at HZb.out hb)
      have P3 := Lib.hid ho.reads
      obtain ⟨AY3a, cY3a, AY3b, cY3b, rfl⟩ := ho.reads.form
      clear ho hb
      go_wp2_with fail
      refine hK.out _ _ ?_ (fun hHeld => ?_)
      · exact ⟨fa0, fb0, fa1, fb1, fa2, fb2, fa3, fb3⟩
      clear hK K
      try simp only [Act.put, List.getElem_toArray, List.getElem_cons_zero, List.getElem_cons_succ, List.setIfInBounds_toArray, List.set_cons_zero, List.set_cons_succ]
      refine wpAnyH_ready (rs := [8]) (by kernel_rfl) (by simp) ?_
      refine AllReadyH.cons (o := _) rfl (fun K hK => ?_) AllReadyH.nil
      go_simp
      have hs1 := HP.out.size
      have hbl := (Array.getElem?_eq_some_iff.1 HZb.out).1
      refine (specModelBack_any s0 s1 s2 s3 _ _ _ _ _ P0.out P1.out P2.out P3.out).mono ?_
      rw [HR.out]
      rintro e w31 ⟨z0, rfl, ho0, hb⟩
      obtain ⟨Az0a, cz0a, Az0b, cz0b, rfl⟩ := ho0.reads.form
      have HO := Lib.hid ho0
      have hs2 := hb.size
      replace fa0 := cell_keep hb fa0
      replace fb0 := cell_keep hb fb0
      replace fa1 := cell_keep hb fa1
      replace fb1 := cell_keep hb fb1
      replace fa2 := cell_keep hb fa2
      replace fb2 := cell_keep hb fb2
      replace fa3 := cell_keep hb fa3
      replace fb3 := cell_keep hb fb3
      replace HP := Lib.hid (ex_keep HP.out hb)
      replace HZb := Lib.hid (blk_at HZb.out hb)
      have j0 := blk_cell HZb.out 0
      have jf0 := blk_free HZb.out 0
      have j1 := blk_cell HZb.out 1
      have jf1 := blk_free HZb.out 1
      simp at j0 j1
      clear ho0 hb P0 P1 P2 P3
      go_wp2_with fail
      refine hK.out _ _ ?_ (fun hHeld => ?_)
      · exact ⟨fa0, fb0, fa1, fb1, fa2, fb2, fa3, fb3⟩
      clear hK K
      try simp only [Act.put, List.getElem_toArray, List.getElem_cons_zero, List.getElem_cons_succ, List.setIfInBounds_toArray, List.set_cons_zero, List.set_cons_succ]
      refine wpAnyH_ready (rs := [10]) (by kernel_rfl) (by simp) ?_
      refine AllReadyH.cons (o := _) rfl (fun K hK => ?_) AllReadyH.nil
      go_simp
      go_wp2_with fail
      refine hK.out _ _ ?_ (fun hHeld => ?_)
      · exact ⟨(set_far (by omega) _ _ _).trans ((set_far (by omega) _ _ _).trans (fa0)), (set_far (by omega) _ _ _).trans ((set_far (by omega) _ _ _).trans (fb0)), (set_far (by omega) _ _ _).trans ((set_far (by omega) _ _ _).trans (fa1)), (set_far (by omega) _ _ _).trans ((set_far (by omega) _ _ _).trans (fb1)), (set_far (by omega) _ _ _).trans ((set_far (by omega) _ _ _).trans (fa2)), (set_far (by omega) _ _ _).trans ((set_far (by omega) _ _ _).trans (fb2)), (set_far (by omega) _ _ _).trans ((set_far (by omega) _ _ _).trans (fa3)), (set_far (by omega) _ _ _).trans ((set_far (by omega) _ _ _).trans (fb3))⟩
      clear hK K
      try simp only [Act.put, List.getElem_toArray, List.getElem_cons_zero, List.getElem_cons_succ, List.setIfInBounds_toArray, List.set_cons_zero, List.set_cons_succ]
      refine wpAnyH_done (by kernel_rfl) ?_ _
      go_wp2_with fail
      go_meet
      exact ⟨_, _, _, _, _, rfl, hzl, (blk_set (blk_set HZb.out 0 (.slice Az0a R.sizes.length cz0a)) 1 (.slice Az0b R.tables.length cz0b)), (HO.out.same (fun k q1 q2 => ((set_blk (by omega) _ _).trans (set_blk (by omega) _ _)))).base (by omega), ((HP.out.setCell (p := ⟨w4.heap.size, 0, none⟩) hzl (.slice Az0a R.sizes.length cz0a)).setCell (p := ⟨w4.heap.size, 1, none⟩) hzl (.slice Az0b R.tables.length cz0b))⟩
  case rest =>
  obtain ⟨bzz, Az0a, cz0a, Az0b, cz0b, rfl, hle, hblk, ho0, hb⟩ := hcut
  obtain ⟨w5, hwn⟩ : ∃ W', W' = wc := ⟨_, rfl⟩
  subst hwn
  clear hbx
  have HZ0 := Lib.hid ho0
  have HCZ0 := Lib.hid hblk
  clear ho0 hle hblk
  replace fa0 := cell_keep hb fa0
  replace fb0 := cell_keep hb fb0
  replace fa1 := cell_keep hb fa1
  replace fb1 := cell_keep hb fb1
  replace fa2 := cell_keep hb fa2
  replace fb2 := cell_keep hb fb2
  replace fa3 := cell_keep hb fa3
  replace fb3 := cell_keep hb fb3
  replace HB := Lib.hid (ex_keep HB.out hb)
  clear hb
  have HC := Lib.hid (And.intro fa0 (And.intro fb0 (And.intro fa1 (And.intro fb1 (And.intro fa2 (And.intro fb2 (And.intro fa3 (fb3))))))))
  have HBs : Hid (Below w5.heap.size w5 w5) := Below.refl _ _
  clear fa0 fb0 fa1 fb1 fa2 fb2 fa3 fb3
  have fa0 := cell_keep HBs.out HC.out.1
  have fb0 := cell_keep HBs.out HC.out.2.1
  have fa1 := cell_keep HBs.out HC.out.2.2.1
  have fb1 := cell_keep HBs.out HC.out.2.2.2.1
  have fa2 := cell_keep HBs.out HC.out.2.2.2.2.1
  have fb2 := cell_keep HBs.out HC.out.2.2.2.2.2.1
  have fa3 := cell_keep HBs.out HC.out.2.2.2.2.2.2.1
  have fb3 := cell_keep HBs.out HC.out.2.2.2.2.2.2.2
  go_wp2_with fail
  refine (toSig_any _ s0 _ (HW0.out.keep (ex_keep HB.out HBs.out)) HF0.out).mono ?_
  rintro e w32 ⟨y0, rfl, ho, hb⟩
  obtain ⟨AX0a, cX0a, rfl⟩ := ho.reads.form
  have hb2 := below_alloc w32 (.cells #[.int .i64 s0.sorts, .slice AX0a s0.ops.length cX0a] 35)
  have HX0 := Lib.hid (show OSig (w32.alloc (.cells #[.int .i64 s0.sorts, .slice AX0a s0.ops.length cX0a] 35)) w5.heap.size (.agg #[.int .i64 s0.sorts, .slice AX0a s0.ops.length cX0a]) s0 from ho.keep hb2)
  have HCX0 := Lib.hid (bx_cells w32 (.int .i64 s0.sorts) (.slice AX0a s0.ops.length cX0a) 35)
  have hy0 := hb.size
  replace hb := hb.trans (hb2.mono hb.size)
  have hs0 := hb.size
  generalize hWw33 : w32.alloc (.cells #[.int .i64 s0.sorts, .slice AX0a s0.ops.length cX0a] 35) = w33 at HX0 HCX0 hb hs0
  clear hb2 ho
  replace HBs := Lib.hid (ex_keep HBs.out hb)
  clear hb
  have HK0 : Hid (Keeps w5.heap.size w33 w33) := Keeps.refl _ _
  have z0 : w33.heap.size ≤ w33.heap.size := Nat.le_refl _
  clear fa0 fb0 fa1 fb1 fa2 fb2 fa3 fb3
  have fa0 := cell_keep HBs.out HC.out.1
  have fb0 := cell_keep HBs.out HC.out.2.1
  have fa1 := cell_keep HBs.out HC.out.2.2.1
  have fb1 := cell_keep HBs.out HC.out.2.2.2.1
  have fa2 := cell_keep HBs.out HC.out.2.2.2.2.1
  have fb2 := cell_keep HBs.out HC.out.2.2.2.2.2.1
  have fa3 := cell_keep HBs.out HC.out.2.2.2.2.2.2.1
  have fb3 := cell_keep HBs.out HC.out.2.2.2.2.2.2.2
  go_wp2_with fail
  clear hWw33
  refine (toSig_any _ s1 _ (HW1.out.keep (ex_keep HB.out HBs.out)) HF1.out).mono ?_
  rintro e w34 ⟨y1, rfl, ho, hb⟩
  obtain ⟨AX1a, cX1a, rfl⟩ := ho.reads.form
  have hb2 := below_alloc w34 (.cells #[.int .i64 s1.sorts, .slice AX1a s1.ops.length cX1a] 35)
  have HX1 := Lib.hid (show OSig (w34.alloc (.cells #[.int .i64 s1.sorts, .slice AX1a s1.ops.length cX1a] 35)) w33.heap.size (.agg #[.int .i64 s1.sorts, .slice AX1a s1.ops.length cX1a]) s1 from ho.keep hb2)
  have HCX1 := Lib.hid (bx_cells w34 (.int .i64 s1.sorts) (.slice AX1a s1.ops.length cX1a) 35)
  have hy1 := hb.size
  replace hb := hb.trans (hb2.mono hb.size)
  have hs1 := hb.size
  generalize hWw35 : w34.alloc (.cells #[.int .i64 s1.sorts, .slice AX1a s1.ops.length cX1a] 35) = w35 at HX1 HCX1 hb hs1
  clear hb2 ho
  replace HK0 := Lib.hid (HK0.out.below z0 hb)
  replace z0 : w33.heap.size ≤ w35.heap.size := Nat.le_trans z0 hb.size
  replace HBs := Lib.hid (ex_keep HBs.out hb)
  clear hb
  have HK1 : Hid (Keeps w33.heap.size w35 w35) := Keeps.refl _ _
  have z1 : w35.heap.size ≤ w35.heap.size := Nat.le_refl _
  clear fa0 fb0 fa1 fb1 fa2 fb2 fa3 fb3
  have fa0 := cell_keep HBs.out HC.out.1
  have fb0 := cell_keep HBs.out HC.out.2.1
  have fa1 := cell_keep HBs.out HC.out.2.2.1
  have fb1 := cell_keep HBs.out HC.out.2.2.2.1
  have fa2 := cell_keep HBs.out HC.out.2.2.2.2.1
  have fb2 := cell_keep HBs.out HC.out.2.2.2.2.2.1
  have fa3 := cell_keep HBs.out HC.out.2.2.2.2.2.2.1
  have fb3 := cell_keep HBs.out HC.out.2.2.2.2.2.2.2
  go_wp2_with fail
  clear hWw35
  refine (toMap_any _ s2 _ (HW2.out.keep (ex_keep HB.out HBs.out)) HF2.out).mono ?_
  rintro e w36 ⟨y2, rfl, ho, hb⟩
  obtain ⟨AX2a, cX2a, AX2b, cX2b, rfl⟩ := ho.reads.form
  have hb2 := below_alloc w36 (.cells #[.slice AX2a s2.sorts.length cX2a, .slice AX2b s2.ops.length cX2b] 37)
  have HX2 := Lib.hid (show OMap (w36.alloc (.cells #[.slice AX2a s2.sorts.length cX2a, .slice AX2b s2.ops.length cX2b] 37)) w35.heap.size (.agg #[.slice AX2a s2.sorts.length cX2a, .slice AX2b s2.ops.length cX2b]) s2 from ho.keep hb2)
  have HCX2 := Lib.hid (bx_cells w36 (.slice AX2a s2.sorts.length cX2a) (.slice AX2b s2.ops.length cX2b) 37)
  have hy2 := hb.size
  replace hb := hb.trans (hb2.mono hb.size)
  have hs2 := hb.size
  generalize hWw37 : w36.alloc (.cells #[.slice AX2a s2.sorts.length cX2a, .slice AX2b s2.ops.length cX2b] 37) = w37 at HX2 HCX2 hb hs2
  clear hb2 ho
  replace HK0 := Lib.hid (HK0.out.below z0 hb)
  replace z0 : w33.heap.size ≤ w37.heap.size := Nat.le_trans z0 hb.size
  replace HK1 := Lib.hid (HK1.out.below z1 hb)
  replace z1 : w35.heap.size ≤ w37.heap.size := Nat.le_trans z1 hb.size
  replace HBs := Lib.hid (ex_keep HBs.out hb)
  clear hb
  have HK2 : Hid (Keeps w35.heap.size w37 w37) := Keeps.refl _ _
  have z2 : w37.heap.size ≤ w37.heap.size := Nat.le_refl _
  clear fa0 fb0 fa1 fb1 fa2 fb2 fa3 fb3
  have fa0 := cell_keep HBs.out HC.out.1
  have fb0 := cell_keep HBs.out HC.out.2.1
  have fa1 := cell_keep HBs.out HC.out.2.2.1
  have fb1 := cell_keep HBs.out HC.out.2.2.2.1
  have fa2 := cell_keep HBs.out HC.out.2.2.2.2.1
  have fb2 := cell_keep HBs.out HC.out.2.2.2.2.2.1
  have fa3 := cell_keep HBs.out HC.out.2.2.2.2.2.2.1
  have fb3 := cell_keep HBs.out HC.out.2.2.2.2.2.2.2
  go_wp2_with fail
  clear hWw37
  refine (toModel_any _ s3 _ (HW3.out.keep (ex_keep HB.out HBs.out)) HF3.out).mono ?_
  rintro e w38 ⟨y3, rfl, ho, hb⟩
  obtain ⟨AX3a, cX3a, AX3b, cX3b, rfl⟩ := ho.reads.form
  have hb2 := below_alloc w38 (.cells #[.slice AX3a s3.sizes.length cX3a, .slice AX3b s3.tables.length cX3b] 33)
  have HX3 := Lib.hid (show OModel (w38.alloc (.cells #[.slice AX3a s3.sizes.length cX3a, .slice AX3b s3.tables.length cX3b] 33)) w37.heap.size (.agg #[.slice AX3a s3.sizes.length cX3a, .slice AX3b s3.tables.length cX3b]) s3 from ho.keep hb2)
  have HCX3 := Lib.hid (bx_cells w38 (.slice AX3a s3.sizes.length cX3a) (.slice AX3b s3.tables.length cX3b) 33)
  have hy3 := hb.size
  replace hb := hb.trans (hb2.mono hb.size)
  have hs3 := hb.size
  generalize hWw39 : w38.alloc (.cells #[.slice AX3a s3.sizes.length cX3a, .slice AX3b s3.tables.length cX3b] 33) = w39 at HX3 HCX3 hb hs3
  clear hb2 ho
  replace HK0 := Lib.hid (HK0.out.below z0 hb)
  replace z0 : w33.heap.size ≤ w39.heap.size := Nat.le_trans z0 hb.size
  replace HK1 := Lib.hid (HK1.out.below z1 hb)
  replace z1 : w35.heap.size ≤ w39.heap.size := Nat.le_trans z1 hb.size
  replace HK2 := Lib.hid (HK2.out.below z2 hb)
  replace z2 : w37.heap.size ≤ w39.heap.size := Nat.le_trans z2 hb.size
  replace HBs := Lib.hid (ex_keep HBs.out hb)
  clear hb
  have HK3 : Hid (Keeps w37.heap.size w39 w39) := Keeps.refl _ _
  have z3 : w39.heap.size ≤ w39.heap.size := Nat.le_refl _
  clear fa0 fb0 fa1 fb1 fa2 fb2 fa3 fb3
  have l0a := HK0.out.cell (by omega) HCX0.out.1
  have l0b := HK0.out.cell (by omega) HCX0.out.2
  have l1a := HK1.out.cell (by omega) HCX1.out.1
  have l1b := HK1.out.cell (by omega) HCX1.out.2
  have l2a := HK2.out.cell (by omega) HCX2.out.1
  have l2b := HK2.out.cell (by omega) HCX2.out.2
  have l3a := HK3.out.cell (by omega) HCX3.out.1
  have l3b := HK3.out.cell (by omega) HCX3.out.2
  go_wp2_with fail
  clear hWw39
  refine (modelBack_any s0 s1 s2 s3 _ _ _ _ _ (HX0.out.same HK0.out).reads (HX1.out.same HK1.out).reads (HX2.out.same HK2.out).reads (HX3.out.same HK3.out).reads).mono ?_
  rw [HR.out]
  rintro e w40 ⟨g0, rfl, ho0, hb⟩
  have hsg := hb.size
  obtain ⟨Ag0a, cg0a, Ag0b, cg0b, rfl⟩ := ho0.reads.form
  have HG0 := Lib.hid ho0
  clear l0a l0b l1a l1b l2a l2b l3a l3b
  replace HK0 := Lib.hid (HK0.out.below z0 hb)
  replace z0 : w33.heap.size ≤ w40.heap.size := Nat.le_trans z0 hb.size
  replace HK1 := Lib.hid (HK1.out.below z1 hb)
  replace z1 : w35.heap.size ≤ w40.heap.size := Nat.le_trans z1 hb.size
  replace HK2 := Lib.hid (HK2.out.below z2 hb)
  replace z2 : w37.heap.size ≤ w40.heap.size := Nat.le_trans z2 hb.size
  replace HK3 := Lib.hid (HK3.out.below z3 hb)
  replace z3 : w39.heap.size ≤ w40.heap.size := Nat.le_trans z3 hb.size
  replace HBs := Lib.hid (ex_keep HBs.out hb)
  clear hb
  have HKg0 : Hid (Keeps w39.heap.size w40 w40) := Keeps.refl _ _
  have zg0 : w40.heap.size ≤ w40.heap.size := Nat.le_refl _
  clear ho0
  have hb := below_alloc w40 (.cells #[.slice Ag0a R.sizes.length cg0a, .slice Ag0b R.tables.length cg0b] 33)
  have HCG0 := Lib.hid (bx_cells w40 (.slice Ag0a R.sizes.length cg0a) (.slice Ag0b R.tables.length cg0b) 33)
  generalize hWw41 : w40.alloc (.cells #[.slice Ag0a R.sizes.length cg0a, .slice Ag0b R.tables.length cg0b] 33) = w41 at hb HCG0
  have hsG0 := hb.size
  replace HK0 := Lib.hid (HK0.out.below z0 hb)
  replace z0 : w33.heap.size ≤ w41.heap.size := Nat.le_trans z0 hb.size
  replace HK1 := Lib.hid (HK1.out.below z1 hb)
  replace z1 : w35.heap.size ≤ w41.heap.size := Nat.le_trans z1 hb.size
  replace HK2 := Lib.hid (HK2.out.below z2 hb)
  replace z2 : w37.heap.size ≤ w41.heap.size := Nat.le_trans z2 hb.size
  replace HK3 := Lib.hid (HK3.out.below z3 hb)
  replace z3 : w39.heap.size ≤ w41.heap.size := Nat.le_trans z3 hb.size
  replace HKg0 := Lib.hid (HKg0.out.below zg0 hb)
  replace zg0 : w40.heap.size ≤ w41.heap.size := Nat.le_trans zg0 hb.size
  replace HBs := Lib.hid (ex_keep HBs.out hb)
  clear hb
  have HKG0 : Hid (Keeps w40.heap.size w41 w41) := Keeps.refl _ _
  have zG0 : w41.heap.size ≤ w41.heap.size := Nat.le_refl _
  have u0a := HKG0.out.cell (by omega) HCG0.out.1
  have u0b := HKG0.out.cell (by omega) HCG0.out.2
  have v0a := cell_keep HBs.out (blk_cell_at HCZ0.out (i := 0) (u := .slice Az0a R.sizes.length cz0a) rfl)
  have v0b := cell_keep HBs.out (blk_cell_at HCZ0.out (i := 1) (u := .slice Az0b R.tables.length cz0b) rfl)
  go_wp2_with fail
  clear hWw41
  refine (eqModel_is _ _ R R _ true (sameMd_self _) (HG0.out.same HKg0.out).reads (HZ0.out.keep HBs.out).reads).mono ?_
  rintro e w42 ⟨rfl, hb⟩
  clear u0a u0b v0a v0b
  replace HK0 := Lib.hid (HK0.out.below z0 hb)
  replace z0 : w33.heap.size ≤ w42.heap.size := Nat.le_trans z0 hb.size
  replace HK1 := Lib.hid (HK1.out.below z1 hb)
  replace z1 : w35.heap.size ≤ w42.heap.size := Nat.le_trans z1 hb.size
  replace HK2 := Lib.hid (HK2.out.below z2 hb)
  replace z2 : w37.heap.size ≤ w42.heap.size := Nat.le_trans z2 hb.size
  replace HK3 := Lib.hid (HK3.out.below z3 hb)
  replace z3 : w39.heap.size ≤ w42.heap.size := Nat.le_trans z3 hb.size
  replace HKg0 := Lib.hid (HKg0.out.below zg0 hb)
  replace zg0 : w40.heap.size ≤ w42.heap.size := Nat.le_trans zg0 hb.size
  replace HKG0 := Lib.hid (HKG0.out.below zG0 hb)
  replace zG0 : w41.heap.size ≤ w42.heap.size := Nat.le_trans zG0 hb.size
  replace HBs := Lib.hid (ex_keep HBs.out hb)
  clear hb
  have fa0 := cell_keep HBs.out HC.out.1
  have fb0 := cell_keep HBs.out HC.out.2.1
  have fa1 := cell_keep HBs.out HC.out.2.2.1
  have fb1 := cell_keep HBs.out HC.out.2.2.2.1
  have fa2 := cell_keep HBs.out HC.out.2.2.2.2.1
  have fb2 := cell_keep HBs.out HC.out.2.2.2.2.2.1
  have fa3 := cell_keep HBs.out HC.out.2.2.2.2.2.2.1
  have fb3 := cell_keep HBs.out HC.out.2.2.2.2.2.2.2
  have l0a := HK0.out.cell (by omega) HCX0.out.1
  have l0b := HK0.out.cell (by omega) HCX0.out.2
  have l1a := HK1.out.cell (by omega) HCX1.out.1
  have l1b := HK1.out.cell (by omega) HCX1.out.2
  have l2a := HK2.out.cell (by omega) HCX2.out.1
  have l2b := HK2.out.cell (by omega) HCX2.out.2
  have l3a := HK3.out.cell (by omega) HCX3.out.1
  have l3b := HK3.out.cell (by omega) HCX3.out.2
  have HSW0 := Lib.hid (HW0.out.keep (ex_keep HB.out HBs.out))
  have HXR0 := Lib.hid (HX0.out.same HK0.out).reads
  go_wp2_with fail
  have ea := World.new_ne w42 _ fa0
  have eb := World.new_ne w42 _ l0a
  go_region_held3 (fun w' => w'.cell? ⟨w.heap.size, 0, none⟩ = some (.int .i64 s0.sorts) ∧ w'.cell? ⟨w.heap.size, 1, none⟩ = some (.slice A0a s0.ops.length c0a) ∧ w'.cell? ⟨w32.heap.size, 0, none⟩ = some (.int .i64 s0.sorts) ∧ w'.cell? ⟨w32.heap.size, 1, none⟩ = some (.slice AX0a s0.ops.length cX0a))
    (first | go_keep)
    (first
      | (go_at_call 13; refine (toSig_any _ s0 w42.drew HSW0.out HF0.out).mono ?_; rintro e w43 ⟨yj, rfl, hoj, hbj⟩; have HOj := Lib.hid hoj; have HBj := Lib.hid (show Below w42.heap.size w42 w43 from below_undrew hbj); have o0 := cell_keep HBj.out fa0; have o1 := cell_keep HBj.out fb0; have o2 := cell_keep HBj.out l0a; have o3 := cell_keep HBj.out l0b; clear hoj hbj)
      | (go_at_call 18; refine (eqSig_is _ _ s0 s0 _ true (sameS_self _) (HXR0.out.keep HBj.out) HOj.out.reads).mono ?_; rintro e w44 ⟨rfl, hbk⟩; have HBk := Lib.hid (ex_keep HBj.out hbk); have q0 := cell_keep hbk o0; have q1 := cell_keep hbk o1; have q2 := cell_keep hbk o2; have q3 := cell_keep hbk o3; clear hbk))
  have hb := HBk.out
  clear fa0 fb0 fa1 fb1 fa2 fb2 fa3 fb3 l0a l0b l1a l1b l2a l2b l3a l3b o0 q0 o1 q1 o2 q2 o3 q3 ea eb HBj HBk HOj HSW0 HXR0
  replace HK0 := Lib.hid (HK0.out.below z0 hb)
  replace z0 : w33.heap.size ≤ w44.heap.size := Nat.le_trans z0 hb.size
  replace HK1 := Lib.hid (HK1.out.below z1 hb)
  replace z1 : w35.heap.size ≤ w44.heap.size := Nat.le_trans z1 hb.size
  replace HK2 := Lib.hid (HK2.out.below z2 hb)
  replace z2 : w37.heap.size ≤ w44.heap.size := Nat.le_trans z2 hb.size
  replace HK3 := Lib.hid (HK3.out.below z3 hb)
  replace z3 : w39.heap.size ≤ w44.heap.size := Nat.le_trans z3 hb.size
  replace HKg0 := Lib.hid (HKg0.out.below zg0 hb)
  replace zg0 : w40.heap.size ≤ w44.heap.size := Nat.le_trans zg0 hb.size
  replace HKG0 := Lib.hid (HKG0.out.below zG0 hb)
  replace zG0 : w41.heap.size ≤ w44.heap.size := Nat.le_trans zG0 hb.size
  replace HBs := Lib.hid (ex_keep HBs.out hb)
  clear hb
  have fa0 := cell_keep HBs.out HC.out.1
  have fb0 := cell_keep HBs.out HC.out.2.1
  have fa1 := cell_keep HBs.out HC.out.2.2.1
  have fb1 := cell_keep HBs.out HC.out.2.2.2.1
  have fa2 := cell_keep HBs.out HC.out.2.2.2.2.1
  have fb2 := cell_keep HBs.out HC.out.2.2.2.2.2.1
  have fa3 := cell_keep HBs.out HC.out.2.2.2.2.2.2.1
  have fb3 := cell_keep HBs.out HC.out.2.2.2.2.2.2.2
  have l0a := HK0.out.cell (by omega) HCX0.out.1
  have l0b := HK0.out.cell (by omega) HCX0.out.2
  have l1a := HK1.out.cell (by omega) HCX1.out.1
  have l1b := HK1.out.cell (by omega) HCX1.out.2
  have l2a := HK2.out.cell (by omega) HCX2.out.1
  have l2b := HK2.out.cell (by omega) HCX2.out.2
  have l3a := HK3.out.cell (by omega) HCX3.out.1
  have l3b := HK3.out.cell (by omega) HCX3.out.2
  have HSW1 := Lib.hid (HW1.out.keep (ex_keep HB.out HBs.out))
  have HXR1 := Lib.hid (HX1.out.same HK1.out).reads
  go_wp2_with fail
  have ea := World.new_ne w44 _ fa1
  have eb := World.new_ne w44 _ l1a
  go_region_held3 (fun w' => w'.cell? ⟨w.heap.size + 1, 0, none⟩ = some (.int .i64 s1.sorts) ∧ w'.cell? ⟨w.heap.size + 1, 1, none⟩ = some (.slice A1a s1.ops.length c1a) ∧ w'.cell? ⟨w34.heap.size, 0, none⟩ = some (.int .i64 s1.sorts) ∧ w'.cell? ⟨w34.heap.size, 1, none⟩ = some (.slice AX1a s1.ops.length cX1a))
    (first | go_keep)
    (first
      | (go_at_call 13; refine (toSig_any _ s1 w44.drew HSW1.out HF1.out).mono ?_; rintro e w45 ⟨yj, rfl, hoj, hbj⟩; have HOj := Lib.hid hoj; have HBj := Lib.hid (show Below w44.heap.size w44 w45 from below_undrew hbj); have o0 := cell_keep HBj.out fa1; have o1 := cell_keep HBj.out fb1; have o2 := cell_keep HBj.out l1a; have o3 := cell_keep HBj.out l1b; clear hoj hbj)
      | (go_at_call 18; refine (eqSig_is _ _ s1 s1 _ true (sameS_self _) (HXR1.out.keep HBj.out) HOj.out.reads).mono ?_; rintro e w46 ⟨rfl, hbk⟩; have HBk := Lib.hid (ex_keep HBj.out hbk); have q0 := cell_keep hbk o0; have q1 := cell_keep hbk o1; have q2 := cell_keep hbk o2; have q3 := cell_keep hbk o3; clear hbk))
  have hb := HBk.out
  clear fa0 fb0 fa1 fb1 fa2 fb2 fa3 fb3 l0a l0b l1a l1b l2a l2b l3a l3b o0 q0 o1 q1 o2 q2 o3 q3 ea eb HBj HBk HOj HSW1 HXR1
  replace HK0 := Lib.hid (HK0.out.below z0 hb)
  replace z0 : w33.heap.size ≤ w46.heap.size := Nat.le_trans z0 hb.size
  replace HK1 := Lib.hid (HK1.out.below z1 hb)
  replace z1 : w35.heap.size ≤ w46.heap.size := Nat.le_trans z1 hb.size
  replace HK2 := Lib.hid (HK2.out.below z2 hb)
  replace z2 : w37.heap.size ≤ w46.heap.size := Nat.le_trans z2 hb.size
  replace HK3 := Lib.hid (HK3.out.below z3 hb)
  replace z3 : w39.heap.size ≤ w46.heap.size := Nat.le_trans z3 hb.size
  replace HKg0 := Lib.hid (HKg0.out.below zg0 hb)
  replace zg0 : w40.heap.size ≤ w46.heap.size := Nat.le_trans zg0 hb.size
  replace HKG0 := Lib.hid (HKG0.out.below zG0 hb)
  replace zG0 : w41.heap.size ≤ w46.heap.size := Nat.le_trans zG0 hb.size
  replace HBs := Lib.hid (ex_keep HBs.out hb)
  clear hb
  have fa0 := cell_keep HBs.out HC.out.1
  have fb0 := cell_keep HBs.out HC.out.2.1
  have fa1 := cell_keep HBs.out HC.out.2.2.1
  have fb1 := cell_keep HBs.out HC.out.2.2.2.1
  have fa2 := cell_keep HBs.out HC.out.2.2.2.2.1
  have fb2 := cell_keep HBs.out HC.out.2.2.2.2.2.1
  have fa3 := cell_keep HBs.out HC.out.2.2.2.2.2.2.1
  have fb3 := cell_keep HBs.out HC.out.2.2.2.2.2.2.2
  have l0a := HK0.out.cell (by omega) HCX0.out.1
  have l0b := HK0.out.cell (by omega) HCX0.out.2
  have l1a := HK1.out.cell (by omega) HCX1.out.1
  have l1b := HK1.out.cell (by omega) HCX1.out.2
  have l2a := HK2.out.cell (by omega) HCX2.out.1
  have l2b := HK2.out.cell (by omega) HCX2.out.2
  have l3a := HK3.out.cell (by omega) HCX3.out.1
  have l3b := HK3.out.cell (by omega) HCX3.out.2
  have HSW2 := Lib.hid (HW2.out.keep (ex_keep HB.out HBs.out))
  have HXR2 := Lib.hid (HX2.out.same HK2.out).reads
  go_wp2_with fail
  have ea := World.new_ne w46 _ fa2
  have eb := World.new_ne w46 _ l2a
  go_region_held3 (fun w' => w'.cell? ⟨w.heap.size + 1 + 1, 0, none⟩ = some (.slice A2a s2.sorts.length c2a) ∧ w'.cell? ⟨w.heap.size + 1 + 1, 1, none⟩ = some (.slice A2b s2.ops.length c2b) ∧ w'.cell? ⟨w36.heap.size, 0, none⟩ = some (.slice AX2a s2.sorts.length cX2a) ∧ w'.cell? ⟨w36.heap.size, 1, none⟩ = some (.slice AX2b s2.ops.length cX2b))
    (first | go_keep)
    (first
      | (go_at_call 14; refine (toMap_any _ s2 w46.drew HSW2.out HF2.out).mono ?_; rintro e w47 ⟨yj, rfl, hoj, hbj⟩; have HOj := Lib.hid hoj; have HBj := Lib.hid (show Below w46.heap.size w46 w47 from below_undrew hbj); have o0 := cell_keep HBj.out fa2; have o1 := cell_keep HBj.out fb2; have o2 := cell_keep HBj.out l2a; have o3 := cell_keep HBj.out l2b; clear hoj hbj)
      | (go_at_call 19; refine (eqMap_is _ _ s2 s2 _ true (sameMp_self _) (HXR2.out.keep HBj.out) HOj.out.reads).mono ?_; rintro e w48 ⟨rfl, hbk⟩; have HBk := Lib.hid (ex_keep HBj.out hbk); have q0 := cell_keep hbk o0; have q1 := cell_keep hbk o1; have q2 := cell_keep hbk o2; have q3 := cell_keep hbk o3; clear hbk))
  have hb := HBk.out
  clear fa0 fb0 fa1 fb1 fa2 fb2 fa3 fb3 l0a l0b l1a l1b l2a l2b l3a l3b o0 q0 o1 q1 o2 q2 o3 q3 ea eb HBj HBk HOj HSW2 HXR2
  replace HK0 := Lib.hid (HK0.out.below z0 hb)
  replace z0 : w33.heap.size ≤ w48.heap.size := Nat.le_trans z0 hb.size
  replace HK1 := Lib.hid (HK1.out.below z1 hb)
  replace z1 : w35.heap.size ≤ w48.heap.size := Nat.le_trans z1 hb.size
  replace HK2 := Lib.hid (HK2.out.below z2 hb)
  replace z2 : w37.heap.size ≤ w48.heap.size := Nat.le_trans z2 hb.size
  replace HK3 := Lib.hid (HK3.out.below z3 hb)
  replace z3 : w39.heap.size ≤ w48.heap.size := Nat.le_trans z3 hb.size
  replace HKg0 := Lib.hid (HKg0.out.below zg0 hb)
  replace zg0 : w40.heap.size ≤ w48.heap.size := Nat.le_trans zg0 hb.size
  replace HKG0 := Lib.hid (HKG0.out.below zG0 hb)
  replace zG0 : w41.heap.size ≤ w48.heap.size := Nat.le_trans zG0 hb.size
  replace HBs := Lib.hid (ex_keep HBs.out hb)
  clear hb
  have fa0 := cell_keep HBs.out HC.out.1
  have fb0 := cell_keep HBs.out HC.out.2.1
  have fa1 := cell_keep HBs.out HC.out.2.2.1
  have fb1 := cell_keep HBs.out HC.out.2.2.2.1
  have fa2 := cell_keep HBs.out HC.out.2.2.2.2.1
  have fb2 := cell_keep HBs.out HC.out.2.2.2.2.2.1
  have fa3 := cell_keep HBs.out HC.out.2.2.2.2.2.2.1
  have fb3 := cell_keep HBs.out HC.out.2.2.2.2.2.2.2
  have l0a := HK0.out.cell (by omega) HCX0.out.1
  have l0b := HK0.out.cell (by omega) HCX0.out.2
  have l1a := HK1.out.cell (by omega) HCX1.out.1
  have l1b := HK1.out.cell (by omega) HCX1.out.2
  have l2a := HK2.out.cell (by omega) HCX2.out.1
  have l2b := HK2.out.cell (by omega) HCX2.out.2
  have l3a := HK3.out.cell (by omega) HCX3.out.1
  have l3b := HK3.out.cell (by omega) HCX3.out.2
  have HSW3 := Lib.hid (HW3.out.keep (ex_keep HB.out HBs.out))
  have HXR3 := Lib.hid (HX3.out.same HK3.out).reads
  go_wp2_with fail
  have ea := World.new_ne w48 _ fa3
  have eb := World.new_ne w48 _ l3a
  go_region_held3 (fun w' => w'.cell? ⟨w.heap.size + 1 + 1 + 1, 0, none⟩ = some (.slice A3a s3.sizes.length c3a) ∧ w'.cell? ⟨w.heap.size + 1 + 1 + 1, 1, none⟩ = some (.slice A3b s3.tables.length c3b) ∧ w'.cell? ⟨w38.heap.size, 0, none⟩ = some (.slice AX3a s3.sizes.length cX3a) ∧ w'.cell? ⟨w38.heap.size, 1, none⟩ = some (.slice AX3b s3.tables.length cX3b))
    (first | go_keep)
    (first
      | (go_at_call 15; refine (toModel_any _ s3 w48.drew HSW3.out HF3.out).mono ?_; rintro e w49 ⟨yj, rfl, hoj, hbj⟩; have HOj := Lib.hid hoj; have HBj := Lib.hid (show Below w48.heap.size w48 w49 from below_undrew hbj); have o0 := cell_keep HBj.out fa3; have o1 := cell_keep HBj.out fb3; have o2 := cell_keep HBj.out l3a; have o3 := cell_keep HBj.out l3b; clear hoj hbj)
      | (go_at_call 17; refine (eqModel_is _ _ s3 s3 _ true (sameMd_self _) (HXR3.out.keep HBj.out) HOj.out.reads).mono ?_; rintro e w50 ⟨rfl, hbk⟩; have HBk := Lib.hid (ex_keep HBj.out hbk); have q0 := cell_keep hbk o0; have q1 := cell_keep hbk o1; have q2 := cell_keep hbk o2; have q3 := cell_keep hbk o3; clear hbk))
  have hb := HBk.out
  clear fa0 fb0 fa1 fb1 fa2 fb2 fa3 fb3 l0a l0b l1a l1b l2a l2b l3a l3b o0 q0 o1 q1 o2 q2 o3 q3 ea eb HBj HBk HOj HSW3 HXR3
  replace HK0 := Lib.hid (HK0.out.below z0 hb)
  replace z0 : w33.heap.size ≤ w50.heap.size := Nat.le_trans z0 hb.size
  replace HK1 := Lib.hid (HK1.out.below z1 hb)
  replace z1 : w35.heap.size ≤ w50.heap.size := Nat.le_trans z1 hb.size
  replace HK2 := Lib.hid (HK2.out.below z2 hb)
  replace z2 : w37.heap.size ≤ w50.heap.size := Nat.le_trans z2 hb.size
  replace HK3 := Lib.hid (HK3.out.below z3 hb)
  replace z3 : w39.heap.size ≤ w50.heap.size := Nat.le_trans z3 hb.size
  replace HKg0 := Lib.hid (HKg0.out.below zg0 hb)
  replace zg0 : w40.heap.size ≤ w50.heap.size := Nat.le_trans zg0 hb.size
  replace HKG0 := Lib.hid (HKG0.out.below zG0 hb)
  replace zG0 : w41.heap.size ≤ w50.heap.size := Nat.le_trans zG0 hb.size
  replace HBs := Lib.hid (ex_keep HBs.out hb)
  clear hb
  have l0a := HK0.out.cell (by omega) HCX0.out.1
  have l0b := HK0.out.cell (by omega) HCX0.out.2
  go_wp2_with fail
  refine (markSig_go _ _ s0 _ w33 _ HX0.out HK0.out z0 HF0.out (by omega) (by omega)).mono ?_
  rintro e w51 ⟨k0, rfl, hka0, hkb0, wa, hb, hout⟩
  have hzo := hout.size
  replace HK1 := Lib.hid ((HK1.out.below z1 hb).outside hout (by omega))
  replace z1 : w35.heap.size ≤ w51.heap.size := by have := hb.size; omega
  replace HK2 := Lib.hid ((HK2.out.below z2 hb).outside hout (by omega))
  replace z2 : w37.heap.size ≤ w51.heap.size := by have := hb.size; omega
  replace HK3 := Lib.hid ((HK3.out.below z3 hb).outside hout (by omega))
  replace z3 : w39.heap.size ≤ w51.heap.size := by have := hb.size; omega
  replace HKg0 := Lib.hid ((HKg0.out.below zg0 hb).outside hout (by omega))
  replace zg0 : w40.heap.size ≤ w51.heap.size := by have := hb.size; omega
  replace HKG0 := Lib.hid ((HKG0.out.below zG0 hb).outside hout (by omega))
  replace zG0 : w41.heap.size ≤ w51.heap.size := by have := hb.size; omega
  replace HBs := Lib.hid ((ex_keep HBs.out hb).trans (hout.below.mono (by omega)))
  clear hb hout hzo HK0 z0 HX0 l0a l0b
  have l1a := HK1.out.cell (by omega) HCX1.out.1
  have l1b := HK1.out.cell (by omega) HCX1.out.2
  go_wp2_with fail
  refine (markSig_go _ _ s1 _ w35 _ HX1.out HK1.out z1 HF1.out (by omega) (by omega)).mono ?_
  rintro e w52 ⟨k1, rfl, hka1, hkb1, wa, hb, hout⟩
  have hzo := hout.size
  replace HK2 := Lib.hid ((HK2.out.below z2 hb).outside hout (by omega))
  replace z2 : w37.heap.size ≤ w52.heap.size := by have := hb.size; omega
  replace HK3 := Lib.hid ((HK3.out.below z3 hb).outside hout (by omega))
  replace z3 : w39.heap.size ≤ w52.heap.size := by have := hb.size; omega
  replace HKg0 := Lib.hid ((HKg0.out.below zg0 hb).outside hout (by omega))
  replace zg0 : w40.heap.size ≤ w52.heap.size := by have := hb.size; omega
  replace HKG0 := Lib.hid ((HKG0.out.below zG0 hb).outside hout (by omega))
  replace zG0 : w41.heap.size ≤ w52.heap.size := by have := hb.size; omega
  replace HBs := Lib.hid ((ex_keep HBs.out hb).trans (hout.below.mono (by omega)))
  clear hb hout hzo HK1 z1 HX1 l1a l1b
  have l2a := HK2.out.cell (by omega) HCX2.out.1
  have l2b := HK2.out.cell (by omega) HCX2.out.2
  go_wp2_with fail
  refine (markMap_go _ _ s2 _ w37 _ HX2.out HK2.out z2 HF2.out (by omega) (by omega)).mono ?_
  rintro e w53 ⟨k2, rfl, hka2, hkb2, wa, hb, hout⟩
  have hzo := hout.size
  replace HK3 := Lib.hid ((HK3.out.below z3 hb).outside hout (by omega))
  replace z3 : w39.heap.size ≤ w53.heap.size := by have := hb.size; omega
  replace HKg0 := Lib.hid ((HKg0.out.below zg0 hb).outside hout (by omega))
  replace zg0 : w40.heap.size ≤ w53.heap.size := by have := hb.size; omega
  replace HKG0 := Lib.hid ((HKG0.out.below zG0 hb).outside hout (by omega))
  replace zG0 : w41.heap.size ≤ w53.heap.size := by have := hb.size; omega
  replace HBs := Lib.hid ((ex_keep HBs.out hb).trans (hout.below.mono (by omega)))
  clear hb hout hzo HK2 z2 HX2 l2a l2b
  have l3a := HK3.out.cell (by omega) HCX3.out.1
  have l3b := HK3.out.cell (by omega) HCX3.out.2
  go_wp2_with fail
  refine (markModel_go _ _ s3 _ w39 _ HX3.out HK3.out z3 HF3.out (by omega) (by omega)).mono ?_
  rintro e w54 ⟨k3, rfl, hka3, hkb3, wa, hb, hout⟩
  have hzo := hout.size
  replace HKg0 := Lib.hid ((HKg0.out.below zg0 hb).outside hout (by omega))
  replace zg0 : w40.heap.size ≤ w54.heap.size := by have := hb.size; omega
  replace HKG0 := Lib.hid ((HKG0.out.below zG0 hb).outside hout (by omega))
  replace zG0 : w41.heap.size ≤ w54.heap.size := by have := hb.size; omega
  replace HBs := Lib.hid ((ex_keep HBs.out hb).trans (hout.below.mono (by omega)))
  clear hb hout hzo HK3 z3 HX3 l3a l3b
  have u0a := HKG0.out.cell (by omega) HCG0.out.1
  have u0b := HKG0.out.cell (by omega) HCG0.out.2
  have v0a := cell_keep HBs.out (blk_cell_at HCZ0.out (i := 0) (u := .slice Az0a R.sizes.length cz0a) rfl)
  have v0b := cell_keep HBs.out (blk_cell_at HCZ0.out (i := 1) (u := .slice Az0b R.tables.length cz0b) rfl)
  go_wp2_with fail
  refine (eqModel_is _ _ R R _ true (sameMd_self _) (HG0.out.same HKg0.out).reads (HZ0.out.keep HBs.out).reads).mono ?_
  rintro e w55 ⟨rfl, hb⟩
  clear u0a u0b v0a v0b
  replace HKg0 := Lib.hid (HKg0.out.below zg0 hb)
  replace zg0 : w40.heap.size ≤ w55.heap.size := Nat.le_trans zg0 hb.size
  replace HKG0 := Lib.hid (HKG0.out.below zG0 hb)
  replace zG0 : w41.heap.size ≤ w55.heap.size := Nat.le_trans zG0 hb.size
  replace HBs := Lib.hid (ex_keep HBs.out hb)
  clear hb
  have u0a := HKG0.out.cell (by omega) HCG0.out.1
  have u0b := HKG0.out.cell (by omega) HCG0.out.2
  go_wp2_with fail
  refine (markModel_g _ _ R w40 _ HG0.out HKg0.out zg0 HLEN.out).mono ?_
  rintro e w56 ⟨K0, rfl, hK0, hheld, wa, hb, hout⟩
  have HH0 := Lib.hid hheld
  have hzo := hout.size
  replace HKG0 := Lib.hid ((HKG0.out.below zG0 hb).outside hout (by omega))
  replace zG0 : w41.heap.size ≤ w56.heap.size := by have := hb.size; omega
  replace HBs := Lib.hid ((ex_keep HBs.out hb).trans (hout.below.mono (by omega)))
  clear hb hout hzo hheld HKg0 HG0 u0a u0b
  clear zg0
  have HKh0 : Hid (Keeps w39.heap.size w56 w56) := Keeps.refl _ _
  have zh0 : w56.heap.size ≤ w56.heap.size := Nat.le_refl _
  have ek : (K0 != K0) = false := by simp
  have u0a := HKG0.out.cell (by omega) HCG0.out.1
  have u0b := HKG0.out.cell (by omega) HCG0.out.2
  go_wp2_with fail
  refine (HH0.out _ HKh0.out).mono ?_
  rintro e w57 ⟨rfl, hb⟩
  clear u0a u0b
  replace HKG0 := Lib.hid (HKG0.out.below zG0 hb)
  replace zG0 : w41.heap.size ≤ w57.heap.size := Nat.le_trans zG0 hb.size
  replace HKh0 := Lib.hid (HKh0.out.below zh0 hb)
  replace zh0 : w56.heap.size ≤ w57.heap.size := Nat.le_trans zh0 hb.size
  replace HBs := Lib.hid (ex_keep HBs.out hb)
  clear hb
  have fa0 := cell_keep HBs.out HC.out.1
  have fb0 := cell_keep HBs.out HC.out.2.1
  have fa1 := cell_keep HBs.out HC.out.2.2.1
  have fb1 := cell_keep HBs.out HC.out.2.2.2.1
  have fa2 := cell_keep HBs.out HC.out.2.2.2.2.1
  have fb2 := cell_keep HBs.out HC.out.2.2.2.2.2.1
  have fa3 := cell_keep HBs.out HC.out.2.2.2.2.2.2.1
  have fb3 := cell_keep HBs.out HC.out.2.2.2.2.2.2.2
  have hbx := World.block_lt_of_cell? w57 _ fb3
  simp only at hbx
  go_wp2_with fail
  go_cut [19] (fun s0 wx => ∃ (bz : Nat) (Ah0a : Option Addr) (ch0a : Nat) (Ah0b : Option Addr) (ch0b : Nat), s0 = .pointer (some ⟨bz, 0, none⟩) ∧ w57.heap.size ≤ bz ∧ wx.heap[bz]? = some (.cells #[.slice Ah0a R.sizes.length ch0a, .slice Ah0b R.tables.length ch0b] 33 (0, 0)) ∧ OModel wx w57.heap.size (.agg #[.slice Ah0a R.sizes.length ch0a, .slice Ah0b R.tables.length ch0b]) R ∧ Below w57.heap.size w57 wx)
  case first =>
    refine wp_region_held_drew (S := (fun w' => w'.cell? ⟨w.heap.size, 0, none⟩ = some (.int .i64 s0.sorts) ∧ w'.cell? ⟨w.heap.size, 1, none⟩ = some (.slice A0a s0.ops.length c0a) ∧ w'.cell? ⟨w.heap.size + 1, 0, none⟩ = some (.int .i64 s1.sorts) ∧ w'.cell? ⟨w.heap.size + 1, 1, none⟩ = some (.slice A1a s1.ops.length c1a) ∧ w'.cell? ⟨w.heap.size + 1 + 1, 0, none⟩ = some (.slice A2a s2.sorts.length c2a) ∧ w'.cell? ⟨w.heap.size + 1 + 1, 1, none⟩ = some (.slice A2b s2.ops.length c2b) ∧ w'.cell? ⟨w.heap.size + 1 + 1 + 1, 0, none⟩ = some (.slice A3a s3.sizes.length c3a) ∧ w'.cell? ⟨w.heap.size + 1 + 1 + 1, 1, none⟩ = some (.slice A3b s3.tables.length c3b))) (by kernel_rfl) ?_ (fun hHeld => ?_)
    · exact ⟨fa0, fb0, fa1, fb1, fa2, fb2, fa3, fb3⟩
    refine wpAnyH_take (i := 0) (oi := _) (v := ?_) rfl (by kernel_rfl) (by kernel_rfl) (by kernel_rfl) (fun _ _ _ h => h) (Or.inl ⟨by rfl, ?_⟩) (by assumption) ?_
    rotate_left
    · first | (intro w' hSw; (try dsimp only at hSw); go_simp; done) | (intro w' hSw; (try dsimp only at hSw); go_simp; with_reducible rfl)
    try simp only [Act.put, List.getElem_toArray, List.getElem_cons_zero, List.getElem_cons_succ, List.setIfInBounds_toArray, List.set_cons_zero, List.set_cons_succ]
    refine wpAnyH_take (i := 2) (oi := _) (v := ?_) rfl (by kernel_rfl) (by kernel_rfl) (by kernel_rfl) (fun _ _ _ h => h) (Or.inl ⟨by rfl, ?_⟩) (by assumption) ?_
    rotate_left
    · first | (intro w' hSw; (try dsimp only at hSw); go_simp; done) | (intro w' hSw; (try dsimp only at hSw); go_simp; with_reducible rfl)
    try simp only [Act.put, List.getElem_toArray, List.getElem_cons_zero, List.getElem_cons_succ, List.setIfInBounds_toArray, List.set_cons_zero, List.set_cons_succ]
    refine wpAnyH_take (i := 4) (oi := _) (v := ?_) rfl (by kernel_rfl) (by kernel_rfl) (by kernel_rfl) (fun _ _ _ h => h) (Or.inl ⟨by rfl, ?_⟩) (by assumption) ?_
    rotate_left
    · first | (intro w' hSw; (try dsimp only at hSw); go_simp; done) | (intro w' hSw; (try dsimp only at hSw); go_simp; with_reducible rfl)
    try simp only [Act.put, List.getElem_toArray, List.getElem_cons_zero, List.getElem_cons_succ, List.setIfInBounds_toArray, List.set_cons_zero, List.set_cons_succ]
    refine wpAnyH_take (i := 6) (oi := _) (v := ?_) rfl (by kernel_rfl) (by kernel_rfl) (by kernel_rfl) (fun _ _ _ h => h) (Or.inl ⟨by rfl, ?_⟩) (by assumption) ?_
    rotate_left
    · first | (intro w' hSw; (try dsimp only at hSw); go_simp; done) | (intro w' hSw; (try dsimp only at hSw); go_simp; with_reducible rfl)
    try simp only [Act.put, List.getElem_toArray, List.getElem_cons_zero, List.getElem_cons_succ, List.setIfInBounds_toArray, List.set_cons_zero, List.set_cons_succ]
    refine wpAnyH_ready (rs := [1, 9]) (by kernel_rfl) (by simp) ?_
    refine AllReadyH.cons (o := _) rfl (fun K hK => ?_) (AllReadyH.cons (o := _) rfl (fun K hK => ?_) AllReadyH.nil)
    · skip
      go_simp
      refine (toSig_any _ s0 _ (HW0.out.keep (ex_drew (ex_keep HB.out HBs.out))) HF0.out).mono ?_
      rintro e w59 ⟨y0, rfl, ho, hb⟩
      replace hb := ex_undrew hb
      replace fa0 := cell_keep hb fa0
      replace fb0 := cell_keep hb fb0
      replace fa1 := cell_keep hb fa1
      replace fb1 := cell_keep hb fb1
      replace fa2 := cell_keep hb fa2
      replace fb2 := cell_keep hb fb2
      replace fa3 := cell_keep hb fa3
      replace fb3 := cell_keep hb fb3
      have HP := Lib.hid hb
      have PP0 := Lib.hid ho.reads
      obtain ⟨AY0a, cY0a, rfl⟩ := ho.reads.form
      clear ho hb
      go_wp2_with fail
      refine hK.out _ _ ?_ (fun hHeld => ?_)
      · exact ⟨fa0, fb0, fa1, fb1, fa2, fb2, fa3, fb3⟩
      clear hK K
      try simp only [Act.put, List.getElem_toArray, List.getElem_cons_zero, List.getElem_cons_succ, List.setIfInBounds_toArray, List.set_cons_zero, List.set_cons_succ]
      refine wpAnyH_ready (rs := [3, 9]) (by kernel_rfl) (by simp) ?_
      refine AllReadyH.cons (o := _) rfl (fun K hK => ?_) (AllReadyH.cons (o := _) rfl (fun K hK => ?_) AllReadyH.nil)
      · skip
        go_simp
        refine (toSig_any _ s1 _ (HW1.out.keep (ex_keep (ex_keep HB.out HBs.out) HP.out)) HF1.out).mono ?_
        rintro e w60 ⟨y1, rfl, ho, hb⟩
        replace fa0 := cell_keep hb fa0
        replace fb0 := cell_keep hb fb0
        replace fa1 := cell_keep hb fa1
        replace fb1 := cell_keep hb fb1
        replace fa2 := cell_keep hb fa2
        replace fb2 := cell_keep hb fb2
        replace fa3 := cell_keep hb fa3
        replace fb3 := cell_keep hb fb3
        replace PP0 := Lib.hid (PP0.out.keep hb)
        replace HP := Lib.hid (ex_keep HP.out hb)
        have PP1 := Lib.hid ho.reads
        obtain ⟨AY1a, cY1a, rfl⟩ := ho.reads.form
        clear ho hb
        go_wp2_with fail
        refine hK.out _ _ ?_ (fun hHeld => ?_)
        · exact ⟨fa0, fb0, fa1, fb1, fa2, fb2, fa3, fb3⟩
        clear hK K
        try simp only [Act.put, List.getElem_toArray, List.getElem_cons_zero, List.getElem_cons_succ, List.setIfInBounds_toArray, List.set_cons_zero, List.set_cons_succ]
        refine wpAnyH_ready (rs := [5, 9]) (by kernel_rfl) (by simp) ?_
        refine AllReadyH.cons (o := _) rfl (fun K hK => ?_) (AllReadyH.cons (o := _) rfl (fun K hK => ?_) AllReadyH.nil)
        · skip
          go_simp
          refine (toMap_any _ s2 _ (HW2.out.keep (ex_keep (ex_keep HB.out HBs.out) HP.out)) HF2.out).mono ?_
          rintro e w61 ⟨y2, rfl, ho, hb⟩
          replace fa0 := cell_keep hb fa0
          replace fb0 := cell_keep hb fb0
          replace fa1 := cell_keep hb fa1
          replace fb1 := cell_keep hb fb1
          replace fa2 := cell_keep hb fa2
          replace fb2 := cell_keep hb fb2
          replace fa3 := cell_keep hb fa3
          replace fb3 := cell_keep hb fb3
          replace PP0 := Lib.hid (PP0.out.keep hb)
          replace PP1 := Lib.hid (PP1.out.keep hb)
          replace HP := Lib.hid (ex_keep HP.out hb)
          have PP2 := Lib.hid ho.reads
          obtain ⟨AY2a, cY2a, AY2b, cY2b, rfl⟩ := ho.reads.form
          clear ho hb
          go_wp2_with fail
          refine hK.out _ _ ?_ (fun hHeld => ?_)
          · exact ⟨fa0, fb0, fa1, fb1, fa2, fb2, fa3, fb3⟩
          clear hK K
          try simp only [Act.put, List.getElem_toArray, List.getElem_cons_zero, List.getElem_cons_succ, List.setIfInBounds_toArray, List.set_cons_zero, List.set_cons_succ]
          refine wpAnyH_ready (rs := [7, 9]) (by kernel_rfl) (by simp) ?_
          refine AllReadyH.cons (o := _) rfl (fun K hK => ?_) (AllReadyH.cons (o := _) rfl (fun K hK => ?_) AllReadyH.nil)
          · skip
            go_simp
            refine (toModel_any _ s3 _ (HW3.out.keep (ex_keep (ex_keep HB.out HBs.out) HP.out)) HF3.out).mono ?_
            rintro e w62 ⟨y3, rfl, ho, hb⟩
            replace fa0 := cell_keep hb fa0
            replace fb0 := cell_keep hb fb0
            replace fa1 := cell_keep hb fa1
            replace fb1 := cell_keep hb fb1
            replace fa2 := cell_keep hb fa2
            replace fb2 := cell_keep hb fb2
            replace fa3 := cell_keep hb fa3
            replace fb3 := cell_keep hb fb3
            replace PP0 := Lib.hid (PP0.out.keep hb)
            replace PP1 := Lib.hid (PP1.out.keep hb)
            replace PP2 := Lib.hid (PP2.out.keep hb)
            replace HP := Lib.hid (ex_keep HP.out hb)
            have PP3 := Lib.hid ho.reads
            obtain ⟨AY3a, cY3a, AY3b, cY3b, rfl⟩ := ho.reads.form
            clear ho hb
            go_wp2_with fail
            refine hK.out _ _ ?_ (fun hHeld => ?_)
            · exact ⟨fa0, fb0, fa1, fb1, fa2, fb2, fa3, fb3⟩
            clear hK K
            try simp only [Act.put, List.getElem_toArray, List.getElem_cons_zero, List.getElem_cons_succ, List.setIfInBounds_toArray, List.set_cons_zero, List.set_cons_succ]
            refine wpAnyH_ready (rs := [8, 9]) (by kernel_rfl) (by simp) ?_
            refine AllReadyH.cons (o := _) rfl (fun K hK => ?_) (AllReadyH.cons (o := _) rfl (fun K hK => ?_) AllReadyH.nil)
            · skip
              go_simp
              have hs1 := HP.out.size
              refine (modelBack_any s0 s1 s2 s3 _ _ _ _ _ PP0.out PP1.out PP2.out PP3.out).mono ?_
              rw [HR.out]
              rintro e w63 ⟨h0, rfl, ho0, hb⟩
              obtain ⟨Ah0a, ch0a, Ah0b, ch0b, rfl⟩ := ho0.reads.form
              have HO := Lib.hid ho0
              have hs2 := hb.size
              replace fa0 := cell_keep hb fa0
              replace fb0 := cell_keep hb fb0
              replace fa1 := cell_keep hb fa1
              replace fb1 := cell_keep hb fb1
              replace fa2 := cell_keep hb fa2
              replace fb2 := cell_keep hb fb2
              replace fa3 := cell_keep hb fa3
              replace fb3 := cell_keep hb fb3
              replace HP := Lib.hid (ex_keep HP.out hb)
              clear ho0 hb PP0 PP1 PP2 PP3
              go_wp2_with fail
              refine hK.out _ _ ?_ (fun hHeld => ?_)
              · exact ⟨fa0, fb0, fa1, fb1, fa2, fb2, fa3, fb3⟩
              clear hK K
              try simp only [Act.put, List.getElem_toArray, List.getElem_cons_zero, List.getElem_cons_succ, List.setIfInBounds_toArray, List.set_cons_zero, List.set_cons_succ]
              refine wpAnyH_ready (rs := [9]) (by kernel_rfl) (by simp) ?_
              refine AllReadyH.cons (o := _) rfl (fun K hK => ?_) AllReadyH.nil
              have hzl := HP.out.size
              go_simp
              have hb := below_alloc w63 (.cells #[.slice none 0 0, .slice none 0 0] 33)
              have hz := heap_alloc_new w63 (.cells #[.slice none 0 0, .slice none 0 0] 33)
              generalize hWA : w63.alloc (.cells #[.slice none 0 0, .slice none 0 0] 33) = w64 at hb hz ⊢
              clear hWA
              have HZb := Lib.hid (show w64.heap[w63.heap.size]? = some (.cells #[.slice none 0 0, .slice none 0 0] 33 (0, 0)) from hz)
              have HLATE := Lib.hid hb.block
              replace fa0 := cell_keep hb fa0
              replace fb0 := cell_keep hb fb0
              replace fa1 := cell_keep hb fa1
              replace fb1 := cell_keep hb fb1
              replace fa2 := cell_keep hb fa2
              replace fb2 := cell_keep hb fb2
              replace fa3 := cell_keep hb fa3
              replace fb3 := cell_keep hb fb3
              replace HP := Lib.hid (ex_keep HP.out hb)
              have j0 := blk_cell HZb.out 0
              have jf0 := blk_free HZb.out 0
              have j1 := blk_cell HZb.out 1
              have jf1 := blk_free HZb.out 1
              simp at j0 j1
              clear hb hz
              go_wp2_with fail
              refine hK.out _ _ ?_ (fun hHeld => ?_)
              · exact ⟨fa0, fb0, fa1, fb1, fa2, fb2, fa3, fb3⟩
              clear hK K
              try simp only [Act.put, List.getElem_toArray, List.getElem_cons_zero, List.getElem_cons_succ, List.setIfInBounds_toArray, List.set_cons_zero, List.set_cons_succ]
              refine wpAnyH_ready (rs := [10]) (by kernel_rfl) (by simp) ?_
              refine AllReadyH.cons (o := _) rfl (fun K hK => ?_) AllReadyH.nil
              go_simp
              go_wp2_with fail
              refine hK.out _ _ ?_ (fun hHeld => ?_)
              · exact ⟨(set_far (by omega) _ _ _).trans ((set_far (by omega) _ _ _).trans (fa0)), (set_far (by omega) _ _ _).trans ((set_far (by omega) _ _ _).trans (fb0)), (set_far (by omega) _ _ _).trans ((set_far (by omega) _ _ _).trans (fa1)), (set_far (by omega) _ _ _).trans ((set_far (by omega) _ _ _).trans (fb1)), (set_far (by omega) _ _ _).trans ((set_far (by omega) _ _ _).trans (fa2)), (set_far (by omega) _ _ _).trans ((set_far (by omega) _ _ _).trans (fb2)), (set_far (by omega) _ _ _).trans ((set_far (by omega) _ _ _).trans (fa3)), (set_far (by omega) _ _ _).trans ((set_far (by omega) _ _ _).trans (fb3))⟩
              clear hK K
              try simp only [Act.put, List.getElem_toArray, List.getElem_cons_zero, List.getElem_cons_succ, List.setIfInBounds_toArray, List.set_cons_zero, List.set_cons_succ]
              refine wpAnyH_done (by kernel_rfl) ?_ _
              go_wp2_with fail
              go_meet
              exact ⟨_, _, _, _, _, rfl, hzl, (blk_set (blk_set HZb.out 0 (.slice Ah0a R.sizes.length ch0a)) 1 (.slice Ah0b R.tables.length ch0b)), (HO.out.same (fun k q1 q2 => ((set_blk (by omega) _ _).trans (set_blk (by omega) _ _)).trans (HLATE.out k q2))).base (by omega), ((HP.out.setCell (p := ⟨w63.heap.size, 0, none⟩) hzl (.slice Ah0a R.sizes.length ch0a)).setCell (p := ⟨w63.heap.size, 1, none⟩) hzl (.slice Ah0b R.tables.length ch0b))⟩
            · skip
              go_simp
              have hb := below_alloc w62 (.cells #[.slice none 0 0, .slice none 0 0] 33)
              have hz := heap_alloc_new w62 (.cells #[.slice none 0 0, .slice none 0 0] 33)
              generalize hWA : w62.alloc (.cells #[.slice none 0 0, .slice none 0 0] 33) = w65 at hb hz ⊢
              clear hWA
              have HZb := Lib.hid (show w65.heap[w62.heap.size]? = some (.cells #[.slice none 0 0, .slice none 0 0] 33 (0, 0)) from hz)
              have hzl : w57.heap.size ≤ w62.heap.size := HP.out.size
              replace fa0 := cell_keep hb fa0
              replace fb0 := cell_keep hb fb0
              replace fa1 := cell_keep hb fa1
              replace fb1 := cell_keep hb fb1
              replace fa2 := cell_keep hb fa2
              replace fb2 := cell_keep hb fb2
              replace fa3 := cell_keep hb fa3
              replace fb3 := cell_keep hb fb3
              replace PP0 := Lib.hid (PP0.out.keep hb)
              replace PP1 := Lib.hid (PP1.out.keep hb)
              replace PP2 := Lib.hid (PP2.out.keep hb)
              replace PP3 := Lib.hid (PP3.out.keep hb)
              replace HP := Lib.hid (ex_keep HP.out hb)
              clear hb hz
              go_wp2_with fail
              refine hK.out _ _ ?_ (fun hHeld => ?_)
              · exact ⟨fa0, fb0, fa1, fb1, fa2, fb2, fa3, fb3⟩
              clear hK K
              try simp only [Act.put, List.getElem_toArray, List.getElem_cons_zero, List.getElem_cons_succ, List.setIfInBounds_toArray, List.set_cons_zero, List.set_cons_succ]
              refine wpAnyH_ready (rs := [8]) (by kernel_rfl) (by simp) ?_
              refine AllReadyH.cons (o := _) rfl (fun K hK => ?_) AllReadyH.nil
              go_simp
              have hs1 := HP.out.size
              have hbl := (Array.getElem?_eq_some_iff.1 HZb.out).1
              refine (modelBack_any s0 s1 s2 s3 _ _ _ _ _ PP0.out PP1.out PP2.out PP3.out).mono ?_
              rw [HR.out]
              rintro e w66 ⟨h0, rfl, ho0, hb⟩
              obtain ⟨Ah0a, ch0a, Ah0b, ch0b, rfl⟩ := ho0.reads.form
              have HO := Lib.hid ho0
              have hs2 := hb.size
              replace fa0 := cell_keep hb fa0
              replace fb0 := cell_keep hb fb0
              replace fa1 := cell_keep hb fa1
              replace fb1 := cell_keep hb fb1
              replace fa2 := cell_keep hb fa2
              replace fb2 := cell_keep hb fb2
              replace fa3 := cell_keep hb fa3
              replace fb3 := cell_keep hb fb3
              replace HP := Lib.hid (ex_keep HP.out hb)
              replace HZb := Lib.hid (blk_at HZb.out hb)
              have j0 := blk_cell HZb.out 0
              have jf0 := blk_free HZb.out 0
              have j1 := blk_cell HZb.out 1
              have jf1 := blk_free HZb.out 1
              simp at j0 j1
              clear ho0 hb PP0 PP1 PP2 PP3
              go_wp2_with fail
              refine hK.out _ _ ?_ (fun hHeld => ?_)
              · exact ⟨fa0, fb0, fa1, fb1, fa2, fb2, fa3, fb3⟩
              clear hK K
              try simp only [Act.put, List.getElem_toArray, List.getElem_cons_zero, List.getElem_cons_succ, List.setIfInBounds_toArray, List.set_cons_zero, List.set_cons_succ]
              refine wpAnyH_ready (rs := [10]) (by kernel_rfl) (by simp) ?_
              refine AllReadyH.cons (o := _) rfl (fun K hK => ?_) AllReadyH.nil
              go_simp
              go_wp2_with fail
              refine hK.out _ _ ?_ (fun hHeld => ?_)
              · exact ⟨(set_far (by omega) _ _ _).trans ((set_far (by omega) _ _ _).trans (fa0)), (set_far (by omega) _ _ _).trans ((set_far (by omega) _ _ _).trans (fb0)), (set_far (by omega) _ _ _).trans ((set_far (by omega) _ _ _).trans (fa1)), (set_far (by omega) _ _ _).trans ((set_far (by omega) _ _ _).trans (fb1)), (set_far (by omega) _ _ _).trans ((set_far (by omega) _ _ _).trans (fa2)), (set_far (by omega) _ _ _).trans ((set_far (by omega) _ _ _).trans (fb2)), (set_far (by omega) _ _ _).trans ((set_far (by omega) _ _ _).trans (fa3)), (set_far (by omega) _ _ _).trans ((set_far (by omega) _ _ _).trans (fb3))⟩
              clear hK K
              try simp only [Act.put, List.getElem_toArray, List.getElem_cons_zero, List.getElem_cons_succ, List.setIfInBounds_toArray, List.set_cons_zero, List.set_cons_succ]
              refine wpAnyH_done (by kernel_rfl) ?_ _
              go_wp2_with fail
              go_meet
              exact ⟨_, _, _, _, _, rfl, hzl, (blk_set (blk_set HZb.out 0 (.slice Ah0a R.sizes.length ch0a)) 1 (.slice Ah0b R.tables.length ch0b)), (HO.out.same (fun k q1 q2 => ((set_blk (by omega) _ _).trans (set_blk (by omega) _ _)))).base (by omega), ((HP.out.setCell (p := ⟨w62.heap.size, 0, none⟩) hzl (.slice Ah0a R.sizes.length ch0a)).setCell (p := ⟨w62.heap.size, 1, none⟩) hzl (.slice Ah0b R.tables.length ch0b))⟩
          · skip
            go_simp
            have hb := below_alloc w61 (.cells #[.slice none 0 0, .slice none 0 0] 33)
            have hz := heap_alloc_new w61 (.cells #[.slice none 0 0, .slice none 0 0] 33)
            generalize hWA : w61.alloc (.cells #[.slice none 0 0, .slice none 0 0] 33) = w67 at hb hz ⊢
            clear hWA
            have HZb := Lib.hid (show w67.heap[w61.heap.size]? = some (.cells #[.slice none 0 0, .slice none 0 0] 33 (0, 0)) from hz)
            have hzl : w57.heap.size ≤ w61.heap.size := HP.out.size
            replace fa0 := cell_keep hb fa0
            replace fb0 := cell_keep hb fb0
            replace fa1 := cell_keep hb fa1
            replace fb1 := cell_keep hb fb1
            replace fa2 := cell_keep hb fa2
            replace fb2 := cell_keep hb fb2
            replace fa3 := cell_keep hb fa3
            replace fb3 := cell_keep hb fb3
            replace PP0 := Lib.hid (PP0.out.keep hb)
            replace PP1 := Lib.hid (PP1.out.keep hb)
            replace PP2 := Lib.hid (PP2.out.keep hb)
            replace HP := Lib.hid (ex_keep HP.out hb)
            clear hb hz
            go_wp2_with fail
            refine hK.out _ _ ?_ (fun hHeld => ?_)
            · exact ⟨fa0, fb0, fa1, fb1, fa2, fb2, fa3, fb3⟩
            clear hK K
            try simp only [Act.put, List.getElem_toArray, List.getElem_cons_zero, List.getElem_cons_succ, List.setIfInBounds_toArray, List.set_cons_zero, List.set_cons_succ]
            refine wpAnyH_ready (rs := [7]) (by kernel_rfl) (by simp) ?_
            refine AllReadyH.cons (o := _) rfl (fun K hK => ?_) AllReadyH.nil
            go_simp
            refine (toModel_any _ s3 _ (HW3.out.keep (ex_keep (ex_keep HB.out HBs.out) HP.out)) HF3.out).mono ?_
            rintro e w68 ⟨y3, rfl, ho, hb⟩
            replace fa0 := cell_keep hb fa0
            replace fb0 := cell_keep hb fb0
            replace fa1 := cell_keep hb fa1
            replace fb1 := cell_keep hb fb1
            replace fa2 := cell_keep hb fa2
            replace fb2 := cell_keep hb fb2
            replace fa3 := cell_keep hb fa3
            replace fb3 := cell_keep hb fb3
            replace PP0 := Lib.hid (PP0.out.keep hb)
            replace PP1 := Lib.hid (PP1.out.keep hb)
            replace PP2 := Lib.hid (PP2.out.keep hb)
            replace HP := Lib.hid (ex_keep HP.out hb)
            replace HZb := Lib.hid (blk_at HZb.out hb)
            have PP3 := Lib.hid ho.reads
            obtain ⟨AY3a, cY3a, AY3b, cY3b, rfl⟩ := ho.reads.form
            clear ho hb
            go_wp2_with fail
            refine hK.out _ _ ?_ (fun hHeld => ?_)
            · exact ⟨fa0, fb0, fa1, fb1, fa2, fb2, fa3, fb3⟩
            clear hK K
            try simp only [Act.put, List.getElem_toArray, List.getElem_cons_zero, List.getElem_cons_succ, List.setIfInBounds_toArray, List.set_cons_zero, List.set_cons_succ]
            refine wpAnyH_ready (rs := [8]) (by kernel_rfl) (by simp) ?_
            refine AllReadyH.cons (o := _) rfl (fun K hK => ?_) AllReadyH.nil
            go_simp
            have hs1 := HP.out.size
            have hbl := (Array.getElem?_eq_some_iff.1 HZb.out).1
            refine (modelBack_any s0 s1 s2 s3 _ _ _ _ _ PP0.out PP1.out PP2.out PP3.out).mono ?_
            rw [HR.out]
            rintro e w69 ⟨h0, rfl, ho0, hb⟩
            obtain ⟨Ah0a, ch0a, Ah0b, ch0b, rfl⟩ := ho0.reads.form
            have HO := Lib.hid ho0
            have hs2 := hb.size
            replace fa0 := cell_keep hb fa0
            replace fb0 := cell_keep hb fb0
            replace fa1 := cell_keep hb fa1
            replace fb1 := cell_keep hb fb1
            replace fa2 := cell_keep hb fa2
            replace fb2 := cell_keep hb fb2
            replace fa3 := cell_keep hb fa3
            replace fb3 := cell_keep hb fb3
            replace HP := Lib.hid (ex_keep HP.out hb)
            replace HZb := Lib.hid (blk_at HZb.out hb)
            have j0 := blk_cell HZb.out 0
            have jf0 := blk_free HZb.out 0
            have j1 := blk_cell HZb.out 1
            have jf1 := blk_free HZb.out 1
            simp at j0 j1
            clear ho0 hb PP0 PP1 PP2 PP3
            go_wp2_with fail
            refine hK.out _ _ ?_ (fun hHeld => ?_)
            · exact ⟨fa0, fb0, fa1, fb1, fa2, fb2, fa3, fb3⟩
            clear hK K
            try simp only [Act.put, List.getElem_toArray, List.getElem_cons_zero, List.getElem_cons_succ, List.setIfInBounds_toArray, List.set_cons_zero, List.set_cons_succ]
            refine wpAnyH_ready (rs := [10]) (by kernel_rfl) (by simp) ?_
            refine AllReadyH.cons (o := _) rfl (fun K hK => ?_) AllReadyH.nil
            go_simp
            go_wp2_with fail
            refine hK.out _ _ ?_ (fun hHeld => ?_)
            · exact ⟨(set_far (by omega) _ _ _).trans ((set_far (by omega) _ _ _).trans (fa0)), (set_far (by omega) _ _ _).trans ((set_far (by omega) _ _ _).trans (fb0)), (set_far (by omega) _ _ _).trans ((set_far (by omega) _ _ _).trans (fa1)), (set_far (by omega) _ _ _).trans ((set_far (by omega) _ _ _).trans (fb1)), (set_far (by omega) _ _ _).trans ((set_far (by omega) _ _ _).trans (fa2)), (set_far (by omega) _ _ _).trans ((set_far (by omega) _ _ _).trans (fb2)), (set_far (by omega) _ _ _).trans ((set_far (by omega) _ _ _).trans (fa3)), (set_far (by omega) _ _ _).trans ((set_far (by omega) _ _ _).trans (fb3))⟩
            clear hK K
            try simp only [Act.put, List.getElem_toArray, List.getElem_cons_zero, List.getElem_cons_succ, List.setIfInBounds_toArray, List.set_cons_zero, List.set_cons_succ]
            refine wpAnyH_done (by kernel_rfl) ?_ _
            go_wp2_with fail
            go_meet
            exact ⟨_, _, _, _, _, rfl, hzl, (blk_set (blk_set HZb.out 0 (.slice Ah0a R.sizes.length ch0a)) 1 (.slice Ah0b R.tables.length ch0b)), (HO.out.same (fun k q1 q2 => ((set_blk (by omega) _ _).trans (set_blk (by omega) _ _)))).base (by omega), ((HP.out.setCell (p := ⟨w61.heap.size, 0, none⟩) hzl (.slice Ah0a R.sizes.length ch0a)).setCell (p := ⟨w61.heap.size, 1, none⟩) hzl (.slice Ah0b R.tables.length ch0b))⟩
        · skip
          go_simp
          have hb := below_alloc w60 (.cells #[.slice none 0 0, .slice none 0 0] 33)
          have hz := heap_alloc_new w60 (.cells #[.slice none 0 0, .slice none 0 0] 33)
          generalize hWA : w60.alloc (.cells #[.slice none 0 0, .slice none 0 0] 33) = w70 at hb hz ⊢
          clear hWA
          have HZb := Lib.hid (show w70.heap[w60.heap.size]? = some (.cells #[.slice none 0 0, .slice none 0 0] 33 (0, 0)) from hz)
          have hzl : w57.heap.size ≤ w60.heap.size := HP.out.size
          replace fa0 := cell_keep hb fa0
          replace fb0 := cell_keep hb fb0
          replace fa1 := cell_keep hb fa1
          replace fb1 := cell_keep hb fb1
          replace fa2 := cell_keep hb fa2
          replace fb2 := cell_keep hb fb2
          replace fa3 := cell_keep hb fa3
          replace fb3 := cell_keep hb fb3
          replace PP0 := Lib.hid (PP0.out.keep hb)
          replace PP1 := Lib.hid (PP1.out.keep hb)
          replace HP := Lib.hid (ex_keep HP.out hb)
          clear hb hz
          go_wp2_with fail
          refine hK.out _ _ ?_ (fun hHeld => ?_)
          · exact ⟨fa0, fb0, fa1, fb1, fa2, fb2, fa3, fb3⟩
          clear hK K
          try simp only [Act.put, List.getElem_toArray, List.getElem_cons_zero, List.getElem_cons_succ, List.setIfInBounds_toArray, List.set_cons_zero, List.set_cons_succ]
          refine wpAnyH_ready (rs := [5]) (by kernel_rfl) (by simp) ?_
          refine AllReadyH.cons (o := _) rfl (fun K hK => ?_) AllReadyH.nil
          go_simp
          refine (toMap_any _ s2 _ (HW2.out.keep (ex_keep (ex_keep HB.out HBs.out) HP.out)) HF2.out).mono ?_
          rintro e w71 ⟨y2, rfl, ho, hb⟩
          replace fa0 := cell_keep hb fa0
          replace fb0 := cell_keep hb fb0
          replace fa1 := cell_keep hb fa1
          replace fb1 := cell_keep hb fb1
          replace fa2 := cell_keep hb fa2
          replace fb2 := cell_keep hb fb2
          replace fa3 := cell_keep hb fa3
          replace fb3 := cell_keep hb fb3
          replace PP0 := Lib.hid (PP0.out.keep hb)
          replace PP1 := Lib.hid (PP1.out.keep hb)
          replace HP := Lib.hid (ex_keep HP.out hb)
          replace HZb := Lib.hid (blk_at HZb.out hb)
          have PP2 := Lib.hid ho.reads
          obtain ⟨AY2a, cY2a, AY2b, cY2b, rfl⟩ := ho.reads.form
          clear ho hb
          go_wp2_with fail
          refine hK.out _ _ ?_ (fun hHeld => ?_)
          · exact ⟨fa0, fb0, fa1, fb1, fa2, fb2, fa3, fb3⟩
          clear hK K
          try simp only [Act.put, List.getElem_toArray, List.getElem_cons_zero, List.getElem_cons_succ, List.setIfInBounds_toArray, List.set_cons_zero, List.set_cons_succ]
          refine wpAnyH_ready (rs := [7]) (by kernel_rfl) (by simp) ?_
          refine AllReadyH.cons (o := _) rfl (fun K hK => ?_) AllReadyH.nil
          go_simp
          refine (toModel_any _ s3 _ (HW3.out.keep (ex_keep (ex_keep HB.out HBs.out) HP.out)) HF3.out).mono ?_
          rintro e w72 ⟨y3, rfl, ho, hb⟩
          replace fa0 := cell_keep hb fa0
          replace fb0 := cell_keep hb fb0
          replace fa1 := cell_keep hb fa1
          replace fb1 := cell_keep hb fb1
          replace fa2 := cell_keep hb fa2
          replace fb2 := cell_keep hb fb2
          replace fa3 := cell_keep hb fa3
          replace fb3 := cell_keep hb fb3
          replace PP0 := Lib.hid (PP0.out.keep hb)
          replace PP1 := Lib.hid (PP1.out.keep hb)
          replace PP2 := Lib.hid (PP2.out.keep hb)
          replace HP := Lib.hid (ex_keep HP.out hb)
          replace HZb := Lib.hid (blk_at HZb.out hb)
          have PP3 := Lib.hid ho.reads
          obtain ⟨AY3a, cY3a, AY3b, cY3b, rfl⟩ := ho.reads.form
          clear ho hb
          go_wp2_with fail
          refine hK.out _ _ ?_ (fun hHeld => ?_)
          · exact ⟨fa0, fb0, fa1, fb1, fa2, fb2, fa3, fb3⟩
          clear hK K
          try simp only [Act.put, List.getElem_toArray, List.getElem_cons_zero, List.getElem_cons_succ, List.setIfInBounds_toArray, List.set_cons_zero, List.set_cons_succ]
          refine wpAnyH_ready (rs := [8]) (by kernel_rfl) (by simp) ?_
          refine AllReadyH.cons (o := _) rfl (fun K hK => ?_) AllReadyH.nil
          go_simp
          have hs1 := HP.out.size
          have hbl := (Array.getElem?_eq_some_iff.1 HZb.out).1
          refine (modelBack_any s0 s1 s2 s3 _ _ _ _ _ PP0.out PP1.out PP2.out PP3.out).mono ?_
          rw [HR.out]
          rintro e w73 ⟨h0, rfl, ho0, hb⟩
          obtain ⟨Ah0a, ch0a, Ah0b, ch0b, rfl⟩ := ho0.reads.form
          have HO := Lib.hid ho0
          have hs2 := hb.size
          replace fa0 := cell_keep hb fa0
          replace fb0 := cell_keep hb fb0
          replace fa1 := cell_keep hb fa1
          replace fb1 := cell_keep hb fb1
          replace fa2 := cell_keep hb fa2
          replace fb2 := cell_keep hb fb2
          replace fa3 := cell_keep hb fa3
          replace fb3 := cell_keep hb fb3
          replace HP := Lib.hid (ex_keep HP.out hb)
          replace HZb := Lib.hid (blk_at HZb.out hb)
          have j0 := blk_cell HZb.out 0
          have jf0 := blk_free HZb.out 0
          have j1 := blk_cell HZb.out 1
          have jf1 := blk_free HZb.out 1
          simp at j0 j1
          clear ho0 hb PP0 PP1 PP2 PP3
          go_wp2_with fail
          refine hK.out _ _ ?_ (fun hHeld => ?_)
          · exact ⟨fa0, fb0, fa1, fb1, fa2, fb2, fa3, fb3⟩
          clear hK K
          try simp only [Act.put, List.getElem_toArray, List.getElem_cons_zero, List.getElem_cons_succ, List.setIfInBounds_toArray, List.set_cons_zero, List.set_cons_succ]
          refine wpAnyH_ready (rs := [10]) (by kernel_rfl) (by simp) ?_
          refine AllReadyH.cons (o := _) rfl (fun K hK => ?_) AllReadyH.nil
          go_simp
          go_wp2_with fail
          refine hK.out _ _ ?_ (fun hHeld => ?_)
          · exact ⟨(set_far (by omega) _ _ _).trans ((set_far (by omega) _ _ _).trans (fa0)), (set_far (by omega) _ _ _).trans ((set_far (by omega) _ _ _).trans (fb0)), (set_far (by omega) _ _ _).trans ((set_far (by omega) _ _ _).trans (fa1)), (set_far (by omega) _ _ _).trans ((set_far (by omega) _ _ _).trans (fb1)), (set_far (by omega) _ _ _).trans ((set_far (by omega) _ _ _).trans (fa2)), (set_far (by omega) _ _ _).trans ((set_far (by omega) _ _ _).trans (fb2)), (set_far (by omega) _ _ _).trans ((set_far (by omega) _ _ _).trans (fa3)), (set_far (by omega) _ _ _).trans ((set_far (by omega) _ _ _).trans (fb3))⟩
          clear hK K
          try simp only [Act.put, List.getElem_toArray, List.getElem_cons_zero, List.getElem_cons_succ, List.setIfInBounds_toArray, List.set_cons_zero, List.set_cons_succ]
          refine wpAnyH_done (by kernel_rfl) ?_ _
          go_wp2_with fail
          go_meet
          exact ⟨_, _, _, _, _, rfl, hzl, (blk_set (blk_set HZb.out 0 (.slice Ah0a R.sizes.length ch0a)) 1 (.slice Ah0b R.tables.length ch0b)), (HO.out.same (fun k q1 q2 => ((set_blk (by omega) _ _).trans (set_blk (by omega) _ _)))).base (by omega), ((HP.out.setCell (p := ⟨w60.heap.size, 0, none⟩) hzl (.slice Ah0a R.sizes.length ch0a)).setCell (p := ⟨w60.heap.size, 1, none⟩) hzl (.slice Ah0b R.tables.length ch0b))⟩
      · skip
        go_simp
        have hb := below_alloc w59 (.cells #[.slice none 0 0, .slice none 0 0] 33)
        have hz := heap_alloc_new w59 (.cells #[.slice none 0 0, .slice none 0 0] 33)
        generalize hWA : w59.alloc (.cells #[.slice none 0 0, .slice none 0 0] 33) = w74 at hb hz ⊢
        clear hWA
        have HZb := Lib.hid (show w74.heap[w59.heap.size]? = some (.cells #[.slice none 0 0, .slice none 0 0] 33 (0, 0)) from hz)
        have hzl : w57.heap.size ≤ w59.heap.size := HP.out.size
        replace fa0 := cell_keep hb fa0
        replace fb0 := cell_keep hb fb0
        replace fa1 := cell_keep hb fa1
        replace fb1 := cell_keep hb fb1
        replace fa2 := cell_keep hb fa2
        replace fb2 := cell_keep hb fb2
        replace fa3 := cell_keep hb fa3
        replace fb3 := cell_keep hb fb3
        replace PP0 := Lib.hid (PP0.out.keep hb)
        replace HP := Lib.hid (ex_keep HP.out hb)
        clear hb hz
        go_wp2_with fail
        refine hK.out _ _ ?_ (fun hHeld => ?_)
        · exact ⟨fa0, fb0, fa1, fb1, fa2, fb2, fa3, fb3⟩
        clear hK K
        try simp only [Act.put, List.getElem_toArray, List.getElem_cons_zero, List.getElem_cons_succ, List.setIfInBounds_toArray, List.set_cons_zero, List.set_cons_succ]
        refine wpAnyH_ready (rs := [3]) (by kernel_rfl) (by simp) ?_
        refine AllReadyH.cons (o := _) rfl (fun K hK => ?_) AllReadyH.nil
        go_simp
        refine (toSig_any _ s1 _ (HW1.out.keep (ex_keep (ex_keep HB.out HBs.out) HP.out)) HF1.out).mono ?_
        rintro e w75 ⟨y1, rfl, ho, hb⟩
        replace fa0 := cell_keep hb fa0
        replace fb0 := cell_keep hb fb0
        replace fa1 := cell_keep hb fa1
        replace fb1 := cell_keep hb fb1
        replace fa2 := cell_keep hb fa2
        replace fb2 := cell_keep hb fb2
        replace fa3 := cell_keep hb fa3
        replace fb3 := cell_keep hb fb3
        replace PP0 := Lib.hid (PP0.out.keep hb)
        replace HP := Lib.hid (ex_keep HP.out hb)
        replace HZb := Lib.hid (blk_at HZb.out hb)
        have PP1 := Lib.hid ho.reads
        obtain ⟨AY1a, cY1a, rfl⟩ := ho.reads.form
        clear ho hb
        go_wp2_with fail
        refine hK.out _ _ ?_ (fun hHeld => ?_)
        · exact ⟨fa0, fb0, fa1, fb1, fa2, fb2, fa3, fb3⟩
        clear hK K
        try simp only [Act.put, List.getElem_toArray, List.getElem_cons_zero, List.getElem_cons_succ, List.setIfInBounds_toArray, List.set_cons_zero, List.set_cons_succ]
        refine wpAnyH_ready (rs := [5]) (by kernel_rfl) (by simp) ?_
        refine AllReadyH.cons (o := _) rfl (fun K hK => ?_) AllReadyH.nil
        go_simp
        refine (toMap_any _ s2 _ (HW2.out.keep (ex_keep (ex_keep HB.out HBs.out) HP.out)) HF2.out).mono ?_
        rintro e w76 ⟨y2, rfl, ho, hb⟩
        replace fa0 := cell_keep hb fa0
        replace fb0 := cell_keep hb fb0
        replace fa1 := cell_keep hb fa1
        replace fb1 := cell_keep hb fb1
        replace fa2 := cell_keep hb fa2
        replace fb2 := cell_keep hb fb2
        replace fa3 := cell_keep hb fa3
        replace fb3 := cell_keep hb fb3
        replace PP0 := Lib.hid (PP0.out.keep hb)
        replace PP1 := Lib.hid (PP1.out.keep hb)
        replace HP := Lib.hid (ex_keep HP.out hb)
        replace HZb := Lib.hid (blk_at HZb.out hb)
        have PP2 := Lib.hid ho.reads
        obtain ⟨AY2a, cY2a, AY2b, cY2b, rfl⟩ := ho.reads.form
        clear ho hb
        go_wp2_with fail
        refine hK.out _ _ ?_ (fun hHeld => ?_)
        · exact ⟨fa0, fb0, fa1, fb1, fa2, fb2, fa3, fb3⟩
        clear hK K
        try simp only [Act.put, List.getElem_toArray, List.getElem_cons_zero, List.getElem_cons_succ, List.setIfInBounds_toArray, List.set_cons_zero, List.set_cons_succ]
        refine wpAnyH_ready (rs := [7]) (by kernel_rfl) (by simp) ?_
        refine AllReadyH.cons (o := _) rfl (fun K hK => ?_) AllReadyH.nil
        go_simp
        refine (toModel_any _ s3 _ (HW3.out.keep (ex_keep (ex_keep HB.out HBs.out) HP.out)) HF3.out).mono ?_
        rintro e w77 ⟨y3, rfl, ho, hb⟩
        replace fa0 := cell_keep hb fa0
        replace fb0 := cell_keep hb fb0
        replace fa1 := cell_keep hb fa1
        replace fb1 := cell_keep hb fb1
        replace fa2 := cell_keep hb fa2
        replace fb2 := cell_keep hb fb2
        replace fa3 := cell_keep hb fa3
        replace fb3 := cell_keep hb fb3
        replace PP0 := Lib.hid (PP0.out.keep hb)
        replace PP1 := Lib.hid (PP1.out.keep hb)
        replace PP2 := Lib.hid (PP2.out.keep hb)
        replace HP := Lib.hid (ex_keep HP.out hb)
        replace HZb := Lib.hid (blk_at HZb.out hb)
        have PP3 := Lib.hid ho.reads
        obtain ⟨AY3a, cY3a, AY3b, cY3b, rfl⟩ := ho.reads.form
        clear ho hb
        go_wp2_with fail
        refine hK.out _ _ ?_ (fun hHeld => ?_)
        · exact ⟨fa0, fb0, fa1, fb1, fa2, fb2, fa3, fb3⟩
        clear hK K
        try simp only [Act.put, List.getElem_toArray, List.getElem_cons_zero, List.getElem_cons_succ, List.setIfInBounds_toArray, List.set_cons_zero, List.set_cons_succ]
        refine wpAnyH_ready (rs := [8]) (by kernel_rfl) (by simp) ?_
        refine AllReadyH.cons (o := _) rfl (fun K hK => ?_) AllReadyH.nil
        go_simp
        have hs1 := HP.out.size
        have hbl := (Array.getElem?_eq_some_iff.1 HZb.out).1
        refine (modelBack_any s0 s1 s2 s3 _ _ _ _ _ PP0.out PP1.out PP2.out PP3.out).mono ?_
        rw [HR.out]
        rintro e w78 ⟨h0, rfl, ho0, hb⟩
        obtain ⟨Ah0a, ch0a, Ah0b, ch0b, rfl⟩ := ho0.reads.form
        have HO := Lib.hid ho0
        have hs2 := hb.size
        replace fa0 := cell_keep hb fa0
        replace fb0 := cell_keep hb fb0
        replace fa1 := cell_keep hb fa1
        replace fb1 := cell_keep hb fb1
        replace fa2 := cell_keep hb fa2
        replace fb2 := cell_keep hb fb2
        replace fa3 := cell_keep hb fa3
        replace fb3 := cell_keep hb fb3
        replace HP := Lib.hid (ex_keep HP.out hb)
        replace HZb := Lib.hid (blk_at HZb.out hb)
        have j0 := blk_cell HZb.out 0
        have jf0 := blk_free HZb.out 0
        have j1 := blk_cell HZb.out 1
        have jf1 := blk_free HZb.out 1
        simp at j0 j1
        clear ho0 hb PP0 PP1 PP2 PP3
        go_wp2_with fail
        refine hK.out _ _ ?_ (fun hHeld => ?_)
        · exact ⟨fa0, fb0, fa1, fb1, fa2, fb2, fa3, fb3⟩
        clear hK K
        try simp only [Act.put, List.getElem_toArray, List.getElem_cons_zero, List.getElem_cons_succ, List.setIfInBounds_toArray, List.set_cons_zero, List.set_cons_succ]
        refine wpAnyH_ready (rs := [10]) (by kernel_rfl) (by simp) ?_
        refine AllReadyH.cons (o := _) rfl (fun K hK => ?_) AllReadyH.nil
        go_simp
        go_wp2_with fail
        refine hK.out _ _ ?_ (fun hHeld => ?_)
        · exact ⟨(set_far (by omega) _ _ _).trans ((set_far (by omega) _ _ _).trans (fa0)), (set_far (by omega) _ _ _).trans ((set_far (by omega) _ _ _).trans (fb0)), (set_far (by omega) _ _ _).trans ((set_far (by omega) _ _ _).trans (fa1)), (set_far (by omega) _ _ _).trans ((set_far (by omega) _ _ _).trans (fb1)), (set_far (by omega) _ _ _).trans ((set_far (by omega) _ _ _).trans (fa2)), (set_far (by omega) _ _ _).trans ((set_far (by omega) _ _ _).trans (fb2)), (set_far (by omega) _ _ _).trans ((set_far (by omega) _ _ _).trans (fa3)), (set_far (by omega) _ _ _).trans ((set_far (by omega) _ _ _).trans (fb3))⟩
        clear hK K
        try simp only [Act.put, List.getElem_toArray, List.getElem_cons_zero, List.getElem_cons_succ, List.setIfInBounds_toArray, List.set_cons_zero, List.set_cons_succ]
        refine wpAnyH_done (by kernel_rfl) ?_ _
        go_wp2_with fail
        go_meet
        exact ⟨_, _, _, _, _, rfl, hzl, (blk_set (blk_set HZb.out 0 (.slice Ah0a R.sizes.length ch0a)) 1 (.slice Ah0b R.tables.length ch0b)), (HO.out.same (fun k q1 q2 => ((set_blk (by omega) _ _).trans (set_blk (by omega) _ _)))).base (by omega), ((HP.out.setCell (p := ⟨w59.heap.size, 0, none⟩) hzl (.slice Ah0a R.sizes.length ch0a)).setCell (p := ⟨w59.heap.size, 1, none⟩) hzl (.slice Ah0b R.tables.length ch0b))⟩
    · skip
      go_simp
      have hb := below_alloc w57 (.cells #[.slice none 0 0, .slice none 0 0] 33)
      have hz := heap_alloc_new w57 (.cells #[.slice none 0 0, .slice none 0 0] 33)
      generalize hWA : w57.alloc (.cells #[.slice none 0 0, .slice none 0 0] 33) = w79 at hb hz ⊢
      clear hWA
      have HZb := Lib.hid (show w79.heap[w57.heap.size]? = some (.cells #[.slice none 0 0, .slice none 0 0] 33 (0, 0)) from hz)
      have hzl : w57.heap.size ≤ w57.heap.size := Nat.le_refl _
      replace fa0 := cell_keep hb fa0
      replace fb0 := cell_keep hb fb0
      replace fa1 := cell_keep hb fa1
      replace fb1 := cell_keep hb fb1
      replace fa2 := cell_keep hb fa2
      replace fb2 := cell_keep hb fb2
      replace fa3 := cell_keep hb fa3
      replace fb3 := cell_keep hb fb3
      have HP := Lib.hid hb
      clear hb hz
      go_wp2_with fail
      refine hK.out _ _ ?_ (fun hHeld => ?_)
      · exact ⟨fa0, fb0, fa1, fb1, fa2, fb2, fa3, fb3⟩
      clear hK K
      try simp only [Act.put, List.getElem_toArray, List.getElem_cons_zero, List.getElem_cons_succ, List.setIfInBounds_toArray, List.set_cons_zero, List.set_cons_succ]
      refine wpAnyH_ready (rs := [1]) (by kernel_rfl) (by simp) ?_
      refine AllReadyH.cons (o := _) rfl (fun K hK => ?_) AllReadyH.nil
      go_simp
      refine (toSig_any _ s0 _ (HW0.out.keep (ex_drew (ex_keep (ex_keep HB.out HBs.out) HP.out))) HF0.out).mono ?_
      rintro e w80 ⟨y0, rfl, ho, hb⟩
      replace hb := ex_undrew hb
      replace fa0 := cell_keep hb fa0
      replace fb0 := cell_keep hb fb0
      replace fa1 := cell_keep hb fa1
      replace fb1 := cell_keep hb fb1
      replace fa2 := cell_keep hb fa2
      replace fb2 := cell_keep hb fb2
      replace fa3 := cell_keep hb fa3
      replace fb3 := cell_keep hb fb3
      replace HP := Lib.hid (ex_keep HP.out hb)
      replace HZb := Lib.hid (blk_at HZb.out hb)
      have PP0 := Lib.hid ho.reads
      obtain ⟨AY0a, cY0a, rfl⟩ := ho.reads.form
      clear ho hb
      go_wp2_with fail
      refine hK.out _ _ ?_ (fun hHeld => ?_)
      · exact ⟨fa0, fb0, fa1, fb1, fa2, fb2, fa3, fb3⟩
      clear hK K
      try simp only [Act.put, List.getElem_toArray, List.getElem_cons_zero, List.getElem_cons_succ, List.setIfInBounds_toArray, List.set_cons_zero, List.set_cons_succ]
      refine wpAnyH_ready (rs := [3]) (by kernel_rfl) (by simp) ?_
      refine AllReadyH.cons (o := _) rfl (fun K hK => ?_) AllReadyH.nil
      go_simp
      refine (toSig_any _ s1 _ (HW1.out.keep (ex_keep (ex_keep HB.out HBs.out) HP.out)) HF1.out).mono ?_
      rintro e w81 ⟨y1, rfl, ho, hb⟩
      replace fa0 := cell_keep hb fa0
      replace fb0 := cell_keep hb fb0
      replace fa1 := cell_keep hb fa1
      replace fb1 := cell_keep hb fb1
      replace fa2 := cell_keep hb fa2
      replace fb2 := cell_keep hb fb2
      replace fa3 := cell_keep hb fa3
      replace fb3 := cell_keep hb fb3
      replace PP0 := Lib.hid (PP0.out.keep hb)
      replace HP := Lib.hid (ex_keep HP.out hb)
      replace HZb := Lib.hid (blk_at HZb.out hb)
      have PP1 := Lib.hid ho.reads
      obtain ⟨AY1a, cY1a, rfl⟩ := ho.reads.form
      clear ho hb
      go_wp2_with fail
      refine hK.out _ _ ?_ (fun hHeld => ?_)
      · exact ⟨fa0, fb0, fa1, fb1, fa2, fb2, fa3, fb3⟩
      clear hK K
      try simp only [Act.put, List.getElem_toArray, List.getElem_cons_zero, List.getElem_cons_succ, List.setIfInBounds_toArray, List.set_cons_zero, List.set_cons_succ]
      refine wpAnyH_ready (rs := [5]) (by kernel_rfl) (by simp) ?_
      refine AllReadyH.cons (o := _) rfl (fun K hK => ?_) AllReadyH.nil
      go_simp
      refine (toMap_any _ s2 _ (HW2.out.keep (ex_keep (ex_keep HB.out HBs.out) HP.out)) HF2.out).mono ?_
      rintro e w82 ⟨y2, rfl, ho, hb⟩
      replace fa0 := cell_keep hb fa0
      replace fb0 := cell_keep hb fb0
      replace fa1 := cell_keep hb fa1
      replace fb1 := cell_keep hb fb1
      replace fa2 := cell_keep hb fa2
      replace fb2 := cell_keep hb fb2
      replace fa3 := cell_keep hb fa3
      replace fb3 := cell_keep hb fb3
      replace PP0 := Lib.hid (PP0.out.keep hb)
      replace PP1 := Lib.hid (PP1.out.keep hb)
      replace HP := Lib.hid (ex_keep HP.out hb)
      replace HZb := Lib.hid (blk_at HZb.out hb)
      have PP2 := Lib.hid ho.reads
      obtain ⟨AY2a, cY2a, AY2b, cY2b, rfl⟩ := ho.reads.form
      clear ho hb
      go_wp2_with fail
      refine hK.out _ _ ?_ (fun hHeld => ?_)
      · exact ⟨fa0, fb0, fa1, fb1, fa2, fb2, fa3, fb3⟩
      clear hK K
      try simp only [Act.put, List.getElem_toArray, List.getElem_cons_zero, List.getElem_cons_succ, List.setIfInBounds_toArray, List.set_cons_zero, List.set_cons_succ]
      refine wpAnyH_ready (rs := [7]) (by kernel_rfl) (by simp) ?_
      refine AllReadyH.cons (o := _) rfl (fun K hK => ?_) AllReadyH.nil
      go_simp
      refine (toModel_any _ s3 _ (HW3.out.keep (ex_keep (ex_keep HB.out HBs.out) HP.out)) HF3.out).mono ?_
      rintro e w83 ⟨y3, rfl, ho, hb⟩
      replace fa0 := cell_keep hb fa0
      replace fb0 := cell_keep hb fb0
      replace fa1 := cell_keep hb fa1
      replace fb1 := cell_keep hb fb1
      replace fa2 := cell_keep hb fa2
      replace fb2 := cell_keep hb fb2
      replace fa3 := cell_keep hb fa3
      replace fb3 := cell_keep hb fb3
      replace PP0 := Lib.hid (PP0.out.keep hb)
      replace PP1 := Lib.hid (PP1.out.keep hb)
      replace PP2 := Lib.hid (PP2.out.keep hb)
      replace HP := Lib.hid (ex_keep HP.out hb)
      replace HZb := Lib.hid (blk_at HZb.out hb)
      have PP3 := Lib.hid ho.reads
      obtain ⟨AY3a, cY3a, AY3b, cY3b, rfl⟩ := ho.reads.form
      clear ho hb
      go_wp2_with fail
      refine hK.out _ _ ?_ (fun hHeld => ?_)
      · exact ⟨fa0, fb0, fa1, fb1, fa2, fb2, fa3, fb3⟩
      clear hK K
      try simp only [Act.put, List.getElem_toArray, List.getElem_cons_zero, List.getElem_cons_succ, List.setIfInBounds_toArray, List.set_cons_zero, List.set_cons_succ]
      refine wpAnyH_ready (rs := [8]) (by kernel_rfl) (by simp) ?_
      refine AllReadyH.cons (o := _) rfl (fun K hK => ?_) AllReadyH.nil
      go_simp
      have hs1 := HP.out.size
      have hbl := (Array.getElem?_eq_some_iff.1 HZb.out).1
      refine (modelBack_any s0 s1 s2 s3 _ _ _ _ _ PP0.out PP1.out PP2.out PP3.out).mono ?_
      rw [HR.out]
      rintro e w84 ⟨h0, rfl, ho0, hb⟩
      obtain ⟨Ah0a, ch0a, Ah0b, ch0b, rfl⟩ := ho0.reads.form
      have HO := Lib.hid ho0
      have hs2 := hb.size
      replace fa0 := cell_keep hb fa0
      replace fb0 := cell_keep hb fb0
      replace fa1 := cell_keep hb fa1
      replace fb1 := cell_keep hb fb1
      replace fa2 := cell_keep hb fa2
      replace fb2 := cell_keep hb fb2
      replace fa3 := cell_keep hb fa3
      replace fb3 := cell_keep hb fb3
      replace HP := Lib.hid (ex_keep HP.out hb)
      replace HZb := Lib.hid (blk_at HZb.out hb)
      have j0 := blk_cell HZb.out 0
      have jf0 := blk_free HZb.out 0
      have j1 := blk_cell HZb.out 1
      have jf1 := blk_free HZb.out 1
      simp at j0 j1
      clear ho0 hb PP0 PP1 PP2 PP3
      go_wp2_with fail
      refine hK.out _ _ ?_ (fun hHeld => ?_)
      · exact ⟨fa0, fb0, fa1, fb1, fa2, fb2, fa3, fb3⟩
      clear hK K
      try simp only [Act.put, List.getElem_toArray, List.getElem_cons_zero, List.getElem_cons_succ, List.setIfInBounds_toArray, List.set_cons_zero, List.set_cons_succ]
      refine wpAnyH_ready (rs := [10]) (by kernel_rfl) (by simp) ?_
      refine AllReadyH.cons (o := _) rfl (fun K hK => ?_) AllReadyH.nil
      go_simp
      go_wp2_with fail
      refine hK.out _ _ ?_ (fun hHeld => ?_)
      · exact ⟨(set_far (by omega) _ _ _).trans ((set_far (by omega) _ _ _).trans (fa0)), (set_far (by omega) _ _ _).trans ((set_far (by omega) _ _ _).trans (fb0)), (set_far (by omega) _ _ _).trans ((set_far (by omega) _ _ _).trans (fa1)), (set_far (by omega) _ _ _).trans ((set_far (by omega) _ _ _).trans (fb1)), (set_far (by omega) _ _ _).trans ((set_far (by omega) _ _ _).trans (fa2)), (set_far (by omega) _ _ _).trans ((set_far (by omega) _ _ _).trans (fb2)), (set_far (by omega) _ _ _).trans ((set_far (by omega) _ _ _).trans (fa3)), (set_far (by omega) _ _ _).trans ((set_far (by omega) _ _ _).trans (fb3))⟩
      clear hK K
      try simp only [Act.put, List.getElem_toArray, List.getElem_cons_zero, List.getElem_cons_succ, List.setIfInBounds_toArray, List.set_cons_zero, List.set_cons_succ]
      refine wpAnyH_done (by kernel_rfl) ?_ _
      go_wp2_with fail
      go_meet
      exact ⟨_, _, _, _, _, rfl, hzl, (blk_set (blk_set HZb.out 0 (.slice Ah0a R.sizes.length ch0a)) 1 (.slice Ah0b R.tables.length ch0b)), (HO.out.same (fun k q1 q2 => ((set_blk (by omega) _ _).trans (set_blk (by omega) _ _)))).base (by omega), ((HP.out.setCell (p := ⟨w57.heap.size, 0, none⟩) hzl (.slice Ah0a R.sizes.length ch0a)).setCell (p := ⟨w57.heap.size, 1, none⟩) hzl (.slice Ah0b R.tables.length ch0b))⟩
  case rest =>
  obtain ⟨bzh, Ah0a, ch0a, Ah0b, ch0b, rfl, hle, hblk, ho0, hb⟩ := hcut
  obtain ⟨w58, hwn⟩ : ∃ W', W' = wc := ⟨_, rfl⟩
  subst hwn
  clear hbx
  have HG10 := Lib.hid ho0.reads
  have HCH0 := Lib.hid hblk
  clear ho0 hle hblk
  clear fa0 fb0 fa1 fb1 fa2 fb2 fa3 fb3
  replace HKG0 := Lib.hid (HKG0.out.below zG0 hb)
  replace zG0 : w41.heap.size ≤ w58.heap.size := Nat.le_trans zG0 hb.size
  replace HKh0 := Lib.hid (HKh0.out.below zh0 hb)
  replace zh0 : w56.heap.size ≤ w58.heap.size := Nat.le_trans zh0 hb.size
  replace HBs := Lib.hid (ex_keep HBs.out hb)
  clear hb
  have HBh : Hid (Below w58.heap.size w58 w58) := Below.refl _ _
  have u0a := blk_cell_at HCH0.out (i := 0) (u := .slice Ah0a R.sizes.length ch0a) rfl
  have u0b := blk_cell_at HCH0.out (i := 1) (u := .slice Ah0b R.tables.length ch0b) rfl
  have v0a := cell_keep HBs.out (blk_cell_at HCZ0.out (i := 0) (u := .slice Az0a R.sizes.length cz0a) rfl)
  have v0b := cell_keep HBs.out (blk_cell_at HCZ0.out (i := 1) (u := .slice Az0b R.tables.length cz0b) rfl)
  go_wp2_with fail
  refine (eqModel_is _ _ R R _ true (sameMd_self _) HG10.out (HZ0.out.keep HBs.out).reads).mono ?_
  rintro e w85 ⟨rfl, hb⟩
  clear u0a u0b v0a v0b
  clear HG10
  replace HKG0 := Lib.hid (HKG0.out.below zG0 hb)
  replace zG0 : w41.heap.size ≤ w85.heap.size := Nat.le_trans zG0 hb.size
  replace HKh0 := Lib.hid (HKh0.out.below zh0 hb)
  replace zh0 : w56.heap.size ≤ w85.heap.size := Nat.le_trans zh0 hb.size
  replace HBs := Lib.hid (ex_keep HBs.out hb)
  clear hb
  have u0a := HKG0.out.cell (by omega) HCG0.out.1
  have u0b := HKG0.out.cell (by omega) HCG0.out.2
  go_wp2_with fail
  refine (HH0.out _ HKh0.out).mono ?_
  rintro e w86 ⟨rfl, hb⟩
  clear u0a u0b
  replace HKG0 := Lib.hid (HKG0.out.below zG0 hb)
  replace zG0 : w41.heap.size ≤ w86.heap.size := Nat.le_trans zG0 hb.size
  replace HKh0 := Lib.hid (HKh0.out.below zh0 hb)
  replace zh0 : w56.heap.size ≤ w86.heap.size := Nat.le_trans zh0 hb.size
  replace HBs := Lib.hid (ex_keep HBs.out hb)
  clear hb
  go_wp2
  go_ret
  exact ⟨rfl, ex_keep HB.out HBs.out⟩

set_option maxRecDepth 100000 in
theorem lifted_FnExactModelBack (os : Os) (started : os.Started) (H : Type) (enc : TypeId × Value → H) :
    ReturnsInHanded {} Try.checked os 3 .any (Rows.fnExactModelBackSpec.pre6 enc Try.prog Try.f3 Rows.fnExactModelBackRow.domain false) (Rows.fnExactModelBackSpec.post enc Try.prog Try.f3 false true false false) := by
  refine returnsInHanded_of_change (C := Try.checked) own started (by kernel_rfl) Try.func3
    (ChangeSpec.witness6 (enc := enc) (C := Try.checked) false ⟨#[], #[.agg #[.int .i64 0, .slice none 0 0], .agg #[.int .i64 0, .slice none 0 0], .agg #[.slice none 0 0, .slice none 0 0], .agg #[.slice none 0 0, .slice none 0 0]], []⟩ 8 (by kernel_rfl) (by kernel_rfl) (by kernel_rfl) (by kernel_rfl)) ?_
  intro W base args ds gs before hval0 hW hcnd _
  have hval : ∀ (j : Nat) t v, Try.f3.params[j]? = some t → args[j]? = some v → Value.okWide Try.prog W .any base t v := hval0
  have hW' := hW
  obtain ⟨p, q, hA0, hV, rfl, hfz, hnd⟩ := hW
  have hA : DataW.TrodAll enc Try.prog W 0 (fun _ => true) true Try.f3.params.toList args.toList ds p := hA0
  rw [Try.params3] at hA hval
  obtain ⟨v0, vs0, d0, ds0, p0, q0, hargs, rfl, rfl, h0, r0⟩ := trodAll_cons hA
  obtain ⟨v1, vs1, d1, ds1, p1, q1, rfl, rfl, rfl, h1, r1⟩ := trodAll_cons r0
  obtain ⟨v2, vs2, d2, ds2, p2, q2, rfl, rfl, rfl, h2, r2⟩ := trodAll_cons r1
  obtain ⟨v3, vs3, d3, ds3, p3, q3, rfl, rfl, rfl, h3, r3⟩ := trodAll_cons r2
  obtain ⟨rfl, rfl, rfl⟩ := trodAll_nil r3
  obtain rfl : args = #[v0, v1, v2, v3] := by cases args; simp_all
  obtain ⟨rfl, rfl⟩ := trodVars_none hV
  have k0 := h0
  have lt0 : ∀ x ∈ p0, x.block < W.heap.size := by obtain ⟨m, hm⟩ := k0; exact DataW.trod_lt m _ _ _ hm
  obtain ⟨s0, w0⟩ : ∃ s, RSig W v0 s := sig_of (hval 0 24 v0 rfl rfl) h0
  have k1 := h1
  have lt1 : ∀ x ∈ p1, x.block < W.heap.size := by obtain ⟨m, hm⟩ := k1; exact DataW.trod_lt m _ _ _ hm
  obtain ⟨s1, w1⟩ : ∃ s, RSig W v1 s := sig_of (hval 1 24 v1 rfl rfl) h1
  have k2 := h2
  have lt2 : ∀ x ∈ p2, x.block < W.heap.size := by obtain ⟨m, hm⟩ := k2; exact DataW.trod_lt m _ _ _ hm
  obtain ⟨s2, w2⟩ : ∃ s, RMap W v2 s := map_of (hval 2 27 v2 rfl rfl) h2
  have k3 := h3
  have lt3 : ∀ x ∈ p3, x.block < W.heap.size := by obtain ⟨m, hm⟩ := k3; exact DataW.trod_lt m _ _ _ hm
  obtain ⟨s3, w3⟩ : ∃ s, RModel W v3 s := model_of (hval 3 29 v3 rfl rfl) h3
  clear hA0 hval0
  refine (walk_FnExactModelBack _ s0 _ s1 _ s2 _ s3 W w0 w1 w2 w3).mono fun e W' ⟨he, bel⟩ => ?_
  subst he
  exact ⟨_, rfl, _, _, _, [], _, [], hW', trodAll_mk1 (shut_bool Try.underlying4 _), (trodAll_cons_mk (Below.trod laidOut (by kernel_rfl) (of_decide_eq_true (by kernel_rfl)) k0 bel lt0) (trodAll_cons_mk (Below.trod laidOut (by kernel_rfl) (of_decide_eq_true (by kernel_rfl)) k1 bel lt1) (trodAll_cons_mk (Below.trod laidOut (by kernel_rfl) (of_decide_eq_true (by kernel_rfl)) k2 bel lt2) (trodAll_cons_mk (Below.trod laidOut (by kernel_rfl) (of_decide_eq_true (by kernel_rfl)) k3 bel lt3) trodAll_mk0)))), rfl, bel.frame _, fun h => by cases h⟩

theorem over_FnExactModelBack : Rows.fnExactModelBackRow.holds Try.pinned (OpenSpec.ofChange Rows.fnExactModelBackSpec) :=
  OpenClaim.holds_of_wide 3 Try.f3 rfl rfl rfl rfl rfl rfl rfl ⟨rfl, rfl, rfl, rfl, rfl⟩ rfl rfl rfl rfl rfl (by kernel_rfl) Try.func3 (by kernel_rfl)
    (of_decide_eq_true (by kernel_rfl)) (by unfold Func.isWrapper; first | (rw [if_pos (by decide +kernel)]; kernel_rfl) | (rw [if_neg (by decide +kernel)]; exact ⟨rfl, rfl⟩))
    (fun os started H enc _ => lifted_FnExactModelBack os started H enc)

theorem proved_FnExactModelBack : Rows.FnExactModelBackSaid := over_FnExactModelBack
end Go.Proofs.Yteccjnnhihbdhab
