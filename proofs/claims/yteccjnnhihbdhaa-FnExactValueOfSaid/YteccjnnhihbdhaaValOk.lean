/- ValuesOk of both packages. -/
import Derived.Test.YteccjnnhihbdhaaModOkS2
import Derived.Test.YteccjnnhihbdhaaVars
namespace Go.Proofs.Yteccjnnhihbdhaa
open Go.RowKit
set_option linter.unusedVariables false
set_option linter.unusedSimpArgs false

theorem valOkAt_eq {m : MModel} {vars vals : List Int} {k : Nat} (hk : k < vars.length) (hk' : k < vals.length) : valOkAt m vars vals k = inSize (m.sizes.getD (vars[k]).toNat 0) vals[k] := by
  unfold valOkAt inSize; rw [getD_at _ hk', getD_at _ hk]

set_option maxHeartbeats 1600000 in
set_option maxRecDepth 100000 in
theorem valuesOk_any (s : MSig) (m : MModel) (vars vals : List Int) (w : World) (v v' v2 v3 : Value) (h1 : RSig w v s) (h2 : RModel w v' m) (h3 : RInts w v2 vars) (h4 : RInts w v3 vals) :
    Calls Try.prog 19 #[v, v', v2, v3] w fun e w' => e = .returned (.bool (valsB s m vars vals)) ∧ Below w.heap.size w w' := by
  obtain ⟨Asa, csa, rfl⟩ := h1.form
  obtain ⟨Ama, cma, Amb, cmb, rfl⟩ := h2.form
  have hb : Below w.heap.size w ((w.alloc (.cells #[.int .i64 s.sorts, .slice Asa s.ops.length csa] 31)).alloc (.cells #[.slice Ama m.sizes.length cma, .slice Amb m.tables.length cmb] 33)) := (below_alloc _ _).alloc (by simp) _
  have HB := Lib.hid hb
  have hsz : ((w.alloc (.cells #[.int .i64 s.sorts, .slice Asa s.ops.length csa] 31)).alloc (.cells #[.slice Ama m.sizes.length cma, .slice Amb m.tables.length cmb] 33)).heap.size = w.heap.size + 2 := by simp
  have Hs := Lib.hid (h1.keep hb)
  have s0 := cell_keep (below_alloc (w.alloc (.cells #[.int .i64 s.sorts, .slice Asa s.ops.length csa] 31)) (.cells #[.slice Ama m.sizes.length cma, .slice Amb m.tables.length cmb] 33)) (bx_at (w) #[.int .i64 s.sorts, .slice Asa s.ops.length csa] 31 (k := 0) rfl)
  have s1 := cell_keep (below_alloc (w.alloc (.cells #[.int .i64 s.sorts, .slice Asa s.ops.length csa] 31)) (.cells #[.slice Ama m.sizes.length cma, .slice Amb m.tables.length cmb] 33)) (bx_at (w) #[.int .i64 s.sorts, .slice Asa s.ops.length csa] 31 (k := 1) rfl)
  have Hm := Lib.hid (h2.keep hb)
  have m0 := bx_at (w.alloc (.cells #[.int .i64 s.sorts, .slice Asa s.ops.length csa] 31)) #[.slice Ama m.sizes.length cma, .slice Amb m.tables.length cmb] 33 (k := 0) rfl
  have m1 := bx_at (w.alloc (.cells #[.int .i64 s.sorts, .slice Asa s.ops.length csa] 31)) #[.slice Ama m.sizes.length cma, .slice Amb m.tables.length cmb] 33 (k := 1) rfl
  simp only [World.size_alloc] at m0 m1
  generalize hW : (w.alloc (.cells #[.int .i64 s.sorts, .slice Asa s.ops.length csa] 31)).alloc (.cells #[.slice Ama m.sizes.length cma, .slice Amb m.tables.length cmb] 33) = W at HB hsz Hs s0 s1 Hm m0 m1
  clear hb h1 h2
  have H3 := Lib.hid (h3.keep HB.out)
  have H4 := Lib.hid (h4.keep HB.out)
  have hl3 := h3.len
  have hl4 := h4.len
  obtain ⟨A3, d3, rfl, -⟩ := h3.form
  obtain ⟨A4, d4, rfl, -⟩ := h4.form
  clear h3 h4
  cases hv : varsB s vars with
  | false =>
    have HV := Lib.hid hv
    have HE := Lib.hid (vals_no1 (m := m) (vals := vals) hv)
    clear hv
    go_enter Try.func19, Try.ntmps19
    go_wp2_with fail
    clear hW
    refine (varsOk_any _ _ s vars _ Hs.out H3.out).mono ?_
    rw [HV.out]
    rintro e w1 ⟨rfl, hb⟩
    replace HB := Lib.hid (sz_keep HB.out hb)
    replace s0 := cell_keep hb s0
    replace s1 := cell_keep hb s1
    replace m0 := cell_keep hb m0
    replace m1 := cell_keep hb m1
    replace Hs := Lib.hid (Hs.out.keep hb)
    replace Hm := Lib.hid (Hm.out.keep hb)
    clear hb
    go_wp2
    go_ret
    exact ⟨ret_bool HE.out.symm, HB.out⟩
  | true =>
    have HV := Lib.hid hv
    have HVF := Lib.hid (vars_valid hv).2.2
    clear hv
    cases hm : modelB s m with
    | false =>
      have HM := Lib.hid hm
      have HE := Lib.hid (vals_no2 (vars := vars) (vals := vals) hm)
      clear hm
      go_enter Try.func19, Try.ntmps19
      go_wp2_with fail
      clear hW
      refine (varsOk_any _ _ s vars _ Hs.out H3.out).mono ?_
      rw [HV.out]
      rintro e w1 ⟨rfl, hb⟩
      replace HB := Lib.hid (sz_keep HB.out hb)
      replace s0 := cell_keep hb s0
      replace s1 := cell_keep hb s1
      replace m0 := cell_keep hb m0
      replace m1 := cell_keep hb m1
      replace Hs := Lib.hid (Hs.out.keep hb)
      replace Hm := Lib.hid (Hm.out.keep hb)
      clear hb
      go_wp2_with fail
      refine (modelOk_any s m _ _ _ Hs.out Hm.out).mono ?_
      rw [HM.out]
      rintro e w2 ⟨rfl, hb⟩
      replace HB := Lib.hid (sz_keep HB.out hb)
      replace s0 := cell_keep hb s0
      replace s1 := cell_keep hb s1
      replace m0 := cell_keep hb m0
      replace m1 := cell_keep hb m1
      replace Hs := Lib.hid (Hs.out.keep hb)
      replace Hm := Lib.hid (Hm.out.keep hb)
      clear hb
      go_wp2
      go_ret
      exact ⟨ret_bool HE.out.symm, HB.out⟩
    | true =>
      have HM := Lib.hid hm
      have HMF := Lib.hid (model_facts hm)
      clear hm
      by_cases hl : vals.length = vars.length
      · have e1 : ((vals.length : Int) != (vars.length : Int)) = false := by simp [hl]
        have HL := Lib.hid hl
        have hle : vals.length ≤ vars.length := by omega
        clear hl
        go_enter Try.func19, Try.ntmps19
        go_wp2_with fail
        clear hW
        refine (varsOk_any _ _ s vars _ Hs.out H3.out).mono ?_
        rw [HV.out]
        rintro e w1 ⟨rfl, hb⟩
        replace HB := Lib.hid (sz_keep HB.out hb)
        replace s0 := cell_keep hb s0
        replace s1 := cell_keep hb s1
        replace m0 := cell_keep hb m0
        replace m1 := cell_keep hb m1
        replace Hs := Lib.hid (Hs.out.keep hb)
        replace Hm := Lib.hid (Hm.out.keep hb)
        replace H3 := Lib.hid (H3.out.keep hb)
        replace H4 := Lib.hid (H4.out.keep hb)
        clear hb
        go_wp2_with fail
        refine (modelOk_any s m _ _ _ Hs.out Hm.out).mono ?_
        rw [HM.out]
        rintro e w2 ⟨rfl, hb⟩
        replace HB := Lib.hid (sz_keep HB.out hb)
        replace s0 := cell_keep hb s0
        replace s1 := cell_keep hb s1
        replace m0 := cell_keep hb m0
        replace m1 := cell_keep hb m1
        replace Hs := Lib.hid (Hs.out.keep hb)
        replace Hm := Lib.hid (Hm.out.keep hb)
        replace H3 := Lib.hid (H3.out.keep hb)
        replace H4 := Lib.hid (H4.out.keep hb)
        clear hb
        have HC := Lib.hid (And.intro m0 m1)
        go_wp2
        clear s0 s1 m0 m1
        go_loopw [9, 10, 30] (fun _ _ i wr => ∃ k : Nat, k ≤ vals.length ∧ i = .int .i64 k ∧ allVal m vars vals k = true ∧ Below w2.heap.size w2 wr) (fun _ _ i _ => vals.length - (intOf i).toNat)
        case atStart => exact ⟨0, Nat.zero_le _, rfl, allVal_zero _ _ _, Below.refl _ _⟩
        case round =>
          obtain ⟨k, hk, rfl, hal, hd⟩ := hrel
          have HAL := Lib.hid hal
          have HD := Lib.hid hd
          have f0 := cell_keep hd HC.out.1
          have f1 := cell_keep hd HC.out.2
          clear hal hd
          by_cases hlt : k < vals.length
          · have hlt' : (k : Int) < (vals.length : Int) := by omega
            have hkv : k < vars.length := by omega
            have hkv' : (k : Int) < (vars.length : Int) := by omega
            obtain ⟨b7, o7, c7, e, hx⟩ := (H4.out.keep HD.out).at_ hlt
            cases e
            obtain ⟨b8, o8, c8, e, hy⟩ := (H3.out.keep HD.out).at_ hkv
            cases e
            have hin := HVF.out k hkv
            have hms : vars[k] < (m.sizes.length : Int) := by have := HMF.out.sl; omega
            have HSUC := Lib.hid (allVal_succ m vars vals k)
            have HAT := Lib.hid (valOkAt_eq (m := m) hkv hlt)
            have HBAD := Lib.hid (fun h => vals_no4 (s := s) (m := m) (vars := vars) hlt h)
            generalize vars[k] = x at hy hin hms HAT
            generalize vals[k] = y at hx HAT
            obtain ⟨r, hr⟩ : ∃ r, inSize (m.sizes.getD x.toNat 0) y = r := ⟨_, rfl⟩
            have HR := Lib.hid hr
            have hx0 := hin.1
            clear hr hin
            go_wp2_with fail
            refine wp_region_held_drew (S := (fun w' => w'.cell? ⟨w.heap.size + 1, 0, none⟩ = some (.slice Ama m.sizes.length cma) ∧ w'.cell? ⟨w.heap.size + 1, 1, none⟩ = some (.slice Amb m.tables.length cmb) ∧ w'.cell? ⟨b8, o8 + k, none⟩ = some (.int .i64 x))) (by kernel_rfl) ?_ (fun hHeld => ?_)
            · exact ⟨f0, f1, hy⟩
            refine wpAnyH_take (i := 0) (oi := _) (v := ?_) rfl (by kernel_rfl) (by kernel_rfl) (by kernel_rfl) (fun _ _ _ h => h) (Or.inl ⟨by rfl, ?_⟩) (by assumption) ?_
            rotate_left
            · first | (intro w' hSw; (try dsimp only at hSw); go_simp; done) | (intro w' hSw; (try dsimp only at hSw); go_simp; with_reducible rfl)
            try simp only [Act.put, List.getElem_toArray, List.getElem_cons_zero, List.getElem_cons_succ, List.setIfInBounds_toArray, List.set_cons_zero, List.set_cons_succ]
            refine wpAnyH_take (i := 1) (oi := _) (v := ?_) rfl (by kernel_rfl) (by kernel_rfl) (by kernel_rfl) (fun _ _ _ h => h) (Or.inl ⟨by rfl, ?_⟩) (by assumption) ?_
            rotate_left
            · first | (intro w' hSw; (try dsimp only at hSw); go_simp; done) | (intro w' hSw; (try dsimp only at hSw); go_simp; with_reducible rfl)
            try simp only [Act.put, List.getElem_toArray, List.getElem_cons_zero, List.getElem_cons_succ, List.setIfInBounds_toArray, List.set_cons_zero, List.set_cons_succ]
            refine wpAnyH_take (i := 2) (oi := _) (v := ?_) rfl (by kernel_rfl) (by kernel_rfl) (by kernel_rfl) (fun _ _ _ h => h) (Or.inl ⟨by rfl, ?_⟩) (by assumption) ?_
            rotate_left
            · first | (intro w' hSw; (try dsimp only at hSw); go_simp; done) | (intro w' hSw; (try dsimp only at hSw); go_simp; with_reducible rfl)
            try simp only [Act.put, List.getElem_toArray, List.getElem_cons_zero, List.getElem_cons_succ, List.setIfInBounds_toArray, List.set_cons_zero, List.set_cons_succ]
            refine wpAnyH_take (i := 3) (oi := _) (v := ?_) rfl (by kernel_rfl) (by kernel_rfl) (by kernel_rfl) (fun _ _ _ h => h) (Or.inl ⟨by rfl, ?_⟩) (by assumption) ?_
            rotate_left
            · first | (intro w' hSw; (try dsimp only at hSw); go_simp; done) | (intro w' hSw; (try dsimp only at hSw); go_simp; with_reducible rfl)
            try simp only [Act.put, List.getElem_toArray, List.getElem_cons_zero, List.getElem_cons_succ, List.setIfInBounds_toArray, List.set_cons_zero, List.set_cons_succ]
            refine wpAnyH_take (i := 4) (oi := _) (v := ?_) rfl (by kernel_rfl) (by kernel_rfl) (by kernel_rfl) (fun _ _ _ h => h) (Or.inl ⟨by rfl, ?_⟩) (by assumption) ?_
            rotate_left
            · first | (intro w' hSw; (try dsimp only at hSw); go_simp; done) | (intro w' hSw; (try dsimp only at hSw); go_simp; with_reducible rfl)
            try simp only [Act.put, List.getElem_toArray, List.getElem_cons_zero, List.getElem_cons_succ, List.setIfInBounds_toArray, List.set_cons_zero, List.set_cons_succ]
            refine wpAnyH_take (i := 5) (oi := _) (v := ?_) rfl (by kernel_rfl) (by kernel_rfl) (by kernel_rfl) (fun _ _ _ h => h) (Or.inl ⟨by rfl, ?_⟩) (by assumption) ?_
            rotate_left
            · first | (intro w' hSw; (try dsimp only at hSw); go_simp; done) | (intro w' hSw; (try dsimp only at hSw); go_simp; with_reducible rfl)
            try simp only [Act.put, List.getElem_toArray, List.getElem_cons_zero, List.getElem_cons_succ, List.setIfInBounds_toArray, List.set_cons_zero, List.set_cons_succ]
            refine wpAnyH_ready (rs := [6]) (by kernel_rfl) (by simp) ?_
            refine AllReadyH.cons (o := _) rfl (fun K hK => ?_) AllReadyH.nil
            go_simp
            refine (isValue_any m x y _ _ ((Hm.out.keep HD.out).keep (map_drew (Below.refl _ _))) hx0 hms).mono ?_
            rw [HR.out]
            rintro x w6 ⟨rfl, hb6⟩
            have hx6 := map_undrew hb6
            have HX6 := Lib.hid (sz_keep HD.out hx6)
            have j1 := cell_keep hx6 f0
            have j2 := cell_keep hx6 f1
            have j3 := cell_keep hx6 hy
            clear hb6 hx6
            go_wp2_with fail
            refine hK.out _ _ ?_ (fun hHeld => ?_)
            · exact ⟨j1, j2, j3⟩
            clear hK K
            try simp only [Act.put, List.getElem_toArray, List.getElem_cons_zero, List.getElem_cons_succ, List.setIfInBounds_toArray, List.set_cons_zero, List.set_cons_succ]
            refine wpAnyH_take (i := 7) (oi := _) (v := ?_) rfl (by kernel_rfl) (by kernel_rfl) (by kernel_rfl) (fun _ _ _ h => h) (Or.inl ⟨by rfl, ?_⟩) (by assumption) ?_
            rotate_left
            · first | (intro w' hSw; (try dsimp only at hSw); go_simp; done) | (intro w' hSw; (try dsimp only at hSw); go_simp; with_reducible rfl)
            try simp only [Act.put, List.getElem_toArray, List.getElem_cons_zero, List.getElem_cons_succ, List.setIfInBounds_toArray, List.set_cons_zero, List.set_cons_succ]
            refine wpAnyH_done (by kernel_rfl) ?_ _
            clear f0 f1 j1 j2 j3 hx hy
            cases r with
            | true =>
              go_wp2
              go_roundw
              case rel => exact ⟨k + 1, by omega, by go_num, by rw [HSUC.out, HAL.out, HAT.out, HR.out]; rfl, HX6.out⟩
              case measure => simp [intOf]; omega
            | false =>
              have HF := Lib.hid (HBAD.out (HAT.out.trans HR.out))
              go_wp2
              go_ret
              exact ⟨ret_bool HF.out.symm, sz_keep HB.out HX6.out⟩
          · have hkn : k = vals.length := by omega
            have hlt' : ¬ (k : Int) < (vals.length : Int) := by omega
            have HE := Lib.hid (vals_yes HV.out HM.out HL.out (by rw [← hkn]; exact HAL.out))
            clear f0 f1
            go_wp2
            go_ret
            exact ⟨ret_bool HE.out.symm, sz_keep HB.out HD.out⟩
      · have e1 : ((vals.length : Int) != (vars.length : Int)) = true := by simp; omega
        have HE := Lib.hid (vals_no3 (s := s) (m := m) hl)
        clear hl
        go_enter Try.func19, Try.ntmps19
        go_wp2_with fail
        clear hW
        refine (varsOk_any _ _ s vars _ Hs.out H3.out).mono ?_
        rw [HV.out]
        rintro e w1 ⟨rfl, hb⟩
        replace HB := Lib.hid (sz_keep HB.out hb)
        replace s0 := cell_keep hb s0
        replace s1 := cell_keep hb s1
        replace m0 := cell_keep hb m0
        replace m1 := cell_keep hb m1
        replace Hs := Lib.hid (Hs.out.keep hb)
        replace Hm := Lib.hid (Hm.out.keep hb)
        clear hb
        go_wp2_with fail
        refine (modelOk_any s m _ _ _ Hs.out Hm.out).mono ?_
        rw [HM.out]
        rintro e w2 ⟨rfl, hb⟩
        replace HB := Lib.hid (sz_keep HB.out hb)
        replace s0 := cell_keep hb s0
        replace s1 := cell_keep hb s1
        replace m0 := cell_keep hb m0
        replace m1 := cell_keep hb m1
        replace Hs := Lib.hid (Hs.out.keep hb)
        replace Hm := Lib.hid (Hm.out.keep hb)
        clear hb
        go_wp2
        go_ret
        exact ⟨ret_bool HE.out.symm, HB.out⟩

set_option maxHeartbeats 1600000 in
set_option maxRecDepth 100000 in
theorem specValuesOk_any (s : MSig) (m : MModel) (vars vals : List Int) (w : World) (v v' v2 v3 : Value) (h1 : RSig w v s) (h2 : RModel w v' m) (h3 : RInts w v2 vars) (h4 : RInts w v3 vals) :
    Calls Try.prog 17 #[v, v', v2, v3] w fun e w' => e = .returned (.bool (valsB s m vars vals)) ∧ Below w.heap.size w w' := by
  obtain ⟨Asa, csa, rfl⟩ := h1.form
  obtain ⟨Ama, cma, Amb, cmb, rfl⟩ := h2.form
  have hb : Below w.heap.size w ((w.alloc (.cells #[.int .i64 s.sorts, .slice Asa s.ops.length csa] 31)).alloc (.cells #[.slice Ama m.sizes.length cma, .slice Amb m.tables.length cmb] 33)) := (below_alloc _ _).alloc (by simp) _
  have HB := Lib.hid hb
  have hsz : ((w.alloc (.cells #[.int .i64 s.sorts, .slice Asa s.ops.length csa] 31)).alloc (.cells #[.slice Ama m.sizes.length cma, .slice Amb m.tables.length cmb] 33)).heap.size = w.heap.size + 2 := by simp
  have Hs := Lib.hid (h1.keep hb)
  have s0 := cell_keep (below_alloc (w.alloc (.cells #[.int .i64 s.sorts, .slice Asa s.ops.length csa] 31)) (.cells #[.slice Ama m.sizes.length cma, .slice Amb m.tables.length cmb] 33)) (bx_at (w) #[.int .i64 s.sorts, .slice Asa s.ops.length csa] 31 (k := 0) rfl)
  have s1 := cell_keep (below_alloc (w.alloc (.cells #[.int .i64 s.sorts, .slice Asa s.ops.length csa] 31)) (.cells #[.slice Ama m.sizes.length cma, .slice Amb m.tables.length cmb] 33)) (bx_at (w) #[.int .i64 s.sorts, .slice Asa s.ops.length csa] 31 (k := 1) rfl)
  have Hm := Lib.hid (h2.keep hb)
  have m0 := bx_at (w.alloc (.cells #[.int .i64 s.sorts, .slice Asa s.ops.length csa] 31)) #[.slice Ama m.sizes.length cma, .slice Amb m.tables.length cmb] 33 (k := 0) rfl
  have m1 := bx_at (w.alloc (.cells #[.int .i64 s.sorts, .slice Asa s.ops.length csa] 31)) #[.slice Ama m.sizes.length cma, .slice Amb m.tables.length cmb] 33 (k := 1) rfl
  simp only [World.size_alloc] at m0 m1
  generalize hW : (w.alloc (.cells #[.int .i64 s.sorts, .slice Asa s.ops.length csa] 31)).alloc (.cells #[.slice Ama m.sizes.length cma, .slice Amb m.tables.length cmb] 33) = W at HB hsz Hs s0 s1 Hm m0 m1
  clear hb h1 h2
  have H3 := Lib.hid (h3.keep HB.out)
  have H4 := Lib.hid (h4.keep HB.out)
  have hl3 := h3.len
  have hl4 := h4.len
  have hlm := Hm.out.of.1.len
  obtain ⟨A3, d3, rfl, -⟩ := h3.form
  obtain ⟨A4, d4, rfl, -⟩ := h4.form
  clear h3 h4
  cases hm : modelB s m with
  | false =>
    have HM := Lib.hid hm
    have HE := Lib.hid (vals_no2 (vars := vars) (vals := vals) hm)
    clear hm
    go_enter Try.func17, Try.ntmps17
    go_wp2_with fail
    clear hW
    refine (specModelOk_any s m _ _ _ Hs.out Hm.out).mono ?_
    rw [HM.out]
    rintro e w2 ⟨rfl, hb⟩
    replace HB := Lib.hid (sz_keep HB.out hb)
    replace s0 := cell_keep hb s0
    replace s1 := cell_keep hb s1
    replace m0 := cell_keep hb m0
    replace m1 := cell_keep hb m1
    replace Hs := Lib.hid (Hs.out.keep hb)
    replace Hm := Lib.hid (Hm.out.keep hb)
    clear hb
    go_wp2
    go_ret
    exact ⟨ret_bool HE.out.symm, HB.out⟩
  | true =>
    have HM := Lib.hid hm
    have HMF := Lib.hid (model_facts hm)
    clear hm
    cases hv : varsB s vars with
    | false =>
      have HV := Lib.hid hv
      have HE := Lib.hid (vals_no1 (m := m) (vals := vals) hv)
      clear hv
      go_enter Try.func17, Try.ntmps17
      go_wp2_with fail
      clear hW
      refine (specModelOk_any s m _ _ _ Hs.out Hm.out).mono ?_
      rw [HM.out]
      rintro e w1 ⟨rfl, hb⟩
      replace HB := Lib.hid (sz_keep HB.out hb)
      replace s0 := cell_keep hb s0
      replace s1 := cell_keep hb s1
      replace m0 := cell_keep hb m0
      replace m1 := cell_keep hb m1
      replace Hs := Lib.hid (Hs.out.keep hb)
      replace Hm := Lib.hid (Hm.out.keep hb)
      replace H3 := Lib.hid (H3.out.keep hb)
      clear hb
      go_wp2_with fail
      refine (specVarsOk_any _ _ s vars _ Hs.out H3.out).mono ?_
      rw [HV.out]
      rintro e w2 ⟨rfl, hb⟩
      replace HB := Lib.hid (sz_keep HB.out hb)
      replace s0 := cell_keep hb s0
      replace s1 := cell_keep hb s1
      replace m0 := cell_keep hb m0
      replace m1 := cell_keep hb m1
      replace Hs := Lib.hid (Hs.out.keep hb)
      replace Hm := Lib.hid (Hm.out.keep hb)
      clear hb
      go_wp2
      go_ret
      exact ⟨ret_bool HE.out.symm, HB.out⟩
    | true =>
      have HV := Lib.hid hv
      have HVF := Lib.hid (vars_valid hv).2.2
      clear hv
      by_cases hl : vals.length = vars.length
      · have e1 : ((vals.length : Int) != (vars.length : Int)) = false := by simp [hl]
        have HL := Lib.hid hl
        have hle : vals.length ≤ vars.length := by omega
        clear hl
        go_enter Try.func17, Try.ntmps17
        go_wp2_with fail
        clear hW
        refine (specModelOk_any s m _ _ _ Hs.out Hm.out).mono ?_
        rw [HM.out]
        rintro e w1 ⟨rfl, hb⟩
        replace HB := Lib.hid (sz_keep HB.out hb)
        replace s0 := cell_keep hb s0
        replace s1 := cell_keep hb s1
        replace m0 := cell_keep hb m0
        replace m1 := cell_keep hb m1
        replace Hs := Lib.hid (Hs.out.keep hb)
        replace Hm := Lib.hid (Hm.out.keep hb)
        replace H3 := Lib.hid (H3.out.keep hb)
        replace H4 := Lib.hid (H4.out.keep hb)
        clear hb
        go_wp2_with fail
        refine (specVarsOk_any _ _ s vars _ Hs.out H3.out).mono ?_
        rw [HV.out]
        rintro e w2 ⟨rfl, hb⟩
        replace HB := Lib.hid (sz_keep HB.out hb)
        replace s0 := cell_keep hb s0
        replace s1 := cell_keep hb s1
        replace m0 := cell_keep hb m0
        replace m1 := cell_keep hb m1
        replace Hs := Lib.hid (Hs.out.keep hb)
        replace Hm := Lib.hid (Hm.out.keep hb)
        replace H3 := Lib.hid (H3.out.keep hb)
        replace H4 := Lib.hid (H4.out.keep hb)
        clear hb
        have HC := Lib.hid (And.intro m0 m1)
        go_wp2
        clear s0 s1 m0 m1
        go_loopw [9] (fun i wr => ∃ k : Nat, k ≤ vals.length ∧ i = .int .i64 k ∧ allVal m vars vals k = true ∧ Below w2.heap.size w2 wr) (fun i _ => vals.length - (intOf i).toNat)
        case atStart => exact ⟨0, Nat.zero_le _, rfl, allVal_zero _ _ _, Below.refl _ _⟩
        case round =>
          obtain ⟨k, hk, rfl, hal, hd⟩ := hrel
          have HAL := Lib.hid hal
          have HD := Lib.hid hd
          have f0 := cell_keep hd HC.out.1
          clear hal hd
          by_cases hlt : k < vals.length
          · have hlt' : (k : Int) < (vals.length : Int) := by omega
            have hkv : k < vars.length := by omega
            have hkv' : (k : Int) < (vars.length : Int) := by omega
            obtain ⟨b7, o7, c7, e, hx⟩ := (H4.out.keep HD.out).at_ hlt
            cases e
            obtain ⟨b8, o8, c8, e, hy⟩ := (H3.out.keep HD.out).at_ hkv
            cases e
            have hin := HVF.out k hkv
            have hms : vars[k] < (m.sizes.length : Int) := by have := HMF.out.sl; omega
            have HSUC := Lib.hid (allVal_succ m vars vals k)
            have HAT := Lib.hid (valOkAt_eq (m := m) hkv hlt)
            have HBAD := Lib.hid (fun h => vals_no4 (s := s) (m := m) (vars := vars) hlt h)
            generalize vars[k] = x at hy hin hms HAT
            generalize vals[k] = y at hx HAT
            obtain ⟨t, rfl⟩ : ∃ t : Nat, x = (t : Int) := ⟨x.toNat, by omega⟩
            have htm : t < m.sizes.length := by omega
            have htm' : (t : Int) < (m.sizes.length : Int) := by omega
            obtain ⟨b2, o2, c2, e, hz⟩ := (Hm.out.of.1.keep HD.out).at_ htm
            cases e
            have hz13 := HMF.out.sz _ (List.getElem_mem htm)
            replace HAT := Lib.hid (show valOkAt m vars vals k = inSize m.sizes[t] y by rw [HAT.out, Int.toNat_natCast, getD_at _ htm])
            generalize m.sizes[t] = z at hz hz13 HAT
            obtain ⟨r, hr⟩ : ∃ r, inSize z y = r := ⟨_, rfl⟩
            have HR := Lib.hid hr
            have hw2 : IntKind.i64.wrap (z - 1) = z - 1 := by rw [IntKind.wrap_i64]; omega
            clear hr hin hms
            go_wp2_with fail
            refine wp_region_held_drew (S := (fun w' => w'.cell? ⟨w.heap.size + 1, 0, none⟩ = some (.slice (some ⟨b2, o2, none⟩) m.sizes.length cma) ∧ w'.cell? ⟨b8, o8 + k, none⟩ = some (.int .i64 (t : Int)) ∧ w'.cell? ⟨b2, o2 + t, none⟩ = some (.int .i64 z) ∧ w'.cell? ⟨b7, o7 + k, none⟩ = some (.int .i64 y))) (by kernel_rfl) ?_ (fun hHeld => ?_)
            · exact ⟨f0, hy, hz, hx⟩
            refine wpAnyH_take (i := 0) (oi := _) (v := ?_) rfl (by kernel_rfl) (by kernel_rfl) (by kernel_rfl) (fun _ _ _ h => h) (Or.inl ⟨by rfl, ?_⟩) (by assumption) ?_
            rotate_left
            · first | (intro w' hSw; (try dsimp only at hSw); go_simp; done) | (intro w' hSw; (try dsimp only at hSw); go_simp; with_reducible rfl)
            try simp only [Act.put, List.getElem_toArray, List.getElem_cons_zero, List.getElem_cons_succ, List.setIfInBounds_toArray, List.set_cons_zero, List.set_cons_succ]
            refine wpAnyH_take (i := 1) (oi := _) (v := ?_) rfl (by kernel_rfl) (by kernel_rfl) (by kernel_rfl) (fun _ _ _ h => h) (Or.inl ⟨by rfl, ?_⟩) (by assumption) ?_
            rotate_left
            · first | (intro w' hSw; (try dsimp only at hSw); go_simp; done) | (intro w' hSw; (try dsimp only at hSw); go_simp; with_reducible rfl)
            try simp only [Act.put, List.getElem_toArray, List.getElem_cons_zero, List.getElem_cons_succ, List.setIfInBounds_toArray, List.set_cons_zero, List.set_cons_succ]
            refine wpAnyH_take (i := 2) (oi := _) (v := ?_) rfl (by kernel_rfl) (by kernel_rfl) (by kernel_rfl) (fun _ _ _ h => h) (Or.inl ⟨by rfl, ?_⟩) (by assumption) ?_
            rotate_left
            · first | (intro w' hSw; (try dsimp only at hSw); go_simp; done) | (intro w' hSw; (try dsimp only at hSw); go_simp; with_reducible rfl)
            try simp only [Act.put, List.getElem_toArray, List.getElem_cons_zero, List.getElem_cons_succ, List.setIfInBounds_toArray, List.set_cons_zero, List.set_cons_succ]
            refine wpAnyH_take (i := 3) (oi := _) (v := ?_) rfl (by kernel_rfl) (by kernel_rfl) (by kernel_rfl) (fun _ _ _ h => h) (Or.inl ⟨by rfl, ?_⟩) (by assumption) ?_
            rotate_left
            · first | (intro w' hSw; (try dsimp only at hSw); go_simp; done) | (intro w' hSw; (try dsimp only at hSw); go_simp; with_reducible rfl)
            try simp only [Act.put, List.getElem_toArray, List.getElem_cons_zero, List.getElem_cons_succ, List.setIfInBounds_toArray, List.set_cons_zero, List.set_cons_succ]
            refine wpAnyH_take (i := 4) (oi := _) (v := ?_) rfl (by kernel_rfl) (by kernel_rfl) (by kernel_rfl) (fun _ _ _ h => h) (Or.inl ⟨by rfl, ?_⟩) (by assumption) ?_
            rotate_left
            · first | (intro w' hSw; (try dsimp only at hSw); go_simp; done) | (intro w' hSw; (try dsimp only at hSw); go_simp; with_reducible rfl)
            try simp only [Act.put, List.getElem_toArray, List.getElem_cons_zero, List.getElem_cons_succ, List.setIfInBounds_toArray, List.set_cons_zero, List.set_cons_succ]
            refine wpAnyH_take (i := 5) (oi := _) (v := ?_) rfl (by kernel_rfl) (by kernel_rfl) (by kernel_rfl) (fun _ _ _ h => h) (Or.inl ⟨by rfl, ?_⟩) (by assumption) ?_
            rotate_left
            · first | (intro w' hSw; (try dsimp only at hSw); go_simp; done) | (intro w' hSw; (try dsimp only at hSw); go_simp; with_reducible rfl)
            try simp only [Act.put, List.getElem_toArray, List.getElem_cons_zero, List.getElem_cons_succ, List.setIfInBounds_toArray, List.set_cons_zero, List.set_cons_succ]
            refine wpAnyH_take (i := 6) (oi := _) (v := ?_) rfl (by kernel_rfl) (by kernel_rfl) (by kernel_rfl) (fun _ _ _ h => h) (Or.inl ⟨by rfl, ?_⟩) (by assumption) ?_
            rotate_left
            · first | (intro w' hSw; (try dsimp only at hSw); go_simp; done) | (intro w' hSw; (try dsimp only at hSw); go_simp; with_reducible rfl)
            try simp only [Act.put, List.getElem_toArray, List.getElem_cons_zero, List.getElem_cons_succ, List.setIfInBounds_toArray, List.set_cons_zero, List.set_cons_succ]
            refine wpAnyH_take (i := 7) (oi := _) (v := ?_) rfl (by kernel_rfl) (by kernel_rfl) (by kernel_rfl) (fun _ _ _ h => h) (Or.inl ⟨by rfl, ?_⟩) (by assumption) ?_
            rotate_left
            · first | (intro w' hSw; (try dsimp only at hSw); go_simp; done) | (intro w' hSw; (try dsimp only at hSw); go_simp; with_reducible rfl)
            try simp only [Act.put, List.getElem_toArray, List.getElem_cons_zero, List.getElem_cons_succ, List.setIfInBounds_toArray, List.set_cons_zero, List.set_cons_succ]
            refine wpAnyH_take (i := 8) (oi := _) (v := ?_) rfl (by kernel_rfl) (by kernel_rfl) (by kernel_rfl) (fun _ _ _ h => h) (Or.inl ⟨by rfl, ?_⟩) (by assumption) ?_
            rotate_left
            · first | (intro w' hSw; (try dsimp only at hSw); go_simp; done) | (intro w' hSw; (try dsimp only at hSw); go_simp; with_reducible rfl)
            try simp only [Act.put, List.getElem_toArray, List.getElem_cons_zero, List.getElem_cons_succ, List.setIfInBounds_toArray, List.set_cons_zero, List.set_cons_succ]
            refine wpAnyH_take (i := 9) (oi := _) (v := ?_) rfl (by kernel_rfl) (by kernel_rfl) (by kernel_rfl) (fun _ _ _ h => h) (Or.inl ⟨by rfl, ?_⟩) (by assumption) ?_
            rotate_left
            · first | (intro w' hSw; (try dsimp only at hSw); go_simp; done) | (intro w' hSw; (try dsimp only at hSw); go_simp; with_reducible rfl)
            try simp only [Act.put, List.getElem_toArray, List.getElem_cons_zero, List.getElem_cons_succ, List.setIfInBounds_toArray, List.set_cons_zero, List.set_cons_succ]
            refine wpAnyH_take (i := 10) (oi := _) (v := ?_) rfl (by kernel_rfl) (by kernel_rfl) (by kernel_rfl) (fun _ _ _ h => h) (Or.inl ⟨by rfl, ?_⟩) (by assumption) ?_
            rotate_left
            · first | (intro w' hSw; (try dsimp only at hSw); go_simp; done) | (intro w' hSw; (try dsimp only at hSw); go_simp; with_reducible rfl)
            try simp only [Act.put, List.getElem_toArray, List.getElem_cons_zero, List.getElem_cons_succ, List.setIfInBounds_toArray, List.set_cons_zero, List.set_cons_succ]
            refine wpAnyH_take (i := 11) (oi := _) (v := ?_) rfl (by kernel_rfl) (by kernel_rfl) (by kernel_rfl) (fun _ _ _ h => h) (Or.inl ⟨by rfl, ?_⟩) (by assumption) ?_
            rotate_left
            · first | (intro w' hSw; (try dsimp only at hSw); go_simp; done) | (intro w' hSw; (try dsimp only at hSw); go_simp; with_reducible rfl)
            try simp only [Act.put, List.getElem_toArray, List.getElem_cons_zero, List.getElem_cons_succ, List.setIfInBounds_toArray, List.set_cons_zero, List.set_cons_succ]
            refine wpAnyH_take (i := 12) (oi := _) (v := ?_) rfl (by kernel_rfl) (by kernel_rfl) (by kernel_rfl) (fun _ _ _ h => h) (Or.inl ⟨by rfl, ?_⟩) (by assumption) ?_
            rotate_left
            · first | (intro w' hSw; (try dsimp only at hSw); go_simp; done) | (intro w' hSw; (try dsimp only at hSw); go_simp; with_reducible rfl)
            try simp only [Act.put, List.getElem_toArray, List.getElem_cons_zero, List.getElem_cons_succ, List.setIfInBounds_toArray, List.set_cons_zero, List.set_cons_succ]
            refine wpAnyH_ready (rs := [13]) (by kernel_rfl) (by simp) ?_
            refine AllReadyH.cons (o := _) rfl (fun K hK => ?_) AllReadyH.nil
            go_simp
            refine (l1In_is y 0 (z - 1) _ r (by rw [inSize_inB rfl]; exact HR.out)).mono ?_
            rintro x w6 ⟨rfl, rfl⟩
            go_wp2_with fail
            refine hK.out _ _ ?_ (fun hHeld => ?_)
            · exact ⟨f0, hy, hz, hx⟩
            clear hK K
            try simp only [Act.put, List.getElem_toArray, List.getElem_cons_zero, List.getElem_cons_succ, List.setIfInBounds_toArray, List.set_cons_zero, List.set_cons_succ]
            refine wpAnyH_take (i := 14) (oi := _) (v := ?_) rfl (by kernel_rfl) (by kernel_rfl) (by kernel_rfl) (fun _ _ _ h => h) (Or.inl ⟨by rfl, ?_⟩) (by assumption) ?_
            rotate_left
            · first | (intro w' hSw; (try dsimp only at hSw); go_simp; done) | (intro w' hSw; (try dsimp only at hSw); go_simp; with_reducible rfl)
            try simp only [Act.put, List.getElem_toArray, List.getElem_cons_zero, List.getElem_cons_succ, List.setIfInBounds_toArray, List.set_cons_zero, List.set_cons_succ]
            refine wpAnyH_done (by kernel_rfl) ?_ _
            have HX6 := Lib.hid (map_drew HD.out)
            clear f0 hx hy hz
            cases r with
            | true =>
              go_wp2
              go_roundw
              case rel => exact ⟨k + 1, by omega, by go_num, by rw [HSUC.out, HAL.out, HAT.out, HR.out]; rfl, HX6.out⟩
              case measure => simp [intOf]; omega
            | false =>
              have HF := Lib.hid (HBAD.out (HAT.out.trans HR.out))
              go_wp2
              go_ret
              exact ⟨ret_bool HF.out.symm, sz_keep HB.out HX6.out⟩
          · have hkn : k = vals.length := by omega
            have hlt' : ¬ (k : Int) < (vals.length : Int) := by omega
            have HE := Lib.hid (vals_yes HV.out HM.out HL.out (by rw [← hkn]; exact HAL.out))
            clear f0
            go_wp2
            go_ret
            exact ⟨ret_bool HE.out.symm, sz_keep HB.out HD.out⟩
      · have e1 : ((vals.length : Int) != (vars.length : Int)) = true := by simp; omega
        have HE := Lib.hid (vals_no3 (s := s) (m := m) hl)
        clear hl
        go_enter Try.func17, Try.ntmps17
        go_wp2_with fail
        clear hW
        refine (specModelOk_any s m _ _ _ Hs.out Hm.out).mono ?_
        rw [HM.out]
        rintro e w1 ⟨rfl, hb⟩
        replace HB := Lib.hid (sz_keep HB.out hb)
        replace s0 := cell_keep hb s0
        replace s1 := cell_keep hb s1
        replace m0 := cell_keep hb m0
        replace m1 := cell_keep hb m1
        replace Hs := Lib.hid (Hs.out.keep hb)
        replace Hm := Lib.hid (Hm.out.keep hb)
        replace H3 := Lib.hid (H3.out.keep hb)
        clear hb
        go_wp2_with fail
        refine (specVarsOk_any _ _ s vars _ Hs.out H3.out).mono ?_
        rw [HV.out]
        rintro e w2 ⟨rfl, hb⟩
        replace HB := Lib.hid (sz_keep HB.out hb)
        replace s0 := cell_keep hb s0
        replace s1 := cell_keep hb s1
        replace m0 := cell_keep hb m0
        replace m1 := cell_keep hb m1
        replace Hs := Lib.hid (Hs.out.keep hb)
        replace Hm := Lib.hid (Hm.out.keep hb)
        clear hb
        go_wp2
        go_ret
        exact ⟨ret_bool HE.out.symm, HB.out⟩
end Go.Proofs.Yteccjnnhihbdhaa
