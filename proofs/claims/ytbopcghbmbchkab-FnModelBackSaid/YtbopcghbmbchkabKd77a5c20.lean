/- FailsAt of package impl. · Rows of values one after the other by l4Next: what all walks need. · FailsAt of package spec. · Holds of both packages. · Equality of rows, of lists of rows, of signatures (package laws). · laws.sameModel of two that are the same. -/
import Derived.Test.YtbopcghbmbchkabK3487fffc
namespace Go.Proofs.Ytbopcghbmbchkab
section
open Go.RowKit
set_option linter.unusedVariables false
set_option linter.unusedSimpArgs false

set_option maxHeartbeats 3200000 in
set_option maxRecDepth 100000 in
theorem failsAt_any (s : MSig) (m : MModel) (e : MEq) (w : World) (v v' v2 : Value) (hsm : SmallE e) (h1 : RSig w v s) (h2 : RModel w v' m) (h3 : REq w v2 e) :
    Calls Try.prog 67 #[v, v', v2] w (PairPost (failsM s m e) w) := by
  obtain ⟨Asa, csa, rfl⟩ := h1.form
  obtain ⟨Ama, cma, Amb, cmb, rfl⟩ := h2.form
  obtain ⟨Aea, cea, Aeb, ceb, Aec, cec, rfl⟩ := h3.form
  have hb : Below w.heap.size w (((w.alloc (.cells #[.int .i64 s.sorts, .slice Asa s.ops.length csa] 25)).alloc (.cells #[.slice Ama m.sizes.length cma, .slice Amb m.tables.length cmb] 30)).alloc (.cells #[.slice Aea e.vars.length cea, .slice Aeb e.left.length ceb, .slice Aec e.right.length cec] 37)) := ((below_alloc _ _).alloc (by simp) _).alloc (by simp; omega) _
  have HB := Lib.hid hb
  have hsz : (((w.alloc (.cells #[.int .i64 s.sorts, .slice Asa s.ops.length csa] 25)).alloc (.cells #[.slice Ama m.sizes.length cma, .slice Amb m.tables.length cmb] 30)).alloc (.cells #[.slice Aea e.vars.length cea, .slice Aeb e.left.length ceb, .slice Aec e.right.length cec] 37)).heap.size = w.heap.size + 3 := by simp
  have Hs := Lib.hid (h1.keep hb)
  have s0 := cell_keep (below_alloc ((w.alloc (.cells #[.int .i64 s.sorts, .slice Asa s.ops.length csa] 25)).alloc (.cells #[.slice Ama m.sizes.length cma, .slice Amb m.tables.length cmb] 30)) (.cells #[.slice Aea e.vars.length cea, .slice Aeb e.left.length ceb, .slice Aec e.right.length cec] 37)) (cell_keep (below_alloc (w.alloc (.cells #[.int .i64 s.sorts, .slice Asa s.ops.length csa] 25)) (.cells #[.slice Ama m.sizes.length cma, .slice Amb m.tables.length cmb] 30)) (bx_at (w) #[.int .i64 s.sorts, .slice Asa s.ops.length csa] 25 (k := 0) rfl))
  have s1 := cell_keep (below_alloc ((w.alloc (.cells #[.int .i64 s.sorts, .slice Asa s.ops.length csa] 25)).alloc (.cells #[.slice Ama m.sizes.length cma, .slice Amb m.tables.length cmb] 30)) (.cells #[.slice Aea e.vars.length cea, .slice Aeb e.left.length ceb, .slice Aec e.right.length cec] 37)) (cell_keep (below_alloc (w.alloc (.cells #[.int .i64 s.sorts, .slice Asa s.ops.length csa] 25)) (.cells #[.slice Ama m.sizes.length cma, .slice Amb m.tables.length cmb] 30)) (bx_at (w) #[.int .i64 s.sorts, .slice Asa s.ops.length csa] 25 (k := 1) rfl))
  have Hm := Lib.hid (h2.keep hb)
  have m0 := cell_keep (below_alloc ((w.alloc (.cells #[.int .i64 s.sorts, .slice Asa s.ops.length csa] 25)).alloc (.cells #[.slice Ama m.sizes.length cma, .slice Amb m.tables.length cmb] 30)) (.cells #[.slice Aea e.vars.length cea, .slice Aeb e.left.length ceb, .slice Aec e.right.length cec] 37)) (bx_at (w.alloc (.cells #[.int .i64 s.sorts, .slice Asa s.ops.length csa] 25)) #[.slice Ama m.sizes.length cma, .slice Amb m.tables.length cmb] 30 (k := 0) rfl)
  have m1 := cell_keep (below_alloc ((w.alloc (.cells #[.int .i64 s.sorts, .slice Asa s.ops.length csa] 25)).alloc (.cells #[.slice Ama m.sizes.length cma, .slice Amb m.tables.length cmb] 30)) (.cells #[.slice Aea e.vars.length cea, .slice Aeb e.left.length ceb, .slice Aec e.right.length cec] 37)) (bx_at (w.alloc (.cells #[.int .i64 s.sorts, .slice Asa s.ops.length csa] 25)) #[.slice Ama m.sizes.length cma, .slice Amb m.tables.length cmb] 30 (k := 1) rfl)
  have He := Lib.hid (h3.keep hb)
  have e0 := bx_at ((w.alloc (.cells #[.int .i64 s.sorts, .slice Asa s.ops.length csa] 25)).alloc (.cells #[.slice Ama m.sizes.length cma, .slice Amb m.tables.length cmb] 30)) #[.slice Aea e.vars.length cea, .slice Aeb e.left.length ceb, .slice Aec e.right.length cec] 37 (k := 0) rfl
  have e1 := bx_at ((w.alloc (.cells #[.int .i64 s.sorts, .slice Asa s.ops.length csa] 25)).alloc (.cells #[.slice Ama m.sizes.length cma, .slice Amb m.tables.length cmb] 30)) #[.slice Aea e.vars.length cea, .slice Aeb e.left.length ceb, .slice Aec e.right.length cec] 37 (k := 1) rfl
  have e2 := bx_at ((w.alloc (.cells #[.int .i64 s.sorts, .slice Asa s.ops.length csa] 25)).alloc (.cells #[.slice Ama m.sizes.length cma, .slice Amb m.tables.length cmb] 30)) #[.slice Aea e.vars.length cea, .slice Aeb e.left.length ceb, .slice Aec e.right.length cec] 37 (k := 2) rfl
  simp only [World.size_alloc] at m0 m1 e0 e1 e2
  generalize hW : ((w.alloc (.cells #[.int .i64 s.sorts, .slice Asa s.ops.length csa] 25)).alloc (.cells #[.slice Ama m.sizes.length cma, .slice Amb m.tables.length cmb] 30)).alloc (.cells #[.slice Aea e.vars.length cea, .slice Aeb e.left.length ceb, .slice Aec e.right.length cec] 37) = W at HB hsz Hs s0 s1 Hm m0 m1 He e0 e1 e2
  clear hb h1 h2 h3
  have HSM := Lib.hid hsm
  clear hsm
  cases hok : eqOkB s e with
  | false =>
    have HOK := Lib.hid hok
    have HE := Lib.hid (fails_no1 (m := m) hok)
    clear hok
    go_enter Try.func67, Try.ntmps67
    go_wp2_with fail
    clear hW
    refine (eqOk_any s e _ _ _ HSM.out Hs.out He.out).mono ?_
    rw [HOK.out]
    rintro x w1 ⟨rfl, hb⟩
    replace HB := Lib.hid (sz_keep HB.out hb)
    replace s0 := cell_keep hb s0
    replace s1 := cell_keep hb s1
    replace m0 := cell_keep hb m0
    replace m1 := cell_keep hb m1
    replace e0 := cell_keep hb e0
    replace e1 := cell_keep hb e1
    replace e2 := cell_keep hb e2
    replace Hs := Lib.hid (Hs.out.keep hb)
    replace Hm := Lib.hid (Hm.out.keep hb)
    replace He := Lib.hid (He.out.keep hb)
    clear hb
    go_wp2
    refine bodyPost_ret (v := .tuple #[.slice none 0 0, .bool false]) (by simp [results, Try.results67, go_sem]) rfl ?_
    rw [HE.out]
    exact ⟨_, rfl, OInts.nil _ _, HB.out⟩
  | true =>
    have HOK := Lib.hid hok
    clear hok
    cases hmo : modelB s m with
    | false =>
      have HMO := Lib.hid hmo
      have HE := Lib.hid (fails_no2 (e := e) hmo)
      clear hmo
      go_enter Try.func67, Try.ntmps67
      go_wp2_with fail
      clear hW
      refine (eqOk_any s e _ _ _ HSM.out Hs.out He.out).mono ?_
      rw [HOK.out]
      rintro x w1 ⟨rfl, hb⟩
      replace HB := Lib.hid (sz_keep HB.out hb)
      replace s0 := cell_keep hb s0
      replace s1 := cell_keep hb s1
      replace m0 := cell_keep hb m0
      replace m1 := cell_keep hb m1
      replace e0 := cell_keep hb e0
      replace e1 := cell_keep hb e1
      replace e2 := cell_keep hb e2
      replace Hs := Lib.hid (Hs.out.keep hb)
      replace Hm := Lib.hid (Hm.out.keep hb)
      replace He := Lib.hid (He.out.keep hb)
      clear hb
      go_wp2_with fail
      refine (modelOk_any s m _ _ _ Hs.out Hm.out).mono ?_
      rw [HMO.out]
      rintro x w2 ⟨rfl, hb⟩
      replace HB := Lib.hid (sz_keep HB.out hb)
      replace s0 := cell_keep hb s0
      replace s1 := cell_keep hb s1
      replace m0 := cell_keep hb m0
      replace m1 := cell_keep hb m1
      replace e0 := cell_keep hb e0
      replace e1 := cell_keep hb e1
      replace e2 := cell_keep hb e2
      replace Hs := Lib.hid (Hs.out.keep hb)
      replace Hm := Lib.hid (Hm.out.keep hb)
      replace He := Lib.hid (He.out.keep hb)
      clear hb
      go_wp2
      refine bodyPost_ret (v := .tuple #[.slice none 0 0, .bool false]) (by simp [results, Try.results67, go_sem]) rfl ?_
      rw [HE.out]
      exact ⟨_, rfl, OInts.nil _ _, HB.out⟩
    | true =>
      have HMO := Lib.hid hmo
      obtain ⟨hvb, l, r, hl, hr, hwl, hwr, -⟩ := eq_terms HOK.out
      have HF := Lib.hid (fails_yes HOK.out hmo hl hr)
      have HMF := Lib.hid (model_facts hmo)
      have HVB := Lib.hid (vars_valid hvb)
      have HVV := Lib.hid hvb
      have HL := Lib.hid hl
      have HR := Lib.hid hr
      have HWL := Lib.hid hwl
      have HWR := Lib.hid hwr
      have HRV : Hid (∀ x ∈ e.vars, 0 ≤ x ∧ x < s.sorts) := fun x hx => by obtain ⟨k, hk, rfl⟩ := List.getElem_of_mem hx; exact HVB.out.2.2 k hk
      have HZS : Hid (Sizes (ledM m.sizes e.vars)) := HMF.out.led HRV.out
      have hv4 := HVB.out.2.1
      clear hmo hvb hl hr hwl hwr
      go_enter Try.func67, Try.ntmps67
      go_wp2_with fail
      clear hW
      refine (eqOk_any s e _ _ _ HSM.out Hs.out He.out).mono ?_
      rw [HOK.out]
      rintro x w1 ⟨rfl, hb⟩
      replace HB := Lib.hid (sz_keep HB.out hb)
      replace s0 := cell_keep hb s0
      replace s1 := cell_keep hb s1
      replace m0 := cell_keep hb m0
      replace m1 := cell_keep hb m1
      replace e0 := cell_keep hb e0
      replace e1 := cell_keep hb e1
      replace e2 := cell_keep hb e2
      replace Hs := Lib.hid (Hs.out.keep hb)
      replace Hm := Lib.hid (Hm.out.keep hb)
      replace He := Lib.hid (He.out.keep hb)
      clear hb
      go_wp2_with fail
      refine (modelOk_any s m _ _ _ Hs.out Hm.out).mono ?_
      rw [HMO.out]
      rintro x w2 ⟨rfl, hb⟩
      replace HB := Lib.hid (sz_keep HB.out hb)
      replace s0 := cell_keep hb s0
      replace s1 := cell_keep hb s1
      replace m0 := cell_keep hb m0
      replace m1 := cell_keep hb m1
      replace e0 := cell_keep hb e0
      replace e1 := cell_keep hb e1
      replace e2 := cell_keep hb e2
      replace Hs := Lib.hid (Hs.out.keep hb)
      replace Hm := Lib.hid (Hm.out.keep hb)
      replace He := Lib.hid (He.out.keep hb)
      clear hb
      go_wp2_with fail
      refine (termOf_any s e.vars e.left _ _ _ _ HSM.out.1 Hs.out He.out.of.1 He.out.of.2.1).mono ?_
      rw [HL.out]
      rintro x w3 ⟨⟨ul, rfl, hul⟩, hb⟩
      have HUL := Lib.hid hul
      obtain ⟨Tl, yl, -, rfl, -⟩ := hul.sorts
      replace HB := Lib.hid (sz_keep HB.out hb)
      replace s0 := cell_keep hb s0
      replace s1 := cell_keep hb s1
      replace m0 := cell_keep hb m0
      replace m1 := cell_keep hb m1
      replace e0 := cell_keep hb e0
      replace e1 := cell_keep hb e1
      replace e2 := cell_keep hb e2
      replace Hs := Lib.hid (Hs.out.keep hb)
      replace Hm := Lib.hid (Hm.out.keep hb)
      replace He := Lib.hid (He.out.keep hb)
      clear hb
      clear hul
      go_wp2_with fail
      refine (termOf_any s e.vars e.right _ _ _ _ HSM.out.2 Hs.out He.out.of.1 He.out.of.2.2).mono ?_
      rw [HR.out]
      rintro x w4 ⟨⟨ur, rfl, hur⟩, hb⟩
      have HUR := Lib.hid hur
      obtain ⟨Tr, yr, -, rfl, -⟩ := hur.sorts
      replace HUL := Lib.hid (HUL.out.below hb)
      replace HB := Lib.hid (sz_keep HB.out hb)
      replace s0 := cell_keep hb s0
      replace s1 := cell_keep hb s1
      replace m0 := cell_keep hb m0
      replace m1 := cell_keep hb m1
      replace e0 := cell_keep hb e0
      replace e1 := cell_keep hb e1
      replace e2 := cell_keep hb e2
      replace Hs := Lib.hid (Hs.out.keep hb)
      replace Hm := Lib.hid (Hm.out.keep hb)
      replace He := Lib.hid (He.out.keep hb)
      clear hb
      clear hur
      go_wp2_with fail
      refine (sizesOf_any m e.vars _ _ _ Hm.out He.out.of.1 (HMF.out.into HRV.out) (by omega)).mono ?_
      rintro x w5 ⟨uz, rfl, hoz, hb⟩
      have HUZ := Lib.hid hoz.reads
      obtain ⟨Az, cz, rfl, -⟩ := hoz.reads.form
      replace HUL := Lib.hid (HUL.out.below hb)
      replace HUR := Lib.hid (HUR.out.below hb)
      replace HB := Lib.hid (sz_keep HB.out hb)
      replace s0 := cell_keep hb s0
      replace s1 := cell_keep hb s1
      replace m0 := cell_keep hb m0
      replace m1 := cell_keep hb m1
      replace e0 := cell_keep hb e0
      replace e1 := cell_keep hb e1
      replace e2 := cell_keep hb e2
      replace Hs := Lib.hid (Hs.out.keep hb)
      replace Hm := Lib.hid (Hm.out.keep hb)
      replace He := Lib.hid (He.out.keep hb)
      clear hb
      clear hoz
      have HLZ := Lib.hid (ledM_len m.sizes e.vars)
      have HDV := Lib.hid (fun n => dig_vals HMF.out HVV.out n)
      generalize hzs : ledM m.sizes e.vars = zs at HZS HUZ HF HLZ HDV
      have hzl : zs.length ≤ 4 := by rw [HLZ.out]; exact hv4
      clear hzs
      go_wp2_with fail
      refine (rowsOf_any zs _ _ HUZ.out HZS.out hzl).mono ?_
      rintro x w6 ⟨rfl, rfl⟩
      have hwp := ways_pos HZS.out
      have hwf := ways_few HZS.out hzl
      obtain ⟨N, hN⟩ : ∃ N : Nat, waysM zs = (N : Int) := ⟨(waysM zs).toNat, by omega⟩
      have HN := Lib.hid (show (waysM zs).toNat = N by omega)
      rw [hN] at hwp hwf ⊢
      have HC := Lib.hid (And.intro m0 m1)
      clear hN s0 s1 m0 m1 e0 e1 e2
      go_wp2
      go_loopw [13, 14, 49] (fun _ _ i wr => ∃ n : Nat, n ≤ N ∧ i = .int .i64 n ∧ NoFail m zs l r n ∧ Below w5.heap.size w5 wr) (fun _ _ i _ => N - (intOf i).toNat)
      case atStart => exact ⟨0, Nat.zero_le _, rfl, noFail_zero _ _ _ _, Below.refl _ _⟩
      case round =>
        obtain ⟨n, hn, rfl, hnf, hd⟩ := hrel
        have HNF := Lib.hid hnf
        have HD := Lib.hid hd
        clear hnf hd
        by_cases hlt : n < N
        · have hlt' : (n : Int) < (N : Int) := by omega
          go_wp2_with fail
          refine (rowAt_any zs (n : Int) _ _ (HUZ.out.keep HD.out) HZS.out hzl (by omega) (by omega)).mono ?_
          rintro x w7 ⟨uv, rfl, hov, hb7⟩
          have HOV := Lib.hid hov
          obtain ⟨Av, cv, rfl, -⟩ := hov.reads.form
          have HX7 := Lib.hid (sz_keep HD.out hb7)
          have HSZ7 := Lib.hid (sz_keep HB.out HX7.out).size
          have HWR7 := Lib.hid (show w.heap.size ≤ wr.heap.size from (sz_keep HB.out HD.out).size)
          have g0 := cell_keep HX7.out HC.out.1
          have g1 := cell_keep HX7.out HC.out.2
          have HVO := Lib.hid (HDV.out (n : Int))
          clear hov hb7
          generalize hds : digM zs (n : Int) = ds at HOV HVO ⊢
          have HDS := Lib.hid hds
          obtain ⟨vl, hvl⟩ : ∃ x, valT m ds l = x := ⟨_, rfl⟩
          obtain ⟨vr, hvr⟩ : ∃ x, valT m ds r = x := ⟨_, rfl⟩
          have HVL := Lib.hid hvl
          have HVR := Lib.hid hvr
          clear hds hvl hvr
          go_wp2_with fail
          refine wp_region_held_drew (S := (fun w' => w'.cell? ⟨w.heap.size + 1, 0, none⟩ = some (.slice Ama m.sizes.length cma) ∧ w'.cell? ⟨w.heap.size + 1, 1, none⟩ = some (.slice Amb m.tables.length cmb))) (by kernel_rfl) ?_ (fun hHeld => ?_)
          · exact ⟨g0, g1⟩
          refine wpAnyH_take (i := 0) (oi := _) (v := ?_) rfl (by kernel_rfl) (by kernel_rfl) (by kernel_rfl) (fun _ _ _ h => h) (Or.inl ⟨by rfl, ?_⟩) (by assumption) ?_
          rotate_left
          · first | (intro w' hSw; (try dsimp only at hSw); go_simp; done) | (intro w' hSw; (try dsimp only at hSw); go_simp; with_reducible rfl)
          try simp only [Act.put, List.getElem_toArray, List.getElem_cons_zero, List.getElem_cons_succ, List.setIfInBounds_toArray, List.set_cons_zero, List.set_cons_succ]
          refine wpAnyH_take (i := 1) (oi := _) (v := ?_) rfl (by kernel_rfl) (by kernel_rfl) (by kernel_rfl) (fun _ _ _ h => h) (Or.inl ⟨by rfl, ?_⟩) (by assumption) ?_
          rotate_left
          · first | (intro w' hSw; (try dsimp only at hSw); go_simp; done) | (intro w' hSw; (try dsimp only at hSw); go_simp; with_reducible rfl)
          try simp only [Act.put, List.getElem_toArray, List.getElem_cons_zero, List.getElem_cons_succ, List.setIfInBounds_toArray, List.set_cons_zero, List.set_cons_succ]
          refine wpAnyH_take (i := 2) (oi := _) (v := ?_) rfl (by kernel_rfl) (by kernel_rfl) (by kernel_rfl) (fun _ _ _ h => h) (Or.inl ⟨by rfl, ?_⟩) (by assumption) ?_
          rotate_left
          · first | (intro w' hSw; (try dsimp only at hSw); go_simp; done) | (intro w' hSw; (try dsimp only at hSw); go_simp; with_reducible rfl)
          try simp only [Act.put, List.getElem_toArray, List.getElem_cons_zero, List.getElem_cons_succ, List.setIfInBounds_toArray, List.set_cons_zero, List.set_cons_succ]
          refine wpAnyH_take (i := 4) (oi := _) (v := ?_) rfl (by kernel_rfl) (by kernel_rfl) (by kernel_rfl) (fun _ _ _ h => h) (Or.inl ⟨by rfl, ?_⟩) (by assumption) ?_
          rotate_left
          · first | (intro w' hSw; (try dsimp only at hSw); go_simp; done) | (intro w' hSw; (try dsimp only at hSw); go_simp; with_reducible rfl)
          try simp only [Act.put, List.getElem_toArray, List.getElem_cons_zero, List.getElem_cons_succ, List.setIfInBounds_toArray, List.set_cons_zero, List.set_cons_succ]
          refine wpAnyH_take (i := 5) (oi := _) (v := ?_) rfl (by kernel_rfl) (by kernel_rfl) (by kernel_rfl) (fun _ _ _ h => h) (Or.inl ⟨by rfl, ?_⟩) (by assumption) ?_
          rotate_left
          · first | (intro w' hSw; (try dsimp only at hSw); go_simp; done) | (intro w' hSw; (try dsimp only at hSw); go_simp; with_reducible rfl)
          try simp only [Act.put, List.getElem_toArray, List.getElem_cons_zero, List.getElem_cons_succ, List.setIfInBounds_toArray, List.set_cons_zero, List.set_cons_succ]
          refine wpAnyH_take (i := 6) (oi := _) (v := ?_) rfl (by kernel_rfl) (by kernel_rfl) (by kernel_rfl) (fun _ _ _ h => h) (Or.inl ⟨by rfl, ?_⟩) (by assumption) ?_
          rotate_left
          · first | (intro w' hSw; (try dsimp only at hSw); go_simp; done) | (intro w' hSw; (try dsimp only at hSw); go_simp; with_reducible rfl)
          try simp only [Act.put, List.getElem_toArray, List.getElem_cons_zero, List.getElem_cons_succ, List.setIfInBounds_toArray, List.set_cons_zero, List.set_cons_succ]
          refine wpAnyH_ready (rs := [3]) (by kernel_rfl) (by simp) ?_
          refine AllReadyH.cons (o := _) rfl (fun K hK => ?_) AllReadyH.nil
          go_simp
          refine (val_any HMF.out HVO.out l HWL.out _ _ _ _ _ ((Hm.out.keep HX7.out).keep (map_drew (Below.refl _ _))) ((HUL.out.below HX7.out).below (map_drew (Below.refl _ _))) (HOV.out.reads.keep (map_drew (Below.refl _ _)))).mono ?_
          rw [HVL.out]
          rintro x w8 ⟨rfl, hb8⟩
          have hx8 := map_undrew hb8
          have HX8 := Lib.hid hx8
          have j0 := cell_keep hx8 g0
          have j1 := cell_keep hx8 g1
          clear hb8 hx8
          go_wp2_with fail
          refine hK.out _ _ ?_ (fun hHeld => ?_)
          · exact ⟨j0, j1⟩
          clear hK K
          try simp only [Act.put, List.getElem_toArray, List.getElem_cons_zero, List.getElem_cons_succ, List.setIfInBounds_toArray, List.set_cons_zero, List.set_cons_succ]
          refine wpAnyH_ready (rs := [7]) (by kernel_rfl) (by simp) ?_
          refine AllReadyH.cons (o := _) rfl (fun K hK => ?_) AllReadyH.nil
          go_simp
          refine (val_any HMF.out HVO.out r HWR.out _ _ _ _ _ ((Hm.out.keep HX7.out).keep HX8.out) ((HUR.out.below HX7.out).below HX8.out) (HOV.out.reads.keep HX8.out)).mono ?_
          rw [HVR.out]
          rintro x w9 ⟨rfl, hb9⟩
          have HX9 := Lib.hid (sz_keep HX8.out hb9)
          have q0 := cell_keep hb9 j0
          have q1 := cell_keep hb9 j1
          clear hb9
          go_wp2_with fail
          refine hK.out _ _ ?_ (fun hHeld => ?_)
          · exact ⟨q0, q1⟩
          clear hK K
          try simp only [Act.put, List.getElem_toArray, List.getElem_cons_zero, List.getElem_cons_succ, List.setIfInBounds_toArray, List.set_cons_zero, List.set_cons_succ]
          refine wpAnyH_take (i := 8) (oi := _) (v := ?_) rfl (by kernel_rfl) (by kernel_rfl) (by kernel_rfl) (fun _ _ _ h => h) (Or.inl ⟨by rfl, ?_⟩) (by assumption) ?_
          rotate_left
          · first | (intro w' hSw; (try dsimp only at hSw); go_simp; done) | (intro w' hSw; (try dsimp only at hSw); go_simp; with_reducible rfl)
          try simp only [Act.put, List.getElem_toArray, List.getElem_cons_zero, List.getElem_cons_succ, List.setIfInBounds_toArray, List.set_cons_zero, List.set_cons_succ]
          refine wpAnyH_done (by kernel_rfl) ?_ _
          clear g0 g1 j0 j1 q0 q1
          by_cases hvv : vl = vr
          · have hne : (vl != vr) = false := by simp [hvv]
            have HST := Lib.hid (HNF.out.step (by rw [HN.out]; exact hlt) (by rw [HDS.out, HVL.out, HVR.out, hvv]))
            clear hvv
            go_wp2
            go_roundw
            case rel => exact ⟨n + 1, by omega, by go_num, HST.out, sz_keep HX7.out HX9.out⟩
            case measure => simp [intOf]; omega
          · have hne : (vl != vr) = true := by simpa using hvv
            have HHT := Lib.hid (HNF.out.hit (by rw [HN.out]; exact hlt) (by rw [HDS.out, HVL.out, HVR.out]; exact hvv))
            clear hvv
            go_wp2
            refine bodyPost_ret (v := .tuple #[.slice Av ds.length cv, .bool true]) (by simp [results, Try.results67, go_sem]) rfl ?_
            rw [HF.out, HHT.out, HDS.out]
            exact ⟨_, rfl, (HOV.out.keep HX9.out).base HWR7.out, sz_keep HB.out (sz_keep HX7.out HX9.out)⟩
        · have hnn : n = N := by omega
          have hlt' : ¬ (n : Int) < (N : Int) := by omega
          have HNO := Lib.hid (HNF.out.none (by rw [HN.out]; exact hnn))
          go_wp2
          refine bodyPost_ret (v := .tuple #[.slice none 0 0, .bool false]) (by simp [results, Try.results67, go_sem]) rfl ?_
          rw [HF.out, HNO.out]
          exact ⟨_, rfl, OInts.nil _ _, sz_keep HB.out HD.out⟩
end

section
open Go.RowKit
set_option linter.unusedVariables false
set_option linter.unusedSimpArgs false

def readRow (w : World) (g : Nat) : List Int := match w.heap[g]? with
  | some (.cells cs _ _) => cs.toList.map intOf
  | _ => []
/-- how many rows of values are still to come -/
def leftM (zs : List Int) (N g : Nat) (more : Value) (w : World) : Nat := match more with
  | .bool true => N - (placeM 0 zs (readRow w g)).toNat + 1
  | _ => 0

end

section
open Go.RowKit
set_option linter.unusedVariables false
set_option linter.unusedSimpArgs false
end

section
open Go.RowKit
set_option linter.unusedVariables false
set_option linter.unusedSimpArgs false

theorem holds_no1 {s : MSig} {m : MModel} {e : MEq} (h : eqOkB s e = false) : holdsB s m e = false := by unfold holdsB; simp [h]
theorem holds_no2 {s : MSig} {m : MModel} {e : MEq} (h : modelB s m = false) : holdsB s m e = false := by unfold holdsB; simp [h]
theorem holds_yes {s : MSig} {m : MModel} {e : MEq} (h1 : eqOkB s e = true) (h2 : modelB s m = true) : holdsB s m e = !(failsM s m e).2 := by unfold holdsB; simp [h1, h2]

set_option maxHeartbeats 1600000 in
set_option maxRecDepth 100000 in
theorem holds_any (s : MSig) (m : MModel) (e : MEq) (w : World) (v v' v2 : Value) (hsm : SmallE e) (h1 : RSig w v s) (h2 : RModel w v' m) (h3 : REq w v2 e) :
    Calls Try.prog 18 #[v, v', v2] w fun x w' => x = .returned (.bool (holdsB s m e)) ∧ Below w.heap.size w w' := by
  obtain ⟨Asa, csa, rfl⟩ := h1.form
  obtain ⟨Ama, cma, Amb, cmb, rfl⟩ := h2.form
  obtain ⟨Aea, cea, Aeb, ceb, Aec, cec, rfl⟩ := h3.form
  have hb : Below w.heap.size w (((w.alloc (.cells #[.int .i64 s.sorts, .slice Asa s.ops.length csa] 25)).alloc (.cells #[.slice Ama m.sizes.length cma, .slice Amb m.tables.length cmb] 30)).alloc (.cells #[.slice Aea e.vars.length cea, .slice Aeb e.left.length ceb, .slice Aec e.right.length cec] 37)) := ((below_alloc _ _).alloc (by simp) _).alloc (by simp; omega) _
  have HB := Lib.hid hb
  have hsz : (((w.alloc (.cells #[.int .i64 s.sorts, .slice Asa s.ops.length csa] 25)).alloc (.cells #[.slice Ama m.sizes.length cma, .slice Amb m.tables.length cmb] 30)).alloc (.cells #[.slice Aea e.vars.length cea, .slice Aeb e.left.length ceb, .slice Aec e.right.length cec] 37)).heap.size = w.heap.size + 3 := by simp
  have Hs := Lib.hid (h1.keep hb)
  have s0 := cell_keep (below_alloc ((w.alloc (.cells #[.int .i64 s.sorts, .slice Asa s.ops.length csa] 25)).alloc (.cells #[.slice Ama m.sizes.length cma, .slice Amb m.tables.length cmb] 30)) (.cells #[.slice Aea e.vars.length cea, .slice Aeb e.left.length ceb, .slice Aec e.right.length cec] 37)) (cell_keep (below_alloc (w.alloc (.cells #[.int .i64 s.sorts, .slice Asa s.ops.length csa] 25)) (.cells #[.slice Ama m.sizes.length cma, .slice Amb m.tables.length cmb] 30)) (bx_at (w) #[.int .i64 s.sorts, .slice Asa s.ops.length csa] 25 (k := 0) rfl))
  have s1 := cell_keep (below_alloc ((w.alloc (.cells #[.int .i64 s.sorts, .slice Asa s.ops.length csa] 25)).alloc (.cells #[.slice Ama m.sizes.length cma, .slice Amb m.tables.length cmb] 30)) (.cells #[.slice Aea e.vars.length cea, .slice Aeb e.left.length ceb, .slice Aec e.right.length cec] 37)) (cell_keep (below_alloc (w.alloc (.cells #[.int .i64 s.sorts, .slice Asa s.ops.length csa] 25)) (.cells #[.slice Ama m.sizes.length cma, .slice Amb m.tables.length cmb] 30)) (bx_at (w) #[.int .i64 s.sorts, .slice Asa s.ops.length csa] 25 (k := 1) rfl))
  have Hm := Lib.hid (h2.keep hb)
  have m0 := cell_keep (below_alloc ((w.alloc (.cells #[.int .i64 s.sorts, .slice Asa s.ops.length csa] 25)).alloc (.cells #[.slice Ama m.sizes.length cma, .slice Amb m.tables.length cmb] 30)) (.cells #[.slice Aea e.vars.length cea, .slice Aeb e.left.length ceb, .slice Aec e.right.length cec] 37)) (bx_at (w.alloc (.cells #[.int .i64 s.sorts, .slice Asa s.ops.length csa] 25)) #[.slice Ama m.sizes.length cma, .slice Amb m.tables.length cmb] 30 (k := 0) rfl)
  have m1 := cell_keep (below_alloc ((w.alloc (.cells #[.int .i64 s.sorts, .slice Asa s.ops.length csa] 25)).alloc (.cells #[.slice Ama m.sizes.length cma, .slice Amb m.tables.length cmb] 30)) (.cells #[.slice Aea e.vars.length cea, .slice Aeb e.left.length ceb, .slice Aec e.right.length cec] 37)) (bx_at (w.alloc (.cells #[.int .i64 s.sorts, .slice Asa s.ops.length csa] 25)) #[.slice Ama m.sizes.length cma, .slice Amb m.tables.length cmb] 30 (k := 1) rfl)
  have He := Lib.hid (h3.keep hb)
  have e0 := bx_at ((w.alloc (.cells #[.int .i64 s.sorts, .slice Asa s.ops.length csa] 25)).alloc (.cells #[.slice Ama m.sizes.length cma, .slice Amb m.tables.length cmb] 30)) #[.slice Aea e.vars.length cea, .slice Aeb e.left.length ceb, .slice Aec e.right.length cec] 37 (k := 0) rfl
  have e1 := bx_at ((w.alloc (.cells #[.int .i64 s.sorts, .slice Asa s.ops.length csa] 25)).alloc (.cells #[.slice Ama m.sizes.length cma, .slice Amb m.tables.length cmb] 30)) #[.slice Aea e.vars.length cea, .slice Aeb e.left.length ceb, .slice Aec e.right.length cec] 37 (k := 1) rfl
  have e2 := bx_at ((w.alloc (.cells #[.int .i64 s.sorts, .slice Asa s.ops.length csa] 25)).alloc (.cells #[.slice Ama m.sizes.length cma, .slice Amb m.tables.length cmb] 30)) #[.slice Aea e.vars.length cea, .slice Aeb e.left.length ceb, .slice Aec e.right.length cec] 37 (k := 2) rfl
  simp only [World.size_alloc] at m0 m1 e0 e1 e2
  generalize hW : ((w.alloc (.cells #[.int .i64 s.sorts, .slice Asa s.ops.length csa] 25)).alloc (.cells #[.slice Ama m.sizes.length cma, .slice Amb m.tables.length cmb] 30)).alloc (.cells #[.slice Aea e.vars.length cea, .slice Aeb e.left.length ceb, .slice Aec e.right.length cec] 37) = W at HB hsz Hs s0 s1 Hm m0 m1 He e0 e1 e2
  clear hb h1 h2 h3
  have HSM := Lib.hid hsm
  clear hsm
  go_enter Try.func18, Try.ntmps18
  go_wp2_with fail
  clear hW
  refine (failsAt_any s m e _ _ _ _ HSM.out Hs.out Hm.out He.out).mono ?_
  rintro x w1 ⟨u, rfl, ho, hb⟩
  obtain ⟨Au, cu, rfl, -⟩ := ho.reads.form
  replace HB := Lib.hid (sz_keep HB.out hb)
  replace s0 := cell_keep hb s0
  replace s1 := cell_keep hb s1
  replace m0 := cell_keep hb m0
  replace m1 := cell_keep hb m1
  replace e0 := cell_keep hb e0
  replace e1 := cell_keep hb e1
  replace e2 := cell_keep hb e2
  replace Hs := Lib.hid (Hs.out.keep hb)
  replace Hm := Lib.hid (Hm.out.keep hb)
  replace He := Lib.hid (He.out.keep hb)
  clear hb
  clear ho
  generalize hfl : (failsM s m e).2 = fl
  have HFL := Lib.hid hfl
  generalize (failsM s m e).1.length = nl
  clear hfl
  cases hok : eqOkB s e with
  | false =>
    have HOK := Lib.hid hok
    have HE := Lib.hid (holds_no1 (m := m) hok)
    clear hok
    go_wp2_with fail
    refine (eqOk_any s e _ _ _ HSM.out Hs.out He.out).mono ?_
    rw [HOK.out]
    rintro x w2 ⟨rfl, hb⟩
    replace HB := Lib.hid (sz_keep HB.out hb)
    replace s0 := cell_keep hb s0
    replace s1 := cell_keep hb s1
    replace m0 := cell_keep hb m0
    replace m1 := cell_keep hb m1
    replace e0 := cell_keep hb e0
    replace e1 := cell_keep hb e1
    replace e2 := cell_keep hb e2
    replace Hs := Lib.hid (Hs.out.keep hb)
    replace Hm := Lib.hid (Hm.out.keep hb)
    replace He := Lib.hid (He.out.keep hb)
    clear hb
    go_wp2
    go_ret
    exact ⟨ret_bool HE.out.symm, HB.out⟩
  | true =>
    have HOK := Lib.hid hok
    clear hok
    cases hmo : modelB s m with
    | false =>
      have HMO := Lib.hid hmo
      have HE := Lib.hid (holds_no2 (e := e) hmo)
      clear hmo
      go_wp2_with fail
      refine (eqOk_any s e _ _ _ HSM.out Hs.out He.out).mono ?_
      rw [HOK.out]
      rintro x w2 ⟨rfl, hb⟩
      replace HB := Lib.hid (sz_keep HB.out hb)
      replace s0 := cell_keep hb s0
      replace s1 := cell_keep hb s1
      replace m0 := cell_keep hb m0
      replace m1 := cell_keep hb m1
      replace e0 := cell_keep hb e0
      replace e1 := cell_keep hb e1
      replace e2 := cell_keep hb e2
      replace Hs := Lib.hid (Hs.out.keep hb)
      replace Hm := Lib.hid (Hm.out.keep hb)
      replace He := Lib.hid (He.out.keep hb)
      clear hb
      go_wp2_with fail
      refine (modelOk_any s m _ _ _ Hs.out Hm.out).mono ?_
      rw [HMO.out]
      rintro x w3 ⟨rfl, hb⟩
      replace HB := Lib.hid (sz_keep HB.out hb)
      replace s0 := cell_keep hb s0
      replace s1 := cell_keep hb s1
      replace m0 := cell_keep hb m0
      replace m1 := cell_keep hb m1
      replace e0 := cell_keep hb e0
      replace e1 := cell_keep hb e1
      replace e2 := cell_keep hb e2
      replace Hs := Lib.hid (Hs.out.keep hb)
      replace Hm := Lib.hid (Hm.out.keep hb)
      replace He := Lib.hid (He.out.keep hb)
      clear hb
      go_wp2
      go_ret
      exact ⟨ret_bool HE.out.symm, HB.out⟩
    | true =>
      have HMO := Lib.hid hmo
      have HE := Lib.hid (holds_yes HOK.out hmo)
      rw [HFL.out] at HE
      clear hmo
      go_wp2_with fail
      refine (eqOk_any s e _ _ _ HSM.out Hs.out He.out).mono ?_
      rw [HOK.out]
      rintro x w2 ⟨rfl, hb⟩
      replace HB := Lib.hid (sz_keep HB.out hb)
      replace s0 := cell_keep hb s0
      replace s1 := cell_keep hb s1
      replace m0 := cell_keep hb m0
      replace m1 := cell_keep hb m1
      replace e0 := cell_keep hb e0
      replace e1 := cell_keep hb e1
      replace e2 := cell_keep hb e2
      replace Hs := Lib.hid (Hs.out.keep hb)
      replace Hm := Lib.hid (Hm.out.keep hb)
      replace He := Lib.hid (He.out.keep hb)
      clear hb
      go_wp2_with fail
      refine (modelOk_any s m _ _ _ Hs.out Hm.out).mono ?_
      rw [HMO.out]
      rintro x w3 ⟨rfl, hb⟩
      replace HB := Lib.hid (sz_keep HB.out hb)
      replace s0 := cell_keep hb s0
      replace s1 := cell_keep hb s1
      replace m0 := cell_keep hb m0
      replace m1 := cell_keep hb m1
      replace e0 := cell_keep hb e0
      replace e1 := cell_keep hb e1
      replace e2 := cell_keep hb e2
      replace Hs := Lib.hid (Hs.out.keep hb)
      replace Hm := Lib.hid (Hm.out.keep hb)
      replace He := Lib.hid (He.out.keep hb)
      clear hb
      go_wp2
      go_ret
      exact ⟨ret_bool HE.out.symm, HB.out⟩
end

section
open Go.RowKit
set_option linter.unusedVariables false

theorem sameInts_any (v v' : Value) (xs ys : List Int) (w : World) (h : RInts w v xs) (h' : RInts w v' ys) :
    Calls Try.prog 56 #[v, v'] w fun e w' => e = .returned (.bool (sameI xs ys)) ∧ Drawn w w' := by
  have H := Lib.hid h
  have H' := Lib.hid h'
  have hn := h.len
  have hn' := h'.len
  obtain ⟨A, c, rfl, -⟩ := h.form
  obtain ⟨A', c', rfl, -⟩ := h'.form
  clear h h'
  by_cases hl : xs.length = ys.length
  · have hl' : ((xs.length : Int) != (ys.length : Int)) = false := by simp [hl]
    have HL := Lib.hid hl
    have hle : xs.length ≤ ys.length := by omega
    have hge : ys.length ≤ xs.length := by omega
    clear hl
    go_enter Try.func56, Try.ntmps56
    go_wp2
    go_loopw [5] (fun i wr => ∃ k : Nat, k ≤ xs.length ∧ i = .int .i64 k ∧ xs.take k = ys.take k ∧ Drawn w wr) (fun i _ => xs.length - (intOf i).toNat)
    case atStart => exact ⟨0, Nat.zero_le _, rfl, rfl, Drawn.refl _⟩
    case round =>
      obtain ⟨k, hk, rfl, hb0, hd⟩ := hrel
      have hb := Lib.hid hb0
      have HD := Lib.hid hd
      clear hb0 hd
      by_cases hlt : k < xs.length
      · obtain ⟨b, o, c3, e, hx⟩ := (H.out.keep HD.out.below).at_ hlt
        cases e
        obtain ⟨b', o', c4, e, hy⟩ := (H'.out.keep HD.out.below).at_ (show k < ys.length by omega)
        cases e
        have hs1 : (k : Int) < (xs.length : Int) := by omega
        have hs2 : (k : Int) < (ys.length : Int) := by omega
        have HT := Lib.hid (take_succ_eq hlt (show k < ys.length by omega) hb.out)
        have HN := Lib.hid (ne_of_at hlt (show k < ys.length by omega))
        generalize xs[k] = x at hx HT HN
        generalize ys[k]'(by omega) = y at hy HT HN
        by_cases hxy : x = y
        · subst hxy
          have e1 : (x != x) = false := by simp
          have e2 : (x == x) = true := by simp
          go_wp2_with fail
          go_quiet (fail)
          go_wp2
          go_roundw
          case rel => exact ⟨k + 1, by omega, by go_num, HT.out (by simp), HD.out.more _⟩
          case measure => simp [intOf]; omega
        · have e1 : (x != y) = true := by simpa using hxy
          have e2 : (x == y) = false := by simpa using hxy
          have HXY := Lib.hid hxy
          clear hxy
          go_wp2_with fail
          go_quiet (fail)
          go_wp2
          go_ret
          exact ⟨ret_bool (by unfold sameI; simpa using (HN.out HXY.out)), HD.out.more _⟩
      · go_wp2
        go_ret
        have h := hb.out
        rw [take_all (by omega), take_all (by omega)] at h
        exact ⟨ret_bool (by unfold sameI; simpa using h), HD.out⟩
  · have hl' : ((xs.length : Int) != (ys.length : Int)) = true := by simp; omega
    have HL := Lib.hid hl
    clear hl
    go_enter Try.func56, Try.ntmps56
    go_wp2
    go_ret
    exact ⟨ret_bool (by unfold sameI; simp; rintro rfl; exact HL.out rfl), Drawn.refl _⟩

theorem sameInts_is (v v' : Value) (xs ys : List Int) (w : World) (b : Bool) (hb : sameI xs ys = b) (h : RInts w v xs) (h' : RInts w v' ys) :
    Calls Try.prog 56 #[v, v'] w fun e w' => e = .returned (.bool b) ∧ Drawn w w' := by
  subst hb; exact sameInts_any v v' xs ys w h h'

theorem sameRows_any (v v' : Value) (xs ys : List (List Int)) (w : World) (h : RRows w v xs) (h' : RRows w v' ys) :
    Calls Try.prog 57 #[v, v'] w fun e w' => e = .returned (.bool (sameR xs ys)) ∧ Drawn w w' := by
  have H := Lib.hid h
  have H' := Lib.hid h'
  have hn := h.len
  have hn' := h'.len
  obtain ⟨A, c, rfl, -⟩ := h.form
  obtain ⟨A', c', rfl, -⟩ := h'.form
  clear h h'
  by_cases hl : xs.length = ys.length
  · have hl' : ((xs.length : Int) != (ys.length : Int)) = false := by simp [hl]
    have HL := Lib.hid hl
    have hle : xs.length ≤ ys.length := by omega
    have hge : ys.length ≤ xs.length := by omega
    clear hl
    go_enter Try.func57, Try.ntmps57
    go_wp2
    go_loopw [5] (fun i wr => ∃ k : Nat, k ≤ xs.length ∧ i = .int .i64 k ∧ xs.take k = ys.take k ∧ Drawn w wr) (fun i _ => xs.length - (intOf i).toNat)
    case atStart => exact ⟨0, Nat.zero_le _, rfl, rfl, Drawn.refl _⟩
    case round =>
      obtain ⟨k, hk, rfl, hb0, hd⟩ := hrel
      have hb := Lib.hid hb0
      have HD := Lib.hid hd
      clear hb0 hd
      by_cases hlt : k < xs.length
      · obtain ⟨b, o, c3, u, e, hx, hr⟩ := (H.out.keep HD.out.below).at_ hlt
        cases e
        obtain ⟨b', o', c4, u', e, hy, hr'⟩ := (H'.out.keep HD.out.below).at_ (show k < ys.length by omega)
        cases e
        have hs1 : (k : Int) < (xs.length : Int) := by omega
        have hs2 : (k : Int) < (ys.length : Int) := by omega
        have HT := Lib.hid (take_succ_eq hlt (show k < ys.length by omega) hb.out)
        have HN := Lib.hid (ne_of_at hlt (show k < ys.length by omega))
        generalize xs[k] = x at hr HT HN
        generalize ys[k]'(by omega) = y at hr' HT HN
        have HR := Lib.hid hr
        have HR' := Lib.hid hr'
        obtain ⟨A1, c1, rfl, -⟩ := hr.form
        obtain ⟨A2, c2, rfl, -⟩ := hr'.form
        clear hr hr'
        cases hxy : sameI x y with
        | true =>
          have HXY := Lib.hid hxy
          clear hxy
          go_wp2_with fail
          go_quiet ((go_at_call 56; exact quiet_drawn (sameInts_is _ _ _ _ _ _ HXY.out (HR.out.keep (below_drewN (Below.refl _ _) _)) (HR'.out.keep (below_drewN (Below.refl _ _) _)))))
          go_wp2
          go_roundw
          case rel => exact ⟨k + 1, by omega, by go_num, HT.out (by simpa [sameI] using HXY.out), HD.out.more _⟩
          case measure => simp [intOf]; omega
        | false =>
          have HXY := Lib.hid hxy
          clear hxy
          go_wp2_with fail
          go_quiet ((go_at_call 56; exact quiet_drawn (sameInts_is _ _ _ _ _ _ HXY.out (HR.out.keep (below_drewN (Below.refl _ _) _)) (HR'.out.keep (below_drewN (Below.refl _ _) _)))))
          go_wp2
          go_ret
          exact ⟨ret_bool (by unfold sameR; simpa using (HN.out (by simpa [sameI] using HXY.out))), HD.out.more _⟩
      · go_wp2
        go_ret
        have h := hb.out
        rw [take_all (by omega), take_all (by omega)] at h
        exact ⟨ret_bool (by unfold sameR; simpa using h), HD.out⟩
  · have hl' : ((xs.length : Int) != (ys.length : Int)) = true := by simp; omega
    have HL := Lib.hid hl
    clear hl
    go_enter Try.func57, Try.ntmps57
    go_wp2
    go_ret
    exact ⟨ret_bool (by unfold sameR; simp; rintro rfl; exact HL.out rfl), Drawn.refl _⟩


theorem sameSig_any (v v' : Value) (a b : MSig) (w : World) (h : RSig w v a) (h' : RSig w v' b) :
    Calls Try.prog 15 #[v, v'] w fun e w' => e = .returned (.bool (sameS a b)) ∧ Below w.heap.size w w' := by
  obtain ⟨u, rfl, hr⟩ := h
  obtain ⟨u', rfl, hr'⟩ := h'
  have hb2 : Below w.heap.size w ((w.alloc (.cells #[.int .i64 a.sorts, u] 25)).alloc (.cells #[.int .i64 b.sorts, u'] 25)) := (below_alloc _ _).alloc (by simp) _
  have HB := Lib.hid hb2
  have H := Lib.hid (hr.keep hb2)
  have H' := Lib.hid (hr'.keep hb2)
  clear hb2
  obtain ⟨A, c, rfl, -⟩ := hr.form
  obtain ⟨A', c', rfl, -⟩ := hr'.form
  clear hr hr'
  obtain ⟨s1, xs⟩ := a
  obtain ⟨s2, ys⟩ := b
  by_cases hs : s1 = s2
  · subst hs
    have e1 : (s1 == s1) = true := by simp
    go_enter Try.func15, Try.ntmps15
    go_wp2_with (go_at_call 57; refine (sameRows_any _ _ _ _ _ H.out H'.out).mono ?_; rintro e w1 ⟨rfl, hd⟩)
    go_ret
    exact ⟨ret_bool (by unfold sameS; simp), HB.out.trans (hd.below.mono (by simp; omega))⟩
  · have e1 : (s1 == s2) = false := by simpa using hs
    have HS := Lib.hid hs
    clear hs
    go_enter Try.func15, Try.ntmps15
    go_wp2
    go_ret
    exact ⟨ret_bool (by unfold sameS; simp [HS.out]), HB.out⟩
end

section
open Go.RowKit
set_option linter.unusedVariables false
set_option linter.unusedSimpArgs false

set_option maxRecDepth 100000 in
theorem sameModel_yes (v v' : Value) (m : MModel) (w : World) (h : RModel w v m) (h' : RModel w v' m) :
    Calls Try.prog 11 #[v, v'] w fun e w' => e = .returned (.bool true) ∧ Below w.heap.size w w' := by
  obtain ⟨p, hp⟩ : ∃ p, p = m := ⟨_, rfl⟩
  have HP := Lib.hid hp
  replace h' : RModel w v' p := by rw [hp]; exact h'
  clear hp
  obtain ⟨Ama, cma, Amb, cmb, rfl⟩ := h.form
  obtain ⟨Apa, cpa, Apb, cpb, rfl⟩ := h'.form
  have hb : Below w.heap.size w ((w.alloc (.cells #[.slice Ama m.sizes.length cma, .slice Amb m.tables.length cmb] 30)).alloc (.cells #[.slice Apa p.sizes.length cpa, .slice Apb p.tables.length cpb] 30)) := (below_alloc _ _).alloc (by simp) _
  have HB := Lib.hid hb
  have hsz : ((w.alloc (.cells #[.slice Ama m.sizes.length cma, .slice Amb m.tables.length cmb] 30)).alloc (.cells #[.slice Apa p.sizes.length cpa, .slice Apb p.tables.length cpb] 30)).heap.size = w.heap.size + 2 := by simp
  have Hm := Lib.hid (h.keep hb)
  have m0 := cell_keep (below_alloc (w.alloc (.cells #[.slice Ama m.sizes.length cma, .slice Amb m.tables.length cmb] 30)) (.cells #[.slice Apa p.sizes.length cpa, .slice Apb p.tables.length cpb] 30)) (bx_at (w) #[.slice Ama m.sizes.length cma, .slice Amb m.tables.length cmb] 30 (k := 0) rfl)
  have m1 := cell_keep (below_alloc (w.alloc (.cells #[.slice Ama m.sizes.length cma, .slice Amb m.tables.length cmb] 30)) (.cells #[.slice Apa p.sizes.length cpa, .slice Apb p.tables.length cpb] 30)) (bx_at (w) #[.slice Ama m.sizes.length cma, .slice Amb m.tables.length cmb] 30 (k := 1) rfl)
  have Hp := Lib.hid (h'.keep hb)
  have p0 := bx_at (w.alloc (.cells #[.slice Ama m.sizes.length cma, .slice Amb m.tables.length cmb] 30)) #[.slice Apa p.sizes.length cpa, .slice Apb p.tables.length cpb] 30 (k := 0) rfl
  have p1 := bx_at (w.alloc (.cells #[.slice Ama m.sizes.length cma, .slice Amb m.tables.length cmb] 30)) #[.slice Apa p.sizes.length cpa, .slice Apb p.tables.length cpb] 30 (k := 1) rfl
  simp only [World.size_alloc] at p0 p1
  generalize hW : (w.alloc (.cells #[.slice Ama m.sizes.length cma, .slice Amb m.tables.length cmb] 30)).alloc (.cells #[.slice Apa p.sizes.length cpa, .slice Apb p.tables.length cpb] 30) = W at HB hsz Hm m0 m1 Hp p0 p1
  clear hb h h'
  have HS := Lib.hid (show sameI m.sizes p.sizes = true by rw [HP.out]; unfold sameI; simp)
  have HO := Lib.hid (show sameR m.tables p.tables = true by rw [HP.out]; unfold sameR; simp)
  go_enter Try.func11, Try.ntmps11
  go_wp2_with fail
  clear hW
  refine (sameInts_any _ _ m.sizes p.sizes _ Hm.out.of.1 Hp.out.of.1).mono ?_
  rw [HS.out]
  rintro e w1 ⟨rfl, hd⟩
  have hb := hd.below
  have f0 := cell_keep hb m1
  have f1 := cell_keep hb p1
  have HB1 := Lib.hid (sz_keep HB.out hb)
  have R0 := Lib.hid (Hm.out.of.2.keep hb)
  have R1 := Lib.hid (Hp.out.of.2.keep hb)
  clear hd hb m0 m1 p0 p1
  go_wp2_with fail
  refine (sameRows_any _ _ m.tables p.tables _ R0.out R1.out).mono ?_
  rw [HO.out]
  rintro e w2 ⟨rfl, hd⟩
  have HB2 := Lib.hid (sz_keep HB1.out hd.below)
  clear hd f0 f1
  go_wp2
  go_ret
  exact ⟨rfl, HB2.out⟩
end
end Go.Proofs.Ytbopcghbmbchkab
