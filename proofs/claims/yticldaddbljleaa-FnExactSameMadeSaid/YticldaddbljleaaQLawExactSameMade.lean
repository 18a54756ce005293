/- FnExactSameMade answers true at every signature, model and three numbers. No condition. -/
import Derived.Test.YticldaddbljleaaK81e495d0
namespace Go.Proofs.Yticldaddbljleaa
open Go.ChangeShapes Go.WideShapes Go.ChangeAt Go.RowKit
set_option linter.unusedVariables false
set_option linter.unusedSimpArgs false

theorem sameLoop_lens {s : MSig} {m : MModel} : ∀ (n : Nat) (c : List (List Int)) (so x y : Int), Lens c m.sizes → Lens (sameLoop s m n c so x y) m.sizes := by
  intro n
  induction n with
  | zero => intro c so x y h; exact h
  | succ n ih =>
    intro c so x y h
    simp only [sameLoop]
    split
    · exact lens_join h so x y
    · exact ih _ _ _ _ (lens_join h so x y)
theorem sameM_fits (s : MSig) (m : MModel) (so x y : Int) : Fits (sameM s m so x y) := by
  cases e : sameOkB s m so x y with
  | false => rw [same_no e]; exact ⟨by simp, by simp⟩
  | true =>
    obtain ⟨f, ix, iy⟩ := sameOk_facts e
    have hl : Lens (sameM s m so x y) m.sizes := by
      unfold sameM
      rw [e]
      exact sameLoop_lens 10 _ _ _ _ (start_cls f).le
    have h3 := f.sorts
    refine ⟨by have := hl.1; omega, ?_⟩
    intro row hrow
    obtain ⟨k, hk, rfl⟩ := List.getElem_of_mem hrow
    have hkm : k < m.sizes.length := by have := hl.1; omega
    have a := hl.2 k hkm
    rw [getD_at _ hk] at a
    have b := f.sz _ (List.getElem_mem hkm)
    omega
set_option maxHeartbeats 3200000 in
set_option maxRecDepth 100000 in
theorem walk_FnExactSameMade (v0 : Value) (s0 : MSig) (v1 : Value) (s1 : MModel) (a2 : Int) (a3 : Int) (a4 : Int) (w : World) (h0 : RSig w v0 s0) (h1 : RModel w v1 s1) :
    Calls Try.prog 5 #[v0, v1, .int .i64 a2, .int .i64 a3, .int .i64 a4] w fun e w' => e = .returned (.bool true) ∧ Below w.heap.size w w' := by
  have HB : Hid (Below w.heap.size w w) := Below.refl _ _
  obtain ⟨A0a, c0a, rfl⟩ := h0.form
  have HW0 := Lib.hid h0
  have hb := below_alloc (w) (.cells #[.int .i64 s0.sorts, .slice A0a s0.ops.length c0a] 53)
  have fa0 := (bx_cells (w) (.int .i64 s0.sorts) (.slice A0a s0.ops.length c0a) 53).1
  have fb0 := (bx_cells (w) (.int .i64 s0.sorts) (.slice A0a s0.ops.length c0a) 53).2
  replace HB := Lib.hid (ex_keep HB.out hb)
  clear hb h0
  obtain ⟨A1a, c1a, A1b, c1b, rfl⟩ := h1.form
  have HW1 := Lib.hid h1
  have hb := below_alloc (w.alloc (.cells #[.int .i64 s0.sorts, .slice A0a s0.ops.length c0a] 53)) (.cells #[.slice A1a s1.sizes.length c1a, .slice A1b s1.tables.length c1b] 54)
  replace fa0 := cell_keep hb fa0
  replace fb0 := cell_keep hb fb0
  have fa1 := (bx_cells (w.alloc (.cells #[.int .i64 s0.sorts, .slice A0a s0.ops.length c0a] 53)) (.slice A1a s1.sizes.length c1a) (.slice A1b s1.tables.length c1b) 54).1
  have fb1 := (bx_cells (w.alloc (.cells #[.int .i64 s0.sorts, .slice A0a s0.ops.length c0a] 53)) (.slice A1a s1.sizes.length c1a) (.slice A1b s1.tables.length c1b) 54).2
  simp only [World.size_alloc] at fa1 fb1
  replace HB := Lib.hid (ex_keep HB.out hb)
  clear hb h1
  go_enter Try.func5, Try.ntmps5
  go_wp2_with fail
  refine (szSig_any _ s0 _ _ (HW0.out.keep HB.out) (by omega) (by omega)).mono ?_
  rintro e w1 ⟨r1, rfl, hr, hb⟩
  replace fa0 := cell_keep hb fa0
  replace fb0 := cell_keep hb fb0
  replace fa1 := cell_keep hb fa1
  replace fb1 := cell_keep hb fb1
  replace HB := Lib.hid (ex_keep HB.out hb)
  clear hb
  by_cases hneg1 : r1 < 0
  · clear hr
    go_wp2
    go_ret
    exact ⟨rfl, HB.out⟩
  obtain ⟨hp1, hq1, hfit⟩ := hr.resolve_left hneg1
  have HF0 := Lib.hid hfit
  clear hr hfit
  go_wp2_with fail
  refine (szModel_any _ s1 _ _ (HW1.out.keep HB.out) (by omega) (by omega)).mono ?_
  rintro e w2 ⟨r2, rfl, hr, hb⟩
  replace fa0 := cell_keep hb fa0
  replace fb0 := cell_keep hb fb0
  replace fa1 := cell_keep hb fa1
  replace fb1 := cell_keep hb fb1
  replace HB := Lib.hid (ex_keep HB.out hb)
  clear hb
  by_cases hneg2 : r2 < 0
  · clear hr
    go_wp2
    go_ret
    exact ⟨rfl, HB.out⟩
  obtain ⟨hp2, hq2, hfit⟩ := hr.resolve_left hneg2
  have HF1 := Lib.hid hfit
  clear hr hfit
  obtain ⟨R, hR⟩ : ∃ R, R = sameM s0 s1 a2 a3 a4 := ⟨_, rfl⟩
  have HLEN := Lib.hid (show _ from sameM_fits s0 s1 a2 a3 a4)
  have HR := Lib.hid hR.symm
  rw [← hR] at HLEN
  clear hR
  go_wp2_with fail
  refine wp_region_held_drew (S := (fun w' => w'.cell? ⟨w.heap.size, 0, none⟩ = some (.int .i64 s0.sorts) ∧ w'.cell? ⟨w.heap.size, 1, none⟩ = some (.slice A0a s0.ops.length c0a) ∧ w'.cell? ⟨w.heap.size + 1, 0, none⟩ = some (.slice A1a s1.sizes.length c1a) ∧ w'.cell? ⟨w.heap.size + 1, 1, none⟩ = some (.slice A1b s1.tables.length c1b))) (by kernel_rfl) ?_ (fun hHeld => ?_)
  · exact ⟨fa0, fb0, fa1, fb1⟩
  refine wpAnyH_take (i := 0) (oi := _) (v := ?_) rfl (by kernel_rfl) (by kernel_rfl) (by kernel_rfl) (fun _ _ _ h => h) (Or.inl ⟨by rfl, ?_⟩) (by assumption) ?_
  rotate_left
  · first | (intro w' hSw; (try dsimp only at hSw); go_simp; done) | (intro w' hSw; (try dsimp only at hSw); go_simp; with_reducible rfl)
  try simp only [Act.put, List.getElem_toArray, List.getElem_cons_zero, List.getElem_cons_succ, List.setIfInBounds_toArray, List.set_cons_zero, List.set_cons_succ]
  refine wpAnyH_take (i := 2) (oi := _) (v := ?_) rfl (by kernel_rfl) (by kernel_rfl) (by kernel_rfl) (fun _ _ _ h => h) (Or.inl ⟨by rfl, ?_⟩) (by assumption) ?_
  rotate_left
  · first | (intro w' hSw; (try dsimp only at hSw); go_simp; done) | (intro w' hSw; (try dsimp only at hSw); go_simp; with_reducible rfl)
  try simp only [Act.put, List.getElem_toArray, List.getElem_cons_zero, List.getElem_cons_succ, List.setIfInBounds_toArray, List.set_cons_zero, List.set_cons_succ]
  refine wpAnyH_take (i := 4) (oi := _) (v := ?_) rfl (by kernel_rfl) (by kernel_rfl) (by kernel_rfl) (fun _ _ _ h => h) (Or.inl ⟨by rfl, ?_⟩) (by assumption) ?_
  rotate_left
  · first | (intro w' hSw; (try dsimp only at hSw); go_simp; done) | (intro w' hSw; (try dsimp only at hSw); go_simp; with_reducible rfl)
  try simp only [Act.put, List.getElem_toArray, List.getElem_cons_zero, List.getElem_cons_succ, List.setIfInBounds_toArray, List.set_cons_zero, List.set_cons_succ]
  refine wpAnyH_take (i := 5) (oi := _) (v := ?_) rfl (by kernel_rfl) (by kernel_rfl) (by kernel_rfl) (fun _ _ _ h => h) (Or.inl ⟨by rfl, ?_⟩) (by assumption) ?_
  rotate_left
  · first | (intro w' hSw; (try dsimp only at hSw); go_simp; done) | (intro w' hSw; (try dsimp only at hSw); go_simp; with_reducible rfl)
  try simp only [Act.put, List.getElem_toArray, List.getElem_cons_zero, List.getElem_cons_succ, List.setIfInBounds_toArray, List.set_cons_zero, List.set_cons_succ]
  refine wpAnyH_take (i := 6) (oi := _) (v := ?_) rfl (by kernel_rfl) (by kernel_rfl) (by kernel_rfl) (fun _ _ _ h => h) (Or.inl ⟨by rfl, ?_⟩) (by assumption) ?_
  rotate_left
  · first | (intro w' hSw; (try dsimp only at hSw); go_simp; done) | (intro w' hSw; (try dsimp only at hSw); go_simp; with_reducible rfl)
  try simp only [Act.put, List.getElem_toArray, List.getElem_cons_zero, List.getElem_cons_succ, List.setIfInBounds_toArray, List.set_cons_zero, List.set_cons_succ]
  refine wpAnyH_ready (rs := [1]) (by kernel_rfl) (by simp) ?_
  refine AllReadyH.cons (o := _) rfl (fun K hK => ?_) AllReadyH.nil
  go_simp
  refine (toSig_any _ s0 _ (HW0.out.keep (ex_drew HB.out)) HF0.out).mono ?_
  rintro e w3 ⟨y0, rfl, ho, hb⟩
  replace hb := ex_undrew hb
  replace fa0 := cell_keep hb fa0
  replace fb0 := cell_keep hb fb0
  replace fa1 := cell_keep hb fa1
  replace fb1 := cell_keep hb fb1
  replace HB := Lib.hid (ex_keep HB.out hb)
  clear hb
  have P0 := Lib.hid ho.reads
  obtain ⟨AY0a, cY0a, rfl⟩ := ho.reads.form
  clear ho
  go_wp2_with fail
  refine hK.out _ _ ?_ (fun hHeld => ?_)
  · exact ⟨fa0, fb0, fa1, fb1⟩
  clear hK K
  try simp only [Act.put, List.getElem_toArray, List.getElem_cons_zero, List.getElem_cons_succ, List.setIfInBounds_toArray, List.set_cons_zero, List.set_cons_succ]
  refine wpAnyH_ready (rs := [3]) (by kernel_rfl) (by simp) ?_
  refine AllReadyH.cons (o := _) rfl (fun K hK => ?_) AllReadyH.nil
  go_simp
  refine (toModel_any _ s1 _ (HW1.out.keep HB.out) HF1.out).mono ?_
  rintro e w4 ⟨y1, rfl, ho, hb⟩
  replace fa0 := cell_keep hb fa0
  replace fb0 := cell_keep hb fb0
  replace fa1 := cell_keep hb fa1
  replace fb1 := cell_keep hb fb1
  replace P0 := Lib.hid (P0.out.keep hb)
  replace HB := Lib.hid (ex_keep HB.out hb)
  clear hb
  have P1 := Lib.hid ho.reads
  obtain ⟨AY1a, cY1a, AY1b, cY1b, rfl⟩ := ho.reads.form
  clear ho
  go_wp2_with fail
  refine hK.out _ _ ?_ (fun hHeld => ?_)
  · exact ⟨fa0, fb0, fa1, fb1⟩
  clear hK K
  try simp only [Act.put, List.getElem_toArray, List.getElem_cons_zero, List.getElem_cons_succ, List.setIfInBounds_toArray, List.set_cons_zero, List.set_cons_succ]
  refine wpAnyH_ready (rs := [7]) (by kernel_rfl) (by simp) ?_
  refine AllReadyH.cons (o := _) rfl (fun K hK => ?_) AllReadyH.nil
  go_simp
  refine (specSameMade_any s0 s1 a2 a3 a4 _ _ _ P0.out P1.out).mono ?_
  rw [HR.out]
  rintro e w5 ⟨z0, rfl, hoz, hb⟩
  have HZ := Lib.hid hoz
  obtain ⟨Az, cz, rfl, -⟩ := hoz.reads.form
  clear hoz
  replace fa0 := cell_keep hb fa0
  replace fb0 := cell_keep hb fb0
  replace fa1 := cell_keep hb fa1
  replace fb1 := cell_keep hb fb1
  replace HB := Lib.hid (ex_keep HB.out hb)
  clear hb
  go_wp2_with fail
  refine hK.out _ _ ?_ (fun hHeld => ?_)
  · exact ⟨fa0, fb0, fa1, fb1⟩
  clear hK K
  try simp only [Act.put, List.getElem_toArray, List.getElem_cons_zero, List.getElem_cons_succ, List.setIfInBounds_toArray, List.set_cons_zero, List.set_cons_succ]
  refine wpAnyH_take (i := 8) (oi := _) (v := ?_) rfl (by kernel_rfl) (by kernel_rfl) (by kernel_rfl) (fun _ _ _ h => h) (Or.inl ⟨by rfl, ?_⟩) (by assumption) ?_
  rotate_left
  · first | (intro w' hSw; (try dsimp only at hSw); go_simp; done) | (intro w' hSw; (try dsimp only at hSw); go_simp; with_reducible rfl)
  try simp only [Act.put, List.getElem_toArray, List.getElem_cons_zero, List.getElem_cons_succ, List.setIfInBounds_toArray, List.set_cons_zero, List.set_cons_succ]
  refine wpAnyH_done (by kernel_rfl) ?_ _
  clear P0 P1
  have HC := Lib.hid (And.intro fa0 (And.intro fb0 (And.intro fa1 (fb1))))
  have HBs : Hid (Below w5.heap.size w5 w5) := Below.refl _ _
  clear fa0 fb0 fa1 fb1
  have fa0 := cell_keep HBs.out HC.out.1
  have fb0 := cell_keep HBs.out HC.out.2.1
  have fa1 := cell_keep HBs.out HC.out.2.2.1
  have fb1 := cell_keep HBs.out HC.out.2.2.2
  go_wp2_with fail
  refine (toSig_any _ s0 _ (HW0.out.keep (ex_keep HB.out HBs.out)) HF0.out).mono ?_
  rintro e w6 ⟨y0, rfl, ho, hb⟩
  obtain ⟨AX0a, cX0a, rfl⟩ := ho.reads.form
  have hb2 := below_alloc w6 (.cells #[.int .i64 s0.sorts, .slice AX0a s0.ops.length cX0a] 25)
  have HX0 := Lib.hid (show OSig (w6.alloc (.cells #[.int .i64 s0.sorts, .slice AX0a s0.ops.length cX0a] 25)) w5.heap.size (.agg #[.int .i64 s0.sorts, .slice AX0a s0.ops.length cX0a]) s0 from ho.keep hb2)
  have HCX0 := Lib.hid (bx_cells w6 (.int .i64 s0.sorts) (.slice AX0a s0.ops.length cX0a) 25)
  have hy0 := hb.size
  replace hb := hb.trans (hb2.mono hb.size)
  have hs0 := hb.size
  generalize hWw7 : w6.alloc (.cells #[.int .i64 s0.sorts, .slice AX0a s0.ops.length cX0a] 25) = w7 at HX0 HCX0 hb hs0
  clear hb2 ho
  replace HBs := Lib.hid (ex_keep HBs.out hb)
  clear hb
  have HK0 : Hid (Keeps w5.heap.size w7 w7) := Keeps.refl _ _
  have z0 : w7.heap.size ≤ w7.heap.size := Nat.le_refl _
  clear fa0 fb0 fa1 fb1
  have fa0 := cell_keep HBs.out HC.out.1
  have fb0 := cell_keep HBs.out HC.out.2.1
  have fa1 := cell_keep HBs.out HC.out.2.2.1
  have fb1 := cell_keep HBs.out HC.out.2.2.2
  go_wp2_with fail
  clear hWw7
  refine (toModel_any _ s1 _ (HW1.out.keep (ex_keep HB.out HBs.out)) HF1.out).mono ?_
  rintro e w8 ⟨y1, rfl, ho, hb⟩
  obtain ⟨AX1a, cX1a, AX1b, cX1b, rfl⟩ := ho.reads.form
  have hb2 := below_alloc w8 (.cells #[.slice AX1a s1.sizes.length cX1a, .slice AX1b s1.tables.length cX1b] 28)
  have HX1 := Lib.hid (show OModel (w8.alloc (.cells #[.slice AX1a s1.sizes.length cX1a, .slice AX1b s1.tables.length cX1b] 28)) w7.heap.size (.agg #[.slice AX1a s1.sizes.length cX1a, .slice AX1b s1.tables.length cX1b]) s1 from ho.keep hb2)
  have HCX1 := Lib.hid (bx_cells w8 (.slice AX1a s1.sizes.length cX1a) (.slice AX1b s1.tables.length cX1b) 28)
  have hy1 := hb.size
  replace hb := hb.trans (hb2.mono hb.size)
  have hs1 := hb.size
  generalize hWw9 : w8.alloc (.cells #[.slice AX1a s1.sizes.length cX1a, .slice AX1b s1.tables.length cX1b] 28) = w9 at HX1 HCX1 hb hs1
  clear hb2 ho
  replace HK0 := Lib.hid (HK0.out.below z0 hb)
  replace z0 : w7.heap.size ≤ w9.heap.size := Nat.le_trans z0 hb.size
  replace HBs := Lib.hid (ex_keep HBs.out hb)
  clear hb
  have HK1 : Hid (Keeps w7.heap.size w9 w9) := Keeps.refl _ _
  have z1 : w9.heap.size ≤ w9.heap.size := Nat.le_refl _
  clear fa0 fb0 fa1 fb1
  have l0a := HK0.out.cell (by omega) HCX0.out.1
  have l0b := HK0.out.cell (by omega) HCX0.out.2
  have l1a := HK1.out.cell (by omega) HCX1.out.1
  have l1b := HK1.out.cell (by omega) HCX1.out.2
  go_wp2_with fail
  clear hWw9
  refine (sameMade_any s0 s1 a2 a3 a4 _ _ _ (HX0.out.same HK0.out).reads (HX1.out.same HK1.out).reads).mono ?_
  rw [HR.out]
  rintro e w10 ⟨g0, rfl, hog, hb⟩
  have HG := Lib.hid hog
  obtain ⟨Ag, cg, rfl, -⟩ := hog.reads.form
  have hsg := hb.size
  clear hog
  clear l0a l0b l1a l1b
  replace HK0 := Lib.hid (HK0.out.below z0 hb)
  replace z0 : w7.heap.size ≤ w10.heap.size := Nat.le_trans z0 hb.size
  replace HK1 := Lib.hid (HK1.out.below z1 hb)
  replace z1 : w9.heap.size ≤ w10.heap.size := Nat.le_trans z1 hb.size
  replace HBs := Lib.hid (ex_keep HBs.out hb)
  clear hb
  have HKg : Hid (Keeps w9.heap.size w10 w10) := Keeps.refl _ _
  have zg : w10.heap.size ≤ w10.heap.size := Nat.le_refl _
  go_wp2_with fail
  refine (eqIntSS_is _ _ R R _ true (sameR_self _) (HG.out.same HKg.out).reads (HZ.out.keep HBs.out).reads).mono ?_
  rintro e w11 ⟨rfl, hd⟩
  have hb := hd.below
  clear hd
  replace HK0 := Lib.hid (HK0.out.below z0 hb)
  replace z0 : w7.heap.size ≤ w11.heap.size := Nat.le_trans z0 hb.size
  replace HK1 := Lib.hid (HK1.out.below z1 hb)
  replace z1 : w9.heap.size ≤ w11.heap.size := Nat.le_trans z1 hb.size
  replace HKg := Lib.hid (HKg.out.below zg hb)
  replace zg : w10.heap.size ≤ w11.heap.size := Nat.le_trans zg hb.size
  replace HBs := Lib.hid (ex_keep HBs.out hb)
  clear hb
  have fa0 := cell_keep HBs.out HC.out.1
  have fb0 := cell_keep HBs.out HC.out.2.1
  have fa1 := cell_keep HBs.out HC.out.2.2.1
  have fb1 := cell_keep HBs.out HC.out.2.2.2
  have l0a := HK0.out.cell (by omega) HCX0.out.1
  have l0b := HK0.out.cell (by omega) HCX0.out.2
  have l1a := HK1.out.cell (by omega) HCX1.out.1
  have l1b := HK1.out.cell (by omega) HCX1.out.2
  have HSW0 := Lib.hid (HW0.out.keep (ex_keep HB.out HBs.out))
  have HXR0 := Lib.hid (HX0.out.same HK0.out).reads
  go_wp2_with fail
  have ea := World.new_ne w11 _ fa0
  have eb := World.new_ne w11 _ l0a
  go_region_held3 (fun w' => w'.cell? ⟨w.heap.size, 0, none⟩ = some (.int .i64 s0.sorts) ∧ w'.cell? ⟨w.heap.size, 1, none⟩ = some (.slice A0a s0.ops.length c0a) ∧ w'.cell? ⟨w6.heap.size, 0, none⟩ = some (.int .i64 s0.sorts) ∧ w'.cell? ⟨w6.heap.size, 1, none⟩ = some (.slice AX0a s0.ops.length cX0a))
    (first | go_keep)
    (first
      | (go_at_call 27; refine (toSig_any _ s0 w11.drew HSW0.out HF0.out).mono ?_; rintro e w12 ⟨yj, rfl, hoj, hbj⟩; have HOj := Lib.hid hoj; have HBj := Lib.hid (show Below w11.heap.size w11 w12 from below_undrew hbj); have o0 := cell_keep HBj.out fa0; have o1 := cell_keep HBj.out fb0; have o2 := cell_keep HBj.out l0a; have o3 := cell_keep HBj.out l0b; clear hoj hbj)
      | (go_at_call 31; refine (eqSig_is _ _ s0 s0 _ true (sameS_self _) (HXR0.out.keep HBj.out) HOj.out.reads).mono ?_; rintro e w13 ⟨rfl, hbk⟩; have HBk := Lib.hid (ex_keep HBj.out hbk); have q0 := cell_keep hbk o0; have q1 := cell_keep hbk o1; have q2 := cell_keep hbk o2; have q3 := cell_keep hbk o3; clear hbk))
  have hb := HBk.out
  clear fa0 fb0 fa1 fb1 l0a l0b l1a l1b o0 q0 o1 q1 o2 q2 o3 q3 ea eb HBj HBk HOj HSW0 HXR0
  replace HK0 := Lib.hid (HK0.out.below z0 hb)
  replace z0 : w7.heap.size ≤ w13.heap.size := Nat.le_trans z0 hb.size
  replace HK1 := Lib.hid (HK1.out.below z1 hb)
  replace z1 : w9.heap.size ≤ w13.heap.size := Nat.le_trans z1 hb.size
  replace HKg := Lib.hid (HKg.out.below zg hb)
  replace zg : w10.heap.size ≤ w13.heap.size := Nat.le_trans zg hb.size
  replace HBs := Lib.hid (ex_keep HBs.out hb)
  clear hb
  have fa0 := cell_keep HBs.out HC.out.1
  have fb0 := cell_keep HBs.out HC.out.2.1
  have fa1 := cell_keep HBs.out HC.out.2.2.1
  have fb1 := cell_keep HBs.out HC.out.2.2.2
  have l0a := HK0.out.cell (by omega) HCX0.out.1
  have l0b := HK0.out.cell (by omega) HCX0.out.2
  have l1a := HK1.out.cell (by omega) HCX1.out.1
  have l1b := HK1.out.cell (by omega) HCX1.out.2
  have HSW1 := Lib.hid (HW1.out.keep (ex_keep HB.out HBs.out))
  have HXR1 := Lib.hid (HX1.out.same HK1.out).reads
  go_wp2_with fail
  have ea := World.new_ne w13 _ fa1
  have eb := World.new_ne w13 _ l1a
  go_region_held3 (fun w' => w'.cell? ⟨w.heap.size + 1, 0, none⟩ = some (.slice A1a s1.sizes.length c1a) ∧ w'.cell? ⟨w.heap.size + 1, 1, none⟩ = some (.slice A1b s1.tables.length c1b) ∧ w'.cell? ⟨w8.heap.size, 0, none⟩ = some (.slice AX1a s1.sizes.length cX1a) ∧ w'.cell? ⟨w8.heap.size, 1, none⟩ = some (.slice AX1b s1.tables.length cX1b))
    (first | go_keep)
    (first
      | (go_at_call 28; refine (toModel_any _ s1 w13.drew HSW1.out HF1.out).mono ?_; rintro e w14 ⟨yj, rfl, hoj, hbj⟩; have HOj := Lib.hid hoj; have HBj := Lib.hid (show Below w13.heap.size w13 w14 from below_undrew hbj); have o0 := cell_keep HBj.out fa1; have o1 := cell_keep HBj.out fb1; have o2 := cell_keep HBj.out l1a; have o3 := cell_keep HBj.out l1b; clear hoj hbj)
      | (go_at_call 32; refine (eqModel_is _ _ s1 s1 _ true (sameMd_self _) (HXR1.out.keep HBj.out) HOj.out.reads).mono ?_; rintro e w15 ⟨rfl, hbk⟩; have HBk := Lib.hid (ex_keep HBj.out hbk); have q0 := cell_keep hbk o0; have q1 := cell_keep hbk o1; have q2 := cell_keep hbk o2; have q3 := cell_keep hbk o3; clear hbk))
  have hb := HBk.out
  clear fa0 fb0 fa1 fb1 l0a l0b l1a l1b o0 q0 o1 q1 o2 q2 o3 q3 ea eb HBj HBk HOj HSW1 HXR1
  replace HK0 := Lib.hid (HK0.out.below z0 hb)
  replace z0 : w7.heap.size ≤ w15.heap.size := Nat.le_trans z0 hb.size
  replace HK1 := Lib.hid (HK1.out.below z1 hb)
  replace z1 : w9.heap.size ≤ w15.heap.size := Nat.le_trans z1 hb.size
  replace HKg := Lib.hid (HKg.out.below zg hb)
  replace zg : w10.heap.size ≤ w15.heap.size := Nat.le_trans zg hb.size
  replace HBs := Lib.hid (ex_keep HBs.out hb)
  clear hb
  have l0a := HK0.out.cell (by omega) HCX0.out.1
  have l0b := HK0.out.cell (by omega) HCX0.out.2
  go_wp2_with fail
  refine (markSig_go _ _ s0 _ w7 _ HX0.out HK0.out z0 HF0.out (by omega) (by omega)).mono ?_
  rintro e w16 ⟨k0, rfl, hka0, hkb0, wa, hb, hout⟩
  have hzo := hout.size
  replace HK1 := Lib.hid ((HK1.out.below z1 hb).outside hout (by omega))
  replace z1 : w9.heap.size ≤ w16.heap.size := by have := hb.size; omega
  replace HKg := Lib.hid ((HKg.out.below zg hb).outside hout (by omega))
  replace zg : w10.heap.size ≤ w16.heap.size := by have := hb.size; omega
  replace HBs := Lib.hid ((ex_keep HBs.out hb).trans (hout.below.mono (by omega)))
  clear hb hout hzo HK0 z0 HX0 l0a l0b
  have l1a := HK1.out.cell (by omega) HCX1.out.1
  have l1b := HK1.out.cell (by omega) HCX1.out.2
  go_wp2_with fail
  refine (markModel_go _ _ s1 _ w9 _ HX1.out HK1.out z1 HF1.out (by omega) (by omega)).mono ?_
  rintro e w17 ⟨k1, rfl, hka1, hkb1, wa, hb, hout⟩
  have hzo := hout.size
  replace HKg := Lib.hid ((HKg.out.below zg hb).outside hout (by omega))
  replace zg : w10.heap.size ≤ w17.heap.size := by have := hb.size; omega
  replace HBs := Lib.hid ((ex_keep HBs.out hb).trans (hout.below.mono (by omega)))
  clear hb hout hzo HK1 z1 HX1 l1a l1b
  go_wp2_with fail
  refine (eqIntSS_is _ _ R R _ true (sameR_self _) (HG.out.same HKg.out).reads (HZ.out.keep HBs.out).reads).mono ?_
  rintro e w18 ⟨rfl, hd⟩
  have hb := hd.below
  clear hd
  replace HKg := Lib.hid (HKg.out.below zg hb)
  replace zg : w10.heap.size ≤ w18.heap.size := Nat.le_trans zg hb.size
  replace HBs := Lib.hid (ex_keep HBs.out hb)
  clear hb
  go_wp2_with fail
  refine (markIntSS_g _ _ R w10 _ HG.out HKg.out zg HLEN.out).mono ?_
  rintro e w19 ⟨K, rfl, hK0, hheld, wa, hb, hout⟩
  have HH := Lib.hid hheld
  have hzo := hout.size
  replace HBs := Lib.hid ((ex_keep HBs.out hb).trans (hout.below.mono (by omega)))
  clear hb hout hzo hheld HKg zg HG
  have HKh : Hid (Keeps w9.heap.size w19 w19) := Keeps.refl _ _
  have zh : w19.heap.size ≤ w19.heap.size := Nat.le_refl _
  have ek : (K != K) = false := by simp
  go_wp2_with fail
  refine (HH.out _ HKh.out).mono ?_
  rintro e w20 ⟨rfl, hb⟩
  replace HKh := Lib.hid (HKh.out.below zh hb)
  replace zh : w19.heap.size ≤ w20.heap.size := Nat.le_trans zh hb.size
  replace HBs := Lib.hid (ex_keep HBs.out hb)
  clear hb
  have fa0 := cell_keep HBs.out HC.out.1
  have fb0 := cell_keep HBs.out HC.out.2.1
  have fa1 := cell_keep HBs.out HC.out.2.2.1
  have fb1 := cell_keep HBs.out HC.out.2.2.2
  go_wp2_with fail
  refine wp_region_held_drew (S := (fun w' => w'.cell? ⟨w.heap.size, 0, none⟩ = some (.int .i64 s0.sorts) ∧ w'.cell? ⟨w.heap.size, 1, none⟩ = some (.slice A0a s0.ops.length c0a) ∧ w'.cell? ⟨w.heap.size + 1, 0, none⟩ = some (.slice A1a s1.sizes.length c1a) ∧ w'.cell? ⟨w.heap.size + 1, 1, none⟩ = some (.slice A1b s1.tables.length c1b))) (by kernel_rfl) ?_ (fun hHeld => ?_)
  · exact ⟨fa0, fb0, fa1, fb1⟩
  refine wpAnyH_take (i := 0) (oi := _) (v := ?_) rfl (by kernel_rfl) (by kernel_rfl) (by kernel_rfl) (fun _ _ _ h => h) (Or.inl ⟨by rfl, ?_⟩) (by assumption) ?_
  rotate_left
  · first | (intro w' hSw; (try dsimp only at hSw); go_simp; done) | (intro w' hSw; (try dsimp only at hSw); go_simp; with_reducible rfl)
  try simp only [Act.put, List.getElem_toArray, List.getElem_cons_zero, List.getElem_cons_succ, List.setIfInBounds_toArray, List.set_cons_zero, List.set_cons_succ]
  refine wpAnyH_take (i := 2) (oi := _) (v := ?_) rfl (by kernel_rfl) (by kernel_rfl) (by kernel_rfl) (fun _ _ _ h => h) (Or.inl ⟨by rfl, ?_⟩) (by assumption) ?_
  rotate_left
  · first | (intro w' hSw; (try dsimp only at hSw); go_simp; done) | (intro w' hSw; (try dsimp only at hSw); go_simp; with_reducible rfl)
  try simp only [Act.put, List.getElem_toArray, List.getElem_cons_zero, List.getElem_cons_succ, List.setIfInBounds_toArray, List.set_cons_zero, List.set_cons_succ]
  refine wpAnyH_take (i := 4) (oi := _) (v := ?_) rfl (by kernel_rfl) (by kernel_rfl) (by kernel_rfl) (fun _ _ _ h => h) (Or.inl ⟨by rfl, ?_⟩) (by assumption) ?_
  rotate_left
  · first | (intro w' hSw; (try dsimp only at hSw); go_simp; done) | (intro w' hSw; (try dsimp only at hSw); go_simp; with_reducible rfl)
  try simp only [Act.put, List.getElem_toArray, List.getElem_cons_zero, List.getElem_cons_succ, List.setIfInBounds_toArray, List.set_cons_zero, List.set_cons_succ]
  refine wpAnyH_take (i := 5) (oi := _) (v := ?_) rfl (by kernel_rfl) (by kernel_rfl) (by kernel_rfl) (fun _ _ _ h => h) (Or.inl ⟨by rfl, ?_⟩) (by assumption) ?_
  rotate_left
  · first | (intro w' hSw; (try dsimp only at hSw); go_simp; done) | (intro w' hSw; (try dsimp only at hSw); go_simp; with_reducible rfl)
  try simp only [Act.put, List.getElem_toArray, List.getElem_cons_zero, List.getElem_cons_succ, List.setIfInBounds_toArray, List.set_cons_zero, List.set_cons_succ]
  refine wpAnyH_take (i := 6) (oi := _) (v := ?_) rfl (by kernel_rfl) (by kernel_rfl) (by kernel_rfl) (fun _ _ _ h => h) (Or.inl ⟨by rfl, ?_⟩) (by assumption) ?_
  rotate_left
  · first | (intro w' hSw; (try dsimp only at hSw); go_simp; done) | (intro w' hSw; (try dsimp only at hSw); go_simp; with_reducible rfl)
  try simp only [Act.put, List.getElem_toArray, List.getElem_cons_zero, List.getElem_cons_succ, List.setIfInBounds_toArray, List.set_cons_zero, List.set_cons_succ]
  refine wpAnyH_ready (rs := [1]) (by kernel_rfl) (by simp) ?_
  refine AllReadyH.cons (o := _) rfl (fun K hK => ?_) AllReadyH.nil
  go_simp
  refine (toSig_any _ s0 _ (HW0.out.keep (ex_drew (ex_keep HB.out HBs.out))) HF0.out).mono ?_
  rintro e w21 ⟨y0, rfl, ho, hb⟩
  replace hb := ex_undrew hb
  replace fa0 := cell_keep hb fa0
  replace fb0 := cell_keep hb fb0
  replace fa1 := cell_keep hb fa1
  replace fb1 := cell_keep hb fb1
  replace HKh := Lib.hid (HKh.out.below zh hb)
  replace zh : w19.heap.size ≤ w21.heap.size := Nat.le_trans zh hb.size
  replace HBs := Lib.hid (ex_keep HBs.out hb)
  clear hb
  have PP0 := Lib.hid ho.reads
  obtain ⟨AQ0a, cQ0a, rfl⟩ := ho.reads.form
  clear ho
  go_wp2_with fail
  refine hK.out _ _ ?_ (fun hHeld => ?_)
  · exact ⟨fa0, fb0, fa1, fb1⟩
  clear hK K
  try simp only [Act.put, List.getElem_toArray, List.getElem_cons_zero, List.getElem_cons_succ, List.setIfInBounds_toArray, List.set_cons_zero, List.set_cons_succ]
  refine wpAnyH_ready (rs := [3]) (by kernel_rfl) (by simp) ?_
  refine AllReadyH.cons (o := _) rfl (fun K hK => ?_) AllReadyH.nil
  go_simp
  refine (toModel_any _ s1 _ (HW1.out.keep (ex_keep HB.out HBs.out)) HF1.out).mono ?_
  rintro e w22 ⟨y1, rfl, ho, hb⟩
  replace fa0 := cell_keep hb fa0
  replace fb0 := cell_keep hb fb0
  replace fa1 := cell_keep hb fa1
  replace fb1 := cell_keep hb fb1
  replace PP0 := Lib.hid (PP0.out.keep hb)
  replace HKh := Lib.hid (HKh.out.below zh hb)
  replace zh : w19.heap.size ≤ w22.heap.size := Nat.le_trans zh hb.size
  replace HBs := Lib.hid (ex_keep HBs.out hb)
  clear hb
  have PP1 := Lib.hid ho.reads
  obtain ⟨AQ1a, cQ1a, AQ1b, cQ1b, rfl⟩ := ho.reads.form
  clear ho
  go_wp2_with fail
  refine hK.out _ _ ?_ (fun hHeld => ?_)
  · exact ⟨fa0, fb0, fa1, fb1⟩
  clear hK K
  try simp only [Act.put, List.getElem_toArray, List.getElem_cons_zero, List.getElem_cons_succ, List.setIfInBounds_toArray, List.set_cons_zero, List.set_cons_succ]
  refine wpAnyH_ready (rs := [7]) (by kernel_rfl) (by simp) ?_
  refine AllReadyH.cons (o := _) rfl (fun K hK => ?_) AllReadyH.nil
  go_simp
  refine (sameMade_any s0 s1 a2 a3 a4 _ _ _ PP0.out PP1.out).mono ?_
  rw [HR.out]
  rintro e w23 ⟨g1, rfl, hog, hb⟩
  obtain ⟨Ah, ch, rfl, -⟩ := hog.reads.form
  have HG1 := Lib.hid hog.reads
  clear hog PP0 PP1
  replace fa0 := cell_keep hb fa0
  replace fb0 := cell_keep hb fb0
  replace fa1 := cell_keep hb fa1
  replace fb1 := cell_keep hb fb1
  replace HKh := Lib.hid (HKh.out.below zh hb)
  replace zh : w19.heap.size ≤ w23.heap.size := Nat.le_trans zh hb.size
  replace HBs := Lib.hid (ex_keep HBs.out hb)
  clear hb
  go_wp2_with fail
  refine hK.out _ _ ?_ (fun hHeld => ?_)
  · exact ⟨fa0, fb0, fa1, fb1⟩
  clear hK K
  try simp only [Act.put, List.getElem_toArray, List.getElem_cons_zero, List.getElem_cons_succ, List.setIfInBounds_toArray, List.set_cons_zero, List.set_cons_succ]
  refine wpAnyH_take (i := 8) (oi := _) (v := ?_) rfl (by kernel_rfl) (by kernel_rfl) (by kernel_rfl) (fun _ _ _ h => h) (Or.inl ⟨by rfl, ?_⟩) (by assumption) ?_
  rotate_left
  · first | (intro w' hSw; (try dsimp only at hSw); go_simp; done) | (intro w' hSw; (try dsimp only at hSw); go_simp; with_reducible rfl)
  try simp only [Act.put, List.getElem_toArray, List.getElem_cons_zero, List.getElem_cons_succ, List.setIfInBounds_toArray, List.set_cons_zero, List.set_cons_succ]
  refine wpAnyH_done (by kernel_rfl) ?_ _
  clear fa0 fb0 fa1 fb1
  go_wp2_with fail
  refine (eqIntSS_is _ _ R R _ true (sameR_self _) HG1.out (HZ.out.keep HBs.out).reads).mono ?_
  rintro e w24 ⟨rfl, hd⟩
  have hb := hd.below
  clear hd
  replace HKh := Lib.hid (HKh.out.below zh hb)
  replace zh : w19.heap.size ≤ w24.heap.size := Nat.le_trans zh hb.size
  replace HBs := Lib.hid (ex_keep HBs.out hb)
  clear hb
  clear HG1
  go_wp2_with fail
  refine (HH.out _ HKh.out).mono ?_
  rintro e w25 ⟨rfl, hb⟩
  replace HKh := Lib.hid (HKh.out.below zh hb)
  replace zh : w19.heap.size ≤ w25.heap.size := Nat.le_trans zh hb.size
  replace HBs := Lib.hid (ex_keep HBs.out hb)
  clear hb
  go_wp2
  go_ret
  exact ⟨rfl, ex_keep HB.out HBs.out⟩

set_option maxRecDepth 100000 in
theorem lifted_FnExactSameMade (os : Os) (started : os.Started) (H : Type) (enc : TypeId × Value → H) :
    ReturnsInHanded {} Try.checked os 5 .any (Rows.fnExactSameMadeSpec.pre6 enc Try.prog Try.f5 Rows.fnExactSameMadeRow.domain false) (Rows.fnExactSameMadeSpec.post enc Try.prog Try.f5 false true false false) := by
  refine returnsInHanded_of_change (C := Try.checked) own started (by kernel_rfl) Try.func5
    (ChangeSpec.witness6 (enc := enc) (C := Try.checked) false ⟨#[], #[.agg #[.int .i64 0, .slice none 0 0], .agg #[.slice none 0 0, .slice none 0 0], .int .i64 0, .int .i64 0, .int .i64 0], []⟩ 8 (by kernel_rfl) (by kernel_rfl) (by kernel_rfl) (by kernel_rfl)) ?_
  intro W base args ds gs before hval0 hW hcnd _
  have hval : ∀ (j : Nat) t v, Try.f5.params[j]? = some t → args[j]? = some v → Value.okWide Try.prog W .any base t v := hval0
  have hW' := hW
  obtain ⟨p, q, hA0, hV, rfl, hfz, hnd⟩ := hW
  have hA : DataW.TrodAll enc Try.prog W 0 (fun _ => true) true Try.f5.params.toList args.toList ds p := hA0
  rw [Try.params5] at hA hval
  obtain ⟨v0, vs0, d0, ds0, p0, q0, hargs, rfl, rfl, h0, r0⟩ := trodAll_cons hA
  obtain ⟨v1, vs1, d1, ds1, p1, q1, rfl, rfl, rfl, h1, r1⟩ := trodAll_cons r0
  obtain ⟨v2, vs2, d2, ds2, p2, q2, rfl, rfl, rfl, h2, r2⟩ := trodAll_cons r1
  obtain ⟨v3, vs3, d3, ds3, p3, q3, rfl, rfl, rfl, h3, r3⟩ := trodAll_cons r2
  obtain ⟨v4, vs4, d4, ds4, p4, q4, rfl, rfl, rfl, h4, r4⟩ := trodAll_cons r3
  obtain ⟨rfl, rfl, rfl⟩ := trodAll_nil r4
  obtain rfl : args = #[v0, v1, v2, v3, v4] := by cases args; simp_all
  obtain ⟨rfl, rfl⟩ := trodVars_none hV
  have k0 := h0
  have lt0 : ∀ x ∈ p0, x.block < W.heap.size := by obtain ⟨m, hm⟩ := k0; exact DataW.trod_lt m _ _ _ hm
  obtain ⟨s0, w0⟩ : ∃ s, RSig W v0 s := sig_of (hval 0 53 v0 rfl rfl) h0
  have k1 := h1
  have lt1 : ∀ x ∈ p1, x.block < W.heap.size := by obtain ⟨m, hm⟩ := k1; exact DataW.trod_lt m _ _ _ hm
  obtain ⟨s1, w1⟩ : ∃ s, RModel W v1 s := model_of (hval 1 54 v1 rfl rfl) h1
  have k2 := h2
  have lt2 : ∀ x ∈ p2, x.block < W.heap.size := by obtain ⟨m, hm⟩ := k2; exact DataW.trod_lt m _ _ _ hm
  obtain ⟨a2, w2⟩ : ∃ a, v2 = .int .i64 a := by obtain ⟨a, ha, _⟩ := open_int Try.underlying3 (hval 2 3 v2 rfl rfl) h2; exact ⟨a, ha⟩
  subst w2
  have k3 := h3
  have lt3 : ∀ x ∈ p3, x.block < W.heap.size := by obtain ⟨m, hm⟩ := k3; exact DataW.trod_lt m _ _ _ hm
  obtain ⟨a3, w3⟩ : ∃ a, v3 = .int .i64 a := by obtain ⟨a, ha, _⟩ := open_int Try.underlying3 (hval 3 3 v3 rfl rfl) h3; exact ⟨a, ha⟩
  subst w3
  have k4 := h4
  have lt4 : ∀ x ∈ p4, x.block < W.heap.size := by obtain ⟨m, hm⟩ := k4; exact DataW.trod_lt m _ _ _ hm
  obtain ⟨a4, w4⟩ : ∃ a, v4 = .int .i64 a := by obtain ⟨a, ha, _⟩ := open_int Try.underlying3 (hval 4 3 v4 rfl rfl) h4; exact ⟨a, ha⟩
  subst w4
  clear hA0 hval0
  refine (walk_FnExactSameMade _ s0 _ s1 a2 a3 a4 W w0 w1).mono fun e W' ⟨he, bel⟩ => ?_
  subst he
  exact ⟨_, rfl, _, _, _, [], _, [], hW', trodAll_mk1 (shut_bool Try.underlying4 _), (trodAll_cons_mk (Below.trod laidOut (by kernel_rfl) (of_decide_eq_true (by kernel_rfl)) k0 bel lt0) (trodAll_cons_mk (Below.trod laidOut (by kernel_rfl) (of_decide_eq_true (by kernel_rfl)) k1 bel lt1) (trodAll_cons_mk (Below.trod laidOut (by kernel_rfl) (of_decide_eq_true (by kernel_rfl)) k2 bel lt2) (trodAll_cons_mk (Below.trod laidOut (by kernel_rfl) (of_decide_eq_true (by kernel_rfl)) k3 bel lt3) (trodAll_cons_mk (Below.trod laidOut (by kernel_rfl) (of_decide_eq_true (by kernel_rfl)) k4 bel lt4) trodAll_mk0))))), rfl, bel.frame _, fun h => by cases h⟩

theorem over_FnExactSameMade : Rows.fnExactSameMadeRow.holds Try.pinned (OpenSpec.ofChange Rows.fnExactSameMadeSpec) :=
  OpenClaim.holds_of_wide 5 Try.f5 rfl rfl rfl rfl rfl rfl rfl ⟨rfl, rfl, rfl, rfl, rfl⟩ rfl rfl rfl rfl rfl (by kernel_rfl) Try.func5 (by kernel_rfl)
    (of_decide_eq_true (by kernel_rfl)) (by unfold Func.isWrapper; first | (rw [if_pos (by decide +kernel)]; kernel_rfl) | (rw [if_neg (by decide +kernel)]; exact ⟨rfl, rfl⟩))
    (fun os started H enc _ => lifted_FnExactSameMade os started H enc)

theorem proved_FnExactSameMade : Rows.FnExactSameMadeSaid := over_FnExactSameMade
end Go.Proofs.Yticldaddbljleaa
