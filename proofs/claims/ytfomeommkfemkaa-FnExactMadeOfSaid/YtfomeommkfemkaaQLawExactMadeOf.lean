/- FnExactMadeOf answers true at every signature, model and sets. No condition. -/
import Derived.Test.YtfomeommkfemkaaK38fecf9f
namespace Go.Proofs.Ytfomeommkfemkaa
open Go.ChangeShapes Go.WideShapes Go.ChangeAt Go.RowKit
set_option linter.unusedVariables false
set_option linter.unusedSimpArgs false

theorem madeM_len (s : MSig) (m : MModel) (sets : List Int) : (madeM s m sets).length ≤ 1048576 := by have := made_len s m sets; omega

set_option maxHeartbeats 3200000 in
set_option maxRecDepth 100000 in
theorem walk_FnExactMadeOf (v0 : Value) (s0 : MSig) (v1 : Value) (s1 : MModel) (v2 : Value) (xs2 : List Int) (w : World) (h0 : RSig w v0 s0) (h1 : RModel w v1 s1) (h2 : RInts w v2 xs2 ∧ Small xs2) :
    Calls Try.prog 6 #[v0, v1, v2] w fun e w' => e = .returned (.bool true) ∧ Below w.heap.size w w' := by
  have HB : Hid (Below w.heap.size w w) := Below.refl _ _
  obtain ⟨A0a, c0a, rfl⟩ := h0.form
  have HW0 := Lib.hid h0
  have hb := below_alloc (w) (.cells #[.int .i64 s0.sorts, .slice A0a s0.ops.length c0a] 24)
  have fa0 := (bx_cells (w) (.int .i64 s0.sorts) (.slice A0a s0.ops.length c0a) 24).1
  have fb0 := (bx_cells (w) (.int .i64 s0.sorts) (.slice A0a s0.ops.length c0a) 24).2
  replace HB := Lib.hid (ex_keep HB.out hb)
  clear hb h0
  obtain ⟨A1a, c1a, A1b, c1b, rfl⟩ := h1.form
  have HW1 := Lib.hid h1
  have hb := below_alloc (w.alloc (.cells #[.int .i64 s0.sorts, .slice A0a s0.ops.length c0a] 24)) (.cells #[.slice A1a s1.sizes.length c1a, .slice A1b s1.tables.length c1b] 27)
  replace fa0 := cell_keep hb fa0
  replace fb0 := cell_keep hb fb0
  have fa1 := (bx_cells (w.alloc (.cells #[.int .i64 s0.sorts, .slice A0a s0.ops.length c0a] 24)) (.slice A1a s1.sizes.length c1a) (.slice A1b s1.tables.length c1b) 27).1
  have fb1 := (bx_cells (w.alloc (.cells #[.int .i64 s0.sorts, .slice A0a s0.ops.length c0a] 24)) (.slice A1a s1.sizes.length c1a) (.slice A1b s1.tables.length c1b) 27).2
  simp only [World.size_alloc] at fa1 fb1
  replace HB := Lib.hid (ex_keep HB.out hb)
  clear hb h1
  have HW2 := Lib.hid h2.1
  have HS2 := Lib.hid h2.2
  have hl2 := h2.1.len
  obtain ⟨A2, c2, rfl, -⟩ := h2.1.form
  clear h2
  by_cases hn2 : 1048576 < (xs2.length : Int)
  · go_enter Try.func6, Try.ntmps6
    go_wp2
    go_ret
    exact ⟨rfl, HB.out⟩
  go_enter Try.func6, Try.ntmps6
  go_wp2_with fail
  refine (szSig_any _ s0 _ _ (HW0.out.keep HB.out) (by omega) (by omega)).mono ?_
  rintro e w1 ⟨r1, rfl, hr, hb⟩
  replace fa0 := cell_keep hb fa0
  replace fb0 := cell_keep hb fb0
  replace fa1 := cell_keep hb fa1
  replace fb1 := cell_keep hb fb1
  replace HB := Lib.hid (ex_keep HB.out hb)
  clear hb
  by_cases hneg1 : r1 < 0
  · clear hr
    go_wp2
    go_ret
    exact ⟨rfl, HB.out⟩
  obtain ⟨hp1, hq1, hfit⟩ := hr.resolve_left hneg1
  have HF0 := Lib.hid hfit
  clear hr hfit
  go_wp2_with fail
  refine (szModel_any _ s1 _ _ (HW1.out.keep HB.out) (by omega) (by omega)).mono ?_
  rintro e w2 ⟨r2, rfl, hr, hb⟩
  replace fa0 := cell_keep hb fa0
  replace fb0 := cell_keep hb fb0
  replace fa1 := cell_keep hb fa1
  replace fb1 := cell_keep hb fb1
  replace HB := Lib.hid (ex_keep HB.out hb)
  clear hb
  by_cases hneg2 : r2 < 0
  · clear hr
    go_wp2
    go_ret
    exact ⟨rfl, HB.out⟩
  obtain ⟨hp2, hq2, hfit⟩ := hr.resolve_left hneg2
  have HF1 := Lib.hid hfit
  clear hr hfit
  obtain ⟨R, hR⟩ : ∃ R, R = madeM s0 s1 xs2 := ⟨_, rfl⟩
  have HLEN := Lib.hid (show _ from madeM_len s0 s1 xs2)
  have HR := Lib.hid hR.symm
  rw [← hR] at HLEN
  clear hR
  go_wp2_with fail
  refine wp_region_held_drew (S := (fun w' => w'.cell? ⟨w.heap.size, 0, none⟩ = some (.int .i64 s0.sorts) ∧ w'.cell? ⟨w.heap.size, 1, none⟩ = some (.slice A0a s0.ops.length c0a) ∧ w'.cell? ⟨w.heap.size + 1, 0, none⟩ = some (.slice A1a s1.sizes.length c1a) ∧ w'.cell? ⟨w.heap.size + 1, 1, none⟩ = some (.slice A1b s1.tables.length c1b))) (by kernel_rfl) ?_ (fun hHeld => ?_)
  · exact ⟨fa0, fb0, fa1, fb1⟩
  refine wpAnyH_take (i := 0) (oi := _) (v := ?_) rfl (by kernel_rfl) (by kernel_rfl) (by kernel_rfl) (fun _ _ _ h => h) (Or.inl ⟨by rfl, ?_⟩) (by assumption) ?_
  rotate_left
  · first | (intro w' hSw; (try dsimp only at hSw); go_simp; done) | (intro w' hSw; (try dsimp only at hSw); go_simp; with_reducible rfl)
  try simp only [Act.put, List.getElem_toArray, List.getElem_cons_zero, List.getElem_cons_succ, List.setIfInBounds_toArray, List.set_cons_zero, List.set_cons_succ]
  refine wpAnyH_take (i := 2) (oi := _) (v := ?_) rfl (by kernel_rfl) (by kernel_rfl) (by kernel_rfl) (fun _ _ _ h => h) (Or.inl ⟨by rfl, ?_⟩) (by assumption) ?_
  rotate_left
  · first | (intro w' hSw; (try dsimp only at hSw); go_simp; done) | (intro w' hSw; (try dsimp only at hSw); go_simp; with_reducible rfl)
  try simp only [Act.put, List.getElem_toArray, List.getElem_cons_zero, List.getElem_cons_succ, List.setIfInBounds_toArray, List.set_cons_zero, List.set_cons_succ]
  refine wpAnyH_take (i := 4) (oi := _) (v := ?_) rfl (by kernel_rfl) (by kernel_rfl) (by kernel_rfl) (fun _ _ _ h => h) (Or.inl ⟨by rfl, ?_⟩) (by assumption) ?_
  rotate_left
  · first | (intro w' hSw; (try dsimp only at hSw); go_simp; done) | (intro w' hSw; (try dsimp only at hSw); go_simp; with_reducible rfl)
  try simp only [Act.put, List.getElem_toArray, List.getElem_cons_zero, List.getElem_cons_succ, List.setIfInBounds_toArray, List.set_cons_zero, List.set_cons_succ]
  refine wpAnyH_ready (rs := [1]) (by kernel_rfl) (by simp) ?_
  refine AllReadyH.cons (o := _) rfl (fun K hK => ?_) AllReadyH.nil
  go_simp
  refine (toSig_any _ s0 _ (HW0.out.keep (ex_drew HB.out)) HF0.out).mono ?_
  rintro e w3 ⟨y0, rfl, ho, hb⟩
  replace hb := ex_undrew hb
  replace fa0 := cell_keep hb fa0
  replace fb0 := cell_keep hb fb0
  replace fa1 := cell_keep hb fa1
  replace fb1 := cell_keep hb fb1
  replace HB := Lib.hid (ex_keep HB.out hb)
  clear hb
  have P0 := Lib.hid ho.reads
  obtain ⟨AY0a, cY0a, rfl⟩ := ho.reads.form
  clear ho
  go_wp2_with fail
  refine hK.out _ _ ?_ (fun hHeld => ?_)
  · exact ⟨fa0, fb0, fa1, fb1⟩
  clear hK K
  try simp only [Act.put, List.getElem_toArray, List.getElem_cons_zero, List.getElem_cons_succ, List.setIfInBounds_toArray, List.set_cons_zero, List.set_cons_succ]
  refine wpAnyH_ready (rs := [3]) (by kernel_rfl) (by simp) ?_
  refine AllReadyH.cons (o := _) rfl (fun K hK => ?_) AllReadyH.nil
  go_simp
  refine (toModel_any _ s1 _ (HW1.out.keep HB.out) HF1.out).mono ?_
  rintro e w4 ⟨y1, rfl, ho, hb⟩
  replace fa0 := cell_keep hb fa0
  replace fb0 := cell_keep hb fb0
  replace fa1 := cell_keep hb fa1
  replace fb1 := cell_keep hb fb1
  replace P0 := Lib.hid (P0.out.keep hb)
  replace HB := Lib.hid (ex_keep HB.out hb)
  clear hb
  have P1 := Lib.hid ho.reads
  obtain ⟨AY1a, cY1a, AY1b, cY1b, rfl⟩ := ho.reads.form
  clear ho
  go_wp2_with fail
  refine hK.out _ _ ?_ (fun hHeld => ?_)
  · exact ⟨fa0, fb0, fa1, fb1⟩
  clear hK K
  try simp only [Act.put, List.getElem_toArray, List.getElem_cons_zero, List.getElem_cons_succ, List.setIfInBounds_toArray, List.set_cons_zero, List.set_cons_succ]
  refine wpAnyH_ready (rs := [5]) (by kernel_rfl) (by simp) ?_
  refine AllReadyH.cons (o := _) rfl (fun K hK => ?_) AllReadyH.nil
  go_simp
  refine (toIntS_any _ xs2 _ (HW2.out.keep HB.out) (by omega)).mono ?_
  rintro e w5 ⟨y2, rfl, ho, hb⟩
  replace fa0 := cell_keep hb fa0
  replace fb0 := cell_keep hb fb0
  replace fa1 := cell_keep hb fa1
  replace fb1 := cell_keep hb fb1
  replace P0 := Lib.hid (P0.out.keep hb)
  replace P1 := Lib.hid (P1.out.keep hb)
  replace HB := Lib.hid (ex_keep HB.out hb)
  clear hb
  have P2 := Lib.hid ho.reads
  obtain ⟨AY2, cY2, rfl, -⟩ := ho.reads.form
  clear ho
  go_wp2_with fail
  refine hK.out _ _ ?_ (fun hHeld => ?_)
  · exact ⟨fa0, fb0, fa1, fb1⟩
  clear hK K
  try simp only [Act.put, List.getElem_toArray, List.getElem_cons_zero, List.getElem_cons_succ, List.setIfInBounds_toArray, List.set_cons_zero, List.set_cons_succ]
  refine wpAnyH_ready (rs := [6]) (by kernel_rfl) (by simp) ?_
  refine AllReadyH.cons (o := _) rfl (fun K hK => ?_) AllReadyH.nil
  go_simp
  refine (specMadeOf_any s0 s1 xs2 _ _ _ _ P0.out P1.out P2.out).mono ?_
  rw [HR.out]
  rintro e w6 ⟨z0, rfl, hoz, hb⟩
  have HZ := Lib.hid hoz
  obtain ⟨Az, cz, rfl, -⟩ := hoz.reads.form
  clear hoz
  replace fa0 := cell_keep hb fa0
  replace fb0 := cell_keep hb fb0
  replace fa1 := cell_keep hb fa1
  replace fb1 := cell_keep hb fb1
  replace HB := Lib.hid (ex_keep HB.out hb)
  clear hb
  go_wp2_with fail
  refine hK.out _ _ ?_ (fun hHeld => ?_)
  · exact ⟨fa0, fb0, fa1, fb1⟩
  clear hK K
  try simp only [Act.put, List.getElem_toArray, List.getElem_cons_zero, List.getElem_cons_succ, List.setIfInBounds_toArray, List.set_cons_zero, List.set_cons_succ]
  refine wpAnyH_take (i := 7) (oi := _) (v := ?_) rfl (by kernel_rfl) (by kernel_rfl) (by kernel_rfl) (fun _ _ _ h => h) (Or.inl ⟨by rfl, ?_⟩) (by assumption) ?_
  rotate_left
  · first | (intro w' hSw; (try dsimp only at hSw); go_simp; done) | (intro w' hSw; (try dsimp only at hSw); go_simp; with_reducible rfl)
  try simp only [Act.put, List.getElem_toArray, List.getElem_cons_zero, List.getElem_cons_succ, List.setIfInBounds_toArray, List.set_cons_zero, List.set_cons_succ]
  refine wpAnyH_done (by kernel_rfl) ?_ _
  clear P0 P1 P2
  have HC := Lib.hid (And.intro fa0 (And.intro fb0 (And.intro fa1 (fb1))))
  have HBs : Hid (Below w6.heap.size w6 w6) := Below.refl _ _
  clear fa0 fb0 fa1 fb1
  have fa0 := cell_keep HBs.out HC.out.1
  have fb0 := cell_keep HBs.out HC.out.2.1
  have fa1 := cell_keep HBs.out HC.out.2.2.1
  have fb1 := cell_keep HBs.out HC.out.2.2.2
  go_wp2_with fail
  refine (toSig_any _ s0 _ (HW0.out.keep (ex_keep HB.out HBs.out)) HF0.out).mono ?_
  rintro e w7 ⟨y0, rfl, ho, hb⟩
  obtain ⟨AX0a, cX0a, rfl⟩ := ho.reads.form
  have hb2 := below_alloc w7 (.cells #[.int .i64 s0.sorts, .slice AX0a s0.ops.length cX0a] 32)
  have HX0 := Lib.hid (show OSig (w7.alloc (.cells #[.int .i64 s0.sorts, .slice AX0a s0.ops.length cX0a] 32)) w6.heap.size (.agg #[.int .i64 s0.sorts, .slice AX0a s0.ops.length cX0a]) s0 from ho.keep hb2)
  have HCX0 := Lib.hid (bx_cells w7 (.int .i64 s0.sorts) (.slice AX0a s0.ops.length cX0a) 32)
  have hy0 := hb.size
  replace hb := hb.trans (hb2.mono hb.size)
  have hs0 := hb.size
  generalize hWw8 : w7.alloc (.cells #[.int .i64 s0.sorts, .slice AX0a s0.ops.length cX0a] 32) = w8 at HX0 HCX0 hb hs0
  clear hb2 ho
  replace HBs := Lib.hid (ex_keep HBs.out hb)
  clear hb
  have HK0 : Hid (Keeps w6.heap.size w8 w8) := Keeps.refl _ _
  have z0 : w8.heap.size ≤ w8.heap.size := Nat.le_refl _
  clear fa0 fb0 fa1 fb1
  have fa0 := cell_keep HBs.out HC.out.1
  have fb0 := cell_keep HBs.out HC.out.2.1
  have fa1 := cell_keep HBs.out HC.out.2.2.1
  have fb1 := cell_keep HBs.out HC.out.2.2.2
  go_wp2_with fail
  clear hWw8
  refine (toModel_any _ s1 _ (HW1.out.keep (ex_keep HB.out HBs.out)) HF1.out).mono ?_
  rintro e w9 ⟨y1, rfl, ho, hb⟩
  obtain ⟨AX1a, cX1a, AX1b, cX1b, rfl⟩ := ho.reads.form
  have hb2 := below_alloc w9 (.cells #[.slice AX1a s1.sizes.length cX1a, .slice AX1b s1.tables.length cX1b] 34)
  have HX1 := Lib.hid (show OModel (w9.alloc (.cells #[.slice AX1a s1.sizes.length cX1a, .slice AX1b s1.tables.length cX1b] 34)) w8.heap.size (.agg #[.slice AX1a s1.sizes.length cX1a, .slice AX1b s1.tables.length cX1b]) s1 from ho.keep hb2)
  have HCX1 := Lib.hid (bx_cells w9 (.slice AX1a s1.sizes.length cX1a) (.slice AX1b s1.tables.length cX1b) 34)
  have hy1 := hb.size
  replace hb := hb.trans (hb2.mono hb.size)
  have hs1 := hb.size
  generalize hWw10 : w9.alloc (.cells #[.slice AX1a s1.sizes.length cX1a, .slice AX1b s1.tables.length cX1b] 34) = w10 at HX1 HCX1 hb hs1
  clear hb2 ho
  replace HK0 := Lib.hid (HK0.out.below z0 hb)
  replace z0 : w8.heap.size ≤ w10.heap.size := Nat.le_trans z0 hb.size
  replace HBs := Lib.hid (ex_keep HBs.out hb)
  clear hb
  have HK1 : Hid (Keeps w8.heap.size w10 w10) := Keeps.refl _ _
  have z1 : w10.heap.size ≤ w10.heap.size := Nat.le_refl _
  clear fa0 fb0 fa1 fb1
  go_wp2_with fail
  clear hWw10
  refine (toIntS_any _ xs2 _ (HW2.out.keep (ex_keep HB.out HBs.out)) (by omega)).mono ?_
  rintro e w11 ⟨y2, rfl, ho, hb⟩
  have HX2 := Lib.hid ho
  obtain ⟨AX2, cX2, rfl, -⟩ := ho.reads.form
  have hs2 := hb.size
  clear ho
  replace HK0 := Lib.hid (HK0.out.below z0 hb)
  replace z0 : w8.heap.size ≤ w11.heap.size := Nat.le_trans z0 hb.size
  replace HK1 := Lib.hid (HK1.out.below z1 hb)
  replace z1 : w10.heap.size ≤ w11.heap.size := Nat.le_trans z1 hb.size
  replace HBs := Lib.hid (ex_keep HBs.out hb)
  clear hb
  have HK2 : Hid (Keeps w10.heap.size w11 w11) := Keeps.refl _ _
  have z2 : w11.heap.size ≤ w11.heap.size := Nat.le_refl _
  have l0a := HK0.out.cell (by omega) HCX0.out.1
  have l0b := HK0.out.cell (by omega) HCX0.out.2
  have l1a := HK1.out.cell (by omega) HCX1.out.1
  have l1b := HK1.out.cell (by omega) HCX1.out.2
  go_wp2_with fail
  refine (madeOf_any s0 s1 xs2 _ _ _ _ (HX0.out.same HK0.out).reads (HX1.out.same HK1.out).reads (HX2.out.same HK2.out).reads).mono ?_
  rw [HR.out]
  rintro e w12 ⟨g0, rfl, hog, hb⟩
  have HG := Lib.hid hog
  obtain ⟨Ag, cg, rfl, -⟩ := hog.reads.form
  have hsg := hb.size
  clear hog
  clear l0a l0b l1a l1b
  replace HK0 := Lib.hid (HK0.out.below z0 hb)
  replace z0 : w8.heap.size ≤ w12.heap.size := Nat.le_trans z0 hb.size
  replace HK1 := Lib.hid (HK1.out.below z1 hb)
  replace z1 : w10.heap.size ≤ w12.heap.size := Nat.le_trans z1 hb.size
  replace HK2 := Lib.hid (HK2.out.below z2 hb)
  replace z2 : w11.heap.size ≤ w12.heap.size := Nat.le_trans z2 hb.size
  replace HBs := Lib.hid (ex_keep HBs.out hb)
  clear hb
  have HKg : Hid (Keeps w11.heap.size w12 w12) := Keeps.refl _ _
  have zg : w12.heap.size ≤ w12.heap.size := Nat.le_refl _
  go_wp2_with fail
  refine (eqIntS_is _ _ R R _ true (sameI_self _) (HG.out.same HKg.out).reads (HZ.out.keep HBs.out).reads).mono ?_
  rintro e w13 ⟨rfl, hd⟩
  have hb := hd.below
  clear hd
  replace HK0 := Lib.hid (HK0.out.below z0 hb)
  replace z0 : w8.heap.size ≤ w13.heap.size := Nat.le_trans z0 hb.size
  replace HK1 := Lib.hid (HK1.out.below z1 hb)
  replace z1 : w10.heap.size ≤ w13.heap.size := Nat.le_trans z1 hb.size
  replace HK2 := Lib.hid (HK2.out.below z2 hb)
  replace z2 : w11.heap.size ≤ w13.heap.size := Nat.le_trans z2 hb.size
  replace HKg := Lib.hid (HKg.out.below zg hb)
  replace zg : w12.heap.size ≤ w13.heap.size := Nat.le_trans zg hb.size
  replace HBs := Lib.hid (ex_keep HBs.out hb)
  clear hb
  have fa0 := cell_keep HBs.out HC.out.1
  have fb0 := cell_keep HBs.out HC.out.2.1
  have fa1 := cell_keep HBs.out HC.out.2.2.1
  have fb1 := cell_keep HBs.out HC.out.2.2.2
  have l0a := HK0.out.cell (by omega) HCX0.out.1
  have l0b := HK0.out.cell (by omega) HCX0.out.2
  have l1a := HK1.out.cell (by omega) HCX1.out.1
  have l1b := HK1.out.cell (by omega) HCX1.out.2
  have HSW0 := Lib.hid (HW0.out.keep (ex_keep HB.out HBs.out))
  have HXR0 := Lib.hid (HX0.out.same HK0.out).reads
  go_wp2_with fail
  have ea := World.new_ne w13 _ fa0
  have eb := World.new_ne w13 _ l0a
  go_region_held3 (fun w' => w'.cell? ⟨w.heap.size, 0, none⟩ = some (.int .i64 s0.sorts) ∧ w'.cell? ⟨w.heap.size, 1, none⟩ = some (.slice A0a s0.ops.length c0a) ∧ w'.cell? ⟨w7.heap.size, 0, none⟩ = some (.int .i64 s0.sorts) ∧ w'.cell? ⟨w7.heap.size, 1, none⟩ = some (.slice AX0a s0.ops.length cX0a))
    (first | go_keep)
    (first
      | (go_at_call 13; refine (toSig_any _ s0 w13.drew HSW0.out HF0.out).mono ?_; rintro e w14 ⟨yj, rfl, hoj, hbj⟩; have HOj := Lib.hid hoj; have HBj := Lib.hid (show Below w13.heap.size w13 w14 from below_undrew hbj); have o0 := cell_keep HBj.out fa0; have o1 := cell_keep HBj.out fb0; have o2 := cell_keep HBj.out l0a; have o3 := cell_keep HBj.out l0b; clear hoj hbj)
      | (go_at_call 17; refine (eqSig_is _ _ s0 s0 _ true (sameS_self _) (HXR0.out.keep HBj.out) HOj.out.reads).mono ?_; rintro e w15 ⟨rfl, hbk⟩; have HBk := Lib.hid (ex_keep HBj.out hbk); have q0 := cell_keep hbk o0; have q1 := cell_keep hbk o1; have q2 := cell_keep hbk o2; have q3 := cell_keep hbk o3; clear hbk))
  have hb := HBk.out
  clear fa0 fb0 fa1 fb1 l0a l0b l1a l1b o0 q0 o1 q1 o2 q2 o3 q3 ea eb HBj HBk HOj HSW0 HXR0
  replace HK0 := Lib.hid (HK0.out.below z0 hb)
  replace z0 : w8.heap.size ≤ w15.heap.size := Nat.le_trans z0 hb.size
  replace HK1 := Lib.hid (HK1.out.below z1 hb)
  replace z1 : w10.heap.size ≤ w15.heap.size := Nat.le_trans z1 hb.size
  replace HK2 := Lib.hid (HK2.out.below z2 hb)
  replace z2 : w11.heap.size ≤ w15.heap.size := Nat.le_trans z2 hb.size
  replace HKg := Lib.hid (HKg.out.below zg hb)
  replace zg : w12.heap.size ≤ w15.heap.size := Nat.le_trans zg hb.size
  replace HBs := Lib.hid (ex_keep HBs.out hb)
  clear hb
  have fa0 := cell_keep HBs.out HC.out.1
  have fb0 := cell_keep HBs.out HC.out.2.1
  have fa1 := cell_keep HBs.out HC.out.2.2.1
  have fb1 := cell_keep HBs.out HC.out.2.2.2
  have l0a := HK0.out.cell (by omega) HCX0.out.1
  have l0b := HK0.out.cell (by omega) HCX0.out.2
  have l1a := HK1.out.cell (by omega) HCX1.out.1
  have l1b := HK1.out.cell (by omega) HCX1.out.2
  have HSW1 := Lib.hid (HW1.out.keep (ex_keep HB.out HBs.out))
  have HXR1 := Lib.hid (HX1.out.same HK1.out).reads
  go_wp2_with fail
  have ea := World.new_ne w15 _ fa1
  have eb := World.new_ne w15 _ l1a
  go_region_held3 (fun w' => w'.cell? ⟨w.heap.size + 1, 0, none⟩ = some (.slice A1a s1.sizes.length c1a) ∧ w'.cell? ⟨w.heap.size + 1, 1, none⟩ = some (.slice A1b s1.tables.length c1b) ∧ w'.cell? ⟨w9.heap.size, 0, none⟩ = some (.slice AX1a s1.sizes.length cX1a) ∧ w'.cell? ⟨w9.heap.size, 1, none⟩ = some (.slice AX1b s1.tables.length cX1b))
    (first | go_keep)
    (first
      | (go_at_call 14; refine (toModel_any _ s1 w15.drew HSW1.out HF1.out).mono ?_; rintro e w16 ⟨yj, rfl, hoj, hbj⟩; have HOj := Lib.hid hoj; have HBj := Lib.hid (show Below w15.heap.size w15 w16 from below_undrew hbj); have o0 := cell_keep HBj.out fa1; have o1 := cell_keep HBj.out fb1; have o2 := cell_keep HBj.out l1a; have o3 := cell_keep HBj.out l1b; clear hoj hbj)
      | (go_at_call 18; refine (eqModel_is _ _ s1 s1 _ true (sameMd_self _) (HXR1.out.keep HBj.out) HOj.out.reads).mono ?_; rintro e w17 ⟨rfl, hbk⟩; have HBk := Lib.hid (ex_keep HBj.out hbk); have q0 := cell_keep hbk o0; have q1 := cell_keep hbk o1; have q2 := cell_keep hbk o2; have q3 := cell_keep hbk o3; clear hbk))
  have hb := HBk.out
  clear fa0 fb0 fa1 fb1 l0a l0b l1a l1b o0 q0 o1 q1 o2 q2 o3 q3 ea eb HBj HBk HOj HSW1 HXR1
  replace HK0 := Lib.hid (HK0.out.below z0 hb)
  replace z0 : w8.heap.size ≤ w17.heap.size := Nat.le_trans z0 hb.size
  replace HK1 := Lib.hid (HK1.out.below z1 hb)
  replace z1 : w10.heap.size ≤ w17.heap.size := Nat.le_trans z1 hb.size
  replace HK2 := Lib.hid (HK2.out.below z2 hb)
  replace z2 : w11.heap.size ≤ w17.heap.size := Nat.le_trans z2 hb.size
  replace HKg := Lib.hid (HKg.out.below zg hb)
  replace zg : w12.heap.size ≤ w17.heap.size := Nat.le_trans zg hb.size
  replace HBs := Lib.hid (ex_keep HBs.out hb)
  clear hb
  go_wp2_with fail
  refine (toIntS_any _ xs2 _ (HW2.out.keep (ex_keep HB.out HBs.out)) (by omega)).mono ?_
  rintro e w18 ⟨yj, rfl, ho, hb⟩
  have PJ := Lib.hid ho.reads
  clear ho
  replace HK0 := Lib.hid (HK0.out.below z0 hb)
  replace z0 : w8.heap.size ≤ w18.heap.size := Nat.le_trans z0 hb.size
  replace HK1 := Lib.hid (HK1.out.below z1 hb)
  replace z1 : w10.heap.size ≤ w18.heap.size := Nat.le_trans z1 hb.size
  replace HK2 := Lib.hid (HK2.out.below z2 hb)
  replace z2 : w11.heap.size ≤ w18.heap.size := Nat.le_trans z2 hb.size
  replace HKg := Lib.hid (HKg.out.below zg hb)
  replace zg : w12.heap.size ≤ w18.heap.size := Nat.le_trans zg hb.size
  replace HBs := Lib.hid (ex_keep HBs.out hb)
  clear hb
  go_wp2_with fail
  refine (eqIntS_is _ _ xs2 xs2 _ true (sameI_self _) (HX2.out.same HK2.out).reads PJ.out).mono ?_
  rintro e w19 ⟨rfl, hd⟩
  have hb := hd.below
  clear hd PJ
  replace HK0 := Lib.hid (HK0.out.below z0 hb)
  replace z0 : w8.heap.size ≤ w19.heap.size := Nat.le_trans z0 hb.size
  replace HK1 := Lib.hid (HK1.out.below z1 hb)
  replace z1 : w10.heap.size ≤ w19.heap.size := Nat.le_trans z1 hb.size
  replace HK2 := Lib.hid (HK2.out.below z2 hb)
  replace z2 : w11.heap.size ≤ w19.heap.size := Nat.le_trans z2 hb.size
  replace HKg := Lib.hid (HKg.out.below zg hb)
  replace zg : w12.heap.size ≤ w19.heap.size := Nat.le_trans zg hb.size
  replace HBs := Lib.hid (ex_keep HBs.out hb)
  clear hb
  have l0a := HK0.out.cell (by omega) HCX0.out.1
  have l0b := HK0.out.cell (by omega) HCX0.out.2
  go_wp2_with fail
  refine (markSig_go _ _ s0 _ w8 _ HX0.out HK0.out z0 HF0.out (by omega) (by omega)).mono ?_
  rintro e w20 ⟨k0, rfl, hka0, hkb0, wa, hb, hout⟩
  have hzo := hout.size
  replace HK1 := Lib.hid ((HK1.out.below z1 hb).outside hout (by omega))
  replace z1 : w10.heap.size ≤ w20.heap.size := by have := hb.size; omega
  replace HK2 := Lib.hid ((HK2.out.below z2 hb).outside hout (by omega))
  replace z2 : w11.heap.size ≤ w20.heap.size := by have := hb.size; omega
  replace HKg := Lib.hid ((HKg.out.below zg hb).outside hout (by omega))
  replace zg : w12.heap.size ≤ w20.heap.size := by have := hb.size; omega
  replace HBs := Lib.hid ((ex_keep HBs.out hb).trans (hout.below.mono (by omega)))
  clear hb hout hzo HK0 z0 HX0 l0a l0b
  have l1a := HK1.out.cell (by omega) HCX1.out.1
  have l1b := HK1.out.cell (by omega) HCX1.out.2
  go_wp2_with fail
  refine (markModel_go _ _ s1 _ w10 _ HX1.out HK1.out z1 HF1.out (by omega) (by omega)).mono ?_
  rintro e w21 ⟨k1, rfl, hka1, hkb1, wa, hb, hout⟩
  have hzo := hout.size
  replace HK2 := Lib.hid ((HK2.out.below z2 hb).outside hout (by omega))
  replace z2 : w11.heap.size ≤ w21.heap.size := by have := hb.size; omega
  replace HKg := Lib.hid ((HKg.out.below zg hb).outside hout (by omega))
  replace zg : w12.heap.size ≤ w21.heap.size := by have := hb.size; omega
  replace HBs := Lib.hid ((ex_keep HBs.out hb).trans (hout.below.mono (by omega)))
  clear hb hout hzo HK1 z1 HX1 l1a l1b
  go_wp2_with fail
  refine (markIntS_go _ _ xs2 _ w11 _ HX2.out HK2.out z2 (by omega) (by omega) (by omega)).mono ?_
  rintro e w22 ⟨k2, rfl, hka2, hkb2, wa, hb, hout⟩
  have hzo := hout.size
  replace HKg := Lib.hid ((HKg.out.below zg hb).outside hout (by omega))
  replace zg : w12.heap.size ≤ w22.heap.size := by have := hb.size; omega
  replace HBs := Lib.hid ((ex_keep HBs.out hb).trans (hout.below.mono (by omega)))
  clear hb hout hzo HK2 z2 HX2
  go_wp2_with fail
  refine (eqIntS_is _ _ R R _ true (sameI_self _) (HG.out.same HKg.out).reads (HZ.out.keep HBs.out).reads).mono ?_
  rintro e w23 ⟨rfl, hd⟩
  have hb := hd.below
  clear hd
  replace HKg := Lib.hid (HKg.out.below zg hb)
  replace zg : w12.heap.size ≤ w23.heap.size := Nat.le_trans zg hb.size
  replace HBs := Lib.hid (ex_keep HBs.out hb)
  clear hb
  go_wp2_with fail
  refine (markIntS_g _ _ R w12 _ HG.out HKg.out zg HLEN.out).mono ?_
  rintro e w24 ⟨K, rfl, hK0, hheld, wa, hb, hout⟩
  have HH := Lib.hid hheld
  have hzo := hout.size
  replace HBs := Lib.hid ((ex_keep HBs.out hb).trans (hout.below.mono (by omega)))
  clear hb hout hzo hheld HKg zg HG
  have HKh : Hid (Keeps w11.heap.size w24 w24) := Keeps.refl _ _
  have zh : w24.heap.size ≤ w24.heap.size := Nat.le_refl _
  have ek : (K != K) = false := by simp
  go_wp2_with fail
  refine (HH.out _ HKh.out).mono ?_
  rintro e w25 ⟨rfl, hb⟩
  replace HKh := Lib.hid (HKh.out.below zh hb)
  replace zh : w24.heap.size ≤ w25.heap.size := Nat.le_trans zh hb.size
  replace HBs := Lib.hid (ex_keep HBs.out hb)
  clear hb
  have fa0 := cell_keep HBs.out HC.out.1
  have fb0 := cell_keep HBs.out HC.out.2.1
  have fa1 := cell_keep HBs.out HC.out.2.2.1
  have fb1 := cell_keep HBs.out HC.out.2.2.2
  go_wp2_with fail
  refine wp_region_held_drew (S := (fun w' => w'.cell? ⟨w.heap.size, 0, none⟩ = some (.int .i64 s0.sorts) ∧ w'.cell? ⟨w.heap.size, 1, none⟩ = some (.slice A0a s0.ops.length c0a) ∧ w'.cell? ⟨w.heap.size + 1, 0, none⟩ = some (.slice A1a s1.sizes.length c1a) ∧ w'.cell? ⟨w.heap.size + 1, 1, none⟩ = some (.slice A1b s1.tables.length c1b))) (by kernel_rfl) ?_ (fun hHeld => ?_)
  · exact ⟨fa0, fb0, fa1, fb1⟩
  refine wpAnyH_take (i := 0) (oi := _) (v := ?_) rfl (by kernel_rfl) (by kernel_rfl) (by kernel_rfl) (fun _ _ _ h => h) (Or.inl ⟨by rfl, ?_⟩) (by assumption) ?_
  rotate_left
  · first | (intro w' hSw; (try dsimp only at hSw); go_simp; done) | (intro w' hSw; (try dsimp only at hSw); go_simp; with_reducible rfl)
  try simp only [Act.put, List.getElem_toArray, List.getElem_cons_zero, List.getElem_cons_succ, List.setIfInBounds_toArray, List.set_cons_zero, List.set_cons_succ]
  refine wpAnyH_take (i := 2) (oi := _) (v := ?_) rfl (by kernel_rfl) (by kernel_rfl) (by kernel_rfl) (fun _ _ _ h => h) (Or.inl ⟨by rfl, ?_⟩) (by assumption) ?_
  rotate_left
  · first | (intro w' hSw; (try dsimp only at hSw); go_simp; done) | (intro w' hSw; (try dsimp only at hSw); go_simp; with_reducible rfl)
  try simp only [Act.put, List.getElem_toArray, List.getElem_cons_zero, List.getElem_cons_succ, List.setIfInBounds_toArray, List.set_cons_zero, List.set_cons_succ]
  refine wpAnyH_take (i := 4) (oi := _) (v := ?_) rfl (by kernel_rfl) (by kernel_rfl) (by kernel_rfl) (fun _ _ _ h => h) (Or.inl ⟨by rfl, ?_⟩) (by assumption) ?_
  rotate_left
  · first | (intro w' hSw; (try dsimp only at hSw); go_simp; done) | (intro w' hSw; (try dsimp only at hSw); go_simp; with_reducible rfl)
  try simp only [Act.put, List.getElem_toArray, List.getElem_cons_zero, List.getElem_cons_succ, List.setIfInBounds_toArray, List.set_cons_zero, List.set_cons_succ]
  refine wpAnyH_ready (rs := [1]) (by kernel_rfl) (by simp) ?_
  refine AllReadyH.cons (o := _) rfl (fun K hK => ?_) AllReadyH.nil
  go_simp
  refine (toSig_any _ s0 _ (HW0.out.keep (ex_drew (ex_keep HB.out HBs.out))) HF0.out).mono ?_
  rintro e w26 ⟨y0, rfl, ho, hb⟩
  replace hb := ex_undrew hb
  replace fa0 := cell_keep hb fa0
  replace fb0 := cell_keep hb fb0
  replace fa1 := cell_keep hb fa1
  replace fb1 := cell_keep hb fb1
  replace HKh := Lib.hid (HKh.out.below zh hb)
  replace zh : w24.heap.size ≤ w26.heap.size := Nat.le_trans zh hb.size
  replace HBs := Lib.hid (ex_keep HBs.out hb)
  clear hb
  have PP0 := Lib.hid ho.reads
  obtain ⟨AQ0a, cQ0a, rfl⟩ := ho.reads.form
  clear ho
  go_wp2_with fail
  refine hK.out _ _ ?_ (fun hHeld => ?_)
  · exact ⟨fa0, fb0, fa1, fb1⟩
  clear hK K
  try simp only [Act.put, List.getElem_toArray, List.getElem_cons_zero, List.getElem_cons_succ, List.setIfInBounds_toArray, List.set_cons_zero, List.set_cons_succ]
  refine wpAnyH_ready (rs := [3]) (by kernel_rfl) (by simp) ?_
  refine AllReadyH.cons (o := _) rfl (fun K hK => ?_) AllReadyH.nil
  go_simp
  refine (toModel_any _ s1 _ (HW1.out.keep (ex_keep HB.out HBs.out)) HF1.out).mono ?_
  rintro e w27 ⟨y1, rfl, ho, hb⟩
  replace fa0 := cell_keep hb fa0
  replace fb0 := cell_keep hb fb0
  replace fa1 := cell_keep hb fa1
  replace fb1 := cell_keep hb fb1
  replace PP0 := Lib.hid (PP0.out.keep hb)
  replace HKh := Lib.hid (HKh.out.below zh hb)
  replace zh : w24.heap.size ≤ w27.heap.size := Nat.le_trans zh hb.size
  replace HBs := Lib.hid (ex_keep HBs.out hb)
  clear hb
  have PP1 := Lib.hid ho.reads
  obtain ⟨AQ1a, cQ1a, AQ1b, cQ1b, rfl⟩ := ho.reads.form
  clear ho
  go_wp2_with fail
  refine hK.out _ _ ?_ (fun hHeld => ?_)
  · exact ⟨fa0, fb0, fa1, fb1⟩
  clear hK K
  try simp only [Act.put, List.getElem_toArray, List.getElem_cons_zero, List.getElem_cons_succ, List.setIfInBounds_toArray, List.set_cons_zero, List.set_cons_succ]
  refine wpAnyH_ready (rs := [5]) (by kernel_rfl) (by simp) ?_
  refine AllReadyH.cons (o := _) rfl (fun K hK => ?_) AllReadyH.nil
  go_simp
  refine (toIntS_any _ xs2 _ (HW2.out.keep (ex_keep HB.out HBs.out)) (by omega)).mono ?_
  rintro e w28 ⟨y2, rfl, ho, hb⟩
  replace fa0 := cell_keep hb fa0
  replace fb0 := cell_keep hb fb0
  replace fa1 := cell_keep hb fa1
  replace fb1 := cell_keep hb fb1
  replace PP0 := Lib.hid (PP0.out.keep hb)
  replace PP1 := Lib.hid (PP1.out.keep hb)
  replace HKh := Lib.hid (HKh.out.below zh hb)
  replace zh : w24.heap.size ≤ w28.heap.size := Nat.le_trans zh hb.size
  replace HBs := Lib.hid (ex_keep HBs.out hb)
  clear hb
  have PP2 := Lib.hid ho.reads
  obtain ⟨AQ2, cQ2, rfl, -⟩ := ho.reads.form
  clear ho
  go_wp2_with fail
  refine hK.out _ _ ?_ (fun hHeld => ?_)
  · exact ⟨fa0, fb0, fa1, fb1⟩
  clear hK K
  try simp only [Act.put, List.getElem_toArray, List.getElem_cons_zero, List.getElem_cons_succ, List.setIfInBounds_toArray, List.set_cons_zero, List.set_cons_succ]
  refine wpAnyH_ready (rs := [6]) (by kernel_rfl) (by simp) ?_
  refine AllReadyH.cons (o := _) rfl (fun K hK => ?_) AllReadyH.nil
  go_simp
  refine (madeOf_any s0 s1 xs2 _ _ _ _ PP0.out PP1.out PP2.out).mono ?_
  rw [HR.out]
  rintro e w29 ⟨g1, rfl, hog, hb⟩
  obtain ⟨Ah, ch, rfl, -⟩ := hog.reads.form
  have HG1 := Lib.hid hog.reads
  clear hog PP0 PP1 PP2
  replace fa0 := cell_keep hb fa0
  replace fb0 := cell_keep hb fb0
  replace fa1 := cell_keep hb fa1
  replace fb1 := cell_keep hb fb1
  replace HKh := Lib.hid (HKh.out.below zh hb)
  replace zh : w24.heap.size ≤ w29.heap.size := Nat.le_trans zh hb.size
  replace HBs := Lib.hid (ex_keep HBs.out hb)
  clear hb
  go_wp2_with fail
  refine hK.out _ _ ?_ (fun hHeld => ?_)
  · exact ⟨fa0, fb0, fa1, fb1⟩
  clear hK K
  try simp only [Act.put, List.getElem_toArray, List.getElem_cons_zero, List.getElem_cons_succ, List.setIfInBounds_toArray, List.set_cons_zero, List.set_cons_succ]
  refine wpAnyH_take (i := 7) (oi := _) (v := ?_) rfl (by kernel_rfl) (by kernel_rfl) (by kernel_rfl) (fun _ _ _ h => h) (Or.inl ⟨by rfl, ?_⟩) (by assumption) ?_
  rotate_left
  · first | (intro w' hSw; (try dsimp only at hSw); go_simp; done) | (intro w' hSw; (try dsimp only at hSw); go_simp; with_reducible rfl)
  try simp only [Act.put, List.getElem_toArray, List.getElem_cons_zero, List.getElem_cons_succ, List.setIfInBounds_toArray, List.set_cons_zero, List.set_cons_succ]
  refine wpAnyH_done (by kernel_rfl) ?_ _
  clear fa0 fb0 fa1 fb1
  go_wp2_with fail
  refine (eqIntS_is _ _ R R _ true (sameI_self _) HG1.out (HZ.out.keep HBs.out).reads).mono ?_
  rintro e w30 ⟨rfl, hd⟩
  have hb := hd.below
  clear hd
  replace HKh := Lib.hid (HKh.out.below zh hb)
  replace zh : w24.heap.size ≤ w30.heap.size := Nat.le_trans zh hb.size
  replace HBs := Lib.hid (ex_keep HBs.out hb)
  clear hb
  clear HG1
  go_wp2_with fail
  refine (HH.out _ HKh.out).mono ?_
  rintro e w31 ⟨rfl, hb⟩
  replace HKh := Lib.hid (HKh.out.below zh hb)
  replace zh : w24.heap.size ≤ w31.heap.size := Nat.le_trans zh hb.size
  replace HBs := Lib.hid (ex_keep HBs.out hb)
  clear hb
  go_wp2
  go_ret
  exact ⟨rfl, ex_keep HB.out HBs.out⟩

set_option maxRecDepth 100000 in
theorem lifted_FnExactMadeOf (os : Os) (started : os.Started) (H : Type) (enc : TypeId × Value → H) :
    ReturnsInHanded {} Try.checked os 6 .any (Rows.fnExactMadeOfSpec.pre6 enc Try.prog Try.f6 Rows.fnExactMadeOfRow.domain false) (Rows.fnExactMadeOfSpec.post enc Try.prog Try.f6 false true false false) := by
  refine returnsInHanded_of_change (C := Try.checked) own started (by kernel_rfl) Try.func6
    (ChangeSpec.witness6 (enc := enc) (C := Try.checked) false ⟨#[], #[.agg #[.int .i64 0, .slice none 0 0], .agg #[.slice none 0 0, .slice none 0 0], .slice none 0 0], []⟩ 8 (by kernel_rfl) (by kernel_rfl) (by kernel_rfl) (by kernel_rfl)) ?_
  intro W base args ds gs before hval0 hW hcnd _
  have hval : ∀ (j : Nat) t v, Try.f6.params[j]? = some t → args[j]? = some v → Value.okWide Try.prog W .any base t v := hval0
  have hW' := hW
  obtain ⟨p, q, hA0, hV, rfl, hfz, hnd⟩ := hW
  have hA : DataW.TrodAll enc Try.prog W 0 (fun _ => true) true Try.f6.params.toList args.toList ds p := hA0
  rw [Try.params6] at hA hval
  obtain ⟨v0, vs0, d0, ds0, p0, q0, hargs, rfl, rfl, h0, r0⟩ := trodAll_cons hA
  obtain ⟨v1, vs1, d1, ds1, p1, q1, rfl, rfl, rfl, h1, r1⟩ := trodAll_cons r0
  obtain ⟨v2, vs2, d2, ds2, p2, q2, rfl, rfl, rfl, h2, r2⟩ := trodAll_cons r1
  obtain ⟨rfl, rfl, rfl⟩ := trodAll_nil r2
  obtain rfl : args = #[v0, v1, v2] := by cases args; simp_all
  obtain ⟨rfl, rfl⟩ := trodVars_none hV
  have k0 := h0
  have lt0 : ∀ x ∈ p0, x.block < W.heap.size := by obtain ⟨m, hm⟩ := k0; exact DataW.trod_lt m _ _ _ hm
  obtain ⟨s0, w0⟩ : ∃ s, RSig W v0 s := sig_of (hval 0 24 v0 rfl rfl) h0
  have k1 := h1
  have lt1 : ∀ x ∈ p1, x.block < W.heap.size := by obtain ⟨m, hm⟩ := k1; exact DataW.trod_lt m _ _ _ hm
  obtain ⟨s1, w1⟩ : ∃ s, RModel W v1 s := model_of (hval 1 27 v1 rfl rfl) h1
  have k2 := h2
  have lt2 : ∀ x ∈ p2, x.block < W.heap.size := by obtain ⟨m, hm⟩ := k2; exact DataW.trod_lt m _ _ _ hm
  obtain ⟨s2, w2⟩ : ∃ xs, RInts W v2 xs ∧ Small xs := ints_of (hval 2 25 v2 rfl rfl) h2
  clear hA0 hval0
  refine (walk_FnExactMadeOf _ s0 _ s1 _ s2 W w0 w1 w2).mono fun e W' ⟨he, bel⟩ => ?_
  subst he
  exact ⟨_, rfl, _, _, _, [], _, [], hW', trodAll_mk1 (shut_bool Try.underlying4 _), (trodAll_cons_mk (Below.trod laidOut (by kernel_rfl) (of_decide_eq_true (by kernel_rfl)) k0 bel lt0) (trodAll_cons_mk (Below.trod laidOut (by kernel_rfl) (of_decide_eq_true (by kernel_rfl)) k1 bel lt1) (trodAll_cons_mk (Below.trod laidOut (by kernel_rfl) (of_decide_eq_true (by kernel_rfl)) k2 bel lt2) trodAll_mk0))), rfl, bel.frame _, fun h => by cases h⟩

theorem over_FnExactMadeOf : Rows.fnExactMadeOfRow.holds Try.pinned (OpenSpec.ofChange Rows.fnExactMadeOfSpec) :=
  OpenClaim.holds_of_wide 6 Try.f6 rfl rfl rfl rfl rfl rfl rfl ⟨rfl, rfl, rfl, rfl, rfl⟩ rfl rfl rfl rfl rfl (by kernel_rfl) Try.func6 (by kernel_rfl)
    (of_decide_eq_true (by kernel_rfl)) (by unfold Func.isWrapper; first | (rw [if_pos (by decide +kernel)]; kernel_rfl) | (rw [if_neg (by decide +kernel)]; exact ⟨rfl, rfl⟩))
    (fun os started H enc _ => lifted_FnExactMadeOf os started H enc)

theorem proved_FnExactMadeOf : Rows.FnExactMadeOfSaid := over_FnExactMadeOf
end Go.Proofs.Ytfomeommkfemkaa
