/- FnExactBenchNew answers true at every signature. No condition. -/
import Derived.Test.YtmmnamjgpfkababKcc9da9c9
namespace Go.Proofs.Ytmmnamjgpfkabab
open Go.ChangeShapes Go.WideShapes Go.ChangeAt Go.RowKit
set_option linter.unusedVariables false
set_option linter.unusedSimpArgs false

theorem benchNew_fits (s : MSig) : FitsBN (benchNewM s) := by
  unfold benchNewM
  split
  · rename_i h
    exact fits_valid h
  · exact ⟨by simp, by simp⟩

set_option maxHeartbeats 3200000 in
set_option maxRecDepth 100000 in
theorem walk_FnExactBenchNew (v0 : Value) (s0 : MSig) (w : World) (h0 : RSig w v0 s0) :
    Calls Try.prog 4 #[v0] w fun e w' => e = .returned (.bool true) ∧ Below w.heap.size w w' := by
  have HB : Hid (Below w.heap.size w w) := Below.refl _ _
  obtain ⟨A0a, c0a, rfl⟩ := h0.form
  have HW0 := Lib.hid h0
  have hb := below_alloc (w) (.cells #[.int .i64 s0.sorts, .slice A0a s0.ops.length c0a] 24)
  have fa0 := (bx_cells (w) (.int .i64 s0.sorts) (.slice A0a s0.ops.length c0a) 24).1
  have fb0 := (bx_cells (w) (.int .i64 s0.sorts) (.slice A0a s0.ops.length c0a) 24).2
  replace HB := Lib.hid (ex_keep HB.out hb)
  clear hb h0
  go_enter Try.func4, Try.ntmps4
  go_wp2_with fail
  refine (szSig_any _ s0 _ _ (HW0.out.keep HB.out) (by omega) (by omega)).mono ?_
  rintro e w1 ⟨r1, rfl, hr, hb⟩
  replace fa0 := cell_keep hb fa0
  replace fb0 := cell_keep hb fb0
  replace HB := Lib.hid (ex_keep HB.out hb)
  clear hb
  by_cases hneg1 : r1 < 0
  · clear hr
    go_wp2
    go_ret
    exact ⟨rfl, HB.out⟩
  obtain ⟨hp1, hq1, hfit⟩ := hr.resolve_left hneg1
  have HF0 := Lib.hid hfit
  clear hr hfit
  go_wp2_with fail
  refine (toSig_any _ s0 _ (HW0.out.keep HB.out) HF0.out).mono ?_
  rintro e w2 ⟨y0, rfl, ho, hb⟩
  replace fa0 := cell_keep hb fa0
  replace fb0 := cell_keep hb fb0
  replace HB := Lib.hid (ex_keep HB.out hb)
  clear hb
  have P0 := Lib.hid ho.reads
  clear ho
  obtain ⟨R, hR⟩ : ∃ R, R = benchNewM s0 := ⟨_, rfl⟩
  have HLEN := Lib.hid (show _ from benchNew_fits s0)
  rw [← hR] at HLEN
  have HR := Lib.hid hR.symm
  clear hR
  go_wp2_with fail
  refine (specBenchNew_any s0 _ _ P0.out).mono ?_
  rw [HR.out]
  rintro e w3 ⟨z0, rfl, ho0, hb⟩
  obtain ⟨Az0a, cz0a, Az0b, cz0b, Az0c, cz0c, rfl⟩ := ho0.reads.form
  have HZ0 := Lib.hid ho0
  clear ho0
  replace fa0 := cell_keep hb fa0
  replace fb0 := cell_keep hb fb0
  replace HB := Lib.hid (ex_keep HB.out hb)
  clear hb
  clear P0
  have hb := below_alloc w3 (.cells #[.int .i64 R.now.over.sorts, .slice Az0a R.now.over.ops.length cz0a, .slice Az0b R.now.eqs.length cz0b, .slice Az0c R.past.length cz0c] 39)
  have HCZ0 := Lib.hid (heap_alloc_new w3 (.cells #[.int .i64 R.now.over.sorts, .slice Az0a R.now.over.ops.length cz0a, .slice Az0b R.now.eqs.length cz0b, .slice Az0c R.past.length cz0c] 39))
  generalize hWw4 : w3.alloc (.cells #[.int .i64 R.now.over.sorts, .slice Az0a R.now.over.ops.length cz0a, .slice Az0b R.now.eqs.length cz0b, .slice Az0c R.past.length cz0c] 39) = w4 at hb HCZ0
  replace HZ0 := Lib.hid (HZ0.out.keep hb)
  replace fa0 := cell_keep hb fa0
  replace fb0 := cell_keep hb fb0
  replace HB := Lib.hid (ex_keep HB.out hb)
  clear hb
  have HC := Lib.hid (And.intro fa0 (fb0))
  have HBs : Hid (Below w4.heap.size w4 w4) := Below.refl _ _
  clear fa0 fb0
  have fa0 := cell_keep HBs.out HC.out.1
  have fb0 := cell_keep HBs.out HC.out.2
  go_wp2_with fail
  clear hWw4
  refine (toSig_any _ s0 _ (HW0.out.keep (ex_keep HB.out HBs.out)) HF0.out).mono ?_
  rintro e w5 ⟨y0, rfl, ho, hb⟩
  obtain ⟨AX0a, cX0a, rfl⟩ := ho.reads.form
  have hb2 := below_alloc w5 (.cells #[.int .i64 s0.sorts, .slice AX0a s0.ops.length cX0a] 33)
  have HX0 := Lib.hid (show OSig (w5.alloc (.cells #[.int .i64 s0.sorts, .slice AX0a s0.ops.length cX0a] 33)) w4.heap.size (.agg #[.int .i64 s0.sorts, .slice AX0a s0.ops.length cX0a]) s0 from ho.keep hb2)
  have HCX0 := Lib.hid (bx_cells w5 (.int .i64 s0.sorts) (.slice AX0a s0.ops.length cX0a) 33)
  have hy0 := hb.size
  replace hb := hb.trans (hb2.mono hb.size)
  have hs0 := hb.size
  generalize hWw6 : w5.alloc (.cells #[.int .i64 s0.sorts, .slice AX0a s0.ops.length cX0a] 33) = w6 at HX0 HCX0 hb hs0
  clear hb2 ho
  replace HBs := Lib.hid (ex_keep HBs.out hb)
  clear hb
  have HK0 : Hid (Keeps w4.heap.size w6 w6) := Keeps.refl _ _
  have z0 : w6.heap.size ≤ w6.heap.size := Nat.le_refl _
  clear fa0 fb0
  have l0a := HK0.out.cell (by omega) HCX0.out.1
  have l0b := HK0.out.cell (by omega) HCX0.out.2
  go_wp2_with fail
  clear hWw6
  refine (benchNew_any s0 _ _ (HX0.out.same HK0.out).reads).mono ?_
  rw [HR.out]
  rintro e w7 ⟨g0, rfl, ho0, hb⟩
  have hsg := hb.size
  obtain ⟨Ag0a, cg0a, Ag0b, cg0b, Ag0c, cg0c, rfl⟩ := ho0.reads.form
  have HG0 := Lib.hid ho0
  clear l0a l0b
  replace HK0 := Lib.hid (HK0.out.below z0 hb)
  replace z0 : w6.heap.size ≤ w7.heap.size := Nat.le_trans z0 hb.size
  replace HBs := Lib.hid (ex_keep HBs.out hb)
  clear hb
  have HKg0 : Hid (Keeps w6.heap.size w7 w7) := Keeps.refl _ _
  have zg0 : w7.heap.size ≤ w7.heap.size := Nat.le_refl _
  clear ho0
  have hb := below_alloc w7 (.cells #[.int .i64 R.now.over.sorts, .slice Ag0a R.now.over.ops.length cg0a, .slice Ag0b R.now.eqs.length cg0b, .slice Ag0c R.past.length cg0c] 39)
  have HCG0 := Lib.hid (bx4 w7 (.int .i64 R.now.over.sorts) (.slice Ag0a R.now.over.ops.length cg0a) (.slice Ag0b R.now.eqs.length cg0b) (.slice Ag0c R.past.length cg0c) 39)
  generalize hWw8 : w7.alloc (.cells #[.int .i64 R.now.over.sorts, .slice Ag0a R.now.over.ops.length cg0a, .slice Ag0b R.now.eqs.length cg0b, .slice Ag0c R.past.length cg0c] 39) = w8 at hb HCG0
  have hsG0 := hb.size
  replace HK0 := Lib.hid (HK0.out.below z0 hb)
  replace z0 : w6.heap.size ≤ w8.heap.size := Nat.le_trans z0 hb.size
  replace HKg0 := Lib.hid (HKg0.out.below zg0 hb)
  replace zg0 : w7.heap.size ≤ w8.heap.size := Nat.le_trans zg0 hb.size
  replace HBs := Lib.hid (ex_keep HBs.out hb)
  clear hb
  have HKG0 : Hid (Keeps w7.heap.size w8 w8) := Keeps.refl _ _
  have zG0 : w8.heap.size ≤ w8.heap.size := Nat.le_refl _
  have u0a := HKG0.out.cell (by omega) HCG0.out.1
  have u0b := HKG0.out.cell (by omega) HCG0.out.2.1
  have u0c := HKG0.out.cell (by omega) HCG0.out.2.2.1
  have u0d := HKG0.out.cell (by omega) HCG0.out.2.2.2
  have v0a := cell_keep HBs.out (blk_cell_at HCZ0.out (i := 0) (u := .int .i64 R.now.over.sorts) rfl)
  have v0b := cell_keep HBs.out (blk_cell_at HCZ0.out (i := 1) (u := .slice Az0a R.now.over.ops.length cz0a) rfl)
  have v0c := cell_keep HBs.out (blk_cell_at HCZ0.out (i := 2) (u := .slice Az0b R.now.eqs.length cz0b) rfl)
  have v0d := cell_keep HBs.out (blk_cell_at HCZ0.out (i := 3) (u := .slice Az0c R.past.length cz0c) rfl)
  go_wp2_with fail
  clear hWw8
  refine (eqBench_is _ _ R R _ true (sameB_self _) (HG0.out.same zg0 HKg0.out).reads (HZ0.out.keep HBs.out).reads).mono ?_
  rintro e w9 ⟨rfl, hb⟩
  clear u0a u0b u0c u0d v0a v0b v0c v0d
  replace HK0 := Lib.hid (HK0.out.below z0 hb)
  replace z0 : w6.heap.size ≤ w9.heap.size := Nat.le_trans z0 hb.size
  replace HKg0 := Lib.hid (HKg0.out.below zg0 hb)
  replace zg0 : w7.heap.size ≤ w9.heap.size := Nat.le_trans zg0 hb.size
  replace HKG0 := Lib.hid (HKG0.out.below zG0 hb)
  replace zG0 : w8.heap.size ≤ w9.heap.size := Nat.le_trans zG0 hb.size
  replace HBs := Lib.hid (ex_keep HBs.out hb)
  clear hb
  have fa0 := cell_keep HBs.out HC.out.1
  have fb0 := cell_keep HBs.out HC.out.2
  have l0a := HK0.out.cell (by omega) HCX0.out.1
  have l0b := HK0.out.cell (by omega) HCX0.out.2
  have HSW0 := Lib.hid (HW0.out.keep (ex_keep HB.out HBs.out))
  have HXR0 := Lib.hid (HX0.out.same HK0.out).reads
  go_wp2_with fail
  have ea := World.new_ne w9 _ fa0
  have eb := World.new_ne w9 _ l0a
  go_region_held3 (fun w' => w'.cell? ⟨w.heap.size, 0, none⟩ = some (.int .i64 s0.sorts) ∧ w'.cell? ⟨w.heap.size, 1, none⟩ = some (.slice A0a s0.ops.length c0a) ∧ w'.cell? ⟨w5.heap.size, 0, none⟩ = some (.int .i64 s0.sorts) ∧ w'.cell? ⟨w5.heap.size, 1, none⟩ = some (.slice AX0a s0.ops.length cX0a))
    (first | go_keep)
    (first
      | (go_at_call 14; refine (toSig_any _ s0 w9.drew HSW0.out HF0.out).mono ?_; rintro e w10 ⟨yj, rfl, hoj, hbj⟩; have HOj := Lib.hid hoj; have HBj := Lib.hid (show Below w9.heap.size w9 w10 from below_undrew hbj); have o0 := cell_keep HBj.out fa0; have o1 := cell_keep HBj.out fb0; have o2 := cell_keep HBj.out l0a; have o3 := cell_keep HBj.out l0b; clear hoj hbj)
      | (go_at_call 16; refine (eqSig_is _ _ s0 s0 _ true (sameS_self _) (HXR0.out.keep HBj.out) HOj.out.reads).mono ?_; rintro e w11 ⟨rfl, hbk⟩; have HBk := Lib.hid (ex_keep HBj.out hbk); have q0 := cell_keep hbk o0; have q1 := cell_keep hbk o1; have q2 := cell_keep hbk o2; have q3 := cell_keep hbk o3; clear hbk))
  have hb := HBk.out
  clear fa0 fb0 l0a l0b o0 q0 o1 q1 o2 q2 o3 q3 ea eb HBj HBk HOj HSW0 HXR0
  replace HK0 := Lib.hid (HK0.out.below z0 hb)
  replace z0 : w6.heap.size ≤ w11.heap.size := Nat.le_trans z0 hb.size
  replace HKg0 := Lib.hid (HKg0.out.below zg0 hb)
  replace zg0 : w7.heap.size ≤ w11.heap.size := Nat.le_trans zg0 hb.size
  replace HKG0 := Lib.hid (HKG0.out.below zG0 hb)
  replace zG0 : w8.heap.size ≤ w11.heap.size := Nat.le_trans zG0 hb.size
  replace HBs := Lib.hid (ex_keep HBs.out hb)
  clear hb
  have l0a := HK0.out.cell (by omega) HCX0.out.1
  have l0b := HK0.out.cell (by omega) HCX0.out.2
  go_wp2_with fail
  refine (markSig_go _ _ s0 _ w6 _ HX0.out HK0.out z0 HF0.out (by omega) (by omega)).mono ?_
  rintro e w12 ⟨k0, rfl, hka0, hkb0, wa, hb, hout⟩
  have hzo := hout.size
  replace HKg0 := Lib.hid ((HKg0.out.below zg0 hb).outside hout (by omega))
  replace zg0 : w7.heap.size ≤ w12.heap.size := by have := hb.size; omega
  replace HKG0 := Lib.hid ((HKG0.out.below zG0 hb).outside hout (by omega))
  replace zG0 : w8.heap.size ≤ w12.heap.size := by have := hb.size; omega
  replace HBs := Lib.hid ((ex_keep HBs.out hb).trans (hout.below.mono (by omega)))
  clear hb hout hzo HK0 z0 HX0 l0a l0b
  have u0a := HKG0.out.cell (by omega) HCG0.out.1
  have u0b := HKG0.out.cell (by omega) HCG0.out.2.1
  have u0c := HKG0.out.cell (by omega) HCG0.out.2.2.1
  have u0d := HKG0.out.cell (by omega) HCG0.out.2.2.2
  have v0a := cell_keep HBs.out (blk_cell_at HCZ0.out (i := 0) (u := .int .i64 R.now.over.sorts) rfl)
  have v0b := cell_keep HBs.out (blk_cell_at HCZ0.out (i := 1) (u := .slice Az0a R.now.over.ops.length cz0a) rfl)
  have v0c := cell_keep HBs.out (blk_cell_at HCZ0.out (i := 2) (u := .slice Az0b R.now.eqs.length cz0b) rfl)
  have v0d := cell_keep HBs.out (blk_cell_at HCZ0.out (i := 3) (u := .slice Az0c R.past.length cz0c) rfl)
  go_wp2_with fail
  refine (eqBench_is _ _ R R _ true (sameB_self _) (HG0.out.same zg0 HKg0.out).reads (HZ0.out.keep HBs.out).reads).mono ?_
  rintro e w13 ⟨rfl, hb⟩
  clear u0a u0b u0c u0d v0a v0b v0c v0d
  replace HKg0 := Lib.hid (HKg0.out.below zg0 hb)
  replace zg0 : w7.heap.size ≤ w13.heap.size := Nat.le_trans zg0 hb.size
  replace HKG0 := Lib.hid (HKG0.out.below zG0 hb)
  replace zG0 : w8.heap.size ≤ w13.heap.size := Nat.le_trans zG0 hb.size
  replace HBs := Lib.hid (ex_keep HBs.out hb)
  clear hb
  have u0a := HKG0.out.cell (by omega) HCG0.out.1
  have u0b := HKG0.out.cell (by omega) HCG0.out.2.1
  have u0c := HKG0.out.cell (by omega) HCG0.out.2.2.1
  have u0d := HKG0.out.cell (by omega) HCG0.out.2.2.2
  go_wp2_with fail
  refine (markBenchN_g _ _ R w7 _ HG0.out HKg0.out zg0 HLEN.out).mono ?_
  rintro e w14 ⟨K0, rfl, hK0, hheld, wa, hb, hout⟩
  have HH0 := Lib.hid hheld
  have hzo := hout.size
  replace HKG0 := Lib.hid ((HKG0.out.below zG0 hb).outside hout (by omega))
  replace zG0 : w8.heap.size ≤ w14.heap.size := by have := hb.size; omega
  replace HBs := Lib.hid ((ex_keep HBs.out hb).trans (hout.below.mono (by omega)))
  clear hb hout hzo hheld HKg0 HG0 u0a u0b u0c u0d
  clear zg0
  have HKh0 : Hid (Keeps w6.heap.size w14 w14) := Keeps.refl _ _
  have zh0 : w14.heap.size ≤ w14.heap.size := Nat.le_refl _
  have ek : (K0 != K0) = false := by simp
  have u0a := HKG0.out.cell (by omega) HCG0.out.1
  have u0b := HKG0.out.cell (by omega) HCG0.out.2.1
  have u0c := HKG0.out.cell (by omega) HCG0.out.2.2.1
  have u0d := HKG0.out.cell (by omega) HCG0.out.2.2.2
  go_wp2_with fail
  refine (HH0.out _ HKh0.out zh0).mono ?_
  rintro e w15 ⟨rfl, hb⟩
  clear u0a u0b u0c u0d
  replace HKG0 := Lib.hid (HKG0.out.below zG0 hb)
  replace zG0 : w8.heap.size ≤ w15.heap.size := Nat.le_trans zG0 hb.size
  replace HKh0 := Lib.hid (HKh0.out.below zh0 hb)
  replace zh0 : w14.heap.size ≤ w15.heap.size := Nat.le_trans zh0 hb.size
  replace HBs := Lib.hid (ex_keep HBs.out hb)
  clear hb
  have fa0 := cell_keep HBs.out HC.out.1
  have fb0 := cell_keep HBs.out HC.out.2
  go_wp2_with fail
  refine (toSig_any _ s0 _ (HW0.out.keep (ex_keep HB.out HBs.out)) HF0.out).mono ?_
  rintro e w16 ⟨y0, rfl, ho, hb⟩
  replace HKG0 := Lib.hid (HKG0.out.below zG0 hb)
  replace zG0 : w8.heap.size ≤ w16.heap.size := Nat.le_trans zG0 hb.size
  replace HKh0 := Lib.hid (HKh0.out.below zh0 hb)
  replace zh0 : w14.heap.size ≤ w16.heap.size := Nat.le_trans zh0 hb.size
  replace HBs := Lib.hid (ex_keep HBs.out hb)
  clear hb
  have PP0 := Lib.hid ho.reads
  clear ho
  clear fa0 fb0
  go_wp2_with fail
  refine (benchNew_any s0 _ _ PP0.out).mono ?_
  rw [HR.out]
  rintro e w17 ⟨h0, rfl, ho0, hb⟩
  obtain ⟨Ah0a, ch0a, Ah0b, ch0b, Ah0c, ch0c, rfl⟩ := ho0.reads.form
  have HG10 := Lib.hid ho0.reads
  clear ho0 PP0
  replace HKG0 := Lib.hid (HKG0.out.below zG0 hb)
  replace zG0 : w8.heap.size ≤ w17.heap.size := Nat.le_trans zG0 hb.size
  replace HKh0 := Lib.hid (HKh0.out.below zh0 hb)
  replace zh0 : w14.heap.size ≤ w17.heap.size := Nat.le_trans zh0 hb.size
  replace HBs := Lib.hid (ex_keep HBs.out hb)
  clear hb
  have hb := below_alloc w17 (.cells #[.int .i64 R.now.over.sorts, .slice Ah0a R.now.over.ops.length ch0a, .slice Ah0b R.now.eqs.length ch0b, .slice Ah0c R.past.length ch0c] 39)
  have HCH0 := Lib.hid (heap_alloc_new w17 (.cells #[.int .i64 R.now.over.sorts, .slice Ah0a R.now.over.ops.length ch0a, .slice Ah0b R.now.eqs.length ch0b, .slice Ah0c R.past.length ch0c] 39))
  generalize hWw18 : w17.alloc (.cells #[.int .i64 R.now.over.sorts, .slice Ah0a R.now.over.ops.length ch0a, .slice Ah0b R.now.eqs.length ch0b, .slice Ah0c R.past.length ch0c] 39) = w18 at hb HCH0
  replace HG10 := Lib.hid (HG10.out.keep hb)
  replace HKG0 := Lib.hid (HKG0.out.below zG0 hb)
  replace zG0 : w8.heap.size ≤ w18.heap.size := Nat.le_trans zG0 hb.size
  replace HKh0 := Lib.hid (HKh0.out.below zh0 hb)
  replace zh0 : w14.heap.size ≤ w18.heap.size := Nat.le_trans zh0 hb.size
  replace HBs := Lib.hid (ex_keep HBs.out hb)
  clear hb
  have u0a := blk_cell_at HCH0.out (i := 0) (u := .int .i64 R.now.over.sorts) rfl
  have u0b := blk_cell_at HCH0.out (i := 1) (u := .slice Ah0a R.now.over.ops.length ch0a) rfl
  have u0c := blk_cell_at HCH0.out (i := 2) (u := .slice Ah0b R.now.eqs.length ch0b) rfl
  have u0d := blk_cell_at HCH0.out (i := 3) (u := .slice Ah0c R.past.length ch0c) rfl
  have v0a := cell_keep HBs.out (blk_cell_at HCZ0.out (i := 0) (u := .int .i64 R.now.over.sorts) rfl)
  have v0b := cell_keep HBs.out (blk_cell_at HCZ0.out (i := 1) (u := .slice Az0a R.now.over.ops.length cz0a) rfl)
  have v0c := cell_keep HBs.out (blk_cell_at HCZ0.out (i := 2) (u := .slice Az0b R.now.eqs.length cz0b) rfl)
  have v0d := cell_keep HBs.out (blk_cell_at HCZ0.out (i := 3) (u := .slice Az0c R.past.length cz0c) rfl)
  go_wp2_with fail
  clear hWw18
  refine (eqBench_is _ _ R R _ true (sameB_self _) HG10.out (HZ0.out.keep HBs.out).reads).mono ?_
  rintro e w19 ⟨rfl, hb⟩
  clear u0a u0b u0c u0d v0a v0b v0c v0d
  clear HG10
  replace HKG0 := Lib.hid (HKG0.out.below zG0 hb)
  replace zG0 : w8.heap.size ≤ w19.heap.size := Nat.le_trans zG0 hb.size
  replace HKh0 := Lib.hid (HKh0.out.below zh0 hb)
  replace zh0 : w14.heap.size ≤ w19.heap.size := Nat.le_trans zh0 hb.size
  replace HBs := Lib.hid (ex_keep HBs.out hb)
  clear hb
  have u0a := HKG0.out.cell (by omega) HCG0.out.1
  have u0b := HKG0.out.cell (by omega) HCG0.out.2.1
  have u0c := HKG0.out.cell (by omega) HCG0.out.2.2.1
  have u0d := HKG0.out.cell (by omega) HCG0.out.2.2.2
  go_wp2_with fail
  refine (HH0.out _ HKh0.out zh0).mono ?_
  rintro e w20 ⟨rfl, hb⟩
  clear u0a u0b u0c u0d
  replace HKG0 := Lib.hid (HKG0.out.below zG0 hb)
  replace zG0 : w8.heap.size ≤ w20.heap.size := Nat.le_trans zG0 hb.size
  replace HKh0 := Lib.hid (HKh0.out.below zh0 hb)
  replace zh0 : w14.heap.size ≤ w20.heap.size := Nat.le_trans zh0 hb.size
  replace HBs := Lib.hid (ex_keep HBs.out hb)
  clear hb
  go_wp2
  go_ret
  exact ⟨rfl, ex_keep HB.out HBs.out⟩

set_option maxRecDepth 100000 in
theorem lifted_FnExactBenchNew (os : Os) (started : os.Started) (H : Type) (enc : TypeId × Value → H) :
    ReturnsInHanded {} Try.checked os 4 .any (Rows.fnExactBenchNewSpec.pre6 enc Try.prog Try.f4 Rows.fnExactBenchNewRow.domain false) (Rows.fnExactBenchNewSpec.post enc Try.prog Try.f4 false true false false) := by
  refine returnsInHanded_of_change (C := Try.checked) own started (by kernel_rfl) Try.func4
    (ChangeSpec.witness6 (enc := enc) (C := Try.checked) false ⟨#[], #[.agg #[.int .i64 0, .slice none 0 0]], []⟩ 8 (by kernel_rfl) (by kernel_rfl) (by kernel_rfl) (by kernel_rfl)) ?_
  intro W base args ds gs before hval0 hW hcnd _
  have hval : ∀ (j : Nat) t v, Try.f4.params[j]? = some t → args[j]? = some v → Value.okWide Try.prog W .any base t v := hval0
  have hW' := hW
  obtain ⟨p, q, hA0, hV, rfl, hfz, hnd⟩ := hW
  have hA : DataW.TrodAll enc Try.prog W 0 (fun _ => true) true Try.f4.params.toList args.toList ds p := hA0
  rw [Try.params4] at hA hval
  obtain ⟨v0, vs0, d0, ds0, p0, q0, hargs, rfl, rfl, h0, r0⟩ := trodAll_cons hA
  obtain ⟨rfl, rfl, rfl⟩ := trodAll_nil r0
  obtain rfl : args = #[v0] := by cases args; simp_all
  obtain ⟨rfl, rfl⟩ := trodVars_none hV
  have k0 := h0
  have lt0 : ∀ x ∈ p0, x.block < W.heap.size := by obtain ⟨m, hm⟩ := k0; exact DataW.trod_lt m _ _ _ hm
  obtain ⟨s0, w0⟩ : ∃ s, RSig W v0 s := sig_of (hval 0 24 v0 rfl rfl) h0
  clear hA0 hval0
  refine (walk_FnExactBenchNew _ s0 W w0).mono fun e W' ⟨he, bel⟩ => ?_
  subst he
  exact ⟨_, rfl, _, _, _, [], _, [], hW', trodAll_mk1 (shut_bool Try.underlying4 _), (trodAll_cons_mk (Below.trod laidOut (by kernel_rfl) (of_decide_eq_true (by kernel_rfl)) k0 bel lt0) trodAll_mk0), rfl, bel.frame _, fun h => by cases h⟩

theorem over_FnExactBenchNew : Rows.fnExactBenchNewRow.holds Try.pinned (OpenSpec.ofChange Rows.fnExactBenchNewSpec) :=
  OpenClaim.holds_of_wide 4 Try.f4 rfl rfl rfl rfl rfl rfl rfl ⟨rfl, rfl, rfl, rfl, rfl⟩ rfl rfl rfl rfl rfl (by kernel_rfl) Try.func4 (by kernel_rfl)
    (of_decide_eq_true (by kernel_rfl)) (by unfold Func.isWrapper; first | (rw [if_pos (by decide +kernel)]; kernel_rfl) | (rw [if_neg (by decide +kernel)]; exact ⟨rfl, rfl⟩))
    (fun os started H enc _ => lifted_FnExactBenchNew os started H enc)

theorem proved_FnExactBenchNew : Rows.FnExactBenchNewSaid := over_FnExactBenchNew
end Go.Proofs.Ytmmnamjgpfkabab
