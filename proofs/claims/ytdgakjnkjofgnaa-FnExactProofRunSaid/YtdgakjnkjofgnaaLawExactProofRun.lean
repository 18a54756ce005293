/- FnExactProofRun answers true at every theory, letters, row and steps. No condition. -/
import Derived.Test.YtdgakjnkjofgnaaThyG
import Derived.Test.YtdgakjnkjofgnaaSz2
import Derived.Test.YtdgakjnkjofgnaaFrameP
import Derived.Test.YtdgakjnkjofgnaaProofOk
namespace Go.Proofs.Ytdgakjnkjofgnaa
open Go.ChangeShapes Go.WideShapes Go.ChangeAt Go.RowKit
set_option linter.unusedVariables false
set_option linter.unusedSimpArgs false

theorem toStepS_q (v : Value) (ps : List MStep) (w : World) (h : RSteps w v ps) (hs : FitsQ ps) :
    Calls Try.prog 35 #[v] w fun e w' => ∃ u, e = .returned u ∧ OSteps w' w.heap.size u ps ∧ Below w.heap.size w w' := toStepS_any v ps w h hs.1
theorem stepM_len (t : MThy) (vars u : List Int) (p : MStep) : (stepM t vars u p).1.length ≤ 1048576 := by
  have hs : ∀ Y, (swapM t.over vars u p.at_ Y).1.length ≤ 1048576 := fun Y => by
    unfold swapM
    split
    · rename_i h; have := h.2.2; simp only; omega
    · simp
  unfold stepM afterM ruleM
  split
  · split
    · split
      · exact hs _
      · simp
    · simp
  · simp
theorem runL_len (t : MThy) (vars : List Int) : ∀ (ps : List MStep) (now : List Int), now.length ≤ 1048576 → (runL t vars now ps).1.length ≤ 1048576
  | [], now, h => by simpa [runL] using h
  | p :: ps, now, h => by
    by_cases hs : (stepM t vars now p).2 = true
    · have e1 : runL t vars now (p :: ps) = runL t vars (stepM t vars now p).1 ps := by simp [runL, hs]
      rw [e1]; exact runL_len t vars ps _ (stepM_len t vars now p)
    · have e1 : runL t vars now (p :: ps) = ([], false) := by simp [runL, hs]
      rw [e1]; simp
theorem runM_len (t : MThy) (vars u : List Int) (ps : List MStep) : (runM t vars u ps).1.length ≤ 1048576 := by
  unfold runM
  split
  · rename_i h
    exact runL_len t vars ps u (by have := (sort_pos h.2.1).2; omega)
  · simp

set_option maxHeartbeats 3200000 in
set_option maxRecDepth 100000 in
theorem walk_FnExactProofRun (v0 : Value) (s0 : MThy) (v1 : Value) (xs1 : List Int) (v2 : Value) (xs2 : List Int) (v3 : Value) (xs3 : List MStep) (w : World) (h0 : RThy w v0 s0 ∧ SmallT s0) (h1 : RInts w v1 xs1 ∧ Small xs1) (h2 : RInts w v2 xs2 ∧ Small xs2) (h3 : RSteps w v3 xs3 ∧ SmallPs xs3) :
    Calls Try.prog 6 #[v0, v1, v2, v3] w fun e w' => e = .returned (.bool true) ∧ Below w.heap.size w w' := by
  have HB : Hid (Below w.heap.size w w) := Below.refl _ _
  have HS0 := Lib.hid h0.2
  replace h0 := h0.1
  obtain ⟨A0a, c0a, A0b, c0b, rfl⟩ := h0.form
  have HW0 := Lib.hid h0
  have hb := below_alloc (w) (.cells #[.int .i64 s0.over.sorts, .slice A0a s0.over.ops.length c0a, .slice A0b s0.eqs.length c0b] 40)
  have fa0 := (bx3 (w) (.int .i64 s0.over.sorts) (.slice A0a s0.over.ops.length c0a) (.slice A0b s0.eqs.length c0b) 40).1
  have fb0 := (bx3 (w) (.int .i64 s0.over.sorts) (.slice A0a s0.over.ops.length c0a) (.slice A0b s0.eqs.length c0b) 40).2.1
  have fc0 := (bx3 (w) (.int .i64 s0.over.sorts) (.slice A0a s0.over.ops.length c0a) (.slice A0b s0.eqs.length c0b) 40).2.2
  replace HB := Lib.hid (ex_keep HB.out hb)
  clear hb h0
  have HW1 := Lib.hid h1.1
  have HS1 := Lib.hid h1.2
  have hl1 := h1.1.len
  obtain ⟨A1, c1, rfl, -⟩ := h1.1.form
  clear h1
  have HW2 := Lib.hid h2.1
  have HS2 := Lib.hid h2.2
  have hl2 := h2.1.len
  obtain ⟨A2, c2, rfl, -⟩ := h2.1.form
  clear h2
  have HW3 := Lib.hid h3.1
  have HS3 := Lib.hid h3.2
  have hl3 := h3.1.len
  obtain ⟨A3, c3, rfl, -⟩ := h3.1.form
  clear h3
  by_cases hn1 : 1048576 < (xs1.length : Int)
  · go_enter Try.func6, Try.ntmps6
    go_wp2
    go_ret
    exact ⟨rfl, HB.out⟩
  by_cases hn2 : 1048576 < (xs2.length : Int)
  · go_enter Try.func6, Try.ntmps6
    go_wp2
    go_ret
    exact ⟨rfl, HB.out⟩
  go_enter Try.func6, Try.ntmps6
  go_wp2_with fail
  refine (szTheory_any _ s0 _ _ (HW0.out.keep HB.out) (by omega) (by omega)).mono ?_
  rintro e w1 ⟨r1, rfl, hr, hb⟩
  replace fa0 := cell_keep hb fa0
  replace fb0 := cell_keep hb fb0
  replace fc0 := cell_keep hb fc0
  replace HB := Lib.hid (ex_keep HB.out hb)
  clear hb
  by_cases hneg1 : r1 < 0
  · clear hr
    go_wp2
    go_ret
    exact ⟨rfl, HB.out⟩
  obtain ⟨hp1, hq1, hfit⟩ := hr.resolve_left hneg1
  have HF0 := Lib.hid hfit
  clear hr hfit
  go_wp2_with fail
  refine (szStepS_tot _ xs3 _ _ (HW3.out.keep HB.out) (by omega) (by omega)).mono ?_
  rintro e w2 ⟨r2, rfl, hr, hb⟩
  replace fa0 := cell_keep hb fa0
  replace fb0 := cell_keep hb fb0
  replace fc0 := cell_keep hb fc0
  replace HB := Lib.hid (ex_keep HB.out hb)
  clear hb
  by_cases hneg2 : r2 < 0
  · clear hr
    go_wp2
    go_ret
    exact ⟨rfl, HB.out⟩
  obtain ⟨hp2, hq2, hfit⟩ := hr.resolve_left hneg2
  have HF3 := Lib.hid hfit
  clear hr hfit
  go_wp2_with fail
  refine (toTheory_any _ s0 _ (HW0.out.keep HB.out) HF0.out).mono ?_
  rintro e w3 ⟨y0, rfl, ho, hb⟩
  replace fa0 := cell_keep hb fa0
  replace fb0 := cell_keep hb fb0
  replace fc0 := cell_keep hb fc0
  replace HB := Lib.hid (ex_keep HB.out hb)
  clear hb
  have P0 := Lib.hid ho.reads
  clear ho
  go_wp2_with fail
  refine (toIntS_any _ xs1 _ (HW1.out.keep HB.out) (by omega)).mono ?_
  rintro e w4 ⟨y1, rfl, ho, hb⟩
  replace fa0 := cell_keep hb fa0
  replace fb0 := cell_keep hb fb0
  replace fc0 := cell_keep hb fc0
  replace P0 := Lib.hid (P0.out.keep hb)
  replace HB := Lib.hid (ex_keep HB.out hb)
  clear hb
  have P1 := Lib.hid ho.reads
  clear ho
  go_wp2_with fail
  refine (toIntS_any _ xs2 _ (HW2.out.keep HB.out) (by omega)).mono ?_
  rintro e w5 ⟨y2, rfl, ho, hb⟩
  replace fa0 := cell_keep hb fa0
  replace fb0 := cell_keep hb fb0
  replace fc0 := cell_keep hb fc0
  replace P0 := Lib.hid (P0.out.keep hb)
  replace P1 := Lib.hid (P1.out.keep hb)
  replace HB := Lib.hid (ex_keep HB.out hb)
  clear hb
  have P2 := Lib.hid ho.reads
  clear ho
  go_wp2_with fail
  refine (toStepS_q _ xs3 _ (HW3.out.keep HB.out) HF3.out).mono ?_
  rintro e w6 ⟨y3, rfl, ho, hb⟩
  replace fa0 := cell_keep hb fa0
  replace fb0 := cell_keep hb fb0
  replace fc0 := cell_keep hb fc0
  replace P0 := Lib.hid (P0.out.keep hb)
  replace P1 := Lib.hid (P1.out.keep hb)
  replace P2 := Lib.hid (P2.out.keep hb)
  replace HB := Lib.hid (ex_keep HB.out hb)
  clear hb
  have P3 := Lib.hid ho.reads
  clear ho
  obtain ⟨R, hR⟩ : ∃ R, R = runM s0 xs1 xs2 xs3 := ⟨_, rfl⟩
  have HLEN := Lib.hid (show _ from runM_len s0 xs1 xs2 xs3)
  have HR := Lib.hid hR.symm
  rw [← hR] at HLEN
  clear hR
  go_wp2_with fail
  refine (specProofRun_any s0 xs1 xs2 xs3 _ _ _ _ _ HS3.out P0.out P1.out P2.out P3.out).mono ?_
  rw [HR.out]
  rintro e w7 ⟨z0, rfl, hoz, hb⟩
  have HZ := Lib.hid hoz
  obtain ⟨Az, cz, rfl, -⟩ := hoz.reads.form
  clear hoz
  replace fa0 := cell_keep hb fa0
  replace fb0 := cell_keep hb fb0
  replace fc0 := cell_keep hb fc0
  replace HB := Lib.hid (ex_keep HB.out hb)
  clear hb
  clear P0 P1 P2 P3
  have HC := Lib.hid (And.intro fa0 (And.intro fb0 (fc0)))
  have HBs : Hid (Below w7.heap.size w7 w7) := Below.refl _ _
  clear fa0 fb0 fc0
  have fa0 := cell_keep HBs.out HC.out.1
  have fb0 := cell_keep HBs.out HC.out.2.1
  have fc0 := cell_keep HBs.out HC.out.2.2
  go_wp2_with fail
  refine (toTheory_any _ s0 _ (HW0.out.keep (ex_keep HB.out HBs.out)) HF0.out).mono ?_
  rintro e w8 ⟨y0, rfl, ho, hb⟩
  obtain ⟨AX0a, cX0a, AX0b, cX0b, rfl⟩ := ho.reads.form
  have hb2 := below_alloc w8 (.cells #[.int .i64 s0.over.sorts, .slice AX0a s0.over.ops.length cX0a, .slice AX0b s0.eqs.length cX0b] 45)
  have HX0 := Lib.hid (show OThy (w8.alloc (.cells #[.int .i64 s0.over.sorts, .slice AX0a s0.over.ops.length cX0a, .slice AX0b s0.eqs.length cX0b] 45)) w7.heap.size (.agg #[.int .i64 s0.over.sorts, .slice AX0a s0.over.ops.length cX0a, .slice AX0b s0.eqs.length cX0b]) s0 from ho.keep hb2)
  have HCX0 := Lib.hid (bx3 w8 (.int .i64 s0.over.sorts) (.slice AX0a s0.over.ops.length cX0a) (.slice AX0b s0.eqs.length cX0b) 45)
  have hy0 := hb.size
  replace hb := hb.trans (hb2.mono hb.size)
  have hs0 := hb.size
  generalize hWw9 : w8.alloc (.cells #[.int .i64 s0.over.sorts, .slice AX0a s0.over.ops.length cX0a, .slice AX0b s0.eqs.length cX0b] 45) = w9 at HX0 HCX0 hb hs0
  clear hb2 ho
  replace HBs := Lib.hid (ex_keep HBs.out hb)
  clear hb
  have HK0 : Hid (Keeps w7.heap.size w9 w9) := Keeps.refl _ _
  have z0 : w9.heap.size ≤ w9.heap.size := Nat.le_refl _
  clear fa0 fb0 fc0
  go_wp2_with fail
  clear hWw9
  refine (toIntS_any _ xs1 _ (HW1.out.keep (ex_keep HB.out HBs.out)) (by omega)).mono ?_
  rintro e w10 ⟨y1, rfl, ho, hb⟩
  have HX1 := Lib.hid ho
  obtain ⟨AX1, cX1, rfl, -⟩ := ho.reads.form
  have hs1 := hb.size
  clear ho
  replace HK0 := Lib.hid (HK0.out.below z0 hb)
  replace z0 : w9.heap.size ≤ w10.heap.size := Nat.le_trans z0 hb.size
  replace HBs := Lib.hid (ex_keep HBs.out hb)
  clear hb
  have HK1 : Hid (Keeps w9.heap.size w10 w10) := Keeps.refl _ _
  have z1 : w10.heap.size ≤ w10.heap.size := Nat.le_refl _
  go_wp2_with fail
  refine (toIntS_any _ xs2 _ (HW2.out.keep (ex_keep HB.out HBs.out)) (by omega)).mono ?_
  rintro e w11 ⟨y2, rfl, ho, hb⟩
  have HX2 := Lib.hid ho
  obtain ⟨AX2, cX2, rfl, -⟩ := ho.reads.form
  have hs2 := hb.size
  clear ho
  replace HK0 := Lib.hid (HK0.out.below z0 hb)
  replace z0 : w9.heap.size ≤ w11.heap.size := Nat.le_trans z0 hb.size
  replace HK1 := Lib.hid (HK1.out.below z1 hb)
  replace z1 : w10.heap.size ≤ w11.heap.size := Nat.le_trans z1 hb.size
  replace HBs := Lib.hid (ex_keep HBs.out hb)
  clear hb
  have HK2 : Hid (Keeps w10.heap.size w11 w11) := Keeps.refl _ _
  have z2 : w11.heap.size ≤ w11.heap.size := Nat.le_refl _
  go_wp2_with fail
  refine (toStepS_q _ xs3 _ (HW3.out.keep (ex_keep HB.out HBs.out)) HF3.out).mono ?_
  rintro e w12 ⟨y3, rfl, ho, hb⟩
  have HX3 := Lib.hid ho
  obtain ⟨AX3, cX3, rfl, -⟩ := ho.reads.form
  have hs3 := hb.size
  clear ho
  replace HK0 := Lib.hid (HK0.out.below z0 hb)
  replace z0 : w9.heap.size ≤ w12.heap.size := Nat.le_trans z0 hb.size
  replace HK1 := Lib.hid (HK1.out.below z1 hb)
  replace z1 : w10.heap.size ≤ w12.heap.size := Nat.le_trans z1 hb.size
  replace HK2 := Lib.hid (HK2.out.below z2 hb)
  replace z2 : w11.heap.size ≤ w12.heap.size := Nat.le_trans z2 hb.size
  replace HBs := Lib.hid (ex_keep HBs.out hb)
  clear hb
  have HK3 : Hid (Keeps w11.heap.size w12 w12) := Keeps.refl _ _
  have z3 : w12.heap.size ≤ w12.heap.size := Nat.le_refl _
  have l0a := HK0.out.cell (by omega) HCX0.out.1
  have l0b := HK0.out.cell (by omega) HCX0.out.2.1
  have l0c := HK0.out.cell (by omega) HCX0.out.2.2
  go_wp2_with fail
  refine (proofRun_any s0 xs1 xs2 xs3 _ _ _ _ _ HS0.out HS2.out HS3.out (HX0.out.same z0 HK0.out).reads (HX1.out.same HK1.out).reads (HX2.out.same HK2.out).reads (HX3.out.same z3 HK3.out).reads).mono ?_
  rw [HR.out]
  rintro e w13 ⟨g0, rfl, hog, hb⟩
  have HG := Lib.hid hog
  obtain ⟨Ag, cg, rfl, -⟩ := hog.reads.form
  have hsg := hb.size
  clear hog
  clear l0a l0b l0c
  replace HK0 := Lib.hid (HK0.out.below z0 hb)
  replace z0 : w9.heap.size ≤ w13.heap.size := Nat.le_trans z0 hb.size
  replace HK1 := Lib.hid (HK1.out.below z1 hb)
  replace z1 : w10.heap.size ≤ w13.heap.size := Nat.le_trans z1 hb.size
  replace HK2 := Lib.hid (HK2.out.below z2 hb)
  replace z2 : w11.heap.size ≤ w13.heap.size := Nat.le_trans z2 hb.size
  replace HK3 := Lib.hid (HK3.out.below z3 hb)
  replace z3 : w12.heap.size ≤ w13.heap.size := Nat.le_trans z3 hb.size
  replace HBs := Lib.hid (ex_keep HBs.out hb)
  clear hb
  have HKg : Hid (Keeps w12.heap.size w13 w13) := Keeps.refl _ _
  have zg : w13.heap.size ≤ w13.heap.size := Nat.le_refl _
  obtain ⟨R1, R2⟩ := R
  simp only at HG HZ HLEN ⊢
  have e1 : (R2 != R2) = false := by simp
  go_wp2_with fail
  refine (eqIntS_is _ _ R1 R1 _ true (sameI_self _) (HG.out.same HKg.out).reads (HZ.out.keep HBs.out).reads).mono ?_
  rintro e w14 ⟨rfl, hd⟩
  have hb := hd.below
  clear hd
  replace HK0 := Lib.hid (HK0.out.below z0 hb)
  replace z0 : w9.heap.size ≤ w14.heap.size := Nat.le_trans z0 hb.size
  replace HK1 := Lib.hid (HK1.out.below z1 hb)
  replace z1 : w10.heap.size ≤ w14.heap.size := Nat.le_trans z1 hb.size
  replace HK2 := Lib.hid (HK2.out.below z2 hb)
  replace z2 : w11.heap.size ≤ w14.heap.size := Nat.le_trans z2 hb.size
  replace HK3 := Lib.hid (HK3.out.below z3 hb)
  replace z3 : w12.heap.size ≤ w14.heap.size := Nat.le_trans z3 hb.size
  replace HKg := Lib.hid (HKg.out.below zg hb)
  replace zg : w13.heap.size ≤ w14.heap.size := Nat.le_trans zg hb.size
  replace HBs := Lib.hid (ex_keep HBs.out hb)
  clear hb
  have fa0 := cell_keep HBs.out HC.out.1
  have fb0 := cell_keep HBs.out HC.out.2.1
  have fc0 := cell_keep HBs.out HC.out.2.2
  have l0a := HK0.out.cell (by omega) HCX0.out.1
  have l0b := HK0.out.cell (by omega) HCX0.out.2.1
  have l0c := HK0.out.cell (by omega) HCX0.out.2.2
  have HSW0 := Lib.hid (HW0.out.keep (ex_keep HB.out HBs.out))
  have HXR0 := Lib.hid (HX0.out.same z0 HK0.out).reads
  go_wp2_with fail
  have ea := World.new_ne w14 _ fa0
  have eb := World.new_ne w14 _ l0a
  go_region_held3 (fun w' => w'.cell? ⟨w.heap.size, 0, none⟩ = some (.int .i64 s0.over.sorts) ∧ w'.cell? ⟨w.heap.size, 1, none⟩ = some (.slice A0a s0.over.ops.length c0a) ∧ w'.cell? ⟨w.heap.size, 2, none⟩ = some (.slice A0b s0.eqs.length c0b) ∧ w'.cell? ⟨w8.heap.size, 0, none⟩ = some (.int .i64 s0.over.sorts) ∧ w'.cell? ⟨w8.heap.size, 1, none⟩ = some (.slice AX0a s0.over.ops.length cX0a) ∧ w'.cell? ⟨w8.heap.size, 2, none⟩ = some (.slice AX0b s0.eqs.length cX0b))
    (first | go_keep)
    (first
      | (go_at_call 19; refine (toTheory_any _ s0 w14.drew HSW0.out HF0.out).mono ?_; rintro e w15 ⟨yj, rfl, hoj, hbj⟩; have HOj := Lib.hid hoj; have HBj := Lib.hid (show Below w14.heap.size w14 w15 from below_undrew hbj); have o0 := cell_keep HBj.out fa0; have o1 := cell_keep HBj.out fb0; have o2 := cell_keep HBj.out fc0; have o3 := cell_keep HBj.out l0a; have o4 := cell_keep HBj.out l0b; have o5 := cell_keep HBj.out l0c; clear hoj hbj)
      | (go_at_call 21; refine (eqTheory_is _ _ s0 s0 _ true (sameT_self _) (HXR0.out.keep HBj.out) HOj.out.reads).mono ?_; rintro e w16 ⟨rfl, hbk⟩; have HBk := Lib.hid (ex_keep HBj.out hbk); have q0 := cell_keep hbk o0; have q1 := cell_keep hbk o1; have q2 := cell_keep hbk o2; have q3 := cell_keep hbk o3; have q4 := cell_keep hbk o4; have q5 := cell_keep hbk o5; clear hbk))
  have hb := HBk.out
  clear fa0 fb0 fc0 l0a l0b l0c o0 q0 o1 q1 o2 q2 o3 q3 o4 q4 o5 q5 ea eb HBj HBk HOj HSW0 HXR0
  replace HK0 := Lib.hid (HK0.out.below z0 hb)
  replace z0 : w9.heap.size ≤ w16.heap.size := Nat.le_trans z0 hb.size
  replace HK1 := Lib.hid (HK1.out.below z1 hb)
  replace z1 : w10.heap.size ≤ w16.heap.size := Nat.le_trans z1 hb.size
  replace HK2 := Lib.hid (HK2.out.below z2 hb)
  replace z2 : w11.heap.size ≤ w16.heap.size := Nat.le_trans z2 hb.size
  replace HK3 := Lib.hid (HK3.out.below z3 hb)
  replace z3 : w12.heap.size ≤ w16.heap.size := Nat.le_trans z3 hb.size
  replace HKg := Lib.hid (HKg.out.below zg hb)
  replace zg : w13.heap.size ≤ w16.heap.size := Nat.le_trans zg hb.size
  replace HBs := Lib.hid (ex_keep HBs.out hb)
  clear hb
  go_wp2_with fail
  refine (toIntS_any _ xs1 _ (HW1.out.keep (ex_keep HB.out HBs.out)) (by omega)).mono ?_
  rintro e w17 ⟨yj, rfl, ho, hb⟩
  have PJ := Lib.hid ho.reads
  clear ho
  replace HK0 := Lib.hid (HK0.out.below z0 hb)
  replace z0 : w9.heap.size ≤ w17.heap.size := Nat.le_trans z0 hb.size
  replace HK1 := Lib.hid (HK1.out.below z1 hb)
  replace z1 : w10.heap.size ≤ w17.heap.size := Nat.le_trans z1 hb.size
  replace HK2 := Lib.hid (HK2.out.below z2 hb)
  replace z2 : w11.heap.size ≤ w17.heap.size := Nat.le_trans z2 hb.size
  replace HK3 := Lib.hid (HK3.out.below z3 hb)
  replace z3 : w12.heap.size ≤ w17.heap.size := Nat.le_trans z3 hb.size
  replace HKg := Lib.hid (HKg.out.below zg hb)
  replace zg : w13.heap.size ≤ w17.heap.size := Nat.le_trans zg hb.size
  replace HBs := Lib.hid (ex_keep HBs.out hb)
  clear hb
  go_wp2_with fail
  refine (eqIntS_is _ _ xs1 xs1 _ true (sameI_self _) (HX1.out.same HK1.out).reads PJ.out).mono ?_
  rintro e w18 ⟨rfl, hd⟩
  have hb := hd.below
  clear hd PJ
  replace HK0 := Lib.hid (HK0.out.below z0 hb)
  replace z0 : w9.heap.size ≤ w18.heap.size := Nat.le_trans z0 hb.size
  replace HK1 := Lib.hid (HK1.out.below z1 hb)
  replace z1 : w10.heap.size ≤ w18.heap.size := Nat.le_trans z1 hb.size
  replace HK2 := Lib.hid (HK2.out.below z2 hb)
  replace z2 : w11.heap.size ≤ w18.heap.size := Nat.le_trans z2 hb.size
  replace HK3 := Lib.hid (HK3.out.below z3 hb)
  replace z3 : w12.heap.size ≤ w18.heap.size := Nat.le_trans z3 hb.size
  replace HKg := Lib.hid (HKg.out.below zg hb)
  replace zg : w13.heap.size ≤ w18.heap.size := Nat.le_trans zg hb.size
  replace HBs := Lib.hid (ex_keep HBs.out hb)
  clear hb
  go_wp2_with fail
  refine (toIntS_any _ xs2 _ (HW2.out.keep (ex_keep HB.out HBs.out)) (by omega)).mono ?_
  rintro e w19 ⟨yj, rfl, ho, hb⟩
  have PJ := Lib.hid ho.reads
  clear ho
  replace HK0 := Lib.hid (HK0.out.below z0 hb)
  replace z0 : w9.heap.size ≤ w19.heap.size := Nat.le_trans z0 hb.size
  replace HK1 := Lib.hid (HK1.out.below z1 hb)
  replace z1 : w10.heap.size ≤ w19.heap.size := Nat.le_trans z1 hb.size
  replace HK2 := Lib.hid (HK2.out.below z2 hb)
  replace z2 : w11.heap.size ≤ w19.heap.size := Nat.le_trans z2 hb.size
  replace HK3 := Lib.hid (HK3.out.below z3 hb)
  replace z3 : w12.heap.size ≤ w19.heap.size := Nat.le_trans z3 hb.size
  replace HKg := Lib.hid (HKg.out.below zg hb)
  replace zg : w13.heap.size ≤ w19.heap.size := Nat.le_trans zg hb.size
  replace HBs := Lib.hid (ex_keep HBs.out hb)
  clear hb
  go_wp2_with fail
  refine (eqIntS_is _ _ xs2 xs2 _ true (sameI_self _) (HX2.out.same HK2.out).reads PJ.out).mono ?_
  rintro e w20 ⟨rfl, hd⟩
  have hb := hd.below
  clear hd PJ
  replace HK0 := Lib.hid (HK0.out.below z0 hb)
  replace z0 : w9.heap.size ≤ w20.heap.size := Nat.le_trans z0 hb.size
  replace HK1 := Lib.hid (HK1.out.below z1 hb)
  replace z1 : w10.heap.size ≤ w20.heap.size := Nat.le_trans z1 hb.size
  replace HK2 := Lib.hid (HK2.out.below z2 hb)
  replace z2 : w11.heap.size ≤ w20.heap.size := Nat.le_trans z2 hb.size
  replace HK3 := Lib.hid (HK3.out.below z3 hb)
  replace z3 : w12.heap.size ≤ w20.heap.size := Nat.le_trans z3 hb.size
  replace HKg := Lib.hid (HKg.out.below zg hb)
  replace zg : w13.heap.size ≤ w20.heap.size := Nat.le_trans zg hb.size
  replace HBs := Lib.hid (ex_keep HBs.out hb)
  clear hb
  go_wp2_with fail
  refine (toStepS_q _ xs3 _ (HW3.out.keep (ex_keep HB.out HBs.out)) HF3.out).mono ?_
  rintro e w21 ⟨yj, rfl, ho, hb⟩
  have PJ := Lib.hid ho.reads
  clear ho
  replace HK0 := Lib.hid (HK0.out.below z0 hb)
  replace z0 : w9.heap.size ≤ w21.heap.size := Nat.le_trans z0 hb.size
  replace HK1 := Lib.hid (HK1.out.below z1 hb)
  replace z1 : w10.heap.size ≤ w21.heap.size := Nat.le_trans z1 hb.size
  replace HK2 := Lib.hid (HK2.out.below z2 hb)
  replace z2 : w11.heap.size ≤ w21.heap.size := Nat.le_trans z2 hb.size
  replace HK3 := Lib.hid (HK3.out.below z3 hb)
  replace z3 : w12.heap.size ≤ w21.heap.size := Nat.le_trans z3 hb.size
  replace HKg := Lib.hid (HKg.out.below zg hb)
  replace zg : w13.heap.size ≤ w21.heap.size := Nat.le_trans zg hb.size
  replace HBs := Lib.hid (ex_keep HBs.out hb)
  clear hb
  go_wp2_with fail
  refine (eqStepS_is _ _ xs3 xs3 _ true (samePs_self _) (HX3.out.same z3 HK3.out).reads PJ.out).mono ?_
  rintro e w22 ⟨rfl, hb⟩
  clear PJ
  replace HK0 := Lib.hid (HK0.out.below z0 hb)
  replace z0 : w9.heap.size ≤ w22.heap.size := Nat.le_trans z0 hb.size
  replace HK1 := Lib.hid (HK1.out.below z1 hb)
  replace z1 : w10.heap.size ≤ w22.heap.size := Nat.le_trans z1 hb.size
  replace HK2 := Lib.hid (HK2.out.below z2 hb)
  replace z2 : w11.heap.size ≤ w22.heap.size := Nat.le_trans z2 hb.size
  replace HK3 := Lib.hid (HK3.out.below z3 hb)
  replace z3 : w12.heap.size ≤ w22.heap.size := Nat.le_trans z3 hb.size
  replace HKg := Lib.hid (HKg.out.below zg hb)
  replace zg : w13.heap.size ≤ w22.heap.size := Nat.le_trans zg hb.size
  replace HBs := Lib.hid (ex_keep HBs.out hb)
  clear hb
  have l0a := HK0.out.cell (by omega) HCX0.out.1
  have l0b := HK0.out.cell (by omega) HCX0.out.2.1
  have l0c := HK0.out.cell (by omega) HCX0.out.2.2
  go_wp2_with fail
  refine (markTheory_go _ _ s0 _ w9 _ HX0.out HK0.out z0 HF0.out (by omega) (by omega)).mono ?_
  rintro e w23 ⟨k0, rfl, hka0, hkb0, wa, hb, hout⟩
  have hzo := hout.size
  replace HK1 := Lib.hid ((HK1.out.below z1 hb).outside hout (by omega))
  replace z1 : w10.heap.size ≤ w23.heap.size := by have := hb.size; omega
  replace HK2 := Lib.hid ((HK2.out.below z2 hb).outside hout (by omega))
  replace z2 : w11.heap.size ≤ w23.heap.size := by have := hb.size; omega
  replace HK3 := Lib.hid ((HK3.out.below z3 hb).outside hout (by omega))
  replace z3 : w12.heap.size ≤ w23.heap.size := by have := hb.size; omega
  replace HKg := Lib.hid ((HKg.out.below zg hb).outside hout (by omega))
  replace zg : w13.heap.size ≤ w23.heap.size := by have := hb.size; omega
  replace HBs := Lib.hid ((ex_keep HBs.out hb).trans (hout.below.mono (by omega)))
  clear hb hout hzo HK0 z0 HX0 l0a l0b l0c
  go_wp2_with fail
  refine (markIntS_go _ _ xs1 _ w10 _ HX1.out HK1.out z1 (by omega) (by omega) (by omega)).mono ?_
  rintro e w24 ⟨k1, rfl, hka1, hkb1, wa, hb, hout⟩
  have hzo := hout.size
  replace HK2 := Lib.hid ((HK2.out.below z2 hb).outside hout (by omega))
  replace z2 : w11.heap.size ≤ w24.heap.size := by have := hb.size; omega
  replace HK3 := Lib.hid ((HK3.out.below z3 hb).outside hout (by omega))
  replace z3 : w12.heap.size ≤ w24.heap.size := by have := hb.size; omega
  replace HKg := Lib.hid ((HKg.out.below zg hb).outside hout (by omega))
  replace zg : w13.heap.size ≤ w24.heap.size := by have := hb.size; omega
  replace HBs := Lib.hid ((ex_keep HBs.out hb).trans (hout.below.mono (by omega)))
  clear hb hout hzo HK1 z1 HX1
  go_wp2_with fail
  refine (markIntS_go _ _ xs2 _ w11 _ HX2.out HK2.out z2 (by omega) (by omega) (by omega)).mono ?_
  rintro e w25 ⟨k2, rfl, hka2, hkb2, wa, hb, hout⟩
  have hzo := hout.size
  replace HK3 := Lib.hid ((HK3.out.below z3 hb).outside hout (by omega))
  replace z3 : w12.heap.size ≤ w25.heap.size := by have := hb.size; omega
  replace HKg := Lib.hid ((HKg.out.below zg hb).outside hout (by omega))
  replace zg : w13.heap.size ≤ w25.heap.size := by have := hb.size; omega
  replace HBs := Lib.hid ((ex_keep HBs.out hb).trans (hout.below.mono (by omega)))
  clear hb hout hzo HK2 z2 HX2
  go_wp2_with fail
  refine (markStepS_go _ _ xs3 _ w12 _ HX3.out HK3.out z3 HF3.out (by omega) (by omega)).mono ?_
  rintro e w26 ⟨k3, rfl, hka3, hkb3, wa, hb, hout⟩
  have hzo := hout.size
  replace HKg := Lib.hid ((HKg.out.below zg hb).outside hout (by omega))
  replace zg : w13.heap.size ≤ w26.heap.size := by have := hb.size; omega
  replace HBs := Lib.hid ((ex_keep HBs.out hb).trans (hout.below.mono (by omega)))
  clear hb hout hzo HK3 z3 HX3
  go_wp2_with fail
  refine (eqIntS_is _ _ R1 R1 _ true (sameI_self _) (HG.out.same HKg.out).reads (HZ.out.keep HBs.out).reads).mono ?_
  rintro e w27 ⟨rfl, hd⟩
  have hb := hd.below
  clear hd
  replace HKg := Lib.hid (HKg.out.below zg hb)
  replace zg : w13.heap.size ≤ w27.heap.size := Nat.le_trans zg hb.size
  replace HBs := Lib.hid (ex_keep HBs.out hb)
  clear hb
  go_wp2_with fail
  refine (markIntS_g _ _ R1 w13 _ HG.out HKg.out zg HLEN.out).mono ?_
  rintro e w28 ⟨K, rfl, hK0, hheld, wa, hb, hout⟩
  have HH := Lib.hid hheld
  have hzo := hout.size
  replace HBs := Lib.hid ((ex_keep HBs.out hb).trans (hout.below.mono (by omega)))
  clear hb hout hzo hheld HKg zg HG
  have HKh : Hid (Keeps w12.heap.size w28 w28) := Keeps.refl _ _
  have zh : w28.heap.size ≤ w28.heap.size := Nat.le_refl _
  have ek : (K != K) = false := by simp
  go_wp2_with fail
  refine (HH.out _ HKh.out).mono ?_
  rintro e w29 ⟨rfl, hb⟩
  replace HKh := Lib.hid (HKh.out.below zh hb)
  replace zh : w28.heap.size ≤ w29.heap.size := Nat.le_trans zh hb.size
  replace HBs := Lib.hid (ex_keep HBs.out hb)
  clear hb
  have fa0 := cell_keep HBs.out HC.out.1
  have fb0 := cell_keep HBs.out HC.out.2.1
  have fc0 := cell_keep HBs.out HC.out.2.2
  go_wp2_with fail
  refine (toTheory_any _ s0 _ (HW0.out.keep (ex_keep HB.out HBs.out)) HF0.out).mono ?_
  rintro e w30 ⟨y0, rfl, ho, hb⟩
  replace HKh := Lib.hid (HKh.out.below zh hb)
  replace zh : w28.heap.size ≤ w30.heap.size := Nat.le_trans zh hb.size
  replace HBs := Lib.hid (ex_keep HBs.out hb)
  clear hb
  have PP0 := Lib.hid ho.reads
  clear ho
  clear fa0 fb0 fc0
  go_wp2_with fail
  refine (toIntS_any _ xs1 _ (HW1.out.keep (ex_keep HB.out HBs.out)) (by omega)).mono ?_
  rintro e w31 ⟨y1, rfl, ho, hb⟩
  replace PP0 := Lib.hid (PP0.out.keep hb)
  replace HKh := Lib.hid (HKh.out.below zh hb)
  replace zh : w28.heap.size ≤ w31.heap.size := Nat.le_trans zh hb.size
  replace HBs := Lib.hid (ex_keep HBs.out hb)
  clear hb
  have PP1 := Lib.hid ho.reads
  clear ho
  go_wp2_with fail
  refine (toIntS_any _ xs2 _ (HW2.out.keep (ex_keep HB.out HBs.out)) (by omega)).mono ?_
  rintro e w32 ⟨y2, rfl, ho, hb⟩
  replace PP0 := Lib.hid (PP0.out.keep hb)
  replace PP1 := Lib.hid (PP1.out.keep hb)
  replace HKh := Lib.hid (HKh.out.below zh hb)
  replace zh : w28.heap.size ≤ w32.heap.size := Nat.le_trans zh hb.size
  replace HBs := Lib.hid (ex_keep HBs.out hb)
  clear hb
  have PP2 := Lib.hid ho.reads
  clear ho
  go_wp2_with fail
  refine (toStepS_q _ xs3 _ (HW3.out.keep (ex_keep HB.out HBs.out)) HF3.out).mono ?_
  rintro e w33 ⟨y3, rfl, ho, hb⟩
  replace PP0 := Lib.hid (PP0.out.keep hb)
  replace PP1 := Lib.hid (PP1.out.keep hb)
  replace PP2 := Lib.hid (PP2.out.keep hb)
  replace HKh := Lib.hid (HKh.out.below zh hb)
  replace zh : w28.heap.size ≤ w33.heap.size := Nat.le_trans zh hb.size
  replace HBs := Lib.hid (ex_keep HBs.out hb)
  clear hb
  have PP3 := Lib.hid ho.reads
  clear ho
  go_wp2_with fail
  refine (proofRun_any s0 xs1 xs2 xs3 _ _ _ _ _ HS0.out HS2.out HS3.out PP0.out PP1.out PP2.out PP3.out).mono ?_
  rw [HR.out]
  rintro e w34 ⟨g1, rfl, hog, hb⟩
  obtain ⟨Ah, ch, rfl, -⟩ := hog.reads.form
  have HG1 := Lib.hid hog.reads
  clear hog PP0 PP1 PP2 PP3
  replace HKh := Lib.hid (HKh.out.below zh hb)
  replace zh : w28.heap.size ≤ w34.heap.size := Nat.le_trans zh hb.size
  replace HBs := Lib.hid (ex_keep HBs.out hb)
  clear hb
  try simp only at HG1 ⊢
  go_wp2_with fail
  refine (eqIntS_is _ _ R1 R1 _ true (sameI_self _) HG1.out (HZ.out.keep HBs.out).reads).mono ?_
  rintro e w35 ⟨rfl, hd⟩
  have hb := hd.below
  clear hd
  replace HKh := Lib.hid (HKh.out.below zh hb)
  replace zh : w28.heap.size ≤ w35.heap.size := Nat.le_trans zh hb.size
  replace HBs := Lib.hid (ex_keep HBs.out hb)
  clear hb
  clear HG1
  go_wp2_with fail
  refine (HH.out _ HKh.out).mono ?_
  rintro e w36 ⟨rfl, hb⟩
  replace HKh := Lib.hid (HKh.out.below zh hb)
  replace zh : w28.heap.size ≤ w36.heap.size := Nat.le_trans zh hb.size
  replace HBs := Lib.hid (ex_keep HBs.out hb)
  clear hb
  go_wp2
  go_ret
  exact ⟨rfl, ex_keep HB.out HBs.out⟩

set_option maxRecDepth 100000 in
theorem lifted_FnExactProofRun (os : Os) (started : os.Started) (H : Type) (enc : TypeId × Value → H) :
    ReturnsInHanded {} Try.checked os 6 .any (Rows.fnExactProofRunSpec.pre6 enc Try.prog Try.f6 Rows.fnExactProofRunRow.domain false) (Rows.fnExactProofRunSpec.post enc Try.prog Try.f6 false true false false) := by
  refine returnsInHanded_of_change (C := Try.checked) own started (by kernel_rfl) Try.func6
    (ChangeSpec.witness6 (enc := enc) (C := Try.checked) false ⟨#[], #[.agg #[.int .i64 0, .slice none 0 0, .slice none 0 0], .slice none 0 0, .slice none 0 0, .slice none 0 0], []⟩ 8 (by kernel_rfl) (by kernel_rfl) (by kernel_rfl) (by kernel_rfl)) ?_
  intro W base args ds gs before hval0 hW hcnd _
  have hval : ∀ (j : Nat) t v, Try.f6.params[j]? = some t → args[j]? = some v → Value.okWide Try.prog W .any base t v := hval0
  have hW' := hW
  obtain ⟨p, q, hA0, hV, rfl, hfz, hnd⟩ := hW
  have hA : DataW.TrodAll enc Try.prog W 0 (fun _ => true) true Try.f6.params.toList args.toList ds p := hA0
  rw [Try.params6] at hA hval
  obtain ⟨v0, vs0, d0, ds0, p0, q0, hargs, rfl, rfl, h0, r0⟩ := trodAll_cons hA
  obtain ⟨v1, vs1, d1, ds1, p1, q1, rfl, rfl, rfl, h1, r1⟩ := trodAll_cons r0
  obtain ⟨v2, vs2, d2, ds2, p2, q2, rfl, rfl, rfl, h2, r2⟩ := trodAll_cons r1
  obtain ⟨v3, vs3, d3, ds3, p3, q3, rfl, rfl, rfl, h3, r3⟩ := trodAll_cons r2
  obtain ⟨rfl, rfl, rfl⟩ := trodAll_nil r3
  obtain rfl : args = #[v0, v1, v2, v3] := by cases args; simp_all
  obtain ⟨rfl, rfl⟩ := trodVars_none hV
  have k0 := h0
  have lt0 : ∀ x ∈ p0, x.block < W.heap.size := by obtain ⟨m, hm⟩ := k0; exact DataW.trod_lt m _ _ _ hm
  obtain ⟨s0, w0⟩ : ∃ s, RThy W v0 s ∧ SmallT s := thy_of (hval 0 40 v0 rfl rfl) h0
  have k1 := h1
  have lt1 : ∀ x ∈ p1, x.block < W.heap.size := by obtain ⟨m, hm⟩ := k1; exact DataW.trod_lt m _ _ _ hm
  obtain ⟨s1, w1⟩ : ∃ xs, RInts W v1 xs ∧ Small xs := ints_of (hval 1 25 v1 rfl rfl) h1
  have k2 := h2
  have lt2 : ∀ x ∈ p2, x.block < W.heap.size := by obtain ⟨m, hm⟩ := k2; exact DataW.trod_lt m _ _ _ hm
  obtain ⟨s2, w2⟩ : ∃ xs, RInts W v2 xs ∧ Small xs := ints_of (hval 2 25 v2 rfl rfl) h2
  have k3 := h3
  have lt3 : ∀ x ∈ p3, x.block < W.heap.size := by obtain ⟨m, hm⟩ := k3; exact DataW.trod_lt m _ _ _ hm
  obtain ⟨s3, w3⟩ : ∃ s, RSteps W v3 s ∧ SmallPs s := steps_of (hval 3 63 v3 rfl rfl) h3
  clear hA0 hval0
  refine (walk_FnExactProofRun _ s0 _ s1 _ s2 _ s3 W w0 w1 w2 w3).mono fun e W' ⟨he, bel⟩ => ?_
  subst he
  exact ⟨_, rfl, _, _, _, [], _, [], hW', trodAll_mk1 (shut_bool Try.underlying4 _), (trodAll_cons_mk (Below.trod laidOut (by kernel_rfl) (of_decide_eq_true (by kernel_rfl)) k0 bel lt0) (trodAll_cons_mk (Below.trod laidOut (by kernel_rfl) (of_decide_eq_true (by kernel_rfl)) k1 bel lt1) (trodAll_cons_mk (Below.trod laidOut (by kernel_rfl) (of_decide_eq_true (by kernel_rfl)) k2 bel lt2) (trodAll_cons_mk (Below.trod laidOut (by kernel_rfl) (of_decide_eq_true (by kernel_rfl)) k3 bel lt3) trodAll_mk0)))), rfl, bel.frame _, fun h => by cases h⟩

theorem over_FnExactProofRun : Rows.fnExactProofRunRow.holds Try.pinned (OpenSpec.ofChange Rows.fnExactProofRunSpec) :=
  OpenClaim.holds_of_wide 6 Try.f6 rfl rfl rfl rfl rfl rfl rfl ⟨rfl, rfl, rfl, rfl, rfl⟩ rfl rfl rfl rfl rfl (by kernel_rfl) Try.func6 (by kernel_rfl)
    (of_decide_eq_true (by kernel_rfl)) (by unfold Func.isWrapper; first | (rw [if_pos (by decide +kernel)]; kernel_rfl) | (rw [if_neg (by decide +kernel)]; exact ⟨rfl, rfl⟩))
    (fun os started H enc _ => lifted_FnExactProofRun os started H enc)

theorem proved_FnExactProofRun : Rows.FnExactProofRunSaid := over_FnExactProofRun
end Go.Proofs.Ytdgakjnkjofgnaa
