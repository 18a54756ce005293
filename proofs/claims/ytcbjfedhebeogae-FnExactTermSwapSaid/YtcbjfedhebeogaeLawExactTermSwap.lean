/- FnExactTermSwap answers true at every signature, letters, row, place and other row. No condition. -/
import Derived.Test.YtcbjfedhebeogaeMarkG
import Derived.Test.YtcbjfedhebeogaeFrameY
import Derived.Test.YtcbjfedhebeogaeSwap
namespace Go.Proofs.Ytcbjfedhebeogae
open Go.ChangeShapes Go.WideShapes Go.ChangeAt Go.RowKit
set_option linter.unusedVariables false

theorem swapM_len (s : MSig) (vars t : List Int) (a : Int) (u : List Int) : (swapM s vars t a u).1.length ≤ 1048576 := by
  unfold swapM
  split
  · rename_i h; simp only; omega
  · simp

set_option maxHeartbeats 3200000 in
set_option maxRecDepth 100000 in
theorem walk_FnExactTermSwap (v0 : Value) (s0 : MSig) (v1 : Value) (xs1 : List Int) (v2 : Value) (xs2 : List Int) (a3 : Int) (v4 : Value) (xs4 : List Int) (w : World) (h0 : RSig w v0 s0) (h1 : RInts w v1 xs1 ∧ Small xs1) (h2 : RInts w v2 xs2 ∧ Small xs2) (h4 : RInts w v4 xs4 ∧ Small xs4) :
    Calls Try.prog 7 #[v0, v1, v2, .int .i64 a3, v4] w fun e w' => e = .returned (.bool true) ∧ Below w.heap.size w w' := by
  have HB : Hid (Below w.heap.size w w) := Below.refl _ _
  obtain ⟨u0, rfl, hr0⟩ := h0
  obtain ⟨S0, O0⟩ := s0
  have HW0 := Lib.hid (show RSig w (.agg #[.int .i64 S0, u0]) ⟨S0, O0⟩ from ⟨u0, rfl, hr0⟩)
  obtain ⟨A0, c0, rfl, -⟩ := hr0.form
  have hb := below_alloc (w) (.cells #[.int .i64 S0, .slice A0 O0.length c0] 24)
  have fa0 := (bx_cells (w) (.int .i64 S0) (.slice A0 O0.length c0) 24).1
  have fb0 := (bx_cells (w) (.int .i64 S0) (.slice A0 O0.length c0) 24).2
  replace HB := Lib.hid (ex_keep HB.out hb)
  clear hb hr0
  have HW1 := Lib.hid h1.1
  have HS1 := Lib.hid h1.2
  have hl1 := h1.1.len
  obtain ⟨A1, c1, rfl, -⟩ := h1.1.form
  clear h1
  have HW2 := Lib.hid h2.1
  have HS2 := Lib.hid h2.2
  have hl2 := h2.1.len
  obtain ⟨A2, c2, rfl, -⟩ := h2.1.form
  clear h2
  have HW4 := Lib.hid h4.1
  have HS4 := Lib.hid h4.2
  have hl4 := h4.1.len
  obtain ⟨A4, c4, rfl, -⟩ := h4.1.form
  clear h4
  by_cases hn1 : 1048576 < (xs1.length : Int)
  · go_enter Try.func7, Try.ntmps7
    go_wp2
    go_ret
    exact ⟨rfl, HB.out⟩
  by_cases hn2 : 1048576 < (xs2.length : Int)
  · go_enter Try.func7, Try.ntmps7
    go_wp2
    go_ret
    exact ⟨rfl, HB.out⟩
  by_cases hn4 : 1048576 < (xs4.length : Int)
  · go_enter Try.func7, Try.ntmps7
    go_wp2
    go_ret
    exact ⟨rfl, HB.out⟩
  go_enter Try.func7, Try.ntmps7
  go_wp2_with fail
  refine (szSig_any _ ⟨S0, O0⟩ _ _ (HW0.out.keep HB.out) (by omega) (by omega)).mono ?_
  rintro e w1 ⟨r1, rfl, hr, hb⟩
  replace fa0 := cell_keep hb fa0
  replace fb0 := cell_keep hb fb0
  replace HB := Lib.hid (ex_keep HB.out hb)
  clear hb
  by_cases hneg1 : r1 < 0
  · clear hr
    go_wp2
    go_ret
    exact ⟨rfl, HB.out⟩
  obtain ⟨hp1, hq1, hfit⟩ := hr.resolve_left hneg1
  simp only at hfit
  have HF0 := Lib.hid hfit
  clear hr hfit
  go_wp2_with fail
  refine (toSig_any _ ⟨S0, O0⟩ _ (HW0.out.keep HB.out) HF0.out).mono ?_
  rintro e w2 ⟨y0, rfl, ho, hb⟩
  replace fa0 := cell_keep hb fa0
  replace fb0 := cell_keep hb fb0
  replace HB := Lib.hid (ex_keep HB.out hb)
  clear hb
  have P0 := Lib.hid ho.reads
  clear ho
  go_wp2_with fail
  refine (toIntS_any _ xs1 _ (HW1.out.keep HB.out) (by omega)).mono ?_
  rintro e w3 ⟨y1, rfl, ho, hb⟩
  replace fa0 := cell_keep hb fa0
  replace fb0 := cell_keep hb fb0
  replace P0 := Lib.hid (P0.out.keep hb)
  replace HB := Lib.hid (ex_keep HB.out hb)
  clear hb
  have P1 := Lib.hid ho.reads
  clear ho
  go_wp2_with fail
  refine (toIntS_any _ xs2 _ (HW2.out.keep HB.out) (by omega)).mono ?_
  rintro e w4 ⟨y2, rfl, ho, hb⟩
  replace fa0 := cell_keep hb fa0
  replace fb0 := cell_keep hb fb0
  replace P0 := Lib.hid (P0.out.keep hb)
  replace P1 := Lib.hid (P1.out.keep hb)
  replace HB := Lib.hid (ex_keep HB.out hb)
  clear hb
  have P2 := Lib.hid ho.reads
  clear ho
  go_wp2_with fail
  refine (toIntS_any _ xs4 _ (HW4.out.keep HB.out) (by omega)).mono ?_
  rintro e w5 ⟨y4, rfl, ho, hb⟩
  replace fa0 := cell_keep hb fa0
  replace fb0 := cell_keep hb fb0
  replace P0 := Lib.hid (P0.out.keep hb)
  replace P1 := Lib.hid (P1.out.keep hb)
  replace P2 := Lib.hid (P2.out.keep hb)
  replace HB := Lib.hid (ex_keep HB.out hb)
  clear hb
  have P4 := Lib.hid ho.reads
  clear ho
  obtain ⟨R, hR⟩ : ∃ R, R = swapM ⟨S0, O0⟩ xs1 xs2 a3 xs4 := ⟨_, rfl⟩
  have HLEN := Lib.hid (show _ from swapM_len ⟨S0, O0⟩ xs1 xs2 a3 xs4)
  have HR := Lib.hid hR.symm
  rw [← hR] at HLEN
  clear hR
  go_wp2_with fail
  refine (specTermSwap_any ⟨S0, O0⟩ xs1 xs2 a3 xs4 _ _ _ _ _ P0.out P1.out P2.out P4.out).mono ?_
  rw [HR.out]
  rintro e w6 ⟨z0, rfl, hoz, hb⟩
  have HZ := Lib.hid hoz
  obtain ⟨Az, cz, rfl, -⟩ := hoz.reads.form
  clear hoz
  replace fa0 := cell_keep hb fa0
  replace fb0 := cell_keep hb fb0
  replace HB := Lib.hid (ex_keep HB.out hb)
  clear hb
  clear P0 P1 P2 P4
  have HC := Lib.hid (And.intro fa0 (fb0))
  have HBs : Hid (Below w6.heap.size w6 w6) := Below.refl _ _
  clear fa0 fb0
  have fa0 := cell_keep HBs.out HC.out.1
  have fb0 := cell_keep HBs.out HC.out.2
  go_wp2_with fail
  refine (toSig_any _ ⟨S0, O0⟩ _ (HW0.out.keep (ex_keep HB.out HBs.out)) HF0.out).mono ?_
  rintro e w7 ⟨y0, rfl, ⟨x0, rfl, ho⟩, hb⟩
  simp only at ho
  obtain ⟨AX0, cX0, rfl, -⟩ := ho.reads.form
  have hb2 := below_alloc w7 (.cells #[.int .i64 S0, .slice AX0 O0.length cX0] 28)
  have HX0 := Lib.hid (show OSig (w7.alloc (.cells #[.int .i64 S0, .slice AX0 O0.length cX0] 28)) w6.heap.size (.agg #[.int .i64 S0, .slice AX0 O0.length cX0]) ⟨S0, O0⟩ from ⟨_, rfl, ho.keep hb2⟩)
  have HCX0 := Lib.hid (bx_cells w7 (.int .i64 S0) (.slice AX0 O0.length cX0) 28)
  have hy0 := hb.size
  replace hb := hb.trans (hb2.mono hb.size)
  have hs0 := hb.size
  generalize hWw8 : w7.alloc (.cells #[.int .i64 S0, .slice AX0 O0.length cX0] 28) = w8 at HX0 HCX0 hb hs0
  clear hb2 ho
  replace HBs := Lib.hid (ex_keep HBs.out hb)
  clear hb
  have HK0 : Hid (Keeps w6.heap.size w8 w8) := Keeps.refl _ _
  have z0 : w8.heap.size ≤ w8.heap.size := Nat.le_refl _
  clear fa0 fb0
  go_wp2_with fail
  clear hWw8
  refine (toIntS_any _ xs1 _ (HW1.out.keep (ex_keep HB.out HBs.out)) (by omega)).mono ?_
  rintro e w9 ⟨y1, rfl, ho, hb⟩
  have HX1 := Lib.hid ho
  obtain ⟨AX1, cX1, rfl, -⟩ := ho.reads.form
  have hs1 := hb.size
  clear ho
  replace HK0 := Lib.hid (HK0.out.below z0 hb)
  replace z0 : w8.heap.size ≤ w9.heap.size := Nat.le_trans z0 hb.size
  replace HBs := Lib.hid (ex_keep HBs.out hb)
  clear hb
  have HK1 : Hid (Keeps w8.heap.size w9 w9) := Keeps.refl _ _
  have z1 : w9.heap.size ≤ w9.heap.size := Nat.le_refl _
  go_wp2_with fail
  refine (toIntS_any _ xs2 _ (HW2.out.keep (ex_keep HB.out HBs.out)) (by omega)).mono ?_
  rintro e w10 ⟨y2, rfl, ho, hb⟩
  have HX2 := Lib.hid ho
  obtain ⟨AX2, cX2, rfl, -⟩ := ho.reads.form
  have hs2 := hb.size
  clear ho
  replace HK0 := Lib.hid (HK0.out.below z0 hb)
  replace z0 : w8.heap.size ≤ w10.heap.size := Nat.le_trans z0 hb.size
  replace HK1 := Lib.hid (HK1.out.below z1 hb)
  replace z1 : w9.heap.size ≤ w10.heap.size := Nat.le_trans z1 hb.size
  replace HBs := Lib.hid (ex_keep HBs.out hb)
  clear hb
  have HK2 : Hid (Keeps w9.heap.size w10 w10) := Keeps.refl _ _
  have z2 : w10.heap.size ≤ w10.heap.size := Nat.le_refl _
  go_wp2_with fail
  refine (toIntS_any _ xs4 _ (HW4.out.keep (ex_keep HB.out HBs.out)) (by omega)).mono ?_
  rintro e w11 ⟨y4, rfl, ho, hb⟩
  have HX4 := Lib.hid ho
  obtain ⟨AX4, cX4, rfl, -⟩ := ho.reads.form
  have hs4 := hb.size
  clear ho
  replace HK0 := Lib.hid (HK0.out.below z0 hb)
  replace z0 : w8.heap.size ≤ w11.heap.size := Nat.le_trans z0 hb.size
  replace HK1 := Lib.hid (HK1.out.below z1 hb)
  replace z1 : w9.heap.size ≤ w11.heap.size := Nat.le_trans z1 hb.size
  replace HK2 := Lib.hid (HK2.out.below z2 hb)
  replace z2 : w10.heap.size ≤ w11.heap.size := Nat.le_trans z2 hb.size
  replace HBs := Lib.hid (ex_keep HBs.out hb)
  clear hb
  have HK4 : Hid (Keeps w10.heap.size w11 w11) := Keeps.refl _ _
  have z4 : w11.heap.size ≤ w11.heap.size := Nat.le_refl _
  have l0a := HK0.out.cell (by omega) HCX0.out.1
  have l0b := HK0.out.cell (by omega) HCX0.out.2
  go_wp2_with fail
  refine (termSwap_any ⟨S0, O0⟩ xs1 xs2 a3 xs4 _ _ _ _ _ HS2.out HS4.out (HX0.out.same HK0.out).reads (HX1.out.same HK1.out).reads (HX2.out.same HK2.out).reads (HX4.out.same HK4.out).reads).mono ?_
  rw [HR.out]
  rintro e w12 ⟨g0, rfl, hog, hb⟩
  have HG := Lib.hid hog
  obtain ⟨Ag, cg, rfl, -⟩ := hog.reads.form
  have hsg := hb.size
  clear hog
  clear l0a l0b
  replace HK0 := Lib.hid (HK0.out.below z0 hb)
  replace z0 : w8.heap.size ≤ w12.heap.size := Nat.le_trans z0 hb.size
  replace HK1 := Lib.hid (HK1.out.below z1 hb)
  replace z1 : w9.heap.size ≤ w12.heap.size := Nat.le_trans z1 hb.size
  replace HK2 := Lib.hid (HK2.out.below z2 hb)
  replace z2 : w10.heap.size ≤ w12.heap.size := Nat.le_trans z2 hb.size
  replace HK4 := Lib.hid (HK4.out.below z4 hb)
  replace z4 : w11.heap.size ≤ w12.heap.size := Nat.le_trans z4 hb.size
  replace HBs := Lib.hid (ex_keep HBs.out hb)
  clear hb
  have HKg : Hid (Keeps w11.heap.size w12 w12) := Keeps.refl _ _
  have zg : w12.heap.size ≤ w12.heap.size := Nat.le_refl _
  obtain ⟨R1, R2⟩ := R
  simp only at HG HZ HLEN ⊢
  have e1 : (R2 != R2) = false := by simp
  go_wp2_with fail
  refine (eqIntS_is _ _ R1 R1 _ true (sameI_self _) (HG.out.same HKg.out).reads (HZ.out.keep HBs.out).reads).mono ?_
  rintro e w13 ⟨rfl, hd⟩
  have hb := hd.below
  clear hd
  replace HK0 := Lib.hid (HK0.out.below z0 hb)
  replace z0 : w8.heap.size ≤ w13.heap.size := Nat.le_trans z0 hb.size
  replace HK1 := Lib.hid (HK1.out.below z1 hb)
  replace z1 : w9.heap.size ≤ w13.heap.size := Nat.le_trans z1 hb.size
  replace HK2 := Lib.hid (HK2.out.below z2 hb)
  replace z2 : w10.heap.size ≤ w13.heap.size := Nat.le_trans z2 hb.size
  replace HK4 := Lib.hid (HK4.out.below z4 hb)
  replace z4 : w11.heap.size ≤ w13.heap.size := Nat.le_trans z4 hb.size
  replace HKg := Lib.hid (HKg.out.below zg hb)
  replace zg : w12.heap.size ≤ w13.heap.size := Nat.le_trans zg hb.size
  replace HBs := Lib.hid (ex_keep HBs.out hb)
  clear hb
  have fa0 := cell_keep HBs.out HC.out.1
  have fb0 := cell_keep HBs.out HC.out.2
  have l0a := HK0.out.cell (by omega) HCX0.out.1
  have l0b := HK0.out.cell (by omega) HCX0.out.2
  have HSW0 := Lib.hid (HW0.out.keep (ex_keep HB.out HBs.out))
  have HXR0 := Lib.hid (HX0.out.same HK0.out).reads
  go_wp2_with fail
  have ea := World.new_ne w13 _ fa0
  have eb := World.new_ne w13 _ l0a
  go_region_held3 (fun w' => w'.cell? ⟨w.heap.size, 0, none⟩ = some (.int .i64 S0) ∧ w'.cell? ⟨w.heap.size, 1, none⟩ = some (.slice A0 O0.length c0) ∧ w'.cell? ⟨w7.heap.size, 0, none⟩ = some (.int .i64 S0) ∧ w'.cell? ⟨w7.heap.size, 1, none⟩ = some (.slice AX0 O0.length cX0))
    (first | go_keep)
    (first
      | (go_at_call 11; refine (toSig_any _ ⟨S0, O0⟩ w13.drew HSW0.out HF0.out).mono ?_; rintro e w14 ⟨yj, rfl, hoj, hbj⟩; have HOj := Lib.hid hoj; have HBj := Lib.hid (show Below w13.heap.size w13 w14 from below_undrew hbj); have o0 := cell_keep HBj.out fa0; have o1 := cell_keep HBj.out fb0; have o2 := cell_keep HBj.out l0a; have o3 := cell_keep HBj.out l0b; clear hoj hbj)
      | (go_at_call 14; refine (eqSig_is _ _ ⟨S0, O0⟩ ⟨S0, O0⟩ _ true (sameS_self _) (HXR0.out.keep HBj.out) HOj.out.reads).mono ?_; rintro e w15 ⟨rfl, hbk⟩; have HBk := Lib.hid (ex_keep HBj.out hbk); have q0 := cell_keep hbk o0; have q1 := cell_keep hbk o1; have q2 := cell_keep hbk o2; have q3 := cell_keep hbk o3; clear hbk))
  have hb := HBk.out
  clear fa0 fb0 l0a l0b o0 o1 o2 o3 q0 q1 q2 q3 ea eb HBj HBk HOj HSW0 HXR0
  replace HK0 := Lib.hid (HK0.out.below z0 hb)
  replace z0 : w8.heap.size ≤ w15.heap.size := Nat.le_trans z0 hb.size
  replace HK1 := Lib.hid (HK1.out.below z1 hb)
  replace z1 : w9.heap.size ≤ w15.heap.size := Nat.le_trans z1 hb.size
  replace HK2 := Lib.hid (HK2.out.below z2 hb)
  replace z2 : w10.heap.size ≤ w15.heap.size := Nat.le_trans z2 hb.size
  replace HK4 := Lib.hid (HK4.out.below z4 hb)
  replace z4 : w11.heap.size ≤ w15.heap.size := Nat.le_trans z4 hb.size
  replace HKg := Lib.hid (HKg.out.below zg hb)
  replace zg : w12.heap.size ≤ w15.heap.size := Nat.le_trans zg hb.size
  replace HBs := Lib.hid (ex_keep HBs.out hb)
  clear hb
  go_wp2_with fail
  refine (toIntS_any _ xs1 _ (HW1.out.keep (ex_keep HB.out HBs.out)) (by omega)).mono ?_
  rintro e w16 ⟨yj, rfl, ho, hb⟩
  have PJ := Lib.hid ho.reads
  clear ho
  replace HK0 := Lib.hid (HK0.out.below z0 hb)
  replace z0 : w8.heap.size ≤ w16.heap.size := Nat.le_trans z0 hb.size
  replace HK1 := Lib.hid (HK1.out.below z1 hb)
  replace z1 : w9.heap.size ≤ w16.heap.size := Nat.le_trans z1 hb.size
  replace HK2 := Lib.hid (HK2.out.below z2 hb)
  replace z2 : w10.heap.size ≤ w16.heap.size := Nat.le_trans z2 hb.size
  replace HK4 := Lib.hid (HK4.out.below z4 hb)
  replace z4 : w11.heap.size ≤ w16.heap.size := Nat.le_trans z4 hb.size
  replace HKg := Lib.hid (HKg.out.below zg hb)
  replace zg : w12.heap.size ≤ w16.heap.size := Nat.le_trans zg hb.size
  replace HBs := Lib.hid (ex_keep HBs.out hb)
  clear hb
  go_wp2_with fail
  refine (eqIntS_is _ _ xs1 xs1 _ true (sameI_self _) (HX1.out.same HK1.out).reads PJ.out).mono ?_
  rintro e w17 ⟨rfl, hd⟩
  have hb := hd.below
  clear hd PJ
  replace HK0 := Lib.hid (HK0.out.below z0 hb)
  replace z0 : w8.heap.size ≤ w17.heap.size := Nat.le_trans z0 hb.size
  replace HK1 := Lib.hid (HK1.out.below z1 hb)
  replace z1 : w9.heap.size ≤ w17.heap.size := Nat.le_trans z1 hb.size
  replace HK2 := Lib.hid (HK2.out.below z2 hb)
  replace z2 : w10.heap.size ≤ w17.heap.size := Nat.le_trans z2 hb.size
  replace HK4 := Lib.hid (HK4.out.below z4 hb)
  replace z4 : w11.heap.size ≤ w17.heap.size := Nat.le_trans z4 hb.size
  replace HKg := Lib.hid (HKg.out.below zg hb)
  replace zg : w12.heap.size ≤ w17.heap.size := Nat.le_trans zg hb.size
  replace HBs := Lib.hid (ex_keep HBs.out hb)
  clear hb
  go_wp2_with fail
  refine (toIntS_any _ xs2 _ (HW2.out.keep (ex_keep HB.out HBs.out)) (by omega)).mono ?_
  rintro e w18 ⟨yj, rfl, ho, hb⟩
  have PJ := Lib.hid ho.reads
  clear ho
  replace HK0 := Lib.hid (HK0.out.below z0 hb)
  replace z0 : w8.heap.size ≤ w18.heap.size := Nat.le_trans z0 hb.size
  replace HK1 := Lib.hid (HK1.out.below z1 hb)
  replace z1 : w9.heap.size ≤ w18.heap.size := Nat.le_trans z1 hb.size
  replace HK2 := Lib.hid (HK2.out.below z2 hb)
  replace z2 : w10.heap.size ≤ w18.heap.size := Nat.le_trans z2 hb.size
  replace HK4 := Lib.hid (HK4.out.below z4 hb)
  replace z4 : w11.heap.size ≤ w18.heap.size := Nat.le_trans z4 hb.size
  replace HKg := Lib.hid (HKg.out.below zg hb)
  replace zg : w12.heap.size ≤ w18.heap.size := Nat.le_trans zg hb.size
  replace HBs := Lib.hid (ex_keep HBs.out hb)
  clear hb
  go_wp2_with fail
  refine (eqIntS_is _ _ xs2 xs2 _ true (sameI_self _) (HX2.out.same HK2.out).reads PJ.out).mono ?_
  rintro e w19 ⟨rfl, hd⟩
  have hb := hd.below
  clear hd PJ
  replace HK0 := Lib.hid (HK0.out.below z0 hb)
  replace z0 : w8.heap.size ≤ w19.heap.size := Nat.le_trans z0 hb.size
  replace HK1 := Lib.hid (HK1.out.below z1 hb)
  replace z1 : w9.heap.size ≤ w19.heap.size := Nat.le_trans z1 hb.size
  replace HK2 := Lib.hid (HK2.out.below z2 hb)
  replace z2 : w10.heap.size ≤ w19.heap.size := Nat.le_trans z2 hb.size
  replace HK4 := Lib.hid (HK4.out.below z4 hb)
  replace z4 : w11.heap.size ≤ w19.heap.size := Nat.le_trans z4 hb.size
  replace HKg := Lib.hid (HKg.out.below zg hb)
  replace zg : w12.heap.size ≤ w19.heap.size := Nat.le_trans zg hb.size
  replace HBs := Lib.hid (ex_keep HBs.out hb)
  clear hb
  go_wp2_with fail
  refine (toIntS_any _ xs4 _ (HW4.out.keep (ex_keep HB.out HBs.out)) (by omega)).mono ?_
  rintro e w20 ⟨yj, rfl, ho, hb⟩
  have PJ := Lib.hid ho.reads
  clear ho
  replace HK0 := Lib.hid (HK0.out.below z0 hb)
  replace z0 : w8.heap.size ≤ w20.heap.size := Nat.le_trans z0 hb.size
  replace HK1 := Lib.hid (HK1.out.below z1 hb)
  replace z1 : w9.heap.size ≤ w20.heap.size := Nat.le_trans z1 hb.size
  replace HK2 := Lib.hid (HK2.out.below z2 hb)
  replace z2 : w10.heap.size ≤ w20.heap.size := Nat.le_trans z2 hb.size
  replace HK4 := Lib.hid (HK4.out.below z4 hb)
  replace z4 : w11.heap.size ≤ w20.heap.size := Nat.le_trans z4 hb.size
  replace HKg := Lib.hid (HKg.out.below zg hb)
  replace zg : w12.heap.size ≤ w20.heap.size := Nat.le_trans zg hb.size
  replace HBs := Lib.hid (ex_keep HBs.out hb)
  clear hb
  go_wp2_with fail
  refine (eqIntS_is _ _ xs4 xs4 _ true (sameI_self _) (HX4.out.same HK4.out).reads PJ.out).mono ?_
  rintro e w21 ⟨rfl, hd⟩
  have hb := hd.below
  clear hd PJ
  replace HK0 := Lib.hid (HK0.out.below z0 hb)
  replace z0 : w8.heap.size ≤ w21.heap.size := Nat.le_trans z0 hb.size
  replace HK1 := Lib.hid (HK1.out.below z1 hb)
  replace z1 : w9.heap.size ≤ w21.heap.size := Nat.le_trans z1 hb.size
  replace HK2 := Lib.hid (HK2.out.below z2 hb)
  replace z2 : w10.heap.size ≤ w21.heap.size := Nat.le_trans z2 hb.size
  replace HK4 := Lib.hid (HK4.out.below z4 hb)
  replace z4 : w11.heap.size ≤ w21.heap.size := Nat.le_trans z4 hb.size
  replace HKg := Lib.hid (HKg.out.below zg hb)
  replace zg : w12.heap.size ≤ w21.heap.size := Nat.le_trans zg hb.size
  replace HBs := Lib.hid (ex_keep HBs.out hb)
  clear hb
  have l0a := HK0.out.cell (by omega) HCX0.out.1
  have l0b := HK0.out.cell (by omega) HCX0.out.2
  go_wp2_with fail
  refine (markSig_go _ _ ⟨S0, O0⟩ _ w8 _ HX0.out HK0.out z0 HF0.out (by omega) (by omega)).mono ?_
  rintro e w22 ⟨k0, rfl, hka0, hkb0, wa, hb, hout⟩
  have hzo := hout.size
  replace HK1 := Lib.hid ((HK1.out.below z1 hb).outside hout (by omega))
  replace z1 : w9.heap.size ≤ w22.heap.size := by have := hb.size; omega
  replace HK2 := Lib.hid ((HK2.out.below z2 hb).outside hout (by omega))
  replace z2 : w10.heap.size ≤ w22.heap.size := by have := hb.size; omega
  replace HK4 := Lib.hid ((HK4.out.below z4 hb).outside hout (by omega))
  replace z4 : w11.heap.size ≤ w22.heap.size := by have := hb.size; omega
  replace HKg := Lib.hid ((HKg.out.below zg hb).outside hout (by omega))
  replace zg : w12.heap.size ≤ w22.heap.size := by have := hb.size; omega
  replace HBs := Lib.hid ((ex_keep HBs.out hb).trans (hout.below.mono (by omega)))
  clear hb hout hzo HK0 z0 HX0 l0a l0b
  go_wp2_with fail
  refine (markIntS_go _ _ xs1 _ w9 _ HX1.out HK1.out z1 (by omega) (by omega) (by omega)).mono ?_
  rintro e w23 ⟨k1, rfl, hka1, hkb1, wa, hb, hout⟩
  have hzo := hout.size
  replace HK2 := Lib.hid ((HK2.out.below z2 hb).outside hout (by omega))
  replace z2 : w10.heap.size ≤ w23.heap.size := by have := hb.size; omega
  replace HK4 := Lib.hid ((HK4.out.below z4 hb).outside hout (by omega))
  replace z4 : w11.heap.size ≤ w23.heap.size := by have := hb.size; omega
  replace HKg := Lib.hid ((HKg.out.below zg hb).outside hout (by omega))
  replace zg : w12.heap.size ≤ w23.heap.size := by have := hb.size; omega
  replace HBs := Lib.hid ((ex_keep HBs.out hb).trans (hout.below.mono (by omega)))
  clear hb hout hzo HK1 z1 HX1
  go_wp2_with fail
  refine (markIntS_go _ _ xs2 _ w10 _ HX2.out HK2.out z2 (by omega) (by omega) (by omega)).mono ?_
  rintro e w24 ⟨k2, rfl, hka2, hkb2, wa, hb, hout⟩
  have hzo := hout.size
  replace HK4 := Lib.hid ((HK4.out.below z4 hb).outside hout (by omega))
  replace z4 : w11.heap.size ≤ w24.heap.size := by have := hb.size; omega
  replace HKg := Lib.hid ((HKg.out.below zg hb).outside hout (by omega))
  replace zg : w12.heap.size ≤ w24.heap.size := by have := hb.size; omega
  replace HBs := Lib.hid ((ex_keep HBs.out hb).trans (hout.below.mono (by omega)))
  clear hb hout hzo HK2 z2 HX2
  go_wp2_with fail
  refine (markIntS_go _ _ xs4 _ w11 _ HX4.out HK4.out z4 (by omega) (by omega) (by omega)).mono ?_
  rintro e w25 ⟨k4, rfl, hka4, hkb4, wa, hb, hout⟩
  have hzo := hout.size
  replace HKg := Lib.hid ((HKg.out.below zg hb).outside hout (by omega))
  replace zg : w12.heap.size ≤ w25.heap.size := by have := hb.size; omega
  replace HBs := Lib.hid ((ex_keep HBs.out hb).trans (hout.below.mono (by omega)))
  clear hb hout hzo HK4 z4 HX4
  go_wp2_with fail
  refine (eqIntS_is _ _ R1 R1 _ true (sameI_self _) (HG.out.same HKg.out).reads (HZ.out.keep HBs.out).reads).mono ?_
  rintro e w26 ⟨rfl, hd⟩
  have hb := hd.below
  clear hd
  replace HKg := Lib.hid (HKg.out.below zg hb)
  replace zg : w12.heap.size ≤ w26.heap.size := Nat.le_trans zg hb.size
  replace HBs := Lib.hid (ex_keep HBs.out hb)
  clear hb
  go_wp2_with fail
  refine (markIntS_g _ _ R1 w12 _ HG.out HKg.out zg HLEN.out).mono ?_
  rintro e w27 ⟨K, rfl, hK0, hheld, wa, hb, hout⟩
  have HH := Lib.hid hheld
  have hzo := hout.size
  replace HBs := Lib.hid ((ex_keep HBs.out hb).trans (hout.below.mono (by omega)))
  clear hb hout hzo hheld HKg zg HG
  have HKh : Hid (Keeps w11.heap.size w27 w27) := Keeps.refl _ _
  have zh : w27.heap.size ≤ w27.heap.size := Nat.le_refl _
  have ek : (K != K) = false := by simp
  go_wp2_with fail
  refine (HH.out _ HKh.out).mono ?_
  rintro e w28 ⟨rfl, hb⟩
  replace HKh := Lib.hid (HKh.out.below zh hb)
  replace zh : w27.heap.size ≤ w28.heap.size := Nat.le_trans zh hb.size
  replace HBs := Lib.hid (ex_keep HBs.out hb)
  clear hb
  have fa0 := cell_keep HBs.out HC.out.1
  have fb0 := cell_keep HBs.out HC.out.2
  go_wp2_with fail
  refine (toSig_any _ ⟨S0, O0⟩ _ (HW0.out.keep (ex_keep HB.out HBs.out)) HF0.out).mono ?_
  rintro e w29 ⟨y0, rfl, ho, hb⟩
  replace HKh := Lib.hid (HKh.out.below zh hb)
  replace zh : w27.heap.size ≤ w29.heap.size := Nat.le_trans zh hb.size
  replace HBs := Lib.hid (ex_keep HBs.out hb)
  clear hb
  have PP0 := Lib.hid ho.reads
  clear ho
  clear fa0 fb0
  go_wp2_with fail
  refine (toIntS_any _ xs1 _ (HW1.out.keep (ex_keep HB.out HBs.out)) (by omega)).mono ?_
  rintro e w30 ⟨y1, rfl, ho, hb⟩
  replace PP0 := Lib.hid (PP0.out.keep hb)
  replace HKh := Lib.hid (HKh.out.below zh hb)
  replace zh : w27.heap.size ≤ w30.heap.size := Nat.le_trans zh hb.size
  replace HBs := Lib.hid (ex_keep HBs.out hb)
  clear hb
  have PP1 := Lib.hid ho.reads
  clear ho
  go_wp2_with fail
  refine (toIntS_any _ xs2 _ (HW2.out.keep (ex_keep HB.out HBs.out)) (by omega)).mono ?_
  rintro e w31 ⟨y2, rfl, ho, hb⟩
  replace PP0 := Lib.hid (PP0.out.keep hb)
  replace PP1 := Lib.hid (PP1.out.keep hb)
  replace HKh := Lib.hid (HKh.out.below zh hb)
  replace zh : w27.heap.size ≤ w31.heap.size := Nat.le_trans zh hb.size
  replace HBs := Lib.hid (ex_keep HBs.out hb)
  clear hb
  have PP2 := Lib.hid ho.reads
  clear ho
  go_wp2_with fail
  refine (toIntS_any _ xs4 _ (HW4.out.keep (ex_keep HB.out HBs.out)) (by omega)).mono ?_
  rintro e w32 ⟨y4, rfl, ho, hb⟩
  replace PP0 := Lib.hid (PP0.out.keep hb)
  replace PP1 := Lib.hid (PP1.out.keep hb)
  replace PP2 := Lib.hid (PP2.out.keep hb)
  replace HKh := Lib.hid (HKh.out.below zh hb)
  replace zh : w27.heap.size ≤ w32.heap.size := Nat.le_trans zh hb.size
  replace HBs := Lib.hid (ex_keep HBs.out hb)
  clear hb
  have PP4 := Lib.hid ho.reads
  clear ho
  go_wp2_with fail
  refine (termSwap_any ⟨S0, O0⟩ xs1 xs2 a3 xs4 _ _ _ _ _ HS2.out HS4.out PP0.out PP1.out PP2.out PP4.out).mono ?_
  rw [HR.out]
  rintro e w33 ⟨g1, rfl, hog, hb⟩
  obtain ⟨Ah, ch, rfl, -⟩ := hog.reads.form
  have HG1 := Lib.hid hog.reads
  clear hog PP0 PP1 PP2 PP4
  replace HKh := Lib.hid (HKh.out.below zh hb)
  replace zh : w27.heap.size ≤ w33.heap.size := Nat.le_trans zh hb.size
  replace HBs := Lib.hid (ex_keep HBs.out hb)
  clear hb
  simp only at HG1 ⊢
  go_wp2_with fail
  refine (eqIntS_is _ _ R1 R1 _ true (sameI_self _) HG1.out (HZ.out.keep HBs.out).reads).mono ?_
  rintro e w34 ⟨rfl, hd⟩
  have hb := hd.below
  clear hd
  replace HKh := Lib.hid (HKh.out.below zh hb)
  replace zh : w27.heap.size ≤ w34.heap.size := Nat.le_trans zh hb.size
  replace HBs := Lib.hid (ex_keep HBs.out hb)
  clear hb
  clear HG1
  go_wp2_with fail
  refine (HH.out _ HKh.out).mono ?_
  rintro e w35 ⟨rfl, hb⟩
  replace HKh := Lib.hid (HKh.out.below zh hb)
  replace zh : w27.heap.size ≤ w35.heap.size := Nat.le_trans zh hb.size
  replace HBs := Lib.hid (ex_keep HBs.out hb)
  clear hb
  go_wp2
  go_ret
  exact ⟨rfl, ex_keep HB.out HBs.out⟩

set_option maxRecDepth 100000 in
theorem lifted_FnExactTermSwap (os : Os) (started : os.Started) (H : Type) (enc : TypeId × Value → H) :
    ReturnsInHanded {} Try.checked os 7 .any (Rows.fnExactTermSwapSpec.pre6 enc Try.prog Try.f7 Rows.fnExactTermSwapRow.domain false) (Rows.fnExactTermSwapSpec.post enc Try.prog Try.f7 false true false false) := by
  refine returnsInHanded_of_change (C := Try.checked) own started (by kernel_rfl) Try.func7
    (ChangeSpec.witness6 (enc := enc) (C := Try.checked) false ⟨#[], #[.agg #[.int .i64 0, .slice none 0 0], .slice none 0 0, .slice none 0 0, .int .i64 0, .slice none 0 0], []⟩ 8 (by kernel_rfl) (by kernel_rfl) (by kernel_rfl) (by kernel_rfl)) ?_
  intro W base args ds gs before hval0 hW hcnd _
  have hval : ∀ (j : Nat) t v, Try.f7.params[j]? = some t → args[j]? = some v → Value.okWide Try.prog W .any base t v := hval0
  have hW' := hW
  obtain ⟨p, q, hA0, hV, rfl, hfz, hnd⟩ := hW
  have hA : DataW.TrodAll enc Try.prog W 0 (fun _ => true) true Try.f7.params.toList args.toList ds p := hA0
  rw [Try.params7] at hA hval
  obtain ⟨v0, vs0, d0, ds0, p0, q0, hargs, rfl, rfl, h0, r0⟩ := trodAll_cons hA
  obtain ⟨v1, vs1, d1, ds1, p1, q1, rfl, rfl, rfl, h1, r1⟩ := trodAll_cons r0
  obtain ⟨v2, vs2, d2, ds2, p2, q2, rfl, rfl, rfl, h2, r2⟩ := trodAll_cons r1
  obtain ⟨v3, vs3, d3, ds3, p3, q3, rfl, rfl, rfl, h3, r3⟩ := trodAll_cons r2
  obtain ⟨v4, vs4, d4, ds4, p4, q4, rfl, rfl, rfl, h4, r4⟩ := trodAll_cons r3
  obtain ⟨rfl, rfl, rfl⟩ := trodAll_nil r4
  obtain rfl : args = #[v0, v1, v2, v3, v4] := by cases args; simp_all
  obtain ⟨rfl, rfl⟩ := trodVars_none hV
  have k0 := h0
  have lt0 : ∀ x ∈ p0, x.block < W.heap.size := by obtain ⟨m, hm⟩ := k0; exact DataW.trod_lt m _ _ _ hm
  obtain ⟨s0, w0⟩ : ∃ s, RSig W v0 s := sig_of (hval 0 24 v0 rfl rfl) h0
  have k1 := h1
  have lt1 : ∀ x ∈ p1, x.block < W.heap.size := by obtain ⟨m, hm⟩ := k1; exact DataW.trod_lt m _ _ _ hm
  obtain ⟨s1, w1⟩ : ∃ xs, RInts W v1 xs ∧ Small xs := ints_of (hval 1 25 v1 rfl rfl) h1
  have k2 := h2
  have lt2 : ∀ x ∈ p2, x.block < W.heap.size := by obtain ⟨m, hm⟩ := k2; exact DataW.trod_lt m _ _ _ hm
  obtain ⟨s2, w2⟩ : ∃ xs, RInts W v2 xs ∧ Small xs := ints_of (hval 2 25 v2 rfl rfl) h2
  have k3 := h3
  have lt3 : ∀ x ∈ p3, x.block < W.heap.size := by obtain ⟨m, hm⟩ := k3; exact DataW.trod_lt m _ _ _ hm
  obtain ⟨a3, w3⟩ : ∃ a, v3 = .int .i64 a := by obtain ⟨a, ha, _⟩ := open_int Try.underlying3 (hval 3 3 v3 rfl rfl) h3; exact ⟨a, ha⟩
  subst w3
  have k4 := h4
  have lt4 : ∀ x ∈ p4, x.block < W.heap.size := by obtain ⟨m, hm⟩ := k4; exact DataW.trod_lt m _ _ _ hm
  obtain ⟨s4, w4⟩ : ∃ xs, RInts W v4 xs ∧ Small xs := ints_of (hval 4 25 v4 rfl rfl) h4
  clear hA0 hval0
  refine (walk_FnExactTermSwap _ s0 _ s1 _ s2 a3 _ s4 W w0 w1 w2 w4).mono fun e W' ⟨he, bel⟩ => ?_
  subst he
  exact ⟨_, rfl, _, _, _, [], _, [], hW', trodAll_mk1 (shut_bool Try.underlying4 _), (trodAll_cons_mk (Below.trod laidOut (by kernel_rfl) (of_decide_eq_true (by kernel_rfl)) k0 bel lt0) (trodAll_cons_mk (Below.trod laidOut (by kernel_rfl) (of_decide_eq_true (by kernel_rfl)) k1 bel lt1) (trodAll_cons_mk (Below.trod laidOut (by kernel_rfl) (of_decide_eq_true (by kernel_rfl)) k2 bel lt2) (trodAll_cons_mk (Below.trod laidOut (by kernel_rfl) (of_decide_eq_true (by kernel_rfl)) k3 bel lt3) (trodAll_cons_mk (Below.trod laidOut (by kernel_rfl) (of_decide_eq_true (by kernel_rfl)) k4 bel lt4) trodAll_mk0))))), rfl, bel.frame _, fun h => by cases h⟩

theorem over_FnExactTermSwap : Rows.fnExactTermSwapRow.holds Try.pinned (OpenSpec.ofChange Rows.fnExactTermSwapSpec) :=
  OpenClaim.holds_of_wide 7 Try.f7 rfl rfl rfl rfl rfl rfl rfl ⟨rfl, rfl, rfl, rfl, rfl⟩ rfl rfl rfl rfl rfl (by kernel_rfl) Try.func7 (by kernel_rfl)
    (of_decide_eq_true (by kernel_rfl)) (by unfold Func.isWrapper; first | (rw [if_pos (by decide +kernel)]; kernel_rfl) | (rw [if_neg (by decide +kernel)]; exact ⟨rfl, rfl⟩))
    (fun os started H enc _ => lifted_FnExactTermSwap os started H enc)

theorem proved_FnExactTermSwap : Rows.FnExactTermSwapSaid := over_FnExactTermSwap
end Go.Proofs.Ytcbjfedhebeogae
