/- FnExactIsModel answers true at every theory and model. No condition. -/
import Derived.Test.YteccjnnhihbdhaaModG
import Derived.Test.YteccjnnhihbdhaaExGen
import Derived.Test.YteccjnnhihbdhaaThyT
import Derived.Test.YteccjnnhihbdhaaFrameMd
import Derived.Test.YteccjnnhihbdhaaIsMod
namespace Go.Proofs.Yteccjnnhihbdhaa
open Go.ChangeShapes Go.WideShapes Go.ChangeAt Go.RowKit
set_option linter.unusedVariables false
set_option linter.unusedSimpArgs false

theorem OThy.sameK {w w' : World} {B : Nat} {v : Value} {t : MThy} (h : OThy w B v t) (hk : Keeps B w w') (hs : w.heap.size ≤ w'.heap.size) : OThy w' B v t := h.same hs hk

set_option maxHeartbeats 3200000 in
set_option maxRecDepth 100000 in
theorem walk_FnExactIsModel (v0 : Value) (s0 : MThy) (v1 : Value) (s1 : MModel) (w : World) (h0 : RThy w v0 s0 ∧ SmallT s0) (h1 : RModel w v1 s1) :
    Calls Try.prog 8 #[v0, v1] w fun e w' => e = .returned (.bool true) ∧ Below w.heap.size w w' := by
  have HB : Hid (Below w.heap.size w w) := Below.refl _ _
  have HS0 := Lib.hid h0.2
  replace h0 := h0.1
  obtain ⟨A0a, c0a, A0b, c0b, rfl⟩ := h0.form
  have HW0 := Lib.hid h0
  have hb := below_alloc (w) (.cells #[.int .i64 s0.over.sorts, .slice A0a s0.over.ops.length c0a, .slice A0b s0.eqs.length c0b] 60)
  have fa0 := (bx3 (w) (.int .i64 s0.over.sorts) (.slice A0a s0.over.ops.length c0a) (.slice A0b s0.eqs.length c0b) 60).1
  have fb0 := (bx3 (w) (.int .i64 s0.over.sorts) (.slice A0a s0.over.ops.length c0a) (.slice A0b s0.eqs.length c0b) 60).2.1
  have fc0 := (bx3 (w) (.int .i64 s0.over.sorts) (.slice A0a s0.over.ops.length c0a) (.slice A0b s0.eqs.length c0b) 60).2.2
  replace HB := Lib.hid (ex_keep HB.out hb)
  clear hb h0
  obtain ⟨A1a, c1a, A1b, c1b, rfl⟩ := h1.form
  have HW1 := Lib.hid h1
  have hb := below_alloc (w.alloc (.cells #[.int .i64 s0.over.sorts, .slice A0a s0.over.ops.length c0a, .slice A0b s0.eqs.length c0b] 60)) (.cells #[.slice A1a s1.sizes.length c1a, .slice A1b s1.tables.length c1b] 27)
  replace fa0 := cell_keep hb fa0
  replace fb0 := cell_keep hb fb0
  replace fc0 := cell_keep hb fc0
  have fa1 := (bx_cells (w.alloc (.cells #[.int .i64 s0.over.sorts, .slice A0a s0.over.ops.length c0a, .slice A0b s0.eqs.length c0b] 60)) (.slice A1a s1.sizes.length c1a) (.slice A1b s1.tables.length c1b) 27).1
  have fb1 := (bx_cells (w.alloc (.cells #[.int .i64 s0.over.sorts, .slice A0a s0.over.ops.length c0a, .slice A0b s0.eqs.length c0b] 60)) (.slice A1a s1.sizes.length c1a) (.slice A1b s1.tables.length c1b) 27).2
  simp only [World.size_alloc] at fa1 fb1
  replace HB := Lib.hid (ex_keep HB.out hb)
  clear hb h1
  go_enter Try.func8, Try.ntmps8
  go_wp2_with fail
  refine (szTheory_any _ s0 _ _ (HW0.out.keep HB.out) (by omega) (by omega)).mono ?_
  rintro e w1 ⟨r1, rfl, hr, hb⟩
  replace fa0 := cell_keep hb fa0
  replace fb0 := cell_keep hb fb0
  replace fc0 := cell_keep hb fc0
  replace fa1 := cell_keep hb fa1
  replace fb1 := cell_keep hb fb1
  replace HB := Lib.hid (ex_keep HB.out hb)
  clear hb
  by_cases hneg1 : r1 < 0
  · clear hr
    go_wp2
    go_ret
    exact ⟨rfl, HB.out⟩
  obtain ⟨hp1, hq1, hfit⟩ := hr.resolve_left hneg1
  have HF0 := Lib.hid hfit
  clear hr hfit
  go_wp2_with fail
  refine (szModel_any _ s1 _ _ (HW1.out.keep HB.out) (by omega) (by omega)).mono ?_
  rintro e w2 ⟨r2, rfl, hr, hb⟩
  replace fa0 := cell_keep hb fa0
  replace fb0 := cell_keep hb fb0
  replace fc0 := cell_keep hb fc0
  replace fa1 := cell_keep hb fa1
  replace fb1 := cell_keep hb fb1
  replace HB := Lib.hid (ex_keep HB.out hb)
  clear hb
  by_cases hneg2 : r2 < 0
  · clear hr
    go_wp2
    go_ret
    exact ⟨rfl, HB.out⟩
  obtain ⟨hp2, hq2, hfit⟩ := hr.resolve_left hneg2
  have HF1 := Lib.hid hfit
  clear hr hfit
  obtain ⟨R, hR⟩ : ∃ R, R = isModelB s0 s1 := ⟨_, rfl⟩
  have HR := Lib.hid hR.symm
  clear hR
  go_wp2_with fail
  refine wp_region_held_drew (S := (fun w' => w'.cell? ⟨w.heap.size, 0, none⟩ = some (.int .i64 s0.over.sorts) ∧ w'.cell? ⟨w.heap.size, 1, none⟩ = some (.slice A0a s0.over.ops.length c0a) ∧ w'.cell? ⟨w.heap.size, 2, none⟩ = some (.slice A0b s0.eqs.length c0b) ∧ w'.cell? ⟨w.heap.size + 1, 0, none⟩ = some (.slice A1a s1.sizes.length c1a) ∧ w'.cell? ⟨w.heap.size + 1, 1, none⟩ = some (.slice A1b s1.tables.length c1b))) (by kernel_rfl) ?_ (fun hHeld => ?_)
  · exact ⟨fa0, fb0, fc0, fa1, fb1⟩
  refine wpAnyH_take (i := 0) (oi := _) (v := ?_) rfl (by kernel_rfl) (by kernel_rfl) (by kernel_rfl) (fun _ _ _ h => h) (Or.inl ⟨by rfl, ?_⟩) (by assumption) ?_
  rotate_left
  · first | (intro w' hSw; (try dsimp only at hSw); go_simp; done) | (intro w' hSw; (try dsimp only at hSw); go_simp; with_reducible rfl)
  try simp only [Act.put, List.getElem_toArray, List.getElem_cons_zero, List.getElem_cons_succ, List.setIfInBounds_toArray, List.set_cons_zero, List.set_cons_succ]
  refine wpAnyH_take (i := 2) (oi := _) (v := ?_) rfl (by kernel_rfl) (by kernel_rfl) (by kernel_rfl) (fun _ _ _ h => h) (Or.inl ⟨by rfl, ?_⟩) (by assumption) ?_
  rotate_left
  · first | (intro w' hSw; (try dsimp only at hSw); go_simp; done) | (intro w' hSw; (try dsimp only at hSw); go_simp; with_reducible rfl)
  try simp only [Act.put, List.getElem_toArray, List.getElem_cons_zero, List.getElem_cons_succ, List.setIfInBounds_toArray, List.set_cons_zero, List.set_cons_succ]
  refine wpAnyH_ready (rs := [1]) (by kernel_rfl) (by simp) ?_
  refine AllReadyH.cons (o := _) rfl (fun K hK => ?_) AllReadyH.nil
  go_simp
  refine (toTheory_any _ s0 _ (HW0.out.keep (ex_drew HB.out)) HF0.out).mono ?_
  rintro e w3 ⟨y0, rfl, ho, hb⟩
  replace hb := ex_undrew hb
  replace fa0 := cell_keep hb fa0
  replace fb0 := cell_keep hb fb0
  replace fc0 := cell_keep hb fc0
  replace fa1 := cell_keep hb fa1
  replace fb1 := cell_keep hb fb1
  replace HB := Lib.hid (ex_keep HB.out hb)
  clear hb
  have P0 := Lib.hid ho.reads
  obtain ⟨AY0a, cY0a, AY0b, cY0b, rfl⟩ := ho.reads.form
  clear ho
  go_wp2_with fail
  refine hK.out _ _ ?_ (fun hHeld => ?_)
  · exact ⟨fa0, fb0, fc0, fa1, fb1⟩
  clear hK K
  try simp only [Act.put, List.getElem_toArray, List.getElem_cons_zero, List.getElem_cons_succ, List.setIfInBounds_toArray, List.set_cons_zero, List.set_cons_succ]
  refine wpAnyH_ready (rs := [3]) (by kernel_rfl) (by simp) ?_
  refine AllReadyH.cons (o := _) rfl (fun K hK => ?_) AllReadyH.nil
  go_simp
  refine (toModel_any _ s1 _ (HW1.out.keep HB.out) HF1.out).mono ?_
  rintro e w4 ⟨y1, rfl, ho, hb⟩
  replace fa0 := cell_keep hb fa0
  replace fb0 := cell_keep hb fb0
  replace fc0 := cell_keep hb fc0
  replace fa1 := cell_keep hb fa1
  replace fb1 := cell_keep hb fb1
  replace P0 := Lib.hid (P0.out.keep hb)
  replace HB := Lib.hid (ex_keep HB.out hb)
  clear hb
  have P1 := Lib.hid ho.reads
  obtain ⟨AY1a, cY1a, AY1b, cY1b, rfl⟩ := ho.reads.form
  clear ho
  go_wp2_with fail
  refine hK.out _ _ ?_ (fun hHeld => ?_)
  · exact ⟨fa0, fb0, fc0, fa1, fb1⟩
  clear hK K
  try simp only [Act.put, List.getElem_toArray, List.getElem_cons_zero, List.getElem_cons_succ, List.setIfInBounds_toArray, List.set_cons_zero, List.set_cons_succ]
  refine wpAnyH_ready (rs := [4]) (by kernel_rfl) (by simp) ?_
  refine AllReadyH.cons (o := _) rfl (fun K hK => ?_) AllReadyH.nil
  go_simp
  refine (specIsModel_any s0 s1 _ _ _ P0.out P1.out).mono ?_
  rw [HR.out]
  rintro e w5 ⟨rfl, hb⟩
  replace fa0 := cell_keep hb fa0
  replace fb0 := cell_keep hb fb0
  replace fc0 := cell_keep hb fc0
  replace fa1 := cell_keep hb fa1
  replace fb1 := cell_keep hb fb1
  replace HB := Lib.hid (ex_keep HB.out hb)
  clear hb
  go_wp2_with fail
  refine hK.out _ _ ?_ (fun hHeld => ?_)
  · exact ⟨fa0, fb0, fc0, fa1, fb1⟩
  clear hK K
  try simp only [Act.put, List.getElem_toArray, List.getElem_cons_zero, List.getElem_cons_succ, List.setIfInBounds_toArray, List.set_cons_zero, List.set_cons_succ]
  refine wpAnyH_take (i := 5) (oi := _) (v := ?_) rfl (by kernel_rfl) (by kernel_rfl) (by kernel_rfl) (fun _ _ _ h => h) (Or.inl ⟨by rfl, ?_⟩) (by assumption) ?_
  rotate_left
  · first | (intro w' hSw; (try dsimp only at hSw); go_simp; done) | (intro w' hSw; (try dsimp only at hSw); go_simp; with_reducible rfl)
  try simp only [Act.put, List.getElem_toArray, List.getElem_cons_zero, List.getElem_cons_succ, List.setIfInBounds_toArray, List.set_cons_zero, List.set_cons_succ]
  refine wpAnyH_done (by kernel_rfl) ?_ _
  clear P0 P1
  have HC := Lib.hid (And.intro fa0 (And.intro fb0 (And.intro fc0 (And.intro fa1 (fb1)))))
  have HBs : Hid (Below w5.heap.size w5 w5) := Below.refl _ _
  clear fa0 fb0 fc0 fa1 fb1
  have fa0 := cell_keep HBs.out HC.out.1
  have fb0 := cell_keep HBs.out HC.out.2.1
  have fc0 := cell_keep HBs.out HC.out.2.2.1
  have fa1 := cell_keep HBs.out HC.out.2.2.2.1
  have fb1 := cell_keep HBs.out HC.out.2.2.2.2
  go_wp2_with fail
  refine (toTheory_any _ s0 _ (HW0.out.keep (ex_keep HB.out HBs.out)) HF0.out).mono ?_
  rintro e w6 ⟨y0, rfl, ho, hb⟩
  obtain ⟨AX0a, cX0a, AX0b, cX0b, rfl⟩ := ho.reads.form
  have hb2 := below_alloc w6 (.cells #[.int .i64 s0.over.sorts, .slice AX0a s0.over.ops.length cX0a, .slice AX0b s0.eqs.length cX0b] 65)
  have HX0 := Lib.hid (show OThy (w6.alloc (.cells #[.int .i64 s0.over.sorts, .slice AX0a s0.over.ops.length cX0a, .slice AX0b s0.eqs.length cX0b] 65)) w5.heap.size (.agg #[.int .i64 s0.over.sorts, .slice AX0a s0.over.ops.length cX0a, .slice AX0b s0.eqs.length cX0b]) s0 from ho.keep hb2)
  have HCX0 := Lib.hid (bx3 w6 (.int .i64 s0.over.sorts) (.slice AX0a s0.over.ops.length cX0a) (.slice AX0b s0.eqs.length cX0b) 65)
  have hy0 := hb.size
  replace hb := hb.trans (hb2.mono hb.size)
  have hs0 := hb.size
  generalize hWw7 : w6.alloc (.cells #[.int .i64 s0.over.sorts, .slice AX0a s0.over.ops.length cX0a, .slice AX0b s0.eqs.length cX0b] 65) = w7 at HX0 HCX0 hb hs0
  clear hb2 ho
  replace HBs := Lib.hid (ex_keep HBs.out hb)
  clear hb
  have HK0 : Hid (Keeps w5.heap.size w7 w7) := Keeps.refl _ _
  have z0 : w7.heap.size ≤ w7.heap.size := Nat.le_refl _
  clear fa0 fb0 fc0 fa1 fb1
  have fa0 := cell_keep HBs.out HC.out.1
  have fb0 := cell_keep HBs.out HC.out.2.1
  have fc0 := cell_keep HBs.out HC.out.2.2.1
  have fa1 := cell_keep HBs.out HC.out.2.2.2.1
  have fb1 := cell_keep HBs.out HC.out.2.2.2.2
  go_wp2_with fail
  clear hWw7
  refine (toModel_any _ s1 _ (HW1.out.keep (ex_keep HB.out HBs.out)) HF1.out).mono ?_
  rintro e w8 ⟨y1, rfl, ho, hb⟩
  obtain ⟨AX1a, cX1a, AX1b, cX1b, rfl⟩ := ho.reads.form
  have hb2 := below_alloc w8 (.cells #[.slice AX1a s1.sizes.length cX1a, .slice AX1b s1.tables.length cX1b] 33)
  have HX1 := Lib.hid (show OModel (w8.alloc (.cells #[.slice AX1a s1.sizes.length cX1a, .slice AX1b s1.tables.length cX1b] 33)) w7.heap.size (.agg #[.slice AX1a s1.sizes.length cX1a, .slice AX1b s1.tables.length cX1b]) s1 from ho.keep hb2)
  have HCX1 := Lib.hid (bx_cells w8 (.slice AX1a s1.sizes.length cX1a) (.slice AX1b s1.tables.length cX1b) 33)
  have hy1 := hb.size
  replace hb := hb.trans (hb2.mono hb.size)
  have hs1 := hb.size
  generalize hWw9 : w8.alloc (.cells #[.slice AX1a s1.sizes.length cX1a, .slice AX1b s1.tables.length cX1b] 33) = w9 at HX1 HCX1 hb hs1
  clear hb2 ho
  replace HK0 := Lib.hid (HK0.out.below z0 hb)
  replace z0 : w7.heap.size ≤ w9.heap.size := Nat.le_trans z0 hb.size
  replace HBs := Lib.hid (ex_keep HBs.out hb)
  clear hb
  have HK1 : Hid (Keeps w7.heap.size w9 w9) := Keeps.refl _ _
  have z1 : w9.heap.size ≤ w9.heap.size := Nat.le_refl _
  clear fa0 fb0 fc0 fa1 fb1
  have l0a := HK0.out.cell (by omega) HCX0.out.1
  have l0b := HK0.out.cell (by omega) HCX0.out.2.1
  have l0c := HK0.out.cell (by omega) HCX0.out.2.2
  have l1a := HK1.out.cell (by omega) HCX1.out.1
  have l1b := HK1.out.cell (by omega) HCX1.out.2
  go_wp2_with fail
  clear hWw9
  refine (isModel_any s0 s1 _ _ _ HS0.out (HX0.out.same z0 HK0.out).reads (HX1.out.same HK1.out).reads).mono ?_
  rw [HR.out]
  rintro e w10 ⟨rfl, hb⟩
  clear l0a l0b l0c l1a l1b
  replace HK0 := Lib.hid (HK0.out.below z0 hb)
  replace z0 : w7.heap.size ≤ w10.heap.size := Nat.le_trans z0 hb.size
  replace HK1 := Lib.hid (HK1.out.below z1 hb)
  replace z1 : w9.heap.size ≤ w10.heap.size := Nat.le_trans z1 hb.size
  replace HBs := Lib.hid (ex_keep HBs.out hb)
  clear hb
  have e1 : (R != R) = false := by simp
  have fa0 := cell_keep HBs.out HC.out.1
  have fb0 := cell_keep HBs.out HC.out.2.1
  have fc0 := cell_keep HBs.out HC.out.2.2.1
  have fa1 := cell_keep HBs.out HC.out.2.2.2.1
  have fb1 := cell_keep HBs.out HC.out.2.2.2.2
  have l0a := HK0.out.cell (by omega) HCX0.out.1
  have l0b := HK0.out.cell (by omega) HCX0.out.2.1
  have l0c := HK0.out.cell (by omega) HCX0.out.2.2
  have l1a := HK1.out.cell (by omega) HCX1.out.1
  have l1b := HK1.out.cell (by omega) HCX1.out.2
  have HSW0 := Lib.hid (HW0.out.keep (ex_keep HB.out HBs.out))
  have HXR0 := Lib.hid (HX0.out.same z0 HK0.out).reads
  go_wp2_with fail
  have ea := World.new_ne w10 _ fa0
  have eb := World.new_ne w10 _ l0a
  go_region_held3 (fun w' => w'.cell? ⟨w.heap.size, 0, none⟩ = some (.int .i64 s0.over.sorts) ∧ w'.cell? ⟨w.heap.size, 1, none⟩ = some (.slice A0a s0.over.ops.length c0a) ∧ w'.cell? ⟨w.heap.size, 2, none⟩ = some (.slice A0b s0.eqs.length c0b) ∧ w'.cell? ⟨w6.heap.size, 0, none⟩ = some (.int .i64 s0.over.sorts) ∧ w'.cell? ⟨w6.heap.size, 1, none⟩ = some (.slice AX0a s0.over.ops.length cX0a) ∧ w'.cell? ⟨w6.heap.size, 2, none⟩ = some (.slice AX0b s0.eqs.length cX0b))
    (first | go_keep)
    (first
      | (go_at_call 37; refine (toTheory_any _ s0 w10.drew HSW0.out HF0.out).mono ?_; rintro e w11 ⟨yj, rfl, hoj, hbj⟩; have HOj := Lib.hid hoj; have HBj := Lib.hid (show Below w10.heap.size w10 w11 from below_undrew hbj); have o0 := cell_keep HBj.out fa0; have o1 := cell_keep HBj.out fb0; have o2 := cell_keep HBj.out fc0; have o3 := cell_keep HBj.out l0a; have o4 := cell_keep HBj.out l0b; have o5 := cell_keep HBj.out l0c; clear hoj hbj)
      | (go_at_call 39; refine (eqTheory_is _ _ s0 s0 _ true (sameT_self _) (HXR0.out.keep HBj.out) HOj.out.reads).mono ?_; rintro e w12 ⟨rfl, hbk⟩; have HBk := Lib.hid (ex_keep HBj.out hbk); have q0 := cell_keep hbk o0; have q1 := cell_keep hbk o1; have q2 := cell_keep hbk o2; have q3 := cell_keep hbk o3; have q4 := cell_keep hbk o4; have q5 := cell_keep hbk o5; clear hbk))
  have hb := HBk.out
  clear fa0 fb0 fc0 fa1 fb1 l0a l0b l0c l1a l1b o0 q0 o1 q1 o2 q2 o3 q3 o4 q4 o5 q5 ea eb HBj HBk HOj HSW0 HXR0
  replace HK0 := Lib.hid (HK0.out.below z0 hb)
  replace z0 : w7.heap.size ≤ w12.heap.size := Nat.le_trans z0 hb.size
  replace HK1 := Lib.hid (HK1.out.below z1 hb)
  replace z1 : w9.heap.size ≤ w12.heap.size := Nat.le_trans z1 hb.size
  replace HBs := Lib.hid (ex_keep HBs.out hb)
  clear hb
  have fa0 := cell_keep HBs.out HC.out.1
  have fb0 := cell_keep HBs.out HC.out.2.1
  have fc0 := cell_keep HBs.out HC.out.2.2.1
  have fa1 := cell_keep HBs.out HC.out.2.2.2.1
  have fb1 := cell_keep HBs.out HC.out.2.2.2.2
  have l0a := HK0.out.cell (by omega) HCX0.out.1
  have l0b := HK0.out.cell (by omega) HCX0.out.2.1
  have l0c := HK0.out.cell (by omega) HCX0.out.2.2
  have l1a := HK1.out.cell (by omega) HCX1.out.1
  have l1b := HK1.out.cell (by omega) HCX1.out.2
  have HSW1 := Lib.hid (HW1.out.keep (ex_keep HB.out HBs.out))
  have HXR1 := Lib.hid (HX1.out.same HK1.out).reads
  go_wp2_with fail
  have ea := World.new_ne w12 _ fa1
  have eb := World.new_ne w12 _ l1a
  go_region_held3 (fun w' => w'.cell? ⟨w.heap.size + 1, 0, none⟩ = some (.slice A1a s1.sizes.length c1a) ∧ w'.cell? ⟨w.heap.size + 1, 1, none⟩ = some (.slice A1b s1.tables.length c1b) ∧ w'.cell? ⟨w8.heap.size, 0, none⟩ = some (.slice AX1a s1.sizes.length cX1a) ∧ w'.cell? ⟨w8.heap.size, 1, none⟩ = some (.slice AX1b s1.tables.length cX1b))
    (first | go_keep)
    (first
      | (go_at_call 13; refine (toModel_any _ s1 w12.drew HSW1.out HF1.out).mono ?_; rintro e w13 ⟨yj, rfl, hoj, hbj⟩; have HOj := Lib.hid hoj; have HBj := Lib.hid (show Below w12.heap.size w12 w13 from below_undrew hbj); have o0 := cell_keep HBj.out fa1; have o1 := cell_keep HBj.out fb1; have o2 := cell_keep HBj.out l1a; have o3 := cell_keep HBj.out l1b; clear hoj hbj)
      | (go_at_call 16; refine (eqModel_is _ _ s1 s1 _ true (sameMd_self _) (HXR1.out.keep HBj.out) HOj.out.reads).mono ?_; rintro e w14 ⟨rfl, hbk⟩; have HBk := Lib.hid (ex_keep HBj.out hbk); have q0 := cell_keep hbk o0; have q1 := cell_keep hbk o1; have q2 := cell_keep hbk o2; have q3 := cell_keep hbk o3; clear hbk))
  have hb := HBk.out
  clear fa0 fb0 fc0 fa1 fb1 l0a l0b l0c l1a l1b o0 q0 o1 q1 o2 q2 o3 q3 ea eb HBj HBk HOj HSW1 HXR1
  replace HK0 := Lib.hid (HK0.out.below z0 hb)
  replace z0 : w7.heap.size ≤ w14.heap.size := Nat.le_trans z0 hb.size
  replace HK1 := Lib.hid (HK1.out.below z1 hb)
  replace z1 : w9.heap.size ≤ w14.heap.size := Nat.le_trans z1 hb.size
  replace HBs := Lib.hid (ex_keep HBs.out hb)
  clear hb
  go_wp2
  go_ret
  exact ⟨rfl, ex_keep HB.out HBs.out⟩

set_option maxRecDepth 100000 in
theorem lifted_FnExactIsModel (os : Os) (started : os.Started) (H : Type) (enc : TypeId × Value → H) :
    ReturnsInHanded {} Try.checked os 8 .any (Rows.fnExactIsModelSpec.pre6 enc Try.prog Try.f8 Rows.fnExactIsModelRow.domain false) (Rows.fnExactIsModelSpec.post enc Try.prog Try.f8 false true false false) := by
  refine returnsInHanded_of_change (C := Try.checked) own started (by kernel_rfl) Try.func8
    (ChangeSpec.witness6 (enc := enc) (C := Try.checked) false ⟨#[], #[.agg #[.int .i64 0, .slice none 0 0, .slice none 0 0], .agg #[.slice none 0 0, .slice none 0 0]], []⟩ 8 (by kernel_rfl) (by kernel_rfl) (by kernel_rfl) (by kernel_rfl)) ?_
  intro W base args ds gs before hval0 hW hcnd _
  have hval : ∀ (j : Nat) t v, Try.f8.params[j]? = some t → args[j]? = some v → Value.okWide Try.prog W .any base t v := hval0
  have hW' := hW
  obtain ⟨p, q, hA0, hV, rfl, hfz, hnd⟩ := hW
  have hA : DataW.TrodAll enc Try.prog W 0 (fun _ => true) true Try.f8.params.toList args.toList ds p := hA0
  rw [Try.params8] at hA hval
  obtain ⟨v0, vs0, d0, ds0, p0, q0, hargs, rfl, rfl, h0, r0⟩ := trodAll_cons hA
  obtain ⟨v1, vs1, d1, ds1, p1, q1, rfl, rfl, rfl, h1, r1⟩ := trodAll_cons r0
  obtain ⟨rfl, rfl, rfl⟩ := trodAll_nil r1
  obtain rfl : args = #[v0, v1] := by cases args; simp_all
  obtain ⟨rfl, rfl⟩ := trodVars_none hV
  have k0 := h0
  have lt0 : ∀ x ∈ p0, x.block < W.heap.size := by obtain ⟨m, hm⟩ := k0; exact DataW.trod_lt m _ _ _ hm
  obtain ⟨s0, w0⟩ : ∃ s, RThy W v0 s ∧ SmallT s := thy_of (hval 0 60 v0 rfl rfl) h0
  have k1 := h1
  have lt1 : ∀ x ∈ p1, x.block < W.heap.size := by obtain ⟨m, hm⟩ := k1; exact DataW.trod_lt m _ _ _ hm
  obtain ⟨s1, w1⟩ : ∃ s, RModel W v1 s := model_of (hval 1 27 v1 rfl rfl) h1
  clear hA0 hval0
  refine (walk_FnExactIsModel _ s0 _ s1 W w0 w1).mono fun e W' ⟨he, bel⟩ => ?_
  subst he
  exact ⟨_, rfl, _, _, _, [], _, [], hW', trodAll_mk1 (shut_bool Try.underlying4 _), (trodAll_cons_mk (Below.trod laidOut (by kernel_rfl) (of_decide_eq_true (by kernel_rfl)) k0 bel lt0) (trodAll_cons_mk (Below.trod laidOut (by kernel_rfl) (of_decide_eq_true (by kernel_rfl)) k1 bel lt1) trodAll_mk0)), rfl, bel.frame _, fun h => by cases h⟩

theorem over_FnExactIsModel : Rows.fnExactIsModelRow.holds Try.pinned (OpenSpec.ofChange Rows.fnExactIsModelSpec) :=
  OpenClaim.holds_of_wide 8 Try.f8 rfl rfl rfl rfl rfl rfl rfl ⟨rfl, rfl, rfl, rfl, rfl⟩ rfl rfl rfl rfl rfl (by kernel_rfl) Try.func8 (by kernel_rfl)
    (of_decide_eq_true (by kernel_rfl)) (by unfold Func.isWrapper; first | (rw [if_pos (by decide +kernel)]; kernel_rfl) | (rw [if_neg (by decide +kernel)]; exact ⟨rfl, rfl⟩))
    (fun os started H enc _ => lifted_FnExactIsModel os started H enc)

theorem proved_FnExactIsModel : Rows.FnExactIsModelSaid := over_FnExactIsModel
end Go.Proofs.Yteccjnnhihbdhaa
