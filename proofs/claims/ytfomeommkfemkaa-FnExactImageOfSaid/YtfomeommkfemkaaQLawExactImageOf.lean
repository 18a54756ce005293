/- FnExactImageOf answers true at every signature, two models and rows. No condition. -/
import Derived.Test.YtfomeommkfemkaaKe20c9822
namespace Go.Proofs.Ytfomeommkfemkaa
open Go.ChangeShapes Go.WideShapes Go.ChangeAt Go.RowKit
set_option linter.unusedVariables false
set_option linter.unusedSimpArgs false

theorem image_len (s : MSig) (a b : MModel) (h : List (List Int)) : (imageM s a b h).length ≤ 1048576 := by
  cases e : homB s a b h with
  | false => rw [image_no e]; simp
  | true =>
    rw [image_yes e, List.length_map]
    have := (hom_use e).few
    omega
set_option maxHeartbeats 3200000 in
set_option maxRecDepth 100000 in
theorem walk_FnExactImageOf (v0 : Value) (s0 : MSig) (v1 : Value) (s1 : MModel) (v2 : Value) (s2 : MModel) (v3 : Value) (xs3 : List (List Int)) (w : World) (h0 : RSig w v0 s0) (h1 : RModel w v1 s1) (h2 : RModel w v2 s2) (h3 : RRows w v3 xs3 ∧ SmallR xs3) :
    Calls Try.prog 5 #[v0, v1, v2, v3] w fun e w' => e = .returned (.bool true) ∧ Below w.heap.size w w' := by
  have HB : Hid (Below w.heap.size w w) := Below.refl _ _
  obtain ⟨A0a, c0a, rfl⟩ := h0.form
  have HW0 := Lib.hid h0
  have hb := below_alloc (w) (.cells #[.int .i64 s0.sorts, .slice A0a s0.ops.length c0a] 24)
  have fa0 := (bx_cells (w) (.int .i64 s0.sorts) (.slice A0a s0.ops.length c0a) 24).1
  have fb0 := (bx_cells (w) (.int .i64 s0.sorts) (.slice A0a s0.ops.length c0a) 24).2
  replace HB := Lib.hid (ex_keep HB.out hb)
  clear hb h0
  obtain ⟨A1a, c1a, A1b, c1b, rfl⟩ := h1.form
  have HW1 := Lib.hid h1
  have hb := below_alloc (w.alloc (.cells #[.int .i64 s0.sorts, .slice A0a s0.ops.length c0a] 24)) (.cells #[.slice A1a s1.sizes.length c1a, .slice A1b s1.tables.length c1b] 27)
  replace fa0 := cell_keep hb fa0
  replace fb0 := cell_keep hb fb0
  have fa1 := (bx_cells (w.alloc (.cells #[.int .i64 s0.sorts, .slice A0a s0.ops.length c0a] 24)) (.slice A1a s1.sizes.length c1a) (.slice A1b s1.tables.length c1b) 27).1
  have fb1 := (bx_cells (w.alloc (.cells #[.int .i64 s0.sorts, .slice A0a s0.ops.length c0a] 24)) (.slice A1a s1.sizes.length c1a) (.slice A1b s1.tables.length c1b) 27).2
  simp only [World.size_alloc] at fa1 fb1
  replace HB := Lib.hid (ex_keep HB.out hb)
  clear hb h1
  obtain ⟨A2a, c2a, A2b, c2b, rfl⟩ := h2.form
  have HW2 := Lib.hid h2
  have hb := below_alloc ((w.alloc (.cells #[.int .i64 s0.sorts, .slice A0a s0.ops.length c0a] 24)).alloc (.cells #[.slice A1a s1.sizes.length c1a, .slice A1b s1.tables.length c1b] 27)) (.cells #[.slice A2a s2.sizes.length c2a, .slice A2b s2.tables.length c2b] 27)
  replace fa0 := cell_keep hb fa0
  replace fb0 := cell_keep hb fb0
  replace fa1 := cell_keep hb fa1
  replace fb1 := cell_keep hb fb1
  have fa2 := (bx_cells ((w.alloc (.cells #[.int .i64 s0.sorts, .slice A0a s0.ops.length c0a] 24)).alloc (.cells #[.slice A1a s1.sizes.length c1a, .slice A1b s1.tables.length c1b] 27)) (.slice A2a s2.sizes.length c2a) (.slice A2b s2.tables.length c2b) 27).1
  have fb2 := (bx_cells ((w.alloc (.cells #[.int .i64 s0.sorts, .slice A0a s0.ops.length c0a] 24)).alloc (.cells #[.slice A1a s1.sizes.length c1a, .slice A1b s1.tables.length c1b] 27)) (.slice A2a s2.sizes.length c2a) (.slice A2b s2.tables.length c2b) 27).2
  simp only [World.size_alloc] at fa2 fb2
  replace HB := Lib.hid (ex_keep HB.out hb)
  clear hb h2
  have HW3 := Lib.hid h3.1
  have HS3 := Lib.hid h3.2
  have hl3 := h3.1.len
  obtain ⟨A3, c3, rfl, -⟩ := h3.1.form
  clear h3
  go_enter Try.func5, Try.ntmps5
  go_wp2_with fail
  refine (szSig_any _ s0 _ _ (HW0.out.keep HB.out) (by omega) (by omega)).mono ?_
  rintro e w1 ⟨r1, rfl, hr, hb⟩
  replace fa0 := cell_keep hb fa0
  replace fb0 := cell_keep hb fb0
  replace fa1 := cell_keep hb fa1
  replace fb1 := cell_keep hb fb1
  replace fa2 := cell_keep hb fa2
  replace fb2 := cell_keep hb fb2
  replace HB := Lib.hid (ex_keep HB.out hb)
  clear hb
  by_cases hneg1 : r1 < 0
  · clear hr
    go_wp2
    go_ret
    exact ⟨rfl, HB.out⟩
  obtain ⟨hp1, hq1, hfit⟩ := hr.resolve_left hneg1
  have HF0 := Lib.hid hfit
  clear hr hfit
  go_wp2_with fail
  refine (szModel_any _ s1 _ _ (HW1.out.keep HB.out) (by omega) (by omega)).mono ?_
  rintro e w2 ⟨r2, rfl, hr, hb⟩
  replace fa0 := cell_keep hb fa0
  replace fb0 := cell_keep hb fb0
  replace fa1 := cell_keep hb fa1
  replace fb1 := cell_keep hb fb1
  replace fa2 := cell_keep hb fa2
  replace fb2 := cell_keep hb fb2
  replace HB := Lib.hid (ex_keep HB.out hb)
  clear hb
  by_cases hneg2 : r2 < 0
  · clear hr
    go_wp2
    go_ret
    exact ⟨rfl, HB.out⟩
  obtain ⟨hp2, hq2, hfit⟩ := hr.resolve_left hneg2
  have HF1 := Lib.hid hfit
  clear hr hfit
  go_wp2_with fail
  refine (szModel_any _ s2 _ _ (HW2.out.keep HB.out) (by omega) (by omega)).mono ?_
  rintro e w3 ⟨r3, rfl, hr, hb⟩
  replace fa0 := cell_keep hb fa0
  replace fb0 := cell_keep hb fb0
  replace fa1 := cell_keep hb fa1
  replace fb1 := cell_keep hb fb1
  replace fa2 := cell_keep hb fa2
  replace fb2 := cell_keep hb fb2
  replace HB := Lib.hid (ex_keep HB.out hb)
  clear hb
  by_cases hneg3 : r3 < 0
  · clear hr
    go_wp2
    go_ret
    exact ⟨rfl, HB.out⟩
  obtain ⟨hp3, hq3, hfit⟩ := hr.resolve_left hneg3
  have HF2 := Lib.hid hfit
  clear hr hfit
  go_wp2_with fail
  refine (szIntSS_any _ xs3 _ _ (HW3.out.keep HB.out) (by omega) (by omega)).mono ?_
  rintro e w4 ⟨r4, rfl, hr, rfl⟩
  by_cases hneg4 : r4 < 0
  · clear hr
    go_wp2
    go_ret
    exact ⟨rfl, HB.out⟩
  obtain ⟨hp4, hq4, hfit⟩ := hr.resolve_left hneg4
  have HF3 := Lib.hid hfit
  clear hr hfit
  obtain ⟨R, hR⟩ : ∃ R, R = imageM s0 s1 s2 xs3 := ⟨_, rfl⟩
  have HLEN := Lib.hid (show _ from image_len s0 s1 s2 xs3)
  have HR := Lib.hid hR.symm
  rw [← hR] at HLEN
  clear hR
  go_wp2_with fail
  refine wp_region_held_drew (S := (fun w' => w'.cell? ⟨w.heap.size, 0, none⟩ = some (.int .i64 s0.sorts) ∧ w'.cell? ⟨w.heap.size, 1, none⟩ = some (.slice A0a s0.ops.length c0a) ∧ w'.cell? ⟨w.heap.size + 1, 0, none⟩ = some (.slice A1a s1.sizes.length c1a) ∧ w'.cell? ⟨w.heap.size + 1, 1, none⟩ = some (.slice A1b s1.tables.length c1b) ∧ w'.cell? ⟨w.heap.size + 1 + 1, 0, none⟩ = some (.slice A2a s2.sizes.length c2a) ∧ w'.cell? ⟨w.heap.size + 1 + 1, 1, none⟩ = some (.slice A2b s2.tables.length c2b))) (by kernel_rfl) ?_ (fun hHeld => ?_)
  · exact ⟨fa0, fb0, fa1, fb1, fa2, fb2⟩
  refine wpAnyH_take (i := 0) (oi := _) (v := ?_) rfl (by kernel_rfl) (by kernel_rfl) (by kernel_rfl) (fun _ _ _ h => h) (Or.inl ⟨by rfl, ?_⟩) (by assumption) ?_
  rotate_left
  · first | (intro w' hSw; (try dsimp only at hSw); go_simp; done) | (intro w' hSw; (try dsimp only at hSw); go_simp; with_reducible rfl)
  try simp only [Act.put, List.getElem_toArray, List.getElem_cons_zero, List.getElem_cons_succ, List.setIfInBounds_toArray, List.set_cons_zero, List.set_cons_succ]
  refine wpAnyH_take (i := 2) (oi := _) (v := ?_) rfl (by kernel_rfl) (by kernel_rfl) (by kernel_rfl) (fun _ _ _ h => h) (Or.inl ⟨by rfl, ?_⟩) (by assumption) ?_
  rotate_left
  · first | (intro w' hSw; (try dsimp only at hSw); go_simp; done) | (intro w' hSw; (try dsimp only at hSw); go_simp; with_reducible rfl)
  try simp only [Act.put, List.getElem_toArray, List.getElem_cons_zero, List.getElem_cons_succ, List.setIfInBounds_toArray, List.set_cons_zero, List.set_cons_succ]
  refine wpAnyH_take (i := 4) (oi := _) (v := ?_) rfl (by kernel_rfl) (by kernel_rfl) (by kernel_rfl) (fun _ _ _ h => h) (Or.inl ⟨by rfl, ?_⟩) (by assumption) ?_
  rotate_left
  · first | (intro w' hSw; (try dsimp only at hSw); go_simp; done) | (intro w' hSw; (try dsimp only at hSw); go_simp; with_reducible rfl)
  try simp only [Act.put, List.getElem_toArray, List.getElem_cons_zero, List.getElem_cons_succ, List.setIfInBounds_toArray, List.set_cons_zero, List.set_cons_succ]
  refine wpAnyH_take (i := 6) (oi := _) (v := ?_) rfl (by kernel_rfl) (by kernel_rfl) (by kernel_rfl) (fun _ _ _ h => h) (Or.inl ⟨by rfl, ?_⟩) (by assumption) ?_
  rotate_left
  · first | (intro w' hSw; (try dsimp only at hSw); go_simp; done) | (intro w' hSw; (try dsimp only at hSw); go_simp; with_reducible rfl)
  try simp only [Act.put, List.getElem_toArray, List.getElem_cons_zero, List.getElem_cons_succ, List.setIfInBounds_toArray, List.set_cons_zero, List.set_cons_succ]
  refine wpAnyH_ready (rs := [1]) (by kernel_rfl) (by simp) ?_
  refine AllReadyH.cons (o := _) rfl (fun K hK => ?_) AllReadyH.nil
  go_simp
  refine (toSig_any _ s0 _ (HW0.out.keep (ex_drew HB.out)) HF0.out).mono ?_
  rintro e w5 ⟨y0, rfl, ho, hb⟩
  replace hb := ex_undrew hb
  replace fa0 := cell_keep hb fa0
  replace fb0 := cell_keep hb fb0
  replace fa1 := cell_keep hb fa1
  replace fb1 := cell_keep hb fb1
  replace fa2 := cell_keep hb fa2
  replace fb2 := cell_keep hb fb2
  replace HB := Lib.hid (ex_keep HB.out hb)
  clear hb
  have P0 := Lib.hid ho.reads
  obtain ⟨AY0a, cY0a, rfl⟩ := ho.reads.form
  clear ho
  go_wp2_with fail
  refine hK.out _ _ ?_ (fun hHeld => ?_)
  · exact ⟨fa0, fb0, fa1, fb1, fa2, fb2⟩
  clear hK K
  try simp only [Act.put, List.getElem_toArray, List.getElem_cons_zero, List.getElem_cons_succ, List.setIfInBounds_toArray, List.set_cons_zero, List.set_cons_succ]
  refine wpAnyH_ready (rs := [3]) (by kernel_rfl) (by simp) ?_
  refine AllReadyH.cons (o := _) rfl (fun K hK => ?_) AllReadyH.nil
  go_simp
  refine (toModel_any _ s1 _ (HW1.out.keep HB.out) HF1.out).mono ?_
  rintro e w6 ⟨y1, rfl, ho, hb⟩
  replace fa0 := cell_keep hb fa0
  replace fb0 := cell_keep hb fb0
  replace fa1 := cell_keep hb fa1
  replace fb1 := cell_keep hb fb1
  replace fa2 := cell_keep hb fa2
  replace fb2 := cell_keep hb fb2
  replace P0 := Lib.hid (P0.out.keep hb)
  replace HB := Lib.hid (ex_keep HB.out hb)
  clear hb
  have P1 := Lib.hid ho.reads
  obtain ⟨AY1a, cY1a, AY1b, cY1b, rfl⟩ := ho.reads.form
  clear ho
  go_wp2_with fail
  refine hK.out _ _ ?_ (fun hHeld => ?_)
  · exact ⟨fa0, fb0, fa1, fb1, fa2, fb2⟩
  clear hK K
  try simp only [Act.put, List.getElem_toArray, List.getElem_cons_zero, List.getElem_cons_succ, List.setIfInBounds_toArray, List.set_cons_zero, List.set_cons_succ]
  refine wpAnyH_ready (rs := [5]) (by kernel_rfl) (by simp) ?_
  refine AllReadyH.cons (o := _) rfl (fun K hK => ?_) AllReadyH.nil
  go_simp
  refine (toModel_any _ s2 _ (HW2.out.keep HB.out) HF2.out).mono ?_
  rintro e w7 ⟨y2, rfl, ho, hb⟩
  replace fa0 := cell_keep hb fa0
  replace fb0 := cell_keep hb fb0
  replace fa1 := cell_keep hb fa1
  replace fb1 := cell_keep hb fb1
  replace fa2 := cell_keep hb fa2
  replace fb2 := cell_keep hb fb2
  replace P0 := Lib.hid (P0.out.keep hb)
  replace P1 := Lib.hid (P1.out.keep hb)
  replace HB := Lib.hid (ex_keep HB.out hb)
  clear hb
  have P2 := Lib.hid ho.reads
  obtain ⟨AY2a, cY2a, AY2b, cY2b, rfl⟩ := ho.reads.form
  clear ho
  go_wp2_with fail
  refine hK.out _ _ ?_ (fun hHeld => ?_)
  · exact ⟨fa0, fb0, fa1, fb1, fa2, fb2⟩
  clear hK K
  try simp only [Act.put, List.getElem_toArray, List.getElem_cons_zero, List.getElem_cons_succ, List.setIfInBounds_toArray, List.set_cons_zero, List.set_cons_succ]
  refine wpAnyH_ready (rs := [7]) (by kernel_rfl) (by simp) ?_
  refine AllReadyH.cons (o := _) rfl (fun K hK => ?_) AllReadyH.nil
  go_simp
  refine (toIntSS_any _ xs3 _ (HW3.out.keep HB.out) HF3.out).mono ?_
  rintro e w8 ⟨y3, rfl, ho, hb⟩
  replace fa0 := cell_keep hb fa0
  replace fb0 := cell_keep hb fb0
  replace fa1 := cell_keep hb fa1
  replace fb1 := cell_keep hb fb1
  replace fa2 := cell_keep hb fa2
  replace fb2 := cell_keep hb fb2
  replace P0 := Lib.hid (P0.out.keep hb)
  replace P1 := Lib.hid (P1.out.keep hb)
  replace P2 := Lib.hid (P2.out.keep hb)
  replace HB := Lib.hid (ex_keep HB.out hb)
  clear hb
  have P3 := Lib.hid ho.reads
  obtain ⟨AY3, cY3, rfl, -⟩ := ho.reads.form
  clear ho
  go_wp2_with fail
  refine hK.out _ _ ?_ (fun hHeld => ?_)
  · exact ⟨fa0, fb0, fa1, fb1, fa2, fb2⟩
  clear hK K
  try simp only [Act.put, List.getElem_toArray, List.getElem_cons_zero, List.getElem_cons_succ, List.setIfInBounds_toArray, List.set_cons_zero, List.set_cons_succ]
  refine wpAnyH_ready (rs := [8]) (by kernel_rfl) (by simp) ?_
  refine AllReadyH.cons (o := _) rfl (fun K hK => ?_) AllReadyH.nil
  go_simp
  refine (specImageOf_any s0 s1 s2 xs3 _ _ _ _ _ P0.out P1.out P2.out P3.out).mono ?_
  rw [HR.out]
  rintro e w9 ⟨z0, rfl, hoz, hb⟩
  have HZ := Lib.hid hoz
  obtain ⟨Az, cz, rfl, -⟩ := hoz.reads.form
  clear hoz
  replace fa0 := cell_keep hb fa0
  replace fb0 := cell_keep hb fb0
  replace fa1 := cell_keep hb fa1
  replace fb1 := cell_keep hb fb1
  replace fa2 := cell_keep hb fa2
  replace fb2 := cell_keep hb fb2
  replace HB := Lib.hid (ex_keep HB.out hb)
  clear hb
  go_wp2_with fail
  refine hK.out _ _ ?_ (fun hHeld => ?_)
  · exact ⟨fa0, fb0, fa1, fb1, fa2, fb2⟩
  clear hK K
  try simp only [Act.put, List.getElem_toArray, List.getElem_cons_zero, List.getElem_cons_succ, List.setIfInBounds_toArray, List.set_cons_zero, List.set_cons_succ]
  refine wpAnyH_take (i := 9) (oi := _) (v := ?_) rfl (by kernel_rfl) (by kernel_rfl) (by kernel_rfl) (fun _ _ _ h => h) (Or.inl ⟨by rfl, ?_⟩) (by assumption) ?_
  rotate_left
  · first | (intro w' hSw; (try dsimp only at hSw); go_simp; done) | (intro w' hSw; (try dsimp only at hSw); go_simp; with_reducible rfl)
  try simp only [Act.put, List.getElem_toArray, List.getElem_cons_zero, List.getElem_cons_succ, List.setIfInBounds_toArray, List.set_cons_zero, List.set_cons_succ]
  refine wpAnyH_done (by kernel_rfl) ?_ _
  clear P0 P1 P2 P3
  have HC := Lib.hid (And.intro fa0 (And.intro fb0 (And.intro fa1 (And.intro fb1 (And.intro fa2 (fb2))))))
  have HBs : Hid (Below w9.heap.size w9 w9) := Below.refl _ _
  clear fa0 fb0 fa1 fb1 fa2 fb2
  have fa0 := cell_keep HBs.out HC.out.1
  have fb0 := cell_keep HBs.out HC.out.2.1
  have fa1 := cell_keep HBs.out HC.out.2.2.1
  have fb1 := cell_keep HBs.out HC.out.2.2.2.1
  have fa2 := cell_keep HBs.out HC.out.2.2.2.2.1
  have fb2 := cell_keep HBs.out HC.out.2.2.2.2.2
  go_wp2_with fail
  refine (toSig_any _ s0 _ (HW0.out.keep (ex_keep HB.out HBs.out)) HF0.out).mono ?_
  rintro e w10 ⟨y0, rfl, ho, hb⟩
  obtain ⟨AX0a, cX0a, rfl⟩ := ho.reads.form
  have hb2 := below_alloc w10 (.cells #[.int .i64 s0.sorts, .slice AX0a s0.ops.length cX0a] 32)
  have HX0 := Lib.hid (show OSig (w10.alloc (.cells #[.int .i64 s0.sorts, .slice AX0a s0.ops.length cX0a] 32)) w9.heap.size (.agg #[.int .i64 s0.sorts, .slice AX0a s0.ops.length cX0a]) s0 from ho.keep hb2)
  have HCX0 := Lib.hid (bx_cells w10 (.int .i64 s0.sorts) (.slice AX0a s0.ops.length cX0a) 32)
  have hy0 := hb.size
  replace hb := hb.trans (hb2.mono hb.size)
  have hs0 := hb.size
  generalize hWw11 : w10.alloc (.cells #[.int .i64 s0.sorts, .slice AX0a s0.ops.length cX0a] 32) = w11 at HX0 HCX0 hb hs0
  clear hb2 ho
  replace HBs := Lib.hid (ex_keep HBs.out hb)
  clear hb
  have HK0 : Hid (Keeps w9.heap.size w11 w11) := Keeps.refl _ _
  have z0 : w11.heap.size ≤ w11.heap.size := Nat.le_refl _
  clear fa0 fb0 fa1 fb1 fa2 fb2
  have fa0 := cell_keep HBs.out HC.out.1
  have fb0 := cell_keep HBs.out HC.out.2.1
  have fa1 := cell_keep HBs.out HC.out.2.2.1
  have fb1 := cell_keep HBs.out HC.out.2.2.2.1
  have fa2 := cell_keep HBs.out HC.out.2.2.2.2.1
  have fb2 := cell_keep HBs.out HC.out.2.2.2.2.2
  go_wp2_with fail
  clear hWw11
  refine (toModel_any _ s1 _ (HW1.out.keep (ex_keep HB.out HBs.out)) HF1.out).mono ?_
  rintro e w12 ⟨y1, rfl, ho, hb⟩
  obtain ⟨AX1a, cX1a, AX1b, cX1b, rfl⟩ := ho.reads.form
  have hb2 := below_alloc w12 (.cells #[.slice AX1a s1.sizes.length cX1a, .slice AX1b s1.tables.length cX1b] 34)
  have HX1 := Lib.hid (show OModel (w12.alloc (.cells #[.slice AX1a s1.sizes.length cX1a, .slice AX1b s1.tables.length cX1b] 34)) w11.heap.size (.agg #[.slice AX1a s1.sizes.length cX1a, .slice AX1b s1.tables.length cX1b]) s1 from ho.keep hb2)
  have HCX1 := Lib.hid (bx_cells w12 (.slice AX1a s1.sizes.length cX1a) (.slice AX1b s1.tables.length cX1b) 34)
  have hy1 := hb.size
  replace hb := hb.trans (hb2.mono hb.size)
  have hs1 := hb.size
  generalize hWw13 : w12.alloc (.cells #[.slice AX1a s1.sizes.length cX1a, .slice AX1b s1.tables.length cX1b] 34) = w13 at HX1 HCX1 hb hs1
  clear hb2 ho
  replace HK0 := Lib.hid (HK0.out.below z0 hb)
  replace z0 : w11.heap.size ≤ w13.heap.size := Nat.le_trans z0 hb.size
  replace HBs := Lib.hid (ex_keep HBs.out hb)
  clear hb
  have HK1 : Hid (Keeps w11.heap.size w13 w13) := Keeps.refl _ _
  have z1 : w13.heap.size ≤ w13.heap.size := Nat.le_refl _
  clear fa0 fb0 fa1 fb1 fa2 fb2
  have fa0 := cell_keep HBs.out HC.out.1
  have fb0 := cell_keep HBs.out HC.out.2.1
  have fa1 := cell_keep HBs.out HC.out.2.2.1
  have fb1 := cell_keep HBs.out HC.out.2.2.2.1
  have fa2 := cell_keep HBs.out HC.out.2.2.2.2.1
  have fb2 := cell_keep HBs.out HC.out.2.2.2.2.2
  go_wp2_with fail
  clear hWw13
  refine (toModel_any _ s2 _ (HW2.out.keep (ex_keep HB.out HBs.out)) HF2.out).mono ?_
  rintro e w14 ⟨y2, rfl, ho, hb⟩
  obtain ⟨AX2a, cX2a, AX2b, cX2b, rfl⟩ := ho.reads.form
  have hb2 := below_alloc w14 (.cells #[.slice AX2a s2.sizes.length cX2a, .slice AX2b s2.tables.length cX2b] 34)
  have HX2 := Lib.hid (show OModel (w14.alloc (.cells #[.slice AX2a s2.sizes.length cX2a, .slice AX2b s2.tables.length cX2b] 34)) w13.heap.size (.agg #[.slice AX2a s2.sizes.length cX2a, .slice AX2b s2.tables.length cX2b]) s2 from ho.keep hb2)
  have HCX2 := Lib.hid (bx_cells w14 (.slice AX2a s2.sizes.length cX2a) (.slice AX2b s2.tables.length cX2b) 34)
  have hy2 := hb.size
  replace hb := hb.trans (hb2.mono hb.size)
  have hs2 := hb.size
  generalize hWw15 : w14.alloc (.cells #[.slice AX2a s2.sizes.length cX2a, .slice AX2b s2.tables.length cX2b] 34) = w15 at HX2 HCX2 hb hs2
  clear hb2 ho
  replace HK0 := Lib.hid (HK0.out.below z0 hb)
  replace z0 : w11.heap.size ≤ w15.heap.size := Nat.le_trans z0 hb.size
  replace HK1 := Lib.hid (HK1.out.below z1 hb)
  replace z1 : w13.heap.size ≤ w15.heap.size := Nat.le_trans z1 hb.size
  replace HBs := Lib.hid (ex_keep HBs.out hb)
  clear hb
  have HK2 : Hid (Keeps w13.heap.size w15 w15) := Keeps.refl _ _
  have z2 : w15.heap.size ≤ w15.heap.size := Nat.le_refl _
  clear fa0 fb0 fa1 fb1 fa2 fb2
  go_wp2_with fail
  clear hWw15
  refine (toIntSS_any _ xs3 _ (HW3.out.keep (ex_keep HB.out HBs.out)) HF3.out).mono ?_
  rintro e w16 ⟨y3, rfl, ho, hb⟩
  have HX3 := Lib.hid ho
  obtain ⟨AX3, cX3, rfl, -⟩ := ho.reads.form
  have hs3 := hb.size
  clear ho
  replace HK0 := Lib.hid (HK0.out.below z0 hb)
  replace z0 : w11.heap.size ≤ w16.heap.size := Nat.le_trans z0 hb.size
  replace HK1 := Lib.hid (HK1.out.below z1 hb)
  replace z1 : w13.heap.size ≤ w16.heap.size := Nat.le_trans z1 hb.size
  replace HK2 := Lib.hid (HK2.out.below z2 hb)
  replace z2 : w15.heap.size ≤ w16.heap.size := Nat.le_trans z2 hb.size
  replace HBs := Lib.hid (ex_keep HBs.out hb)
  clear hb
  have HK3 : Hid (Keeps w15.heap.size w16 w16) := Keeps.refl _ _
  have z3 : w16.heap.size ≤ w16.heap.size := Nat.le_refl _
  have l0a := HK0.out.cell (by omega) HCX0.out.1
  have l0b := HK0.out.cell (by omega) HCX0.out.2
  have l1a := HK1.out.cell (by omega) HCX1.out.1
  have l1b := HK1.out.cell (by omega) HCX1.out.2
  have l2a := HK2.out.cell (by omega) HCX2.out.1
  have l2b := HK2.out.cell (by omega) HCX2.out.2
  go_wp2_with fail
  refine (imageOf_any s0 s1 s2 xs3 _ _ _ _ _ (HX0.out.same HK0.out).reads (HX1.out.same HK1.out).reads (HX2.out.same HK2.out).reads (HX3.out.same HK3.out).reads).mono ?_
  rw [HR.out]
  rintro e w17 ⟨g0, rfl, hog, hb⟩
  have HG := Lib.hid hog
  obtain ⟨Ag, cg, rfl, -⟩ := hog.reads.form
  have hsg := hb.size
  clear hog
  clear l0a l0b l1a l1b l2a l2b
  replace HK0 := Lib.hid (HK0.out.below z0 hb)
  replace z0 : w11.heap.size ≤ w17.heap.size := Nat.le_trans z0 hb.size
  replace HK1 := Lib.hid (HK1.out.below z1 hb)
  replace z1 : w13.heap.size ≤ w17.heap.size := Nat.le_trans z1 hb.size
  replace HK2 := Lib.hid (HK2.out.below z2 hb)
  replace z2 : w15.heap.size ≤ w17.heap.size := Nat.le_trans z2 hb.size
  replace HK3 := Lib.hid (HK3.out.below z3 hb)
  replace z3 : w16.heap.size ≤ w17.heap.size := Nat.le_trans z3 hb.size
  replace HBs := Lib.hid (ex_keep HBs.out hb)
  clear hb
  have HKg : Hid (Keeps w16.heap.size w17 w17) := Keeps.refl _ _
  have zg : w17.heap.size ≤ w17.heap.size := Nat.le_refl _
  go_wp2_with fail
  refine (eqIntS_is _ _ R R _ true (sameI_self _) (HG.out.same HKg.out).reads (HZ.out.keep HBs.out).reads).mono ?_
  rintro e w18 ⟨rfl, hd⟩
  have hb := hd.below
  clear hd
  replace HK0 := Lib.hid (HK0.out.below z0 hb)
  replace z0 : w11.heap.size ≤ w18.heap.size := Nat.le_trans z0 hb.size
  replace HK1 := Lib.hid (HK1.out.below z1 hb)
  replace z1 : w13.heap.size ≤ w18.heap.size := Nat.le_trans z1 hb.size
  replace HK2 := Lib.hid (HK2.out.below z2 hb)
  replace z2 : w15.heap.size ≤ w18.heap.size := Nat.le_trans z2 hb.size
  replace HK3 := Lib.hid (HK3.out.below z3 hb)
  replace z3 : w16.heap.size ≤ w18.heap.size := Nat.le_trans z3 hb.size
  replace HKg := Lib.hid (HKg.out.below zg hb)
  replace zg : w17.heap.size ≤ w18.heap.size := Nat.le_trans zg hb.size
  replace HBs := Lib.hid (ex_keep HBs.out hb)
  clear hb
  have fa0 := cell_keep HBs.out HC.out.1
  have fb0 := cell_keep HBs.out HC.out.2.1
  have fa1 := cell_keep HBs.out HC.out.2.2.1
  have fb1 := cell_keep HBs.out HC.out.2.2.2.1
  have fa2 := cell_keep HBs.out HC.out.2.2.2.2.1
  have fb2 := cell_keep HBs.out HC.out.2.2.2.2.2
  have l0a := HK0.out.cell (by omega) HCX0.out.1
  have l0b := HK0.out.cell (by omega) HCX0.out.2
  have l1a := HK1.out.cell (by omega) HCX1.out.1
  have l1b := HK1.out.cell (by omega) HCX1.out.2
  have l2a := HK2.out.cell (by omega) HCX2.out.1
  have l2b := HK2.out.cell (by omega) HCX2.out.2
  have HSW0 := Lib.hid (HW0.out.keep (ex_keep HB.out HBs.out))
  have HXR0 := Lib.hid (HX0.out.same HK0.out).reads
  go_wp2_with fail
  have ea := World.new_ne w18 _ fa0
  have eb := World.new_ne w18 _ l0a
  go_region_held3 (fun w' => w'.cell? ⟨w.heap.size, 0, none⟩ = some (.int .i64 s0.sorts) ∧ w'.cell? ⟨w.heap.size, 1, none⟩ = some (.slice A0a s0.ops.length c0a) ∧ w'.cell? ⟨w10.heap.size, 0, none⟩ = some (.int .i64 s0.sorts) ∧ w'.cell? ⟨w10.heap.size, 1, none⟩ = some (.slice AX0a s0.ops.length cX0a))
    (first | go_keep)
    (first
      | (go_at_call 13; refine (toSig_any _ s0 w18.drew HSW0.out HF0.out).mono ?_; rintro e w19 ⟨yj, rfl, hoj, hbj⟩; have HOj := Lib.hid hoj; have HBj := Lib.hid (show Below w18.heap.size w18 w19 from below_undrew hbj); have o0 := cell_keep HBj.out fa0; have o1 := cell_keep HBj.out fb0; have o2 := cell_keep HBj.out l0a; have o3 := cell_keep HBj.out l0b; clear hoj hbj)
      | (go_at_call 17; refine (eqSig_is _ _ s0 s0 _ true (sameS_self _) (HXR0.out.keep HBj.out) HOj.out.reads).mono ?_; rintro e w20 ⟨rfl, hbk⟩; have HBk := Lib.hid (ex_keep HBj.out hbk); have q0 := cell_keep hbk o0; have q1 := cell_keep hbk o1; have q2 := cell_keep hbk o2; have q3 := cell_keep hbk o3; clear hbk))
  have hb := HBk.out
  clear fa0 fb0 fa1 fb1 fa2 fb2 l0a l0b l1a l1b l2a l2b o0 q0 o1 q1 o2 q2 o3 q3 ea eb HBj HBk HOj HSW0 HXR0
  replace HK0 := Lib.hid (HK0.out.below z0 hb)
  replace z0 : w11.heap.size ≤ w20.heap.size := Nat.le_trans z0 hb.size
  replace HK1 := Lib.hid (HK1.out.below z1 hb)
  replace z1 : w13.heap.size ≤ w20.heap.size := Nat.le_trans z1 hb.size
  replace HK2 := Lib.hid (HK2.out.below z2 hb)
  replace z2 : w15.heap.size ≤ w20.heap.size := Nat.le_trans z2 hb.size
  replace HK3 := Lib.hid (HK3.out.below z3 hb)
  replace z3 : w16.heap.size ≤ w20.heap.size := Nat.le_trans z3 hb.size
  replace HKg := Lib.hid (HKg.out.below zg hb)
  replace zg : w17.heap.size ≤ w20.heap.size := Nat.le_trans zg hb.size
  replace HBs := Lib.hid (ex_keep HBs.out hb)
  clear hb
  have fa0 := cell_keep HBs.out HC.out.1
  have fb0 := cell_keep HBs.out HC.out.2.1
  have fa1 := cell_keep HBs.out HC.out.2.2.1
  have fb1 := cell_keep HBs.out HC.out.2.2.2.1
  have fa2 := cell_keep HBs.out HC.out.2.2.2.2.1
  have fb2 := cell_keep HBs.out HC.out.2.2.2.2.2
  have l0a := HK0.out.cell (by omega) HCX0.out.1
  have l0b := HK0.out.cell (by omega) HCX0.out.2
  have l1a := HK1.out.cell (by omega) HCX1.out.1
  have l1b := HK1.out.cell (by omega) HCX1.out.2
  have l2a := HK2.out.cell (by omega) HCX2.out.1
  have l2b := HK2.out.cell (by omega) HCX2.out.2
  have HSW1 := Lib.hid (HW1.out.keep (ex_keep HB.out HBs.out))
  have HXR1 := Lib.hid (HX1.out.same HK1.out).reads
  go_wp2_with fail
  have ea := World.new_ne w20 _ fa1
  have eb := World.new_ne w20 _ l1a
  go_region_held3 (fun w' => w'.cell? ⟨w.heap.size + 1, 0, none⟩ = some (.slice A1a s1.sizes.length c1a) ∧ w'.cell? ⟨w.heap.size + 1, 1, none⟩ = some (.slice A1b s1.tables.length c1b) ∧ w'.cell? ⟨w12.heap.size, 0, none⟩ = some (.slice AX1a s1.sizes.length cX1a) ∧ w'.cell? ⟨w12.heap.size, 1, none⟩ = some (.slice AX1b s1.tables.length cX1b))
    (first | go_keep)
    (first
      | (go_at_call 14; refine (toModel_any _ s1 w20.drew HSW1.out HF1.out).mono ?_; rintro e w21 ⟨yj, rfl, hoj, hbj⟩; have HOj := Lib.hid hoj; have HBj := Lib.hid (show Below w20.heap.size w20 w21 from below_undrew hbj); have o0 := cell_keep HBj.out fa1; have o1 := cell_keep HBj.out fb1; have o2 := cell_keep HBj.out l1a; have o3 := cell_keep HBj.out l1b; clear hoj hbj)
      | (go_at_call 18; refine (eqModel_is _ _ s1 s1 _ true (sameMd_self _) (HXR1.out.keep HBj.out) HOj.out.reads).mono ?_; rintro e w22 ⟨rfl, hbk⟩; have HBk := Lib.hid (ex_keep HBj.out hbk); have q0 := cell_keep hbk o0; have q1 := cell_keep hbk o1; have q2 := cell_keep hbk o2; have q3 := cell_keep hbk o3; clear hbk))
  have hb := HBk.out
  clear fa0 fb0 fa1 fb1 fa2 fb2 l0a l0b l1a l1b l2a l2b o0 q0 o1 q1 o2 q2 o3 q3 ea eb HBj HBk HOj HSW1 HXR1
  replace HK0 := Lib.hid (HK0.out.below z0 hb)
  replace z0 : w11.heap.size ≤ w22.heap.size := Nat.le_trans z0 hb.size
  replace HK1 := Lib.hid (HK1.out.below z1 hb)
  replace z1 : w13.heap.size ≤ w22.heap.size := Nat.le_trans z1 hb.size
  replace HK2 := Lib.hid (HK2.out.below z2 hb)
  replace z2 : w15.heap.size ≤ w22.heap.size := Nat.le_trans z2 hb.size
  replace HK3 := Lib.hid (HK3.out.below z3 hb)
  replace z3 : w16.heap.size ≤ w22.heap.size := Nat.le_trans z3 hb.size
  replace HKg := Lib.hid (HKg.out.below zg hb)
  replace zg : w17.heap.size ≤ w22.heap.size := Nat.le_trans zg hb.size
  replace HBs := Lib.hid (ex_keep HBs.out hb)
  clear hb
  have fa0 := cell_keep HBs.out HC.out.1
  have fb0 := cell_keep HBs.out HC.out.2.1
  have fa1 := cell_keep HBs.out HC.out.2.2.1
  have fb1 := cell_keep HBs.out HC.out.2.2.2.1
  have fa2 := cell_keep HBs.out HC.out.2.2.2.2.1
  have fb2 := cell_keep HBs.out HC.out.2.2.2.2.2
  have l0a := HK0.out.cell (by omega) HCX0.out.1
  have l0b := HK0.out.cell (by omega) HCX0.out.2
  have l1a := HK1.out.cell (by omega) HCX1.out.1
  have l1b := HK1.out.cell (by omega) HCX1.out.2
  have l2a := HK2.out.cell (by omega) HCX2.out.1
  have l2b := HK2.out.cell (by omega) HCX2.out.2
  have HSW2 := Lib.hid (HW2.out.keep (ex_keep HB.out HBs.out))
  have HXR2 := Lib.hid (HX2.out.same HK2.out).reads
  go_wp2_with fail
  have ea := World.new_ne w22 _ fa2
  have eb := World.new_ne w22 _ l2a
  go_region_held3 (fun w' => w'.cell? ⟨w.heap.size + 1 + 1, 0, none⟩ = some (.slice A2a s2.sizes.length c2a) ∧ w'.cell? ⟨w.heap.size + 1 + 1, 1, none⟩ = some (.slice A2b s2.tables.length c2b) ∧ w'.cell? ⟨w14.heap.size, 0, none⟩ = some (.slice AX2a s2.sizes.length cX2a) ∧ w'.cell? ⟨w14.heap.size, 1, none⟩ = some (.slice AX2b s2.tables.length cX2b))
    (first | go_keep)
    (first
      | (go_at_call 14; refine (toModel_any _ s2 w22.drew HSW2.out HF2.out).mono ?_; rintro e w23 ⟨yj, rfl, hoj, hbj⟩; have HOj := Lib.hid hoj; have HBj := Lib.hid (show Below w22.heap.size w22 w23 from below_undrew hbj); have o0 := cell_keep HBj.out fa2; have o1 := cell_keep HBj.out fb2; have o2 := cell_keep HBj.out l2a; have o3 := cell_keep HBj.out l2b; clear hoj hbj)
      | (go_at_call 18; refine (eqModel_is _ _ s2 s2 _ true (sameMd_self _) (HXR2.out.keep HBj.out) HOj.out.reads).mono ?_; rintro e w24 ⟨rfl, hbk⟩; have HBk := Lib.hid (ex_keep HBj.out hbk); have q0 := cell_keep hbk o0; have q1 := cell_keep hbk o1; have q2 := cell_keep hbk o2; have q3 := cell_keep hbk o3; clear hbk))
  have hb := HBk.out
  clear fa0 fb0 fa1 fb1 fa2 fb2 l0a l0b l1a l1b l2a l2b o0 q0 o1 q1 o2 q2 o3 q3 ea eb HBj HBk HOj HSW2 HXR2
  replace HK0 := Lib.hid (HK0.out.below z0 hb)
  replace z0 : w11.heap.size ≤ w24.heap.size := Nat.le_trans z0 hb.size
  replace HK1 := Lib.hid (HK1.out.below z1 hb)
  replace z1 : w13.heap.size ≤ w24.heap.size := Nat.le_trans z1 hb.size
  replace HK2 := Lib.hid (HK2.out.below z2 hb)
  replace z2 : w15.heap.size ≤ w24.heap.size := Nat.le_trans z2 hb.size
  replace HK3 := Lib.hid (HK3.out.below z3 hb)
  replace z3 : w16.heap.size ≤ w24.heap.size := Nat.le_trans z3 hb.size
  replace HKg := Lib.hid (HKg.out.below zg hb)
  replace zg : w17.heap.size ≤ w24.heap.size := Nat.le_trans zg hb.size
  replace HBs := Lib.hid (ex_keep HBs.out hb)
  clear hb
  go_wp2_with fail
  refine (toIntSS_any _ xs3 _ (HW3.out.keep (ex_keep HB.out HBs.out)) HF3.out).mono ?_
  rintro e w25 ⟨yj, rfl, ho, hb⟩
  have PJ := Lib.hid ho.reads
  clear ho
  replace HK0 := Lib.hid (HK0.out.below z0 hb)
  replace z0 : w11.heap.size ≤ w25.heap.size := Nat.le_trans z0 hb.size
  replace HK1 := Lib.hid (HK1.out.below z1 hb)
  replace z1 : w13.heap.size ≤ w25.heap.size := Nat.le_trans z1 hb.size
  replace HK2 := Lib.hid (HK2.out.below z2 hb)
  replace z2 : w15.heap.size ≤ w25.heap.size := Nat.le_trans z2 hb.size
  replace HK3 := Lib.hid (HK3.out.below z3 hb)
  replace z3 : w16.heap.size ≤ w25.heap.size := Nat.le_trans z3 hb.size
  replace HKg := Lib.hid (HKg.out.below zg hb)
  replace zg : w17.heap.size ≤ w25.heap.size := Nat.le_trans zg hb.size
  replace HBs := Lib.hid (ex_keep HBs.out hb)
  clear hb
  go_wp2_with fail
  refine (eqIntSS_is _ _ xs3 xs3 _ true (sameR_self _) (HX3.out.same HK3.out).reads PJ.out).mono ?_
  rintro e w26 ⟨rfl, hd⟩
  have hb := hd.below
  clear hd PJ
  replace HK0 := Lib.hid (HK0.out.below z0 hb)
  replace z0 : w11.heap.size ≤ w26.heap.size := Nat.le_trans z0 hb.size
  replace HK1 := Lib.hid (HK1.out.below z1 hb)
  replace z1 : w13.heap.size ≤ w26.heap.size := Nat.le_trans z1 hb.size
  replace HK2 := Lib.hid (HK2.out.below z2 hb)
  replace z2 : w15.heap.size ≤ w26.heap.size := Nat.le_trans z2 hb.size
  replace HK3 := Lib.hid (HK3.out.below z3 hb)
  replace z3 : w16.heap.size ≤ w26.heap.size := Nat.le_trans z3 hb.size
  replace HKg := Lib.hid (HKg.out.below zg hb)
  replace zg : w17.heap.size ≤ w26.heap.size := Nat.le_trans zg hb.size
  replace HBs := Lib.hid (ex_keep HBs.out hb)
  clear hb
  have l0a := HK0.out.cell (by omega) HCX0.out.1
  have l0b := HK0.out.cell (by omega) HCX0.out.2
  go_wp2_with fail
  refine (markSig_go _ _ s0 _ w11 _ HX0.out HK0.out z0 HF0.out (by omega) (by omega)).mono ?_
  rintro e w27 ⟨k0, rfl, hka0, hkb0, wa, hb, hout⟩
  have hzo := hout.size
  replace HK1 := Lib.hid ((HK1.out.below z1 hb).outside hout (by omega))
  replace z1 : w13.heap.size ≤ w27.heap.size := by have := hb.size; omega
  replace HK2 := Lib.hid ((HK2.out.below z2 hb).outside hout (by omega))
  replace z2 : w15.heap.size ≤ w27.heap.size := by have := hb.size; omega
  replace HK3 := Lib.hid ((HK3.out.below z3 hb).outside hout (by omega))
  replace z3 : w16.heap.size ≤ w27.heap.size := by have := hb.size; omega
  replace HKg := Lib.hid ((HKg.out.below zg hb).outside hout (by omega))
  replace zg : w17.heap.size ≤ w27.heap.size := by have := hb.size; omega
  replace HBs := Lib.hid ((ex_keep HBs.out hb).trans (hout.below.mono (by omega)))
  clear hb hout hzo HK0 z0 HX0 l0a l0b
  have l1a := HK1.out.cell (by omega) HCX1.out.1
  have l1b := HK1.out.cell (by omega) HCX1.out.2
  go_wp2_with fail
  refine (markModel_go _ _ s1 _ w13 _ HX1.out HK1.out z1 HF1.out (by omega) (by omega)).mono ?_
  rintro e w28 ⟨k1, rfl, hka1, hkb1, wa, hb, hout⟩
  have hzo := hout.size
  replace HK2 := Lib.hid ((HK2.out.below z2 hb).outside hout (by omega))
  replace z2 : w15.heap.size ≤ w28.heap.size := by have := hb.size; omega
  replace HK3 := Lib.hid ((HK3.out.below z3 hb).outside hout (by omega))
  replace z3 : w16.heap.size ≤ w28.heap.size := by have := hb.size; omega
  replace HKg := Lib.hid ((HKg.out.below zg hb).outside hout (by omega))
  replace zg : w17.heap.size ≤ w28.heap.size := by have := hb.size; omega
  replace HBs := Lib.hid ((ex_keep HBs.out hb).trans (hout.below.mono (by omega)))
  clear hb hout hzo HK1 z1 HX1 l1a l1b
  have l2a := HK2.out.cell (by omega) HCX2.out.1
  have l2b := HK2.out.cell (by omega) HCX2.out.2
  go_wp2_with fail
  refine (markModel_go _ _ s2 _ w15 _ HX2.out HK2.out z2 HF2.out (by omega) (by omega)).mono ?_
  rintro e w29 ⟨k2, rfl, hka2, hkb2, wa, hb, hout⟩
  have hzo := hout.size
  replace HK3 := Lib.hid ((HK3.out.below z3 hb).outside hout (by omega))
  replace z3 : w16.heap.size ≤ w29.heap.size := by have := hb.size; omega
  replace HKg := Lib.hid ((HKg.out.below zg hb).outside hout (by omega))
  replace zg : w17.heap.size ≤ w29.heap.size := by have := hb.size; omega
  replace HBs := Lib.hid ((ex_keep HBs.out hb).trans (hout.below.mono (by omega)))
  clear hb hout hzo HK2 z2 HX2 l2a l2b
  go_wp2_with fail
  refine (markIntSS_go _ _ xs3 _ w16 _ HX3.out HK3.out z3 HF3.out (by omega) (by omega)).mono ?_
  rintro e w30 ⟨k3, rfl, hka3, hkb3, wa, hb, hout⟩
  have hzo := hout.size
  replace HKg := Lib.hid ((HKg.out.below zg hb).outside hout (by omega))
  replace zg : w17.heap.size ≤ w30.heap.size := by have := hb.size; omega
  replace HBs := Lib.hid ((ex_keep HBs.out hb).trans (hout.below.mono (by omega)))
  clear hb hout hzo HK3 z3 HX3
  go_wp2_with fail
  refine (eqIntS_is _ _ R R _ true (sameI_self _) (HG.out.same HKg.out).reads (HZ.out.keep HBs.out).reads).mono ?_
  rintro e w31 ⟨rfl, hd⟩
  have hb := hd.below
  clear hd
  replace HKg := Lib.hid (HKg.out.below zg hb)
  replace zg : w17.heap.size ≤ w31.heap.size := Nat.le_trans zg hb.size
  replace HBs := Lib.hid (ex_keep HBs.out hb)
  clear hb
  go_wp2_with fail
  refine (markIntS_g _ _ R w17 _ HG.out HKg.out zg HLEN.out).mono ?_
  rintro e w32 ⟨K, rfl, hK0, hheld, wa, hb, hout⟩
  have HH := Lib.hid hheld
  have hzo := hout.size
  replace HBs := Lib.hid ((ex_keep HBs.out hb).trans (hout.below.mono (by omega)))
  clear hb hout hzo hheld HKg zg HG
  have HKh : Hid (Keeps w16.heap.size w32 w32) := Keeps.refl _ _
  have zh : w32.heap.size ≤ w32.heap.size := Nat.le_refl _
  have ek : (K != K) = false := by simp
  go_wp2_with fail
  refine (HH.out _ HKh.out).mono ?_
  rintro e w33 ⟨rfl, hb⟩
  replace HKh := Lib.hid (HKh.out.below zh hb)
  replace zh : w32.heap.size ≤ w33.heap.size := Nat.le_trans zh hb.size
  replace HBs := Lib.hid (ex_keep HBs.out hb)
  clear hb
  have fa0 := cell_keep HBs.out HC.out.1
  have fb0 := cell_keep HBs.out HC.out.2.1
  have fa1 := cell_keep HBs.out HC.out.2.2.1
  have fb1 := cell_keep HBs.out HC.out.2.2.2.1
  have fa2 := cell_keep HBs.out HC.out.2.2.2.2.1
  have fb2 := cell_keep HBs.out HC.out.2.2.2.2.2
  go_wp2_with fail
  refine wp_region_held_drew (S := (fun w' => w'.cell? ⟨w.heap.size, 0, none⟩ = some (.int .i64 s0.sorts) ∧ w'.cell? ⟨w.heap.size, 1, none⟩ = some (.slice A0a s0.ops.length c0a) ∧ w'.cell? ⟨w.heap.size + 1, 0, none⟩ = some (.slice A1a s1.sizes.length c1a) ∧ w'.cell? ⟨w.heap.size + 1, 1, none⟩ = some (.slice A1b s1.tables.length c1b) ∧ w'.cell? ⟨w.heap.size + 1 + 1, 0, none⟩ = some (.slice A2a s2.sizes.length c2a) ∧ w'.cell? ⟨w.heap.size + 1 + 1, 1, none⟩ = some (.slice A2b s2.tables.length c2b))) (by kernel_rfl) ?_ (fun hHeld => ?_)
  · exact ⟨fa0, fb0, fa1, fb1, fa2, fb2⟩
  refine wpAnyH_take (i := 0) (oi := _) (v := ?_) rfl (by kernel_rfl) (by kernel_rfl) (by kernel_rfl) (fun _ _ _ h => h) (Or.inl ⟨by rfl, ?_⟩) (by assumption) ?_
  rotate_left
  · first | (intro w' hSw; (try dsimp only at hSw); go_simp; done) | (intro w' hSw; (try dsimp only at hSw); go_simp; with_reducible rfl)
  try simp only [Act.put, List.getElem_toArray, List.getElem_cons_zero, List.getElem_cons_succ, List.setIfInBounds_toArray, List.set_cons_zero, List.set_cons_succ]
  refine wpAnyH_take (i := 2) (oi := _) (v := ?_) rfl (by kernel_rfl) (by kernel_rfl) (by kernel_rfl) (fun _ _ _ h => h) (Or.inl ⟨by rfl, ?_⟩) (by assumption) ?_
  rotate_left
  · first | (intro w' hSw; (try dsimp only at hSw); go_simp; done) | (intro w' hSw; (try dsimp only at hSw); go_simp; with_reducible rfl)
  try simp only [Act.put, List.getElem_toArray, List.getElem_cons_zero, List.getElem_cons_succ, List.setIfInBounds_toArray, List.set_cons_zero, List.set_cons_succ]
  refine wpAnyH_take (i := 4) (oi := _) (v := ?_) rfl (by kernel_rfl) (by kernel_rfl) (by kernel_rfl) (fun _ _ _ h => h) (Or.inl ⟨by rfl, ?_⟩) (by assumption) ?_
  rotate_left
  · first | (intro w' hSw; (try dsimp only at hSw); go_simp; done) | (intro w' hSw; (try dsimp only at hSw); go_simp; with_reducible rfl)
  try simp only [Act.put, List.getElem_toArray, List.getElem_cons_zero, List.getElem_cons_succ, List.setIfInBounds_toArray, List.set_cons_zero, List.set_cons_succ]
  refine wpAnyH_take (i := 6) (oi := _) (v := ?_) rfl (by kernel_rfl) (by kernel_rfl) (by kernel_rfl) (fun _ _ _ h => h) (Or.inl ⟨by rfl, ?_⟩) (by assumption) ?_
  rotate_left
  · first | (intro w' hSw; (try dsimp only at hSw); go_simp; done) | (intro w' hSw; (try dsimp only at hSw); go_simp; with_reducible rfl)
  try simp only [Act.put, List.getElem_toArray, List.getElem_cons_zero, List.getElem_cons_succ, List.setIfInBounds_toArray, List.set_cons_zero, List.set_cons_succ]
  refine wpAnyH_ready (rs := [1]) (by kernel_rfl) (by simp) ?_
  refine AllReadyH.cons (o := _) rfl (fun K hK => ?_) AllReadyH.nil
  go_simp
  refine (toSig_any _ s0 _ (HW0.out.keep (ex_drew (ex_keep HB.out HBs.out))) HF0.out).mono ?_
  rintro e w34 ⟨y0, rfl, ho, hb⟩
  replace hb := ex_undrew hb
  replace fa0 := cell_keep hb fa0
  replace fb0 := cell_keep hb fb0
  replace fa1 := cell_keep hb fa1
  replace fb1 := cell_keep hb fb1
  replace fa2 := cell_keep hb fa2
  replace fb2 := cell_keep hb fb2
  replace HKh := Lib.hid (HKh.out.below zh hb)
  replace zh : w32.heap.size ≤ w34.heap.size := Nat.le_trans zh hb.size
  replace HBs := Lib.hid (ex_keep HBs.out hb)
  clear hb
  have PP0 := Lib.hid ho.reads
  obtain ⟨AQ0a, cQ0a, rfl⟩ := ho.reads.form
  clear ho
  go_wp2_with fail
  refine hK.out _ _ ?_ (fun hHeld => ?_)
  · exact ⟨fa0, fb0, fa1, fb1, fa2, fb2⟩
  clear hK K
  try simp only [Act.put, List.getElem_toArray, List.getElem_cons_zero, List.getElem_cons_succ, List.setIfInBounds_toArray, List.set_cons_zero, List.set_cons_succ]
  refine wpAnyH_ready (rs := [3]) (by kernel_rfl) (by simp) ?_
  refine AllReadyH.cons (o := _) rfl (fun K hK => ?_) AllReadyH.nil
  go_simp
  refine (toModel_any _ s1 _ (HW1.out.keep (ex_keep HB.out HBs.out)) HF1.out).mono ?_
  rintro e w35 ⟨y1, rfl, ho, hb⟩
  replace fa0 := cell_keep hb fa0
  replace fb0 := cell_keep hb fb0
  replace fa1 := cell_keep hb fa1
  replace fb1 := cell_keep hb fb1
  replace fa2 := cell_keep hb fa2
  replace fb2 := cell_keep hb fb2
  replace PP0 := Lib.hid (PP0.out.keep hb)
  replace HKh := Lib.hid (HKh.out.below zh hb)
  replace zh : w32.heap.size ≤ w35.heap.size := Nat.le_trans zh hb.size
  replace HBs := Lib.hid (ex_keep HBs.out hb)
  clear hb
  have PP1 := Lib.hid ho.reads
  obtain ⟨AQ1a, cQ1a, AQ1b, cQ1b, rfl⟩ := ho.reads.form
  clear ho
  go_wp2_with fail
  refine hK.out _ _ ?_ (fun hHeld => ?_)
  · exact ⟨fa0, fb0, fa1, fb1, fa2, fb2⟩
  clear hK K
  try simp only [Act.put, List.getElem_toArray, List.getElem_cons_zero, List.getElem_cons_succ, List.setIfInBounds_toArray, List.set_cons_zero, List.set_cons_succ]
  refine wpAnyH_ready (rs := [5]) (by kernel_rfl) (by simp) ?_
  refine AllReadyH.cons (o := _) rfl (fun K hK => ?_) AllReadyH.nil
  go_simp
  refine (toModel_any _ s2 _ (HW2.out.keep (ex_keep HB.out HBs.out)) HF2.out).mono ?_
  rintro e w36 ⟨y2, rfl, ho, hb⟩
  replace fa0 := cell_keep hb fa0
  replace fb0 := cell_keep hb fb0
  replace fa1 := cell_keep hb fa1
  replace fb1 := cell_keep hb fb1
  replace fa2 := cell_keep hb fa2
  replace fb2 := cell_keep hb fb2
  replace PP0 := Lib.hid (PP0.out.keep hb)
  replace PP1 := Lib.hid (PP1.out.keep hb)
  replace HKh := Lib.hid (HKh.out.below zh hb)
  replace zh : w32.heap.size ≤ w36.heap.size := Nat.le_trans zh hb.size
  replace HBs := Lib.hid (ex_keep HBs.out hb)
  clear hb
  have PP2 := Lib.hid ho.reads
  obtain ⟨AQ2a, cQ2a, AQ2b, cQ2b, rfl⟩ := ho.reads.form
  clear ho
  go_wp2_with fail
  refine hK.out _ _ ?_ (fun hHeld => ?_)
  · exact ⟨fa0, fb0, fa1, fb1, fa2, fb2⟩
  clear hK K
  try simp only [Act.put, List.getElem_toArray, List.getElem_cons_zero, List.getElem_cons_succ, List.setIfInBounds_toArray, List.set_cons_zero, List.set_cons_succ]
  refine wpAnyH_ready (rs := [7]) (by kernel_rfl) (by simp) ?_
  refine AllReadyH.cons (o := _) rfl (fun K hK => ?_) AllReadyH.nil
  go_simp
  refine (toIntSS_any _ xs3 _ (HW3.out.keep (ex_keep HB.out HBs.out)) HF3.out).mono ?_
  rintro e w37 ⟨y3, rfl, ho, hb⟩
  replace fa0 := cell_keep hb fa0
  replace fb0 := cell_keep hb fb0
  replace fa1 := cell_keep hb fa1
  replace fb1 := cell_keep hb fb1
  replace fa2 := cell_keep hb fa2
  replace fb2 := cell_keep hb fb2
  replace PP0 := Lib.hid (PP0.out.keep hb)
  replace PP1 := Lib.hid (PP1.out.keep hb)
  replace PP2 := Lib.hid (PP2.out.keep hb)
  replace HKh := Lib.hid (HKh.out.below zh hb)
  replace zh : w32.heap.size ≤ w37.heap.size := Nat.le_trans zh hb.size
  replace HBs := Lib.hid (ex_keep HBs.out hb)
  clear hb
  have PP3 := Lib.hid ho.reads
  obtain ⟨AQ3, cQ3, rfl, -⟩ := ho.reads.form
  clear ho
  go_wp2_with fail
  refine hK.out _ _ ?_ (fun hHeld => ?_)
  · exact ⟨fa0, fb0, fa1, fb1, fa2, fb2⟩
  clear hK K
  try simp only [Act.put, List.getElem_toArray, List.getElem_cons_zero, List.getElem_cons_succ, List.setIfInBounds_toArray, List.set_cons_zero, List.set_cons_succ]
  refine wpAnyH_ready (rs := [8]) (by kernel_rfl) (by simp) ?_
  refine AllReadyH.cons (o := _) rfl (fun K hK => ?_) AllReadyH.nil
  go_simp
  refine (imageOf_any s0 s1 s2 xs3 _ _ _ _ _ PP0.out PP1.out PP2.out PP3.out).mono ?_
  rw [HR.out]
  rintro e w38 ⟨g1, rfl, hog, hb⟩
  obtain ⟨Ah, ch, rfl, -⟩ := hog.reads.form
  have HG1 := Lib.hid hog.reads
  clear hog PP0 PP1 PP2 PP3
  replace fa0 := cell_keep hb fa0
  replace fb0 := cell_keep hb fb0
  replace fa1 := cell_keep hb fa1
  replace fb1 := cell_keep hb fb1
  replace fa2 := cell_keep hb fa2
  replace fb2 := cell_keep hb fb2
  replace HKh := Lib.hid (HKh.out.below zh hb)
  replace zh : w32.heap.size ≤ w38.heap.size := Nat.le_trans zh hb.size
  replace HBs := Lib.hid (ex_keep HBs.out hb)
  clear hb
  go_wp2_with fail
  refine hK.out _ _ ?_ (fun hHeld => ?_)
  · exact ⟨fa0, fb0, fa1, fb1, fa2, fb2⟩
  clear hK K
  try simp only [Act.put, List.getElem_toArray, List.getElem_cons_zero, List.getElem_cons_succ, List.setIfInBounds_toArray, List.set_cons_zero, List.set_cons_succ]
  refine wpAnyH_take (i := 9) (oi := _) (v := ?_) rfl (by kernel_rfl) (by kernel_rfl) (by kernel_rfl) (fun _ _ _ h => h) (Or.inl ⟨by rfl, ?_⟩) (by assumption) ?_
  rotate_left
  · first | (intro w' hSw; (try dsimp only at hSw); go_simp; done) | (intro w' hSw; (try dsimp only at hSw); go_simp; with_reducible rfl)
  try simp only [Act.put, List.getElem_toArray, List.getElem_cons_zero, List.getElem_cons_succ, List.setIfInBounds_toArray, List.set_cons_zero, List.set_cons_succ]
  refine wpAnyH_done (by kernel_rfl) ?_ _
  clear fa0 fb0 fa1 fb1 fa2 fb2
  go_wp2_with fail
  refine (eqIntS_is _ _ R R _ true (sameI_self _) HG1.out (HZ.out.keep HBs.out).reads).mono ?_
  rintro e w39 ⟨rfl, hd⟩
  have hb := hd.below
  clear hd
  replace HKh := Lib.hid (HKh.out.below zh hb)
  replace zh : w32.heap.size ≤ w39.heap.size := Nat.le_trans zh hb.size
  replace HBs := Lib.hid (ex_keep HBs.out hb)
  clear hb
  clear HG1
  go_wp2_with fail
  refine (HH.out _ HKh.out).mono ?_
  rintro e w40 ⟨rfl, hb⟩
  replace HKh := Lib.hid (HKh.out.below zh hb)
  replace zh : w32.heap.size ≤ w40.heap.size := Nat.le_trans zh hb.size
  replace HBs := Lib.hid (ex_keep HBs.out hb)
  clear hb
  go_wp2
  go_ret
  exact ⟨rfl, ex_keep HB.out HBs.out⟩

set_option maxRecDepth 100000 in
theorem lifted_FnExactImageOf (os : Os) (started : os.Started) (H : Type) (enc : TypeId × Value → H) :
    ReturnsInHanded {} Try.checked os 5 .any (Rows.fnExactImageOfSpec.pre6 enc Try.prog Try.f5 Rows.fnExactImageOfRow.domain false) (Rows.fnExactImageOfSpec.post enc Try.prog Try.f5 false true false false) := by
  refine returnsInHanded_of_change (C := Try.checked) own started (by kernel_rfl) Try.func5
    (ChangeSpec.witness6 (enc := enc) (C := Try.checked) false ⟨#[], #[.agg #[.int .i64 0, .slice none 0 0], .agg #[.slice none 0 0, .slice none 0 0], .agg #[.slice none 0 0, .slice none 0 0], .slice none 0 0], []⟩ 8 (by kernel_rfl) (by kernel_rfl) (by kernel_rfl) (by kernel_rfl)) ?_
  intro W base args ds gs before hval0 hW hcnd _
  have hval : ∀ (j : Nat) t v, Try.f5.params[j]? = some t → args[j]? = some v → Value.okWide Try.prog W .any base t v := hval0
  have hW' := hW
  obtain ⟨p, q, hA0, hV, rfl, hfz, hnd⟩ := hW
  have hA : DataW.TrodAll enc Try.prog W 0 (fun _ => true) true Try.f5.params.toList args.toList ds p := hA0
  rw [Try.params5] at hA hval
  obtain ⟨v0, vs0, d0, ds0, p0, q0, hargs, rfl, rfl, h0, r0⟩ := trodAll_cons hA
  obtain ⟨v1, vs1, d1, ds1, p1, q1, rfl, rfl, rfl, h1, r1⟩ := trodAll_cons r0
  obtain ⟨v2, vs2, d2, ds2, p2, q2, rfl, rfl, rfl, h2, r2⟩ := trodAll_cons r1
  obtain ⟨v3, vs3, d3, ds3, p3, q3, rfl, rfl, rfl, h3, r3⟩ := trodAll_cons r2
  obtain ⟨rfl, rfl, rfl⟩ := trodAll_nil r3
  obtain rfl : args = #[v0, v1, v2, v3] := by cases args; simp_all
  obtain ⟨rfl, rfl⟩ := trodVars_none hV
  have k0 := h0
  have lt0 : ∀ x ∈ p0, x.block < W.heap.size := by obtain ⟨m, hm⟩ := k0; exact DataW.trod_lt m _ _ _ hm
  obtain ⟨s0, w0⟩ : ∃ s, RSig W v0 s := sig_of (hval 0 24 v0 rfl rfl) h0
  have k1 := h1
  have lt1 : ∀ x ∈ p1, x.block < W.heap.size := by obtain ⟨m, hm⟩ := k1; exact DataW.trod_lt m _ _ _ hm
  obtain ⟨s1, w1⟩ : ∃ s, RModel W v1 s := model_of (hval 1 27 v1 rfl rfl) h1
  have k2 := h2
  have lt2 : ∀ x ∈ p2, x.block < W.heap.size := by obtain ⟨m, hm⟩ := k2; exact DataW.trod_lt m _ _ _ hm
  obtain ⟨s2, w2⟩ : ∃ s, RModel W v2 s := model_of (hval 2 27 v2 rfl rfl) h2
  have k3 := h3
  have lt3 : ∀ x ∈ p3, x.block < W.heap.size := by obtain ⟨m, hm⟩ := k3; exact DataW.trod_lt m _ _ _ hm
  obtain ⟨s3, w3⟩ : ∃ xs, RRows W v3 xs ∧ SmallR xs := rows_of (hval 3 22 v3 rfl rfl) h3
  clear hA0 hval0
  refine (walk_FnExactImageOf _ s0 _ s1 _ s2 _ s3 W w0 w1 w2 w3).mono fun e W' ⟨he, bel⟩ => ?_
  subst he
  exact ⟨_, rfl, _, _, _, [], _, [], hW', trodAll_mk1 (shut_bool Try.underlying4 _), (trodAll_cons_mk (Below.trod laidOut (by kernel_rfl) (of_decide_eq_true (by kernel_rfl)) k0 bel lt0) (trodAll_cons_mk (Below.trod laidOut (by kernel_rfl) (of_decide_eq_true (by kernel_rfl)) k1 bel lt1) (trodAll_cons_mk (Below.trod laidOut (by kernel_rfl) (of_decide_eq_true (by kernel_rfl)) k2 bel lt2) (trodAll_cons_mk (Below.trod laidOut (by kernel_rfl) (of_decide_eq_true (by kernel_rfl)) k3 bel lt3) trodAll_mk0)))), rfl, bel.frame _, fun h => by cases h⟩

theorem over_FnExactImageOf : Rows.fnExactImageOfRow.holds Try.pinned (OpenSpec.ofChange Rows.fnExactImageOfSpec) :=
  OpenClaim.holds_of_wide 5 Try.f5 rfl rfl rfl rfl rfl rfl rfl ⟨rfl, rfl, rfl, rfl, rfl⟩ rfl rfl rfl rfl rfl (by kernel_rfl) Try.func5 (by kernel_rfl)
    (of_decide_eq_true (by kernel_rfl)) (by unfold Func.isWrapper; first | (rw [if_pos (by decide +kernel)]; kernel_rfl) | (rw [if_neg (by decide +kernel)]; exact ⟨rfl, rfl⟩))
    (fun os started H enc _ => lifted_FnExactImageOf os started H enc)

theorem proved_FnExactImageOf : Rows.FnExactImageOfSaid := over_FnExactImageOf
end Go.Proofs.Ytfomeommkfemkaa
