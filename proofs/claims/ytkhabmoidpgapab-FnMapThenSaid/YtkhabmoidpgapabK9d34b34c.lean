/- MapSelf, MapThen, MapTerm, MapEq of package impl. · MapSelf, MapTerm, MapEq of package spec. -/
import Derived.Test.YtkhabmoidpgapabK100cbc63
namespace Go.Proofs.Ytkhabmoidpgapab
section
open Go.RowKit
set_option linter.unusedVariables false
set_option linter.unusedSimpArgs false

theorem blk_keep {wc wd : World} {bx : Nat} {o : Obj} (hz : wc.heap[bx]? = some o) (hb : Below wc.heap.size wc wd) : wd.heap[bx]? = some o := (hb.block _ (Array.getElem?_eq_some_iff.1 hz).1).trans hz
theorem set_other {w : World} {b rb : Nat} (h : b ≠ rb) (i o : Nat) (u : Value) : (w.setCell ⟨rb, i, none⟩ u).cell? ⟨b, o, none⟩ = w.cell? ⟨b, o, none⟩ := World.cell?_of_block (Below.heap_setCell w ⟨rb, i, none⟩ u b h)
theorem nil_map (w : World) (B : Nat) : OMap w B (.agg #[.slice none 0 0, .slice none 0 0]) noMap := ⟨_, _, rfl, OInts.nil _ _, OInts.nil _ _, .inl rfl⟩
theorem nil_eq (w : World) (B : Nat) : OEq w B (.agg #[.slice none 0 0, .slice none 0 0, .slice none 0 0]) noEq := ⟨_, _, _, rfl, OInts.nil _ _, OInts.nil _ _, OInts.nil _ _, .inl rfl, .inl rfl, .inl rfl⟩
theorem below_low {w w' : World} {B : Nat} (h : Below w.heap.size w w') (hB : B ≤ w.heap.size) : Below B w w' := h.mono hB

set_option maxRecDepth 100000 in
theorem countedRow_any (x : Int) (w : World) (h0 : 0 ≤ x) (h1 : x ≤ 1048576) :
    Calls Try.prog 57 #[.int .i64 x] w fun e w' => ∃ u, e = .returned u ∧ OInts w' w.heap.size u (countM x.toNat) ∧ Below w.heap.size w w' := by
  obtain ⟨n, rfl⟩ : ∃ n : Nat, x = (n : Int) := ⟨x.toNat, by omega⟩
  rw [Int.toNat_natCast]
  have hmk := run_make_row' (P := Try.prog) 26 3 (.int .i64 0) 8 Try.underlying26 Try.tinfo_int rfl .i64 .i64 n (by omega) (by omega)
  go_enter Try.func57, Try.ntmps57
  go_wp2
  go_loopw [4, 9] (fun a i wr => ∃ k : Nat, k ≤ n ∧ i = .int .i64 k ∧ Filling w wr (countM n) k) (fun _ i _ => n - (intOf i).toNat)
  case atStart => exact ⟨0, Nat.zero_le _, rfl, Filling.start w _ _ (by rw [countM_len]; simp [madeCells])⟩
  case round =>
    obtain ⟨k, hk, rfl, hf⟩ := hrel
    have HF := Lib.hid hf
    clear hf hmk
    by_cases hlt : k < n
    · have hlt' : (k : Int) < (n : Int) := by omega
      obtain ⟨u, g1, g2⟩ := HF.out.cell (by rw [countM_len]; exact hlt)
      go_wp2
      go_roundw
      case rel => exact ⟨k + 1, by omega, by go_num, HF.out.step (by rw [countM_len]; exact hlt) ((List.getElem?_eq_some_iff.1 (countM_at hlt)).2)⟩
      case measure => simp [intOf]; omega
    · have hlt' : ¬ (k : Int) < (n : Int) := by omega
      go_wp2
      go_ret
      obtain ⟨r1, r2⟩ := HF.out.done (by rw [countM_len]; omega) (by omega)
      have hkn : k = n := by omega
      subst hkn
      exact ⟨_, rfl, r1, r2⟩

set_option maxHeartbeats 1600000 in
set_option maxRecDepth 100000 in
theorem mapSelf_any (s : MSig) (w : World) (v : Value) (h1 : RSig w v s) :
    Calls Try.prog 18 #[v] w fun e w' => ∃ u, e = .returned u ∧ OMap w' w.heap.size u (selfM s) ∧ Below w.heap.size w w' := by
  obtain ⟨Asa, csa, rfl⟩ := h1.form
  have hb : Below w.heap.size w ((w.alloc (.cells #[.int .i64 s.sorts, .slice Asa s.ops.length csa] 25)).alloc (.cells #[.slice none 0 0, .slice none 0 0] 28)) := (below_alloc _ _).alloc (by simp) _
  have HB := Lib.hid hb
  have hsz : ((w.alloc (.cells #[.int .i64 s.sorts, .slice Asa s.ops.length csa] 25)).alloc (.cells #[.slice none 0 0, .slice none 0 0] 28)).heap.size = w.heap.size + 2 := by simp
  have Hs := Lib.hid (h1.keep hb)
  have s0 := cell_keep (below_alloc (w.alloc (.cells #[.int .i64 s.sorts, .slice Asa s.ops.length csa] 25)) (.cells #[.slice none 0 0, .slice none 0 0] 28)) (bx_at (w) #[.int .i64 s.sorts, .slice Asa s.ops.length csa] 25 (k := 0) rfl)
  have s1 := cell_keep (below_alloc (w.alloc (.cells #[.int .i64 s.sorts, .slice Asa s.ops.length csa] 25)) (.cells #[.slice none 0 0, .slice none 0 0] 28)) (bx_at (w) #[.int .i64 s.sorts, .slice Asa s.ops.length csa] 25 (k := 1) rfl)
  have HZr := Lib.hid (show ((w.alloc (.cells #[.int .i64 s.sorts, .slice Asa s.ops.length csa] 25)).alloc (.cells #[.slice none 0 0, .slice none 0 0] 28)).heap[w.heap.size + 1]? = some (.cells #[.slice none 0 0, .slice none 0 0] 28 (0, 0)) from (congrArg (fun i => ((w.alloc (.cells #[.int .i64 s.sorts, .slice Asa s.ops.length csa] 25)).alloc (.cells #[.slice none 0 0, .slice none 0 0] 28)).heap[i]?) (by simp)).trans (heap_alloc_new (w.alloc (.cells #[.int .i64 s.sorts, .slice Asa s.ops.length csa] 25)) _))
  generalize hW : (w.alloc (.cells #[.int .i64 s.sorts, .slice Asa s.ops.length csa] 25)).alloc (.cells #[.slice none 0 0, .slice none 0 0] 28) = W at HB hsz Hs s0 s1 HZr
  clear hb h1
  have hl1 := Hs.out.of.2.len
  cases hv : validB s with
  | false =>
    have HV := Lib.hid hv
    have HE := Lib.hid (show selfM s = noMap by unfold selfM; rw [hv]; rfl)
    clear hv
    go_enter Try.func18, Try.ntmps18
    go_wp2_with fail
    clear hW
    refine (sigValid_any _ s _ Hs.out).mono ?_
    rw [HV.out]
    rintro e w1 ⟨rfl, hb⟩
    replace HB := Lib.hid (sz_keep HB.out hb)
    replace Hs := Lib.hid (Hs.out.keep hb)
    replace HZr := Lib.hid (blk_keep HZr.out hb)
    clear hb
    clear s0 s1
    have j0 := blk_cell HZr.out 0
    have j1 := blk_cell HZr.out 1
    have jf0 := blk_free HZr.out 0
    have jf1 := blk_free HZr.out 1
    simp at j0 j1
    go_wp2
    have d1 := blk_set (blk_set (HZr.out) 0 (.slice none 0 0)) 1 (.slice none 0 0)
    have hbz := ((HB.out.setCell (p := ⟨w.heap.size + 1, 0, none⟩) (by show w.heap.size ≤ w.heap.size + 1; omega) (.slice none 0 0)).setCell (p := ⟨w.heap.size + 1, 1, none⟩) (by show w.heap.size ≤ w.heap.size + 1; omega) (.slice none 0 0))
    generalize (w1.setCell ⟨w.heap.size + 1, 0, none⟩ (.slice none 0 0)).setCell ⟨w.heap.size + 1, 1, none⟩ (.slice none 0 0) = wz at d1 hbz  ⊢
    have k0 := blk_cell d1 0
    have k1 := blk_cell d1 1
    simp at k0 k1
    clear j0 j1 jf0 jf1
    refine bodyPost_ret (v := .agg #[.slice none 0 0, .slice none 0 0]) (by simp [results, Try.results18, go_sem, k0, k1]) rfl ?_
    exact ⟨_, rfl, by rw [HE.out]; exact nil_map _ _, hbz⟩
  | true =>
    have HV := Lib.hid hv
    have hsv := valid_sorts hv
    have HE := Lib.hid (show selfM s = ⟨countM s.sorts.toNat, countM s.ops.length⟩ by unfold selfM; rw [hv]; rfl)
    clear hv
    go_enter Try.func18, Try.ntmps18
    go_wp2_with fail
    clear hW
    refine (sigValid_any _ s _ Hs.out).mono ?_
    rw [HV.out]
    rintro e w1 ⟨rfl, hb⟩
    replace HB := Lib.hid (sz_keep HB.out hb)
    replace s0 := cell_keep hb s0
    replace s1 := cell_keep hb s1
    replace Hs := Lib.hid (Hs.out.keep hb)
    replace HZr := Lib.hid (blk_keep HZr.out hb)
    clear hb
    go_wp2_with fail
    refine wp_region_held_drew (S := (fun w' => w'.cell? ⟨w.heap.size, 0, none⟩ = some (.int .i64 s.sorts) ∧ w'.cell? ⟨w.heap.size, 1, none⟩ = some (.slice Asa s.ops.length csa))) (by kernel_rfl) ?_ (fun hHeld => ?_)
    · exact ⟨s0, s1⟩
    refine wpAnyH_take (i := 0) (oi := _) (v := ?_) rfl (by kernel_rfl) (by kernel_rfl) (by kernel_rfl) (fun _ _ _ h => h) (Or.inl ⟨by rfl, ?_⟩) (by assumption) ?_
    rotate_left
    · first | (intro w' hSw; (try dsimp only at hSw); go_simp; done) | (intro w' hSw; (try dsimp only at hSw); go_simp; with_reducible rfl)
    try simp only [Act.put, List.getElem_toArray, List.getElem_cons_zero, List.getElem_cons_succ, List.setIfInBounds_toArray, List.set_cons_zero, List.set_cons_succ]
    refine wpAnyH_take (i := 1) (oi := _) (v := ?_) rfl (by kernel_rfl) (by kernel_rfl) (by kernel_rfl) (fun _ _ _ h => h) (Or.inl ⟨by rfl, ?_⟩) (by assumption) ?_
    rotate_left
    · first | (intro w' hSw; (try dsimp only at hSw); go_simp; done) | (intro w' hSw; (try dsimp only at hSw); go_simp; with_reducible rfl)
    try simp only [Act.put, List.getElem_toArray, List.getElem_cons_zero, List.getElem_cons_succ, List.setIfInBounds_toArray, List.set_cons_zero, List.set_cons_succ]
    refine wpAnyH_take (i := 3) (oi := _) (v := ?_) rfl (by kernel_rfl) (by kernel_rfl) (by kernel_rfl) (fun _ _ _ h => h) (Or.inl ⟨by rfl, ?_⟩) (by assumption) ?_
    rotate_left
    · first | (intro w' hSw; (try dsimp only at hSw); go_simp; done) | (intro w' hSw; (try dsimp only at hSw); go_simp; with_reducible rfl)
    try simp only [Act.put, List.getElem_toArray, List.getElem_cons_zero, List.getElem_cons_succ, List.setIfInBounds_toArray, List.set_cons_zero, List.set_cons_succ]
    refine wpAnyH_take (i := 4) (oi := _) (v := ?_) rfl (by kernel_rfl) (by kernel_rfl) (by kernel_rfl) (fun _ _ _ h => h) (Or.inl ⟨by rfl, ?_⟩) (by assumption) ?_
    rotate_left
    · first | (intro w' hSw; (try dsimp only at hSw); go_simp; done) | (intro w' hSw; (try dsimp only at hSw); go_simp; with_reducible rfl)
    try simp only [Act.put, List.getElem_toArray, List.getElem_cons_zero, List.getElem_cons_succ, List.setIfInBounds_toArray, List.set_cons_zero, List.set_cons_succ]
    refine wpAnyH_take (i := 5) (oi := _) (v := ?_) rfl (by kernel_rfl) (by kernel_rfl) (by kernel_rfl) (fun _ _ _ h => h) (Or.inl ⟨by rfl, ?_⟩) (by assumption) ?_
    rotate_left
    · first | (intro w' hSw; (try dsimp only at hSw); go_simp; done) | (intro w' hSw; (try dsimp only at hSw); go_simp; with_reducible rfl)
    try simp only [Act.put, List.getElem_toArray, List.getElem_cons_zero, List.getElem_cons_succ, List.setIfInBounds_toArray, List.set_cons_zero, List.set_cons_succ]
    refine wpAnyH_ready (rs := [2]) (by kernel_rfl) (by simp) ?_
    refine AllReadyH.cons (o := _) rfl (fun K hK => ?_) AllReadyH.nil
    go_simp
    refine (countedRow_any s.sorts w1.drew (by omega) (by omega)).mono ?_
    rintro e w2 ⟨u2, rfl, ho2, hb2⟩
    have hx2 := map_undrew hb2
    obtain ⟨A2, c2, rfl, -⟩ := ho2.reads.form
    have HO2 := Lib.hid (show OInts w2 w1.heap.size _ _ from ho2)
    have HX2 := Lib.hid hx2
    have q0 := cell_keep hx2 s0
    have q1 := cell_keep hx2 s1
    clear ho2 hb2 hx2
    go_wp2_with fail
    refine hK.out _ _ ?_ (fun hHeld => ?_)
    · exact ⟨q0, q1⟩
    clear hK K
    try simp only [Act.put, List.getElem_toArray, List.getElem_cons_zero, List.getElem_cons_succ, List.setIfInBounds_toArray, List.set_cons_zero, List.set_cons_succ]
    refine wpAnyH_ready (rs := [6]) (by kernel_rfl) (by simp) ?_
    refine AllReadyH.cons (o := _) rfl (fun K hK => ?_) AllReadyH.nil
    go_simp
    refine (countedRow_any (s.ops.length : Int) w2 (by omega) (by omega)).mono ?_
    rw [Int.toNat_natCast]
    rintro e w3 ⟨u3, rfl, ho3, hb3⟩
    obtain ⟨A3, c3, rfl, -⟩ := ho3.reads.form
    have HAP := Lib.hid (apart_later HO2.out ho3)
    have HO3 := Lib.hid ho3
    have HO23 := Lib.hid (HO2.out.keep hb3)
    have HX3 := Lib.hid (sz_keep HX2.out hb3)
    have t0 := cell_keep hb3 q0
    have t1 := cell_keep hb3 q1
    have HZ3 := Lib.hid (blk_keep HZr.out HX3.out)
    have HSZ := Lib.hid (And.intro HB.out.size (And.intro HX2.out.size hb3.size))
    have HBN := Lib.hid (sz_keep HB.out HX3.out)
    have j0 := blk_cell HZ3.out 0
    have j1 := blk_cell HZ3.out 1
    have jf0 := blk_free HZ3.out 0
    have jf1 := blk_free HZ3.out 1
    simp at j0 j1
    clear ho3 hb3
    go_wp2_with fail
    refine hK.out _ _ ?_ (fun hHeld => ?_)
    · exact ⟨t0, t1⟩
    clear hK K
    try simp only [Act.put, List.getElem_toArray, List.getElem_cons_zero, List.getElem_cons_succ, List.setIfInBounds_toArray, List.set_cons_zero, List.set_cons_succ]
    refine wpAnyH_take (i := 7) (oi := _) (v := ?_) rfl (by kernel_rfl) (by kernel_rfl) (by kernel_rfl) (fun _ _ _ h => h) (Or.inl ⟨by rfl, ?_⟩) (by assumption) ?_
    rotate_left
    · first | (intro w' hSw; (try dsimp only at hSw); go_simp; done) | (intro w' hSw; (try dsimp only at hSw); go_simp; with_reducible rfl)
    try simp only [Act.put, List.getElem_toArray, List.getElem_cons_zero, List.getElem_cons_succ, List.setIfInBounds_toArray, List.set_cons_zero, List.set_cons_succ]
    refine wpAnyH_ready (rs := [8]) (by kernel_rfl) (by simp) ?_
    refine AllReadyH.cons (o := _) rfl (fun K hK => ?_) AllReadyH.nil
    go_simp
    skip
    go_wp2_with fail
    refine hK.out _ _ ?_ (fun hHeld => ?_)
    · exact ⟨(set_other (by omega) _ _ _).trans ((set_other (by omega) _ _ _).trans t0), (set_other (by omega) _ _ _).trans ((set_other (by omega) _ _ _).trans t1)⟩
    clear hK K
    try simp only [Act.put, List.getElem_toArray, List.getElem_cons_zero, List.getElem_cons_succ, List.setIfInBounds_toArray, List.set_cons_zero, List.set_cons_succ]
    refine wpAnyH_done (by kernel_rfl) ?_ _
    clear s0 s1 q0 q1 t0 t1
    have hZ1 : w.heap.size + 1 < w1.heap.size := (Array.getElem?_eq_some_iff.1 HZr.out).1
    have hZ2 := HSZ.out
    replace HB := HBN
    go_wp2
    have d1 := blk_set (blk_set (HZ3.out) 0 (.slice A2 (countM s.sorts.toNat).length c2)) 1 (.slice A3 (countM s.ops.length).length c3)
    have n0 := ((HO23.out.setLow (b := w.heap.size + 1) (by omega) 0 (.slice A2 (countM s.sorts.toNat).length c2)).setLow (b := w.heap.size + 1) (by omega) 1 (.slice A3 (countM s.ops.length).length c3))
    have n1 := ((HO3.out.setLow (b := w.heap.size + 1) (by omega) 0 (.slice A2 (countM s.sorts.toNat).length c2)).setLow (b := w.heap.size + 1) (by omega) 1 (.slice A3 (countM s.ops.length).length c3))
    have hbz := ((HB.out.setCell (p := ⟨w.heap.size + 1, 0, none⟩) (by show w.heap.size ≤ w.heap.size + 1; omega) (.slice A2 (countM s.sorts.toNat).length c2)).setCell (p := ⟨w.heap.size + 1, 1, none⟩) (by show w.heap.size ≤ w.heap.size + 1; omega) (.slice A3 (countM s.ops.length).length c3))
    generalize (w3.setCell ⟨w.heap.size + 1, 0, none⟩ (.slice A2 (countM s.sorts.toNat).length c2)).setCell ⟨w.heap.size + 1, 1, none⟩ (.slice A3 (countM s.ops.length).length c3) = wz at d1 hbz n0 n1 ⊢
    have k0 := blk_cell d1 0
    have k1 := blk_cell d1 1
    simp at k0 k1
    clear j0 j1 jf0 jf1
    refine bodyPost_ret (v := .agg #[.slice A2 (countM s.sorts.toNat).length c2, .slice A3 (countM s.ops.length).length c3]) (by simp [results, Try.results18, go_sem, k0, k1]) rfl ?_
    exact ⟨_, rfl, by rw [HE.out]; exact ⟨_, _, rfl, n0.base (by omega), n1.base (by omega), HAP.out⟩, hbz⟩
set_option maxHeartbeats 3200000 in
set_option maxRecDepth 100000 in
theorem mapThen_any (a b c : MSig) (m n : MMap) (w : World) (va vb vc vm vn : Value) (h1 : RSig w va a) (h2 : RSig w vb b) (h3 : RSig w vc c) (h4 : RMap w vm m) (h5 : RMap w vn n) :
    Calls Try.prog 15 #[va, vb, vc, vm, vn] w fun e w' => ∃ u, e = .returned (.tuple #[u, .bool (thenM a b c m n).2]) ∧ OMap w' w.heap.size u (thenM a b c m n).1 ∧ Below w.heap.size w w' := by
  obtain ⟨Aaa, caa, rfl⟩ := h1.form
  obtain ⟨Aba, cba, rfl⟩ := h2.form
  obtain ⟨Aca, cca, rfl⟩ := h3.form
  obtain ⟨Ama, cma, Amb, cmb, rfl⟩ := h4.form
  obtain ⟨Ana, cna, Anb, cnb, rfl⟩ := h5.form
  have hb : Below w.heap.size w ((((((w.alloc (.cells #[.int .i64 a.sorts, .slice Aaa a.ops.length caa] 25)).alloc (.cells #[.int .i64 b.sorts, .slice Aba b.ops.length cba] 25)).alloc (.cells #[.int .i64 c.sorts, .slice Aca c.ops.length cca] 25)).alloc (.cells #[.slice Ama m.sorts.length cma, .slice Amb m.ops.length cmb] 28)).alloc (.cells #[.slice Ana n.sorts.length cna, .slice Anb n.ops.length cnb] 28)).alloc (.cells #[.slice none 0 0, .slice none 0 0] 28)) := (((((below_alloc _ _).alloc (by simp) _).alloc (by simp; omega) _).alloc (by simp; omega) _).alloc (by simp; omega) _).alloc (by simp; omega) _
  have HB := Lib.hid hb
  have hsz : ((((((w.alloc (.cells #[.int .i64 a.sorts, .slice Aaa a.ops.length caa] 25)).alloc (.cells #[.int .i64 b.sorts, .slice Aba b.ops.length cba] 25)).alloc (.cells #[.int .i64 c.sorts, .slice Aca c.ops.length cca] 25)).alloc (.cells #[.slice Ama m.sorts.length cma, .slice Amb m.ops.length cmb] 28)).alloc (.cells #[.slice Ana n.sorts.length cna, .slice Anb n.ops.length cnb] 28)).alloc (.cells #[.slice none 0 0, .slice none 0 0] 28)).heap.size = w.heap.size + 6 := by simp
  have Ha := Lib.hid (h1.keep hb)
  have a0 := cell_keep (below_alloc (((((w.alloc (.cells #[.int .i64 a.sorts, .slice Aaa a.ops.length caa] 25)).alloc (.cells #[.int .i64 b.sorts, .slice Aba b.ops.length cba] 25)).alloc (.cells #[.int .i64 c.sorts, .slice Aca c.ops.length cca] 25)).alloc (.cells #[.slice Ama m.sorts.length cma, .slice Amb m.ops.length cmb] 28)).alloc (.cells #[.slice Ana n.sorts.length cna, .slice Anb n.ops.length cnb] 28)) (.cells #[.slice none 0 0, .slice none 0 0] 28)) (cell_keep (below_alloc ((((w.alloc (.cells #[.int .i64 a.sorts, .slice Aaa a.ops.length caa] 25)).alloc (.cells #[.int .i64 b.sorts, .slice Aba b.ops.length cba] 25)).alloc (.cells #[.int .i64 c.sorts, .slice Aca c.ops.length cca] 25)).alloc (.cells #[.slice Ama m.sorts.length cma, .slice Amb m.ops.length cmb] 28)) (.cells #[.slice Ana n.sorts.length cna, .slice Anb n.ops.length cnb] 28)) (cell_keep (below_alloc (((w.alloc (.cells #[.int .i64 a.sorts, .slice Aaa a.ops.length caa] 25)).alloc (.cells #[.int .i64 b.sorts, .slice Aba b.ops.length cba] 25)).alloc (.cells #[.int .i64 c.sorts, .slice Aca c.ops.length cca] 25)) (.cells #[.slice Ama m.sorts.length cma, .slice Amb m.ops.length cmb] 28)) (cell_keep (below_alloc ((w.alloc (.cells #[.int .i64 a.sorts, .slice Aaa a.ops.length caa] 25)).alloc (.cells #[.int .i64 b.sorts, .slice Aba b.ops.length cba] 25)) (.cells #[.int .i64 c.sorts, .slice Aca c.ops.length cca] 25)) (cell_keep (below_alloc (w.alloc (.cells #[.int .i64 a.sorts, .slice Aaa a.ops.length caa] 25)) (.cells #[.int .i64 b.sorts, .slice Aba b.ops.length cba] 25)) (bx_at (w) #[.int .i64 a.sorts, .slice Aaa a.ops.length caa] 25 (k := 0) rfl)))))
  have a1 := cell_keep (below_alloc (((((w.alloc (.cells #[.int .i64 a.sorts, .slice Aaa a.ops.length caa] 25)).alloc (.cells #[.int .i64 b.sorts, .slice Aba b.ops.length cba] 25)).alloc (.cells #[.int .i64 c.sorts, .slice Aca c.ops.length cca] 25)).alloc (.cells #[.slice Ama m.sorts.length cma, .slice Amb m.ops.length cmb] 28)).alloc (.cells #[.slice Ana n.sorts.length cna, .slice Anb n.ops.length cnb] 28)) (.cells #[.slice none 0 0, .slice none 0 0] 28)) (cell_keep (below_alloc ((((w.alloc (.cells #[.int .i64 a.sorts, .slice Aaa a.ops.length caa] 25)).alloc (.cells #[.int .i64 b.sorts, .slice Aba b.ops.length cba] 25)).alloc (.cells #[.int .i64 c.sorts, .slice Aca c.ops.length cca] 25)).alloc (.cells #[.slice Ama m.sorts.length cma, .slice Amb m.ops.length cmb] 28)) (.cells #[.slice Ana n.sorts.length cna, .slice Anb n.ops.length cnb] 28)) (cell_keep (below_alloc (((w.alloc (.cells #[.int .i64 a.sorts, .slice Aaa a.ops.length caa] 25)).alloc (.cells #[.int .i64 b.sorts, .slice Aba b.ops.length cba] 25)).alloc (.cells #[.int .i64 c.sorts, .slice Aca c.ops.length cca] 25)) (.cells #[.slice Ama m.sorts.length cma, .slice Amb m.ops.length cmb] 28)) (cell_keep (below_alloc ((w.alloc (.cells #[.int .i64 a.sorts, .slice Aaa a.ops.length caa] 25)).alloc (.cells #[.int .i64 b.sorts, .slice Aba b.ops.length cba] 25)) (.cells #[.int .i64 c.sorts, .slice Aca c.ops.length cca] 25)) (cell_keep (below_alloc (w.alloc (.cells #[.int .i64 a.sorts, .slice Aaa a.ops.length caa] 25)) (.cells #[.int .i64 b.sorts, .slice Aba b.ops.length cba] 25)) (bx_at (w) #[.int .i64 a.sorts, .slice Aaa a.ops.length caa] 25 (k := 1) rfl)))))
  have Hb := Lib.hid (h2.keep hb)
  have b0 := cell_keep (below_alloc (((((w.alloc (.cells #[.int .i64 a.sorts, .slice Aaa a.ops.length caa] 25)).alloc (.cells #[.int .i64 b.sorts, .slice Aba b.ops.length cba] 25)).alloc (.cells #[.int .i64 c.sorts, .slice Aca c.ops.length cca] 25)).alloc (.cells #[.slice Ama m.sorts.length cma, .slice Amb m.ops.length cmb] 28)).alloc (.cells #[.slice Ana n.sorts.length cna, .slice Anb n.ops.length cnb] 28)) (.cells #[.slice none 0 0, .slice none 0 0] 28)) (cell_keep (below_alloc ((((w.alloc (.cells #[.int .i64 a.sorts, .slice Aaa a.ops.length caa] 25)).alloc (.cells #[.int .i64 b.sorts, .slice Aba b.ops.length cba] 25)).alloc (.cells #[.int .i64 c.sorts, .slice Aca c.ops.length cca] 25)).alloc (.cells #[.slice Ama m.sorts.length cma, .slice Amb m.ops.length cmb] 28)) (.cells #[.slice Ana n.sorts.length cna, .slice Anb n.ops.length cnb] 28)) (cell_keep (below_alloc (((w.alloc (.cells #[.int .i64 a.sorts, .slice Aaa a.ops.length caa] 25)).alloc (.cells #[.int .i64 b.sorts, .slice Aba b.ops.length cba] 25)).alloc (.cells #[.int .i64 c.sorts, .slice Aca c.ops.length cca] 25)) (.cells #[.slice Ama m.sorts.length cma, .slice Amb m.ops.length cmb] 28)) (cell_keep (below_alloc ((w.alloc (.cells #[.int .i64 a.sorts, .slice Aaa a.ops.length caa] 25)).alloc (.cells #[.int .i64 b.sorts, .slice Aba b.ops.length cba] 25)) (.cells #[.int .i64 c.sorts, .slice Aca c.ops.length cca] 25)) (bx_at (w.alloc (.cells #[.int .i64 a.sorts, .slice Aaa a.ops.length caa] 25)) #[.int .i64 b.sorts, .slice Aba b.ops.length cba] 25 (k := 0) rfl))))
  have b1 := cell_keep (below_alloc (((((w.alloc (.cells #[.int .i64 a.sorts, .slice Aaa a.ops.length caa] 25)).alloc (.cells #[.int .i64 b.sorts, .slice Aba b.ops.length cba] 25)).alloc (.cells #[.int .i64 c.sorts, .slice Aca c.ops.length cca] 25)).alloc (.cells #[.slice Ama m.sorts.length cma, .slice Amb m.ops.length cmb] 28)).alloc (.cells #[.slice Ana n.sorts.length cna, .slice Anb n.ops.length cnb] 28)) (.cells #[.slice none 0 0, .slice none 0 0] 28)) (cell_keep (below_alloc ((((w.alloc (.cells #[.int .i64 a.sorts, .slice Aaa a.ops.length caa] 25)).alloc (.cells #[.int .i64 b.sorts, .slice Aba b.ops.length cba] 25)).alloc (.cells #[.int .i64 c.sorts, .slice Aca c.ops.length cca] 25)).alloc (.cells #[.slice Ama m.sorts.length cma, .slice Amb m.ops.length cmb] 28)) (.cells #[.slice Ana n.sorts.length cna, .slice Anb n.ops.length cnb] 28)) (cell_keep (below_alloc (((w.alloc (.cells #[.int .i64 a.sorts, .slice Aaa a.ops.length caa] 25)).alloc (.cells #[.int .i64 b.sorts, .slice Aba b.ops.length cba] 25)).alloc (.cells #[.int .i64 c.sorts, .slice Aca c.ops.length cca] 25)) (.cells #[.slice Ama m.sorts.length cma, .slice Amb m.ops.length cmb] 28)) (cell_keep (below_alloc ((w.alloc (.cells #[.int .i64 a.sorts, .slice Aaa a.ops.length caa] 25)).alloc (.cells #[.int .i64 b.sorts, .slice Aba b.ops.length cba] 25)) (.cells #[.int .i64 c.sorts, .slice Aca c.ops.length cca] 25)) (bx_at (w.alloc (.cells #[.int .i64 a.sorts, .slice Aaa a.ops.length caa] 25)) #[.int .i64 b.sorts, .slice Aba b.ops.length cba] 25 (k := 1) rfl))))
  have Hc := Lib.hid (h3.keep hb)
  have c0 := cell_keep (below_alloc (((((w.alloc (.cells #[.int .i64 a.sorts, .slice Aaa a.ops.length caa] 25)).alloc (.cells #[.int .i64 b.sorts, .slice Aba b.ops.length cba] 25)).alloc (.cells #[.int .i64 c.sorts, .slice Aca c.ops.length cca] 25)).alloc (.cells #[.slice Ama m.sorts.length cma, .slice Amb m.ops.length cmb] 28)).alloc (.cells #[.slice Ana n.sorts.length cna, .slice Anb n.ops.length cnb] 28)) (.cells #[.slice none 0 0, .slice none 0 0] 28)) (cell_keep (below_alloc ((((w.alloc (.cells #[.int .i64 a.sorts, .slice Aaa a.ops.length caa] 25)).alloc (.cells #[.int .i64 b.sorts, .slice Aba b.ops.length cba] 25)).alloc (.cells #[.int .i64 c.sorts, .slice Aca c.ops.length cca] 25)).alloc (.cells #[.slice Ama m.sorts.length cma, .slice Amb m.ops.length cmb] 28)) (.cells #[.slice Ana n.sorts.length cna, .slice Anb n.ops.length cnb] 28)) (cell_keep (below_alloc (((w.alloc (.cells #[.int .i64 a.sorts, .slice Aaa a.ops.length caa] 25)).alloc (.cells #[.int .i64 b.sorts, .slice Aba b.ops.length cba] 25)).alloc (.cells #[.int .i64 c.sorts, .slice Aca c.ops.length cca] 25)) (.cells #[.slice Ama m.sorts.length cma, .slice Amb m.ops.length cmb] 28)) (bx_at ((w.alloc (.cells #[.int .i64 a.sorts, .slice Aaa a.ops.length caa] 25)).alloc (.cells #[.int .i64 b.sorts, .slice Aba b.ops.length cba] 25)) #[.int .i64 c.sorts, .slice Aca c.ops.length cca] 25 (k := 0) rfl)))
  have c1 := cell_keep (below_alloc (((((w.alloc (.cells #[.int .i64 a.sorts, .slice Aaa a.ops.length caa] 25)).alloc (.cells #[.int .i64 b.sorts, .slice Aba b.ops.length cba] 25)).alloc (.cells #[.int .i64 c.sorts, .slice Aca c.ops.length cca] 25)).alloc (.cells #[.slice Ama m.sorts.length cma, .slice Amb m.ops.length cmb] 28)).alloc (.cells #[.slice Ana n.sorts.length cna, .slice Anb n.ops.length cnb] 28)) (.cells #[.slice none 0 0, .slice none 0 0] 28)) (cell_keep (below_alloc ((((w.alloc (.cells #[.int .i64 a.sorts, .slice Aaa a.ops.length caa] 25)).alloc (.cells #[.int .i64 b.sorts, .slice Aba b.ops.length cba] 25)).alloc (.cells #[.int .i64 c.sorts, .slice Aca c.ops.length cca] 25)).alloc (.cells #[.slice Ama m.sorts.length cma, .slice Amb m.ops.length cmb] 28)) (.cells #[.slice Ana n.sorts.length cna, .slice Anb n.ops.length cnb] 28)) (cell_keep (below_alloc (((w.alloc (.cells #[.int .i64 a.sorts, .slice Aaa a.ops.length caa] 25)).alloc (.cells #[.int .i64 b.sorts, .slice Aba b.ops.length cba] 25)).alloc (.cells #[.int .i64 c.sorts, .slice Aca c.ops.length cca] 25)) (.cells #[.slice Ama m.sorts.length cma, .slice Amb m.ops.length cmb] 28)) (bx_at ((w.alloc (.cells #[.int .i64 a.sorts, .slice Aaa a.ops.length caa] 25)).alloc (.cells #[.int .i64 b.sorts, .slice Aba b.ops.length cba] 25)) #[.int .i64 c.sorts, .slice Aca c.ops.length cca] 25 (k := 1) rfl)))
  have Hm := Lib.hid (h4.keep hb)
  have m0 := cell_keep (below_alloc (((((w.alloc (.cells #[.int .i64 a.sorts, .slice Aaa a.ops.length caa] 25)).alloc (.cells #[.int .i64 b.sorts, .slice Aba b.ops.length cba] 25)).alloc (.cells #[.int .i64 c.sorts, .slice Aca c.ops.length cca] 25)).alloc (.cells #[.slice Ama m.sorts.length cma, .slice Amb m.ops.length cmb] 28)).alloc (.cells #[.slice Ana n.sorts.length cna, .slice Anb n.ops.length cnb] 28)) (.cells #[.slice none 0 0, .slice none 0 0] 28)) (cell_keep (below_alloc ((((w.alloc (.cells #[.int .i64 a.sorts, .slice Aaa a.ops.length caa] 25)).alloc (.cells #[.int .i64 b.sorts, .slice Aba b.ops.length cba] 25)).alloc (.cells #[.int .i64 c.sorts, .slice Aca c.ops.length cca] 25)).alloc (.cells #[.slice Ama m.sorts.length cma, .slice Amb m.ops.length cmb] 28)) (.cells #[.slice Ana n.sorts.length cna, .slice Anb n.ops.length cnb] 28)) (bx_at (((w.alloc (.cells #[.int .i64 a.sorts, .slice Aaa a.ops.length caa] 25)).alloc (.cells #[.int .i64 b.sorts, .slice Aba b.ops.length cba] 25)).alloc (.cells #[.int .i64 c.sorts, .slice Aca c.ops.length cca] 25)) #[.slice Ama m.sorts.length cma, .slice Amb m.ops.length cmb] 28 (k := 0) rfl))
  have m1 := cell_keep (below_alloc (((((w.alloc (.cells #[.int .i64 a.sorts, .slice Aaa a.ops.length caa] 25)).alloc (.cells #[.int .i64 b.sorts, .slice Aba b.ops.length cba] 25)).alloc (.cells #[.int .i64 c.sorts, .slice Aca c.ops.length cca] 25)).alloc (.cells #[.slice Ama m.sorts.length cma, .slice Amb m.ops.length cmb] 28)).alloc (.cells #[.slice Ana n.sorts.length cna, .slice Anb n.ops.length cnb] 28)) (.cells #[.slice none 0 0, .slice none 0 0] 28)) (cell_keep (below_alloc ((((w.alloc (.cells #[.int .i64 a.sorts, .slice Aaa a.ops.length caa] 25)).alloc (.cells #[.int .i64 b.sorts, .slice Aba b.ops.length cba] 25)).alloc (.cells #[.int .i64 c.sorts, .slice Aca c.ops.length cca] 25)).alloc (.cells #[.slice Ama m.sorts.length cma, .slice Amb m.ops.length cmb] 28)) (.cells #[.slice Ana n.sorts.length cna, .slice Anb n.ops.length cnb] 28)) (bx_at (((w.alloc (.cells #[.int .i64 a.sorts, .slice Aaa a.ops.length caa] 25)).alloc (.cells #[.int .i64 b.sorts, .slice Aba b.ops.length cba] 25)).alloc (.cells #[.int .i64 c.sorts, .slice Aca c.ops.length cca] 25)) #[.slice Ama m.sorts.length cma, .slice Amb m.ops.length cmb] 28 (k := 1) rfl))
  have Hn := Lib.hid (h5.keep hb)
  have n0 := cell_keep (below_alloc (((((w.alloc (.cells #[.int .i64 a.sorts, .slice Aaa a.ops.length caa] 25)).alloc (.cells #[.int .i64 b.sorts, .slice Aba b.ops.length cba] 25)).alloc (.cells #[.int .i64 c.sorts, .slice Aca c.ops.length cca] 25)).alloc (.cells #[.slice Ama m.sorts.length cma, .slice Amb m.ops.length cmb] 28)).alloc (.cells #[.slice Ana n.sorts.length cna, .slice Anb n.ops.length cnb] 28)) (.cells #[.slice none 0 0, .slice none 0 0] 28)) (bx_at ((((w.alloc (.cells #[.int .i64 a.sorts, .slice Aaa a.ops.length caa] 25)).alloc (.cells #[.int .i64 b.sorts, .slice Aba b.ops.length cba] 25)).alloc (.cells #[.int .i64 c.sorts, .slice Aca c.ops.length cca] 25)).alloc (.cells #[.slice Ama m.sorts.length cma, .slice Amb m.ops.length cmb] 28)) #[.slice Ana n.sorts.length cna, .slice Anb n.ops.length cnb] 28 (k := 0) rfl)
  have n1 := cell_keep (below_alloc (((((w.alloc (.cells #[.int .i64 a.sorts, .slice Aaa a.ops.length caa] 25)).alloc (.cells #[.int .i64 b.sorts, .slice Aba b.ops.length cba] 25)).alloc (.cells #[.int .i64 c.sorts, .slice Aca c.ops.length cca] 25)).alloc (.cells #[.slice Ama m.sorts.length cma, .slice Amb m.ops.length cmb] 28)).alloc (.cells #[.slice Ana n.sorts.length cna, .slice Anb n.ops.length cnb] 28)) (.cells #[.slice none 0 0, .slice none 0 0] 28)) (bx_at ((((w.alloc (.cells #[.int .i64 a.sorts, .slice Aaa a.ops.length caa] 25)).alloc (.cells #[.int .i64 b.sorts, .slice Aba b.ops.length cba] 25)).alloc (.cells #[.int .i64 c.sorts, .slice Aca c.ops.length cca] 25)).alloc (.cells #[.slice Ama m.sorts.length cma, .slice Amb m.ops.length cmb] 28)) #[.slice Ana n.sorts.length cna, .slice Anb n.ops.length cnb] 28 (k := 1) rfl)
  have HZr := Lib.hid (show ((((((w.alloc (.cells #[.int .i64 a.sorts, .slice Aaa a.ops.length caa] 25)).alloc (.cells #[.int .i64 b.sorts, .slice Aba b.ops.length cba] 25)).alloc (.cells #[.int .i64 c.sorts, .slice Aca c.ops.length cca] 25)).alloc (.cells #[.slice Ama m.sorts.length cma, .slice Amb m.ops.length cmb] 28)).alloc (.cells #[.slice Ana n.sorts.length cna, .slice Anb n.ops.length cnb] 28)).alloc (.cells #[.slice none 0 0, .slice none 0 0] 28)).heap[w.heap.size + 1 + 1 + 1 + 1 + 1]? = some (.cells #[.slice none 0 0, .slice none 0 0] 28 (0, 0)) from (congrArg (fun i => ((((((w.alloc (.cells #[.int .i64 a.sorts, .slice Aaa a.ops.length caa] 25)).alloc (.cells #[.int .i64 b.sorts, .slice Aba b.ops.length cba] 25)).alloc (.cells #[.int .i64 c.sorts, .slice Aca c.ops.length cca] 25)).alloc (.cells #[.slice Ama m.sorts.length cma, .slice Amb m.ops.length cmb] 28)).alloc (.cells #[.slice Ana n.sorts.length cna, .slice Anb n.ops.length cnb] 28)).alloc (.cells #[.slice none 0 0, .slice none 0 0] 28)).heap[i]?) (by simp)).trans (heap_alloc_new (((((w.alloc (.cells #[.int .i64 a.sorts, .slice Aaa a.ops.length caa] 25)).alloc (.cells #[.int .i64 b.sorts, .slice Aba b.ops.length cba] 25)).alloc (.cells #[.int .i64 c.sorts, .slice Aca c.ops.length cca] 25)).alloc (.cells #[.slice Ama m.sorts.length cma, .slice Amb m.ops.length cmb] 28)).alloc (.cells #[.slice Ana n.sorts.length cna, .slice Anb n.ops.length cnb] 28)) _))
  simp only [World.size_alloc] at b0 b1 c0 c1 m0 m1 n0 n1
  generalize hW : (((((w.alloc (.cells #[.int .i64 a.sorts, .slice Aaa a.ops.length caa] 25)).alloc (.cells #[.int .i64 b.sorts, .slice Aba b.ops.length cba] 25)).alloc (.cells #[.int .i64 c.sorts, .slice Aca c.ops.length cca] 25)).alloc (.cells #[.slice Ama m.sorts.length cma, .slice Amb m.ops.length cmb] 28)).alloc (.cells #[.slice Ana n.sorts.length cna, .slice Anb n.ops.length cnb] 28)).alloc (.cells #[.slice none 0 0, .slice none 0 0] 28) = W at HB hsz Ha a0 a1 Hb b0 b1 Hc c0 c1 Hm m0 m1 Hn n0 n1 HZr
  clear hb h1 h2 h3 h4 h5
  have hl1 := Hm.out.of.1.len
  have hl2 := Hm.out.of.2.len
  have hl3 := Hn.out.of.1.len
  have hl4 := Hn.out.of.2.len
  cases hm : mapOkB a b m with
  | false =>
    have HM := Lib.hid hm
    have HE := Lib.hid (show thenM a b c m n = (noMap, false) by unfold thenM; rw [hm]; rfl)
    clear hm
    go_enter Try.func15, Try.ntmps15
    go_wp2_with fail
    clear hW
    refine (mapOk_any a b m _ _ _ _ Ha.out Hb.out Hm.out).mono ?_
    rw [HM.out]
    rintro e w1 ⟨rfl, hb⟩
    replace HB := Lib.hid (sz_keep HB.out hb)
    replace HZr := Lib.hid (blk_keep HZr.out hb)
    clear hb
    clear a0 a1 b0 b1 c0 c1 m0 m1 n0 n1
    have j0 := blk_cell HZr.out 0
    have j1 := blk_cell HZr.out 1
    have jf0 := blk_free HZr.out 0
    have jf1 := blk_free HZr.out 1
    simp at j0 j1
    go_wp2
    have d1 := blk_set (blk_set (HZr.out) 0 (.slice none 0 0)) 1 (.slice none 0 0)
    have hbz := ((HB.out.setCell (p := ⟨w.heap.size + 1 + 1 + 1 + 1 + 1, 0, none⟩) (by show w.heap.size ≤ w.heap.size + 1 + 1 + 1 + 1 + 1; omega) (.slice none 0 0)).setCell (p := ⟨w.heap.size + 1 + 1 + 1 + 1 + 1, 1, none⟩) (by show w.heap.size ≤ w.heap.size + 1 + 1 + 1 + 1 + 1; omega) (.slice none 0 0))
    generalize (w1.setCell ⟨w.heap.size + 1 + 1 + 1 + 1 + 1, 0, none⟩ (.slice none 0 0)).setCell ⟨w.heap.size + 1 + 1 + 1 + 1 + 1, 1, none⟩ (.slice none 0 0) = wz at d1 hbz  ⊢
    have k0 := blk_cell d1 0
    have k1 := blk_cell d1 1
    simp at k0 k1
    clear j0 j1 jf0 jf1
    refine bodyPost_ret (v := .tuple #[.agg #[.slice none 0 0, .slice none 0 0], .bool false]) (by simp [results, Try.results15, go_sem, k0, k1]) rfl ?_
    exact ⟨_, by rw [HE.out], by rw [HE.out]; exact nil_map _ _, hbz⟩
  | true =>
    have HM := Lib.hid hm
    clear hm
    cases hn : mapOkB b c n with
    | false =>
      have HN := Lib.hid hn
      have HE := Lib.hid (show thenM a b c m n = (noMap, false) by unfold thenM; rw [hn, Bool.and_false]; rfl)
      clear hn
      go_enter Try.func15, Try.ntmps15
      go_wp2_with fail
      clear hW
      refine (mapOk_any a b m _ _ _ _ Ha.out Hb.out Hm.out).mono ?_
      rw [HM.out]
      rintro e w1 ⟨rfl, hb⟩
      clear a0 a1 m0 m1
      replace HB := Lib.hid (sz_keep HB.out hb)
      replace b0 := cell_keep hb b0
      replace b1 := cell_keep hb b1
      replace c0 := cell_keep hb c0
      replace c1 := cell_keep hb c1
      replace n0 := cell_keep hb n0
      replace n1 := cell_keep hb n1
      replace Hb := Lib.hid (Hb.out.keep hb)
      replace Hc := Lib.hid (Hc.out.keep hb)
      replace Hn := Lib.hid (Hn.out.keep hb)
      replace HZr := Lib.hid (blk_keep HZr.out hb)
      clear hb
      go_wp2_with fail
      refine (mapOk_any b c n _ _ _ _ Hb.out Hc.out Hn.out).mono ?_
      rw [HN.out]
      rintro e w2 ⟨rfl, hb⟩
      replace HB := Lib.hid (sz_keep HB.out hb)
      replace HZr := Lib.hid (blk_keep HZr.out hb)
      clear hb
      clear b0 b1 c0 c1 n0 n1
      have j0 := blk_cell HZr.out 0
      have j1 := blk_cell HZr.out 1
      have jf0 := blk_free HZr.out 0
      have jf1 := blk_free HZr.out 1
      simp at j0 j1
      go_wp2
      have d1 := blk_set (blk_set (HZr.out) 0 (.slice none 0 0)) 1 (.slice none 0 0)
      have hbz := ((HB.out.setCell (p := ⟨w.heap.size + 1 + 1 + 1 + 1 + 1, 0, none⟩) (by show w.heap.size ≤ w.heap.size + 1 + 1 + 1 + 1 + 1; omega) (.slice none 0 0)).setCell (p := ⟨w.heap.size + 1 + 1 + 1 + 1 + 1, 1, none⟩) (by show w.heap.size ≤ w.heap.size + 1 + 1 + 1 + 1 + 1; omega) (.slice none 0 0))
      generalize (w2.setCell ⟨w.heap.size + 1 + 1 + 1 + 1 + 1, 0, none⟩ (.slice none 0 0)).setCell ⟨w.heap.size + 1 + 1 + 1 + 1 + 1, 1, none⟩ (.slice none 0 0) = wz at d1 hbz  ⊢
      have k0 := blk_cell d1 0
      have k1 := blk_cell d1 1
      simp at k0 k1
      clear j0 j1 jf0 jf1
      refine bodyPost_ret (v := .tuple #[.agg #[.slice none 0 0, .slice none 0 0], .bool false]) (by simp [results, Try.results15, go_sem, k0, k1]) rfl ?_
      exact ⟨_, by rw [HE.out], by rw [HE.out]; exact nil_map _ _, hbz⟩
    | true =>
      have HN := Lib.hid hn
      have HE := Lib.hid (show thenM a b c m n = (⟨ledM n.sorts m.sorts, ledM n.ops m.ops⟩, true) by unfold thenM; rw [HM.out, hn]; rfl)
      have HF := Lib.hid (mapOk_facts HM.out)
      have HG := Lib.hid (mapOk_facts hn)
      have hsm := valid_sorts HF.out.va
      have hsn := valid_sorts HG.out.va
      have hml := HF.out.sl
      have hmo := HF.out.ol
      have hb1 : m.sorts.length ≤ 3 := by omega
      have hb2 : m.ops.length ≤ 6 := by omega
      clear hn hsm hsn hml hmo
      go_enter Try.func15, Try.ntmps15
      go_wp2_with fail
      clear hW
      refine (mapOk_any a b m _ _ _ _ Ha.out Hb.out Hm.out).mono ?_
      rw [HM.out]
      rintro e w1 ⟨rfl, hb⟩
      clear a0 a1
      replace HB := Lib.hid (sz_keep HB.out hb)
      replace b0 := cell_keep hb b0
      replace b1 := cell_keep hb b1
      replace c0 := cell_keep hb c0
      replace c1 := cell_keep hb c1
      replace m0 := cell_keep hb m0
      replace m1 := cell_keep hb m1
      replace n0 := cell_keep hb n0
      replace n1 := cell_keep hb n1
      replace Hb := Lib.hid (Hb.out.keep hb)
      replace Hc := Lib.hid (Hc.out.keep hb)
      replace Hm := Lib.hid (Hm.out.keep hb)
      replace Hn := Lib.hid (Hn.out.keep hb)
      replace HZr := Lib.hid (blk_keep HZr.out hb)
      clear hb
      go_wp2_with fail
      refine (mapOk_any b c n _ _ _ _ Hb.out Hc.out Hn.out).mono ?_
      rw [HN.out]
      rintro e w2 ⟨rfl, hb⟩
      clear b0 b1 c0 c1
      replace HB := Lib.hid (sz_keep HB.out hb)
      replace m0 := cell_keep hb m0
      replace m1 := cell_keep hb m1
      replace n0 := cell_keep hb n0
      replace n1 := cell_keep hb n1
      replace Hm := Lib.hid (Hm.out.keep hb)
      replace Hn := Lib.hid (Hn.out.keep hb)
      replace HZr := Lib.hid (blk_keep HZr.out hb)
      clear hb
      go_wp2_with fail
      refine wp_region_held_drew (S := (fun w' => w'.cell? ⟨w.heap.size + 1 + 1 + 1, 0, none⟩ = some (.slice Ama m.sorts.length cma) ∧ w'.cell? ⟨w.heap.size + 1 + 1 + 1, 1, none⟩ = some (.slice Amb m.ops.length cmb) ∧ w'.cell? ⟨w.heap.size + 1 + 1 + 1 + 1, 0, none⟩ = some (.slice Ana n.sorts.length cna) ∧ w'.cell? ⟨w.heap.size + 1 + 1 + 1 + 1, 1, none⟩ = some (.slice Anb n.ops.length cnb))) (by kernel_rfl) ?_ (fun hHeld => ?_)
      · exact ⟨m0, m1, n0, n1⟩
      refine wpAnyH_take (i := 0) (oi := _) (v := ?_) rfl (by kernel_rfl) (by kernel_rfl) (by kernel_rfl) (fun _ _ _ h => h) (Or.inl ⟨by rfl, ?_⟩) (by assumption) ?_
      rotate_left
      · first | (intro w' hSw; (try dsimp only at hSw); go_simp; done) | (intro w' hSw; (try dsimp only at hSw); go_simp; with_reducible rfl)
      try simp only [Act.put, List.getElem_toArray, List.getElem_cons_zero, List.getElem_cons_succ, List.setIfInBounds_toArray, List.set_cons_zero, List.set_cons_succ]
      refine wpAnyH_take (i := 1) (oi := _) (v := ?_) rfl (by kernel_rfl) (by kernel_rfl) (by kernel_rfl) (fun _ _ _ h => h) (Or.inl ⟨by rfl, ?_⟩) (by assumption) ?_
      rotate_left
      · first | (intro w' hSw; (try dsimp only at hSw); go_simp; done) | (intro w' hSw; (try dsimp only at hSw); go_simp; with_reducible rfl)
      try simp only [Act.put, List.getElem_toArray, List.getElem_cons_zero, List.getElem_cons_succ, List.setIfInBounds_toArray, List.set_cons_zero, List.set_cons_succ]
      refine wpAnyH_take (i := 2) (oi := _) (v := ?_) rfl (by kernel_rfl) (by kernel_rfl) (by kernel_rfl) (fun _ _ _ h => h) (Or.inl ⟨by rfl, ?_⟩) (by assumption) ?_
      rotate_left
      · first | (intro w' hSw; (try dsimp only at hSw); go_simp; done) | (intro w' hSw; (try dsimp only at hSw); go_simp; with_reducible rfl)
      try simp only [Act.put, List.getElem_toArray, List.getElem_cons_zero, List.getElem_cons_succ, List.setIfInBounds_toArray, List.set_cons_zero, List.set_cons_succ]
      refine wpAnyH_take (i := 3) (oi := _) (v := ?_) rfl (by kernel_rfl) (by kernel_rfl) (by kernel_rfl) (fun _ _ _ h => h) (Or.inl ⟨by rfl, ?_⟩) (by assumption) ?_
      rotate_left
      · first | (intro w' hSw; (try dsimp only at hSw); go_simp; done) | (intro w' hSw; (try dsimp only at hSw); go_simp; with_reducible rfl)
      try simp only [Act.put, List.getElem_toArray, List.getElem_cons_zero, List.getElem_cons_succ, List.setIfInBounds_toArray, List.set_cons_zero, List.set_cons_succ]
      refine wpAnyH_take (i := 5) (oi := _) (v := ?_) rfl (by kernel_rfl) (by kernel_rfl) (by kernel_rfl) (fun _ _ _ h => h) (Or.inl ⟨by rfl, ?_⟩) (by assumption) ?_
      rotate_left
      · first | (intro w' hSw; (try dsimp only at hSw); go_simp; done) | (intro w' hSw; (try dsimp only at hSw); go_simp; with_reducible rfl)
      try simp only [Act.put, List.getElem_toArray, List.getElem_cons_zero, List.getElem_cons_succ, List.setIfInBounds_toArray, List.set_cons_zero, List.set_cons_succ]
      refine wpAnyH_take (i := 6) (oi := _) (v := ?_) rfl (by kernel_rfl) (by kernel_rfl) (by kernel_rfl) (fun _ _ _ h => h) (Or.inl ⟨by rfl, ?_⟩) (by assumption) ?_
      rotate_left
      · first | (intro w' hSw; (try dsimp only at hSw); go_simp; done) | (intro w' hSw; (try dsimp only at hSw); go_simp; with_reducible rfl)
      try simp only [Act.put, List.getElem_toArray, List.getElem_cons_zero, List.getElem_cons_succ, List.setIfInBounds_toArray, List.set_cons_zero, List.set_cons_succ]
      refine wpAnyH_take (i := 7) (oi := _) (v := ?_) rfl (by kernel_rfl) (by kernel_rfl) (by kernel_rfl) (fun _ _ _ h => h) (Or.inl ⟨by rfl, ?_⟩) (by assumption) ?_
      rotate_left
      · first | (intro w' hSw; (try dsimp only at hSw); go_simp; done) | (intro w' hSw; (try dsimp only at hSw); go_simp; with_reducible rfl)
      try simp only [Act.put, List.getElem_toArray, List.getElem_cons_zero, List.getElem_cons_succ, List.setIfInBounds_toArray, List.set_cons_zero, List.set_cons_succ]
      refine wpAnyH_take (i := 8) (oi := _) (v := ?_) rfl (by kernel_rfl) (by kernel_rfl) (by kernel_rfl) (fun _ _ _ h => h) (Or.inl ⟨by rfl, ?_⟩) (by assumption) ?_
      rotate_left
      · first | (intro w' hSw; (try dsimp only at hSw); go_simp; done) | (intro w' hSw; (try dsimp only at hSw); go_simp; with_reducible rfl)
      try simp only [Act.put, List.getElem_toArray, List.getElem_cons_zero, List.getElem_cons_succ, List.setIfInBounds_toArray, List.set_cons_zero, List.set_cons_succ]
      refine wpAnyH_ready (rs := [4]) (by kernel_rfl) (by simp) ?_
      refine AllReadyH.cons (o := _) rfl (fun K hK => ?_) AllReadyH.nil
      go_simp
      refine (ledRow_any _ _ m.sorts n.sorts w2.drew (Hm.out.of.1.keep (map_drew (Below.refl _ _))) (Hn.out.of.1.keep (map_drew (Below.refl _ _))) (HG.out.sorts_in HF.out.sb) (by omega)).mono ?_
      rintro e w3 ⟨u3, rfl, ho3, hb3⟩
      have hx3 := map_undrew hb3
      obtain ⟨A3, c3, rfl, -⟩ := ho3.reads.form
      have O3_w3 := Lib.hid (show OInts w3 w2.heap.size _ _ from ho3)
      have HX3 := Lib.hid (hx3)
      have p0 := cell_keep hx3 m0
      have p1 := cell_keep hx3 m1
      have p2 := cell_keep hx3 n0
      have p3 := cell_keep hx3 n1
      have HQ3 := Lib.hid hx3
      clear ho3 hb3
      go_wp2_with fail
      refine hK.out _ _ ?_ (fun hHeld => ?_)
      · exact ⟨p0, p1, p2, p3⟩
      clear hK K
      try simp only [Act.put, List.getElem_toArray, List.getElem_cons_zero, List.getElem_cons_succ, List.setIfInBounds_toArray, List.set_cons_zero, List.set_cons_succ]
      refine wpAnyH_ready (rs := [9]) (by kernel_rfl) (by simp) ?_
      refine AllReadyH.cons (o := _) rfl (fun K hK => ?_) AllReadyH.nil
      go_simp
      refine (ledRow_any _ _ m.ops n.ops w3 (Hm.out.of.2.keep HX3.out) (Hn.out.of.2.keep HX3.out) (fun x hx _ => by have := HF.out.ob x hx; rw [HG.out.ol]; exact this) (by omega)).mono ?_
      rintro e w4 ⟨u4, rfl, ho4, hb4⟩
      have hx4 := hb4
      obtain ⟨A4, c4, rfl, -⟩ := ho4.reads.form
      have AP3_4 := Lib.hid (apart_later O3_w3.out ho4)
      have O3_w4 := Lib.hid (O3_w3.out.keep hx4)
      have O4_w4 := Lib.hid (show OInts w4 w3.heap.size _ _ from ho4)
      have HX4 := Lib.hid (sz_keep HX3.out hx4)
      have t0 := cell_keep hx4 p0
      have t1 := cell_keep hx4 p1
      have t2 := cell_keep hx4 p2
      have t3 := cell_keep hx4 p3
      have HQ4 := Lib.hid hx4
      have HZ4 := Lib.hid (blk_keep HZr.out HX4.out)
      have HSZ := Lib.hid (And.intro HB.out.size (And.intro HX3.out.size HQ4.out.size))
      have HBN := Lib.hid (sz_keep HB.out HX4.out)
      have j0 := blk_cell HZ4.out 0
      have j1 := blk_cell HZ4.out 1
      have jf0 := blk_free HZ4.out 0
      have jf1 := blk_free HZ4.out 1
      simp at j0 j1
      clear ho4 hb4 hx4
      go_wp2_with fail
      refine hK.out _ _ ?_ (fun hHeld => ?_)
      · exact ⟨t0, t1, t2, t3⟩
      clear hK K
      try simp only [Act.put, List.getElem_toArray, List.getElem_cons_zero, List.getElem_cons_succ, List.setIfInBounds_toArray, List.set_cons_zero, List.set_cons_succ]
      refine wpAnyH_take (i := 10) (oi := _) (v := ?_) rfl (by kernel_rfl) (by kernel_rfl) (by kernel_rfl) (fun _ _ _ h => h) (Or.inl ⟨by rfl, ?_⟩) (by assumption) ?_
      rotate_left
      · first | (intro w' hSw; (try dsimp only at hSw); go_simp; done) | (intro w' hSw; (try dsimp only at hSw); go_simp; with_reducible rfl)
      try simp only [Act.put, List.getElem_toArray, List.getElem_cons_zero, List.getElem_cons_succ, List.setIfInBounds_toArray, List.set_cons_zero, List.set_cons_succ]
      refine wpAnyH_ready (rs := [11]) (by kernel_rfl) (by simp) ?_
      refine AllReadyH.cons (o := _) rfl (fun K hK => ?_) AllReadyH.nil
      go_simp
      skip
      go_wp2_with fail
      refine hK.out _ _ ?_ (fun hHeld => ?_)
      · exact ⟨(set_other (by omega) _ _ _).trans ((set_other (by omega) _ _ _).trans t0), (set_other (by omega) _ _ _).trans ((set_other (by omega) _ _ _).trans t1), (set_other (by omega) _ _ _).trans ((set_other (by omega) _ _ _).trans t2), (set_other (by omega) _ _ _).trans ((set_other (by omega) _ _ _).trans t3)⟩
      clear hK K
      try simp only [Act.put, List.getElem_toArray, List.getElem_cons_zero, List.getElem_cons_succ, List.setIfInBounds_toArray, List.set_cons_zero, List.set_cons_succ]
      refine wpAnyH_take (i := 12) (oi := _) (v := ?_) rfl (by kernel_rfl) (by kernel_rfl) (by kernel_rfl) (fun _ _ _ h => h) (Or.inl ⟨by rfl, ?_⟩) (by assumption) ?_
      rotate_left
      · first | (intro w' hSw; (try dsimp only at hSw); go_simp; done) | (intro w' hSw; (try dsimp only at hSw); go_simp; with_reducible rfl)
      try simp only [Act.put, List.getElem_toArray, List.getElem_cons_zero, List.getElem_cons_succ, List.setIfInBounds_toArray, List.set_cons_zero, List.set_cons_succ]
      refine wpAnyH_done (by kernel_rfl) ?_ _
      clear m0 m1 n0 n1 p0 p1 p2 p3 t0 t1 t2 t3
      have hZ1 : w.heap.size + 1 + 1 + 1 + 1 + 1 < w2.heap.size := (Array.getElem?_eq_some_iff.1 HZr.out).1
      have hZ2 := HSZ.out
      replace HB := HBN
      go_wp2
      have d1 := blk_set (blk_set (HZ4.out) 0 (.slice A3 (ledM n.sorts m.sorts).length c3)) 1 (.slice A4 (ledM n.ops m.ops).length c4)
      have n0 := ((O3_w4.out.setLow (b := w.heap.size + 1 + 1 + 1 + 1 + 1) (by omega) 0 (.slice A3 (ledM n.sorts m.sorts).length c3)).setLow (b := w.heap.size + 1 + 1 + 1 + 1 + 1) (by omega) 1 (.slice A4 (ledM n.ops m.ops).length c4))
      have n1 := ((O4_w4.out.setLow (b := w.heap.size + 1 + 1 + 1 + 1 + 1) (by omega) 0 (.slice A3 (ledM n.sorts m.sorts).length c3)).setLow (b := w.heap.size + 1 + 1 + 1 + 1 + 1) (by omega) 1 (.slice A4 (ledM n.ops m.ops).length c4))
      have hbz := ((HB.out.setCell (p := ⟨w.heap.size + 1 + 1 + 1 + 1 + 1, 0, none⟩) (by show w.heap.size ≤ w.heap.size + 1 + 1 + 1 + 1 + 1; omega) (.slice A3 (ledM n.sorts m.sorts).length c3)).setCell (p := ⟨w.heap.size + 1 + 1 + 1 + 1 + 1, 1, none⟩) (by show w.heap.size ≤ w.heap.size + 1 + 1 + 1 + 1 + 1; omega) (.slice A4 (ledM n.ops m.ops).length c4))
      generalize (w4.setCell ⟨w.heap.size + 1 + 1 + 1 + 1 + 1, 0, none⟩ (.slice A3 (ledM n.sorts m.sorts).length c3)).setCell ⟨w.heap.size + 1 + 1 + 1 + 1 + 1, 1, none⟩ (.slice A4 (ledM n.ops m.ops).length c4) = wz at d1 hbz n0 n1 ⊢
      have k0 := blk_cell d1 0
      have k1 := blk_cell d1 1
      simp at k0 k1
      clear j0 j1 jf0 jf1
      refine bodyPost_ret (v := .tuple #[.agg #[.slice A3 (ledM n.sorts m.sorts).length c3, .slice A4 (ledM n.ops m.ops).length c4], .bool true]) (by simp [results, Try.results15, go_sem, k0, k1]) rfl ?_
      exact ⟨_, by rw [HE.out], by rw [HE.out]; exact ⟨_, _, rfl, n0.base (by omega), n1.base (by omega), AP3_4.out⟩, hbz⟩
theorem ledE_in {a b : MSig} {m : MMap} (f : MapFacts a b m) {e : MEq} (h : eqOkB a e = true) : InTo m.sorts e.vars ∧ InTo m.ops e.left ∧ InTo m.ops e.right ∧ e.vars.length ≤ 4 ∧ e.left.length ≤ 30 ∧ e.right.length ≤ 30 ∧ (∀ x ∈ e.vars, x < 100) := by
  unfold eqOkB at h
  simp only [Bool.and_eq_true, decide_eq_true_eq] at h
  have p := term_in f h.1
  have q := term_in f (show 0 ≤ sortM a e.vars e.right by rw [h.2]; exact h.1)
  exact ⟨p.2.2.1, p.1, q.1, p.2.2.2.1, p.2.1, q.2.1, p.2.2.2.2⟩
structure EqIn (m : MMap) (e : MEq) : Prop where
  vi : InTo m.sorts e.vars
  li : InTo m.ops e.left
  ri : InTo m.ops e.right
  vl : e.vars.length ≤ 4
  ll : e.left.length ≤ 30
  rl : e.right.length ≤ 30
  vs : ∀ x ∈ e.vars, x < 100
theorem eqIn_of {a b : MSig} {m : MMap} (f : MapFacts a b m) {e : MEq} (h : eqOkB a e = true) : EqIn m e := by
  obtain ⟨p1, p2, p3, p4, p5, p6, p7⟩ := ledE_in f h
  exact ⟨p1, p2, p3, p4, p5, p6, p7⟩

set_option maxHeartbeats 3200000 in
set_option maxRecDepth 100000 in
theorem mapTerm_any (a b : MSig) (m : MMap) (vars t : List Int) (w : World) (va vb vm vv vt : Value) (hsm : Small t) (h1 : RSig w va a) (h2 : RSig w vb b) (h3 : RMap w vm m) (h4 : RInts w vv vars) (h5 : RInts w vt t) :
    Calls Try.prog 20 #[va, vb, vm, vv, vt] w fun x w' => ∃ u v wm, x = .returned (.tuple #[u, v, .bool (mapTermM a b m vars t).2.2]) ∧ OInts wm w.heap.size u (mapTermM a b m vars t).1 ∧ w.heap.size ≤ wm.heap.size ∧ Below wm.heap.size wm w' ∧ OInts w' wm.heap.size v (mapTermM a b m vars t).2.1 ∧ Below w.heap.size w w' := by
  obtain ⟨Aaa, caa, rfl⟩ := h1.form
  obtain ⟨Aba, cba, rfl⟩ := h2.form
  obtain ⟨Ama, cma, Amb, cmb, rfl⟩ := h3.form
  have hb : Below w.heap.size w (((w.alloc (.cells #[.int .i64 a.sorts, .slice Aaa a.ops.length caa] 25)).alloc (.cells #[.int .i64 b.sorts, .slice Aba b.ops.length cba] 25)).alloc (.cells #[.slice Ama m.sorts.length cma, .slice Amb m.ops.length cmb] 28)) := ((below_alloc _ _).alloc (by simp) _).alloc (by simp; omega) _
  have HB := Lib.hid hb
  have hsz : (((w.alloc (.cells #[.int .i64 a.sorts, .slice Aaa a.ops.length caa] 25)).alloc (.cells #[.int .i64 b.sorts, .slice Aba b.ops.length cba] 25)).alloc (.cells #[.slice Ama m.sorts.length cma, .slice Amb m.ops.length cmb] 28)).heap.size = w.heap.size + 3 := by simp
  have Ha := Lib.hid (h1.keep hb)
  have a0 := cell_keep (below_alloc ((w.alloc (.cells #[.int .i64 a.sorts, .slice Aaa a.ops.length caa] 25)).alloc (.cells #[.int .i64 b.sorts, .slice Aba b.ops.length cba] 25)) (.cells #[.slice Ama m.sorts.length cma, .slice Amb m.ops.length cmb] 28)) (cell_keep (below_alloc (w.alloc (.cells #[.int .i64 a.sorts, .slice Aaa a.ops.length caa] 25)) (.cells #[.int .i64 b.sorts, .slice Aba b.ops.length cba] 25)) (bx_at (w) #[.int .i64 a.sorts, .slice Aaa a.ops.length caa] 25 (k := 0) rfl))
  have a1 := cell_keep (below_alloc ((w.alloc (.cells #[.int .i64 a.sorts, .slice Aaa a.ops.length caa] 25)).alloc (.cells #[.int .i64 b.sorts, .slice Aba b.ops.length cba] 25)) (.cells #[.slice Ama m.sorts.length cma, .slice Amb m.ops.length cmb] 28)) (cell_keep (below_alloc (w.alloc (.cells #[.int .i64 a.sorts, .slice Aaa a.ops.length caa] 25)) (.cells #[.int .i64 b.sorts, .slice Aba b.ops.length cba] 25)) (bx_at (w) #[.int .i64 a.sorts, .slice Aaa a.ops.length caa] 25 (k := 1) rfl))
  have Hb := Lib.hid (h2.keep hb)
  have b0 := cell_keep (below_alloc ((w.alloc (.cells #[.int .i64 a.sorts, .slice Aaa a.ops.length caa] 25)).alloc (.cells #[.int .i64 b.sorts, .slice Aba b.ops.length cba] 25)) (.cells #[.slice Ama m.sorts.length cma, .slice Amb m.ops.length cmb] 28)) (bx_at (w.alloc (.cells #[.int .i64 a.sorts, .slice Aaa a.ops.length caa] 25)) #[.int .i64 b.sorts, .slice Aba b.ops.length cba] 25 (k := 0) rfl)
  have b1 := cell_keep (below_alloc ((w.alloc (.cells #[.int .i64 a.sorts, .slice Aaa a.ops.length caa] 25)).alloc (.cells #[.int .i64 b.sorts, .slice Aba b.ops.length cba] 25)) (.cells #[.slice Ama m.sorts.length cma, .slice Amb m.ops.length cmb] 28)) (bx_at (w.alloc (.cells #[.int .i64 a.sorts, .slice Aaa a.ops.length caa] 25)) #[.int .i64 b.sorts, .slice Aba b.ops.length cba] 25 (k := 1) rfl)
  have Hm := Lib.hid (h3.keep hb)
  have m0 := bx_at ((w.alloc (.cells #[.int .i64 a.sorts, .slice Aaa a.ops.length caa] 25)).alloc (.cells #[.int .i64 b.sorts, .slice Aba b.ops.length cba] 25)) #[.slice Ama m.sorts.length cma, .slice Amb m.ops.length cmb] 28 (k := 0) rfl
  have m1 := bx_at ((w.alloc (.cells #[.int .i64 a.sorts, .slice Aaa a.ops.length caa] 25)).alloc (.cells #[.int .i64 b.sorts, .slice Aba b.ops.length cba] 25)) #[.slice Ama m.sorts.length cma, .slice Amb m.ops.length cmb] 28 (k := 1) rfl
  simp only [World.size_alloc] at b0 b1 m0 m1
  generalize hW : ((w.alloc (.cells #[.int .i64 a.sorts, .slice Aaa a.ops.length caa] 25)).alloc (.cells #[.int .i64 b.sorts, .slice Aba b.ops.length cba] 25)).alloc (.cells #[.slice Ama m.sorts.length cma, .slice Amb m.ops.length cmb] 28) = W at HB hsz Ha a0 a1 Hb b0 b1 Hm m0 m1
  clear hb h1 h2 h3
  have HV := Lib.hid (h4.keep HB.out)
  have HT := Lib.hid (h5.keep HB.out)
  have hl1 := Hm.out.of.1.len
  have hl2 := Hm.out.of.2.len
  have hl3 := h4.len
  have hl4 := h5.len
  obtain ⟨Av, cv, rfl, -⟩ := h4.form
  obtain ⟨At, ct, rfl, -⟩ := h5.form
  clear h4 h5
  have HSM := Lib.hid hsm
  clear hsm
  cases hm : mapOkB a b m with
  | false =>
    have HM := Lib.hid hm
    have HE := Lib.hid (show mapTermM a b m vars t = ([], [], false) by unfold mapTermM; rw [hm]; rfl)
    clear hm
    go_enter Try.func20, Try.ntmps20
    go_wp2_with fail
    clear hW
    refine (mapOk_any a b m _ _ _ _ Ha.out Hb.out Hm.out).mono ?_
    rw [HM.out]
    rintro e w1 ⟨rfl, hb⟩
    replace HB := Lib.hid (sz_keep HB.out hb)
    clear hb
    clear a0 a1 b0 b1 m0 m1
    go_wp2
    refine bodyPost_ret (v := .tuple #[.slice none 0 0, .slice none 0 0, .bool false]) (by simp [results, Try.results20, go_sem]) rfl ?_
    exact ⟨_, _, w, by rw [HE.out], by rw [HE.out]; exact OInts.nil _ _, Nat.le_refl _, HB.out, by rw [HE.out]; exact OInts.nil _ _, HB.out⟩
  | true =>
    have HM := Lib.hid hm
    clear hm
    obtain ⟨q, hq⟩ : ∃ q, sortM a vars t = q := ⟨_, rfl⟩
    have HQ := Lib.hid hq
    by_cases h0 : q < 0
    · have HE := Lib.hid (show mapTermM a b m vars t = ([], [], false) by unfold mapTermM; rw [hq, decide_eq_false (by omega), Bool.and_false]; rfl)
      clear hq
      go_enter Try.func20, Try.ntmps20
      go_wp2_with fail
      clear hW
      refine (mapOk_any a b m _ _ _ _ Ha.out Hb.out Hm.out).mono ?_
      rw [HM.out]
      rintro e w1 ⟨rfl, hb⟩
      clear b0 b1 m0 m1
      replace HB := Lib.hid (sz_keep HB.out hb)
      replace a0 := cell_keep hb a0
      replace a1 := cell_keep hb a1
      replace Ha := Lib.hid (Ha.out.keep hb)
      replace HV := Lib.hid (HV.out.keep hb)
      replace HT := Lib.hid (HT.out.keep hb)
      clear hb
      go_wp2_with fail
      refine (termSort_any a vars t _ _ _ _ HSM.out Ha.out HV.out HT.out).mono ?_
      rw [HQ.out]
      rintro e w2 ⟨rfl, hb⟩
      replace HB := Lib.hid (sz_keep HB.out hb)
      clear hb
      clear a0 a1
      go_wp2
      refine bodyPost_ret (v := .tuple #[.slice none 0 0, .slice none 0 0, .bool false]) (by simp [results, Try.results20, go_sem]) rfl ?_
      exact ⟨_, _, w, by rw [HE.out], by rw [HE.out]; exact OInts.nil _ _, Nat.le_refl _, HB.out, by rw [HE.out]; exact OInts.nil _ _, HB.out⟩
    · have HE := Lib.hid (show mapTermM a b m vars t = (ledM m.sorts vars, ledM m.ops t, true) by unfold mapTermM; rw [hq, decide_eq_true (by omega), HM.out]; rfl)
      have HIN := Lib.hid (term_in (mapOk_facts HM.out) (show 0 ≤ sortM a vars t by omega))
      have hlt := HIN.out.2.1
      have hlv := HIN.out.2.2.2.1
      clear hq
      go_enter Try.func20, Try.ntmps20
      go_wp2_with fail
      clear hW
      refine (mapOk_any a b m _ _ _ _ Ha.out Hb.out Hm.out).mono ?_
      rw [HM.out]
      rintro e w1 ⟨rfl, hb⟩
      clear b0 b1
      replace HB := Lib.hid (sz_keep HB.out hb)
      replace a0 := cell_keep hb a0
      replace a1 := cell_keep hb a1
      replace m0 := cell_keep hb m0
      replace m1 := cell_keep hb m1
      replace Ha := Lib.hid (Ha.out.keep hb)
      replace Hm := Lib.hid (Hm.out.keep hb)
      replace HV := Lib.hid (HV.out.keep hb)
      replace HT := Lib.hid (HT.out.keep hb)
      clear hb
      go_wp2_with fail
      refine (termSort_any a vars t _ _ _ _ HSM.out Ha.out HV.out HT.out).mono ?_
      rw [HQ.out]
      rintro e w2 ⟨rfl, hb⟩
      clear a0 a1
      replace HB := Lib.hid (sz_keep HB.out hb)
      replace m0 := cell_keep hb m0
      replace m1 := cell_keep hb m1
      replace Hm := Lib.hid (Hm.out.keep hb)
      replace HV := Lib.hid (HV.out.keep hb)
      replace HT := Lib.hid (HT.out.keep hb)
      clear hb
      go_wp2_with fail
      refine wp_region_held_drew (S := (fun w' => w'.cell? ⟨w.heap.size + 1 + 1, 0, none⟩ = some (.slice Ama m.sorts.length cma) ∧ w'.cell? ⟨w.heap.size + 1 + 1, 1, none⟩ = some (.slice Amb m.ops.length cmb))) (by kernel_rfl) ?_ (fun hHeld => ?_)
      · exact ⟨m0, m1⟩
      refine wpAnyH_take (i := 0) (oi := _) (v := ?_) rfl (by kernel_rfl) (by kernel_rfl) (by kernel_rfl) (fun _ _ _ h => h) (Or.inl ⟨by rfl, ?_⟩) (by assumption) ?_
      rotate_left
      · first | (intro w' hSw; (try dsimp only at hSw); go_simp; done) | (intro w' hSw; (try dsimp only at hSw); go_simp; with_reducible rfl)
      try simp only [Act.put, List.getElem_toArray, List.getElem_cons_zero, List.getElem_cons_succ, List.setIfInBounds_toArray, List.set_cons_zero, List.set_cons_succ]
      refine wpAnyH_take (i := 1) (oi := _) (v := ?_) rfl (by kernel_rfl) (by kernel_rfl) (by kernel_rfl) (fun _ _ _ h => h) (Or.inl ⟨by rfl, ?_⟩) (by assumption) ?_
      rotate_left
      · first | (intro w' hSw; (try dsimp only at hSw); go_simp; done) | (intro w' hSw; (try dsimp only at hSw); go_simp; with_reducible rfl)
      try simp only [Act.put, List.getElem_toArray, List.getElem_cons_zero, List.getElem_cons_succ, List.setIfInBounds_toArray, List.set_cons_zero, List.set_cons_succ]
      refine wpAnyH_take (i := 2) (oi := _) (v := ?_) rfl (by kernel_rfl) (by kernel_rfl) (by kernel_rfl) (fun _ _ _ h => h) (Or.inl ⟨by rfl, ?_⟩) (by assumption) ?_
      rotate_left
      · first | (intro w' hSw; (try dsimp only at hSw); go_simp; done) | (intro w' hSw; (try dsimp only at hSw); go_simp; with_reducible rfl)
      try simp only [Act.put, List.getElem_toArray, List.getElem_cons_zero, List.getElem_cons_succ, List.setIfInBounds_toArray, List.set_cons_zero, List.set_cons_succ]
      refine wpAnyH_take (i := 4) (oi := _) (v := ?_) rfl (by kernel_rfl) (by kernel_rfl) (by kernel_rfl) (fun _ _ _ h => h) (Or.inl ⟨by rfl, ?_⟩) (by assumption) ?_
      rotate_left
      · first | (intro w' hSw; (try dsimp only at hSw); go_simp; done) | (intro w' hSw; (try dsimp only at hSw); go_simp; with_reducible rfl)
      try simp only [Act.put, List.getElem_toArray, List.getElem_cons_zero, List.getElem_cons_succ, List.setIfInBounds_toArray, List.set_cons_zero, List.set_cons_succ]
      refine wpAnyH_take (i := 5) (oi := _) (v := ?_) rfl (by kernel_rfl) (by kernel_rfl) (by kernel_rfl) (fun _ _ _ h => h) (Or.inl ⟨by rfl, ?_⟩) (by assumption) ?_
      rotate_left
      · first | (intro w' hSw; (try dsimp only at hSw); go_simp; done) | (intro w' hSw; (try dsimp only at hSw); go_simp; with_reducible rfl)
      try simp only [Act.put, List.getElem_toArray, List.getElem_cons_zero, List.getElem_cons_succ, List.setIfInBounds_toArray, List.set_cons_zero, List.set_cons_succ]
      refine wpAnyH_take (i := 6) (oi := _) (v := ?_) rfl (by kernel_rfl) (by kernel_rfl) (by kernel_rfl) (fun _ _ _ h => h) (Or.inl ⟨by rfl, ?_⟩) (by assumption) ?_
      rotate_left
      · first | (intro w' hSw; (try dsimp only at hSw); go_simp; done) | (intro w' hSw; (try dsimp only at hSw); go_simp; with_reducible rfl)
      try simp only [Act.put, List.getElem_toArray, List.getElem_cons_zero, List.getElem_cons_succ, List.setIfInBounds_toArray, List.set_cons_zero, List.set_cons_succ]
      refine wpAnyH_ready (rs := [3]) (by kernel_rfl) (by simp) ?_
      refine AllReadyH.cons (o := _) rfl (fun K hK => ?_) AllReadyH.nil
      go_simp
      refine (ledRow_any _ _ vars m.sorts w2.drew (HV.out.keep (map_drew (Below.refl _ _))) (Hm.out.of.1.keep (map_drew (Below.refl _ _))) HIN.out.2.2.1 (by omega)).mono ?_
      rintro e w3 ⟨u3, rfl, ho3, hb3⟩
      have hx3 := map_undrew hb3
      obtain ⟨A3, c3, rfl, -⟩ := ho3.reads.form
      have O3_w3 := Lib.hid (show OInts w3 w2.heap.size _ _ from ho3)
      have HX3 := Lib.hid (hx3)
      have p0 := cell_keep hx3 m0
      have p1 := cell_keep hx3 m1
      have HQ3 := Lib.hid hx3
      clear ho3 hb3
      go_wp2_with fail
      refine hK.out _ _ ?_ (fun hHeld => ?_)
      · exact ⟨p0, p1⟩
      clear hK K
      try simp only [Act.put, List.getElem_toArray, List.getElem_cons_zero, List.getElem_cons_succ, List.setIfInBounds_toArray, List.set_cons_zero, List.set_cons_succ]
      refine wpAnyH_ready (rs := [7]) (by kernel_rfl) (by simp) ?_
      refine AllReadyH.cons (o := _) rfl (fun K hK => ?_) AllReadyH.nil
      go_simp
      refine (ledRow_any _ _ t m.ops w3 (HT.out.keep HX3.out) (Hm.out.of.2.keep HX3.out) HIN.out.1 (by omega)).mono ?_
      rintro e w4 ⟨u4, rfl, ho4, hb4⟩
      have hx4 := hb4
      obtain ⟨A4, c4, rfl, -⟩ := ho4.reads.form
      have O4_w4 := Lib.hid (show OInts w4 w3.heap.size _ _ from ho4)
      have HX4 := Lib.hid (sz_keep HX3.out hx4)
      have t0 := cell_keep hx4 p0
      have t1 := cell_keep hx4 p1
      have HQ4 := Lib.hid hx4
      clear ho4 hb4 hx4
      go_wp2_with fail
      refine hK.out _ _ ?_ (fun hHeld => ?_)
      · exact ⟨t0, t1⟩
      clear hK K
      try simp only [Act.put, List.getElem_toArray, List.getElem_cons_zero, List.getElem_cons_succ, List.setIfInBounds_toArray, List.set_cons_zero, List.set_cons_succ]
      refine wpAnyH_take (i := 8) (oi := _) (v := ?_) rfl (by kernel_rfl) (by kernel_rfl) (by kernel_rfl) (fun _ _ _ h => h) (Or.inl ⟨by rfl, ?_⟩) (by assumption) ?_
      rotate_left
      · first | (intro w' hSw; (try dsimp only at hSw); go_simp; done) | (intro w' hSw; (try dsimp only at hSw); go_simp; with_reducible rfl)
      try simp only [Act.put, List.getElem_toArray, List.getElem_cons_zero, List.getElem_cons_succ, List.setIfInBounds_toArray, List.set_cons_zero, List.set_cons_succ]
      refine wpAnyH_take (i := 9) (oi := _) (v := ?_) rfl (by kernel_rfl) (by kernel_rfl) (by kernel_rfl) (fun _ _ _ h => h) (Or.inl ⟨by rfl, ?_⟩) (by assumption) ?_
      rotate_left
      · first | (intro w' hSw; (try dsimp only at hSw); go_simp; done) | (intro w' hSw; (try dsimp only at hSw); go_simp; with_reducible rfl)
      try simp only [Act.put, List.getElem_toArray, List.getElem_cons_zero, List.getElem_cons_succ, List.setIfInBounds_toArray, List.set_cons_zero, List.set_cons_succ]
      refine wpAnyH_take (i := 10) (oi := _) (v := ?_) rfl (by kernel_rfl) (by kernel_rfl) (by kernel_rfl) (fun _ _ _ h => h) (Or.inl ⟨by rfl, ?_⟩) (by assumption) ?_
      rotate_left
      · first | (intro w' hSw; (try dsimp only at hSw); go_simp; done) | (intro w' hSw; (try dsimp only at hSw); go_simp; with_reducible rfl)
      try simp only [Act.put, List.getElem_toArray, List.getElem_cons_zero, List.getElem_cons_succ, List.setIfInBounds_toArray, List.set_cons_zero, List.set_cons_succ]
      refine wpAnyH_done (by kernel_rfl) ?_ _
      clear m0 m1 p0 p1 t0 t1
      go_wp2
      refine bodyPost_ret (v := .tuple #[.slice A3 (ledM m.sorts vars).length c3, .slice A4 (ledM m.ops t).length c4, .bool true]) (by simp [results, Try.results20, go_sem]) rfl ?_
      exact ⟨_, _, w3, by rw [HE.out], by rw [HE.out]; exact O3_w3.out.base HB.out.size, by have := HB.out.size; have := HX3.out.size; omega, HQ4.out, by rw [HE.out]; exact O4_w4.out, sz_keep HB.out HX4.out⟩
end

section
open Go.RowKit
set_option linter.unusedVariables false
set_option linter.unusedSimpArgs false

theorem own_empty_at (w : World) {b : Nat} (hb : w.heap.size = b) : OInts (w.alloc (.cells #[] 3)) b (.slice (some ⟨b, 0, none⟩) 0 0) [] := by subst hb; exact own_empty w
set_option maxHeartbeats 3200000 in
set_option maxRecDepth 100000 in
theorem specMapTerm_any (a b : MSig) (m : MMap) (vars t : List Int) (w : World) (va vb vm vv vt : Value) (h1 : RSig w va a) (h2 : RSig w vb b) (h3 : RMap w vm m) (h4 : RInts w vv vars) (h5 : RInts w vt t) :
    Calls Try.prog 21 #[va, vb, vm, vv, vt] w fun x w' => ∃ u v wm, x = .returned (.tuple #[u, v, .bool (mapTermM a b m vars t).2.2]) ∧ OInts wm w.heap.size u (mapTermM a b m vars t).1 ∧ w.heap.size ≤ wm.heap.size ∧ Below wm.heap.size wm w' ∧ OInts w' wm.heap.size v (mapTermM a b m vars t).2.1 ∧ Below w.heap.size w w' := by
  obtain ⟨Aaa, caa, rfl⟩ := h1.form
  obtain ⟨Aba, cba, rfl⟩ := h2.form
  obtain ⟨Ama, cma, Amb, cmb, rfl⟩ := h3.form
  have hb : Below w.heap.size w (((w.alloc (.cells #[.int .i64 a.sorts, .slice Aaa a.ops.length caa] 25)).alloc (.cells #[.int .i64 b.sorts, .slice Aba b.ops.length cba] 25)).alloc (.cells #[.slice Ama m.sorts.length cma, .slice Amb m.ops.length cmb] 28)) := ((below_alloc _ _).alloc (by simp) _).alloc (by simp; omega) _
  have HB := Lib.hid hb
  have hsz : (((w.alloc (.cells #[.int .i64 a.sorts, .slice Aaa a.ops.length caa] 25)).alloc (.cells #[.int .i64 b.sorts, .slice Aba b.ops.length cba] 25)).alloc (.cells #[.slice Ama m.sorts.length cma, .slice Amb m.ops.length cmb] 28)).heap.size = w.heap.size + 3 := by simp
  have Ha := Lib.hid (h1.keep hb)
  have a0 := cell_keep (below_alloc ((w.alloc (.cells #[.int .i64 a.sorts, .slice Aaa a.ops.length caa] 25)).alloc (.cells #[.int .i64 b.sorts, .slice Aba b.ops.length cba] 25)) (.cells #[.slice Ama m.sorts.length cma, .slice Amb m.ops.length cmb] 28)) (cell_keep (below_alloc (w.alloc (.cells #[.int .i64 a.sorts, .slice Aaa a.ops.length caa] 25)) (.cells #[.int .i64 b.sorts, .slice Aba b.ops.length cba] 25)) (bx_at (w) #[.int .i64 a.sorts, .slice Aaa a.ops.length caa] 25 (k := 0) rfl))
  have a1 := cell_keep (below_alloc ((w.alloc (.cells #[.int .i64 a.sorts, .slice Aaa a.ops.length caa] 25)).alloc (.cells #[.int .i64 b.sorts, .slice Aba b.ops.length cba] 25)) (.cells #[.slice Ama m.sorts.length cma, .slice Amb m.ops.length cmb] 28)) (cell_keep (below_alloc (w.alloc (.cells #[.int .i64 a.sorts, .slice Aaa a.ops.length caa] 25)) (.cells #[.int .i64 b.sorts, .slice Aba b.ops.length cba] 25)) (bx_at (w) #[.int .i64 a.sorts, .slice Aaa a.ops.length caa] 25 (k := 1) rfl))
  have Hb := Lib.hid (h2.keep hb)
  have b0 := cell_keep (below_alloc ((w.alloc (.cells #[.int .i64 a.sorts, .slice Aaa a.ops.length caa] 25)).alloc (.cells #[.int .i64 b.sorts, .slice Aba b.ops.length cba] 25)) (.cells #[.slice Ama m.sorts.length cma, .slice Amb m.ops.length cmb] 28)) (bx_at (w.alloc (.cells #[.int .i64 a.sorts, .slice Aaa a.ops.length caa] 25)) #[.int .i64 b.sorts, .slice Aba b.ops.length cba] 25 (k := 0) rfl)
  have b1 := cell_keep (below_alloc ((w.alloc (.cells #[.int .i64 a.sorts, .slice Aaa a.ops.length caa] 25)).alloc (.cells #[.int .i64 b.sorts, .slice Aba b.ops.length cba] 25)) (.cells #[.slice Ama m.sorts.length cma, .slice Amb m.ops.length cmb] 28)) (bx_at (w.alloc (.cells #[.int .i64 a.sorts, .slice Aaa a.ops.length caa] 25)) #[.int .i64 b.sorts, .slice Aba b.ops.length cba] 25 (k := 1) rfl)
  have Hm := Lib.hid (h3.keep hb)
  have m0 := bx_at ((w.alloc (.cells #[.int .i64 a.sorts, .slice Aaa a.ops.length caa] 25)).alloc (.cells #[.int .i64 b.sorts, .slice Aba b.ops.length cba] 25)) #[.slice Ama m.sorts.length cma, .slice Amb m.ops.length cmb] 28 (k := 0) rfl
  have m1 := bx_at ((w.alloc (.cells #[.int .i64 a.sorts, .slice Aaa a.ops.length caa] 25)).alloc (.cells #[.int .i64 b.sorts, .slice Aba b.ops.length cba] 25)) #[.slice Ama m.sorts.length cma, .slice Amb m.ops.length cmb] 28 (k := 1) rfl
  simp only [World.size_alloc] at b0 b1 m0 m1
  generalize hW : ((w.alloc (.cells #[.int .i64 a.sorts, .slice Aaa a.ops.length caa] 25)).alloc (.cells #[.int .i64 b.sorts, .slice Aba b.ops.length cba] 25)).alloc (.cells #[.slice Ama m.sorts.length cma, .slice Amb m.ops.length cmb] 28) = W at HB hsz Ha a0 a1 Hb b0 b1 Hm m0 m1
  clear hb h1 h2 h3
  have HV := Lib.hid (h4.keep HB.out)
  have HT := Lib.hid (h5.keep HB.out)
  have hl1 := Hm.out.of.1.len
  have hl2 := Hm.out.of.2.len
  have hl3 := h4.len
  have hl4 := h5.len
  obtain ⟨Av, cv, rfl, -⟩ := h4.form
  obtain ⟨At, ct, rfl, -⟩ := h5.form
  clear h4 h5
  cases hm : mapOkB a b m with
  | false =>
    have HM := Lib.hid hm
    have HE := Lib.hid (show mapTermM a b m vars t = ([], [], false) by unfold mapTermM; rw [hm]; rfl)
    clear hm
    go_enter Try.func21, Try.ntmps21
    go_wp2_with fail
    clear hW
    refine (specMapOk_any a b m _ _ _ _ Ha.out Hb.out Hm.out).mono ?_
    rw [HM.out]
    rintro e w1 ⟨rfl, hb⟩
    replace HB := Lib.hid (sz_keep HB.out hb)
    clear hb
    clear a0 a1 b0 b1 m0 m1
    go_wp2
    refine bodyPost_ret (v := .tuple #[.slice (some ⟨w1.heap.size, 0, none⟩) 0 0, .slice (some ⟨w1.heap.size + 1, 0, none⟩) 0 0, .bool false]) (by simp [results, Try.results21, go_sem]) rfl ?_
    refine ⟨_, _, w1.alloc (.cells #[] 3), by rw [HE.out], by rw [HE.out]; exact (own_empty _).base HB.out.size, ?_, below_alloc _ _, by rw [HE.out]; exact (own_empty_at _ (by simp)).base (by simp), ?_⟩
    · have := HB.out.size; simp; omega
    · exact (HB.out.alloc HB.out.size _).alloc (by have := HB.out.size; simp; omega) _
  | true =>
    have HM := Lib.hid hm
    clear hm
    obtain ⟨q, hq⟩ : ∃ q, sortM a vars t = q := ⟨_, rfl⟩
    have HQ := Lib.hid hq
    by_cases h0 : q < 0
    · have HE := Lib.hid (show mapTermM a b m vars t = ([], [], false) by unfold mapTermM; rw [hq, decide_eq_false (by omega), Bool.and_false]; rfl)
      clear hq
      go_enter Try.func21, Try.ntmps21
      go_wp2_with fail
      clear hW
      refine (specMapOk_any a b m _ _ _ _ Ha.out Hb.out Hm.out).mono ?_
      rw [HM.out]
      rintro e w1 ⟨rfl, hb⟩
      clear b0 b1 m0 m1
      replace HB := Lib.hid (sz_keep HB.out hb)
      replace a0 := cell_keep hb a0
      replace a1 := cell_keep hb a1
      replace Ha := Lib.hid (Ha.out.keep hb)
      replace HV := Lib.hid (HV.out.keep hb)
      replace HT := Lib.hid (HT.out.keep hb)
      clear hb
      go_wp2_with fail
      refine (specTermSort_any a vars t _ _ _ _ Ha.out HV.out HT.out).mono ?_
      rw [HQ.out]
      rintro e w2 ⟨rfl, hb⟩
      replace HB := Lib.hid (sz_keep HB.out hb)
      clear hb
      clear a0 a1
      go_wp2
      refine bodyPost_ret (v := .tuple #[.slice (some ⟨w2.heap.size, 0, none⟩) 0 0, .slice (some ⟨w2.heap.size + 1, 0, none⟩) 0 0, .bool false]) (by simp [results, Try.results21, go_sem]) rfl ?_
      refine ⟨_, _, w2.alloc (.cells #[] 3), by rw [HE.out], by rw [HE.out]; exact (own_empty _).base HB.out.size, ?_, below_alloc _ _, by rw [HE.out]; exact (own_empty_at _ (by simp)).base (by simp), ?_⟩
      · have := HB.out.size; simp; omega
      · exact (HB.out.alloc HB.out.size _).alloc (by have := HB.out.size; simp; omega) _
    · have HE := Lib.hid (show mapTermM a b m vars t = (ledM m.sorts vars, ledM m.ops t, true) by unfold mapTermM; rw [hq, decide_eq_true (by omega), HM.out]; rfl)
      have HIN := Lib.hid (term_in (mapOk_facts HM.out) (show 0 ≤ sortM a vars t by omega))
      have hlt := HIN.out.2.1
      have hlv := HIN.out.2.2.2.1
      clear hq
      go_enter Try.func21, Try.ntmps21
      go_wp2_with fail
      clear hW
      refine (specMapOk_any a b m _ _ _ _ Ha.out Hb.out Hm.out).mono ?_
      rw [HM.out]
      rintro e w1 ⟨rfl, hb⟩
      clear b0 b1
      replace HB := Lib.hid (sz_keep HB.out hb)
      replace a0 := cell_keep hb a0
      replace a1 := cell_keep hb a1
      replace m0 := cell_keep hb m0
      replace m1 := cell_keep hb m1
      replace Ha := Lib.hid (Ha.out.keep hb)
      replace Hm := Lib.hid (Hm.out.keep hb)
      replace HV := Lib.hid (HV.out.keep hb)
      replace HT := Lib.hid (HT.out.keep hb)
      clear hb
      go_wp2_with fail
      refine (specTermSort_any a vars t _ _ _ _ Ha.out HV.out HT.out).mono ?_
      rw [HQ.out]
      rintro e w2 ⟨rfl, hb⟩
      clear a0 a1
      replace HB := Lib.hid (sz_keep HB.out hb)
      replace m0 := cell_keep hb m0
      replace m1 := cell_keep hb m1
      replace Hm := Lib.hid (Hm.out.keep hb)
      replace HV := Lib.hid (HV.out.keep hb)
      replace HT := Lib.hid (HT.out.keep hb)
      clear hb
      go_wp2_with fail
      refine wp_region_held_drew (S := (fun w' => w'.cell? ⟨w.heap.size + 1 + 1, 0, none⟩ = some (.slice Ama m.sorts.length cma) ∧ w'.cell? ⟨w.heap.size + 1 + 1, 1, none⟩ = some (.slice Amb m.ops.length cmb))) (by kernel_rfl) ?_ (fun hHeld => ?_)
      · exact ⟨m0, m1⟩
      refine wpAnyH_take (i := 0) (oi := _) (v := ?_) rfl (by kernel_rfl) (by kernel_rfl) (by kernel_rfl) (fun _ _ _ h => h) (Or.inl ⟨by rfl, ?_⟩) (by assumption) ?_
      rotate_left
      · first | (intro w' hSw; (try dsimp only at hSw); go_simp; done) | (intro w' hSw; (try dsimp only at hSw); go_simp; with_reducible rfl)
      try simp only [Act.put, List.getElem_toArray, List.getElem_cons_zero, List.getElem_cons_succ, List.setIfInBounds_toArray, List.set_cons_zero, List.set_cons_succ]
      refine wpAnyH_take (i := 1) (oi := _) (v := ?_) rfl (by kernel_rfl) (by kernel_rfl) (by kernel_rfl) (fun _ _ _ h => h) (Or.inl ⟨by rfl, ?_⟩) (by assumption) ?_
      rotate_left
      · first | (intro w' hSw; (try dsimp only at hSw); go_simp; done) | (intro w' hSw; (try dsimp only at hSw); go_simp; with_reducible rfl)
      try simp only [Act.put, List.getElem_toArray, List.getElem_cons_zero, List.getElem_cons_succ, List.setIfInBounds_toArray, List.set_cons_zero, List.set_cons_succ]
      refine wpAnyH_take (i := 3) (oi := _) (v := ?_) rfl (by kernel_rfl) (by kernel_rfl) (by kernel_rfl) (fun _ _ _ h => h) (Or.inl ⟨by rfl, ?_⟩) (by assumption) ?_
      rotate_left
      · first | (intro w' hSw; (try dsimp only at hSw); go_simp; done) | (intro w' hSw; (try dsimp only at hSw); go_simp; with_reducible rfl)
      try simp only [Act.put, List.getElem_toArray, List.getElem_cons_zero, List.getElem_cons_succ, List.setIfInBounds_toArray, List.set_cons_zero, List.set_cons_succ]
      refine wpAnyH_take (i := 4) (oi := _) (v := ?_) rfl (by kernel_rfl) (by kernel_rfl) (by kernel_rfl) (fun _ _ _ h => h) (Or.inl ⟨by rfl, ?_⟩) (by assumption) ?_
      rotate_left
      · first | (intro w' hSw; (try dsimp only at hSw); go_simp; done) | (intro w' hSw; (try dsimp only at hSw); go_simp; with_reducible rfl)
      try simp only [Act.put, List.getElem_toArray, List.getElem_cons_zero, List.getElem_cons_succ, List.setIfInBounds_toArray, List.set_cons_zero, List.set_cons_succ]
      refine wpAnyH_ready (rs := [2]) (by kernel_rfl) (by simp) ?_
      refine AllReadyH.cons (o := _) rfl (fun K hK => ?_) AllReadyH.nil
      go_simp
      refine (l4Row_any _ _ vars m w2.drew (Hm.out.keep (map_drew (Below.refl _ _))) (HV.out.keep (map_drew (Below.refl _ _))) (fun x hx => HIN.out.2.2.1 x hx (HIN.out.2.2.2.2 x hx)) (by omega)).mono ?_
      rw [rowLed_led HIN.out.2.2.2.2]
      rintro e w3 ⟨u3, rfl, ho3, hb3⟩
      have hx3 := map_undrew hb3
      obtain ⟨A3, c3, rfl, -⟩ := ho3.reads.form
      have O3_w3 := Lib.hid (show OInts w3 w2.heap.size _ _ from ho3)
      have HX3 := Lib.hid (hx3)
      have p0 := cell_keep hx3 m0
      have p1 := cell_keep hx3 m1
      have HQ3 := Lib.hid hx3
      clear ho3 hb3
      go_wp2_with fail
      refine hK.out _ _ ?_ (fun hHeld => ?_)
      · exact ⟨p0, p1⟩
      clear hK K
      try simp only [Act.put, List.getElem_toArray, List.getElem_cons_zero, List.getElem_cons_succ, List.setIfInBounds_toArray, List.set_cons_zero, List.set_cons_succ]
      refine wpAnyH_ready (rs := [5]) (by kernel_rfl) (by simp) ?_
      refine AllReadyH.cons (o := _) rfl (fun K hK => ?_) AllReadyH.nil
      go_simp
      refine (l4Term_any _ _ t m w3 (Hm.out.keep HX3.out) (HT.out.keep HX3.out) HIN.out.1 (by omega)).mono ?_
      rintro e w4 ⟨u4, rfl, ho4, hb4⟩
      have hx4 := hb4
      obtain ⟨A4, c4, rfl, -⟩ := ho4.reads.form
      have O4_w4 := Lib.hid (show OInts w4 w3.heap.size _ _ from ho4)
      have HX4 := Lib.hid (sz_keep HX3.out hx4)
      have t0 := cell_keep hx4 p0
      have t1 := cell_keep hx4 p1
      have HQ4 := Lib.hid hx4
      clear ho4 hb4 hx4
      go_wp2_with fail
      refine hK.out _ _ ?_ (fun hHeld => ?_)
      · exact ⟨t0, t1⟩
      clear hK K
      try simp only [Act.put, List.getElem_toArray, List.getElem_cons_zero, List.getElem_cons_succ, List.setIfInBounds_toArray, List.set_cons_zero, List.set_cons_succ]
      refine wpAnyH_take (i := 6) (oi := _) (v := ?_) rfl (by kernel_rfl) (by kernel_rfl) (by kernel_rfl) (fun _ _ _ h => h) (Or.inl ⟨by rfl, ?_⟩) (by assumption) ?_
      rotate_left
      · first | (intro w' hSw; (try dsimp only at hSw); go_simp; done) | (intro w' hSw; (try dsimp only at hSw); go_simp; with_reducible rfl)
      try simp only [Act.put, List.getElem_toArray, List.getElem_cons_zero, List.getElem_cons_succ, List.setIfInBounds_toArray, List.set_cons_zero, List.set_cons_succ]
      refine wpAnyH_take (i := 7) (oi := _) (v := ?_) rfl (by kernel_rfl) (by kernel_rfl) (by kernel_rfl) (fun _ _ _ h => h) (Or.inl ⟨by rfl, ?_⟩) (by assumption) ?_
      rotate_left
      · first | (intro w' hSw; (try dsimp only at hSw); go_simp; done) | (intro w' hSw; (try dsimp only at hSw); go_simp; with_reducible rfl)
      try simp only [Act.put, List.getElem_toArray, List.getElem_cons_zero, List.getElem_cons_succ, List.setIfInBounds_toArray, List.set_cons_zero, List.set_cons_succ]
      refine wpAnyH_take (i := 8) (oi := _) (v := ?_) rfl (by kernel_rfl) (by kernel_rfl) (by kernel_rfl) (fun _ _ _ h => h) (Or.inl ⟨by rfl, ?_⟩) (by assumption) ?_
      rotate_left
      · first | (intro w' hSw; (try dsimp only at hSw); go_simp; done) | (intro w' hSw; (try dsimp only at hSw); go_simp; with_reducible rfl)
      try simp only [Act.put, List.getElem_toArray, List.getElem_cons_zero, List.getElem_cons_succ, List.setIfInBounds_toArray, List.set_cons_zero, List.set_cons_succ]
      refine wpAnyH_done (by kernel_rfl) ?_ _
      clear m0 m1 p0 p1 t0 t1
      go_wp2
      refine bodyPost_ret (v := .tuple #[.slice A3 (ledM m.sorts vars).length c3, .slice A4 (ledM m.ops t).length c4, .bool true]) (by simp [results, Try.results21, go_sem]) rfl ?_
      exact ⟨_, _, w3, by rw [HE.out], by rw [HE.out]; exact O3_w3.out.base HB.out.size, by have := HB.out.size; have := HX3.out.size; omega, HQ4.out, by rw [HE.out]; exact O4_w4.out, sz_keep HB.out HX4.out⟩
end
end Go.Proofs.Ytkhabmoidpgapab
