/- HomOk of package spec. -/
import Derived.Test.YtfomeommkfemkaaKe9ee8377
namespace Go.Proofs.Ytfomeommkfemkaa
section
open Go.RowKit
set_option linter.unusedVariables false
set_option linter.unusedSimpArgs false

theorem homOp_at2 {s : MSig} {m n : MModel} {h : List (List Int)} {k j : Nat} (hj : j < (m.tables.getD k []).length) (e : homAt s m n h k j = false) : homOp s m n h k = false := allN_bad hj e
theorem last_row {row : List Int} {n : Nat} (hn : row.length = n + 1) (hne : n < row.length) : row.getLastD (-1) = row[n] := by
  have := last_at (row := row) (by omega)
  simp only [hn, Nat.add_sub_cancel] at this
  exact this
theorem inSize_pred {z v : Int} : inB v 0 (z - 1) = inSize z v := inSize_inB rfl

set_option maxHeartbeats 6400000 in
set_option maxRecDepth 100000 in
theorem specHomOk_any (s : MSig) (m n : MModel) (h : List (List Int)) (w : World) (v va vb vh : Value) (h1 : RSig w v s) (h2 : RModel w va m) (h3 : RModel w vb n) (h4 : RRows w vh h) :
    Calls Try.prog 12 #[v, va, vb, vh] w fun e w' => e = .returned (.bool (homB s m n h)) ∧ Below w.heap.size w w' := by
  obtain ⟨i0, hi0, hz0, hz1, hz2⟩ := info_parts Try.tinfo_int
  obtain ⟨Asa, csa, rfl⟩ := h1.form
  obtain ⟨Ama, cma, Amb, cmb, rfl⟩ := h2.form
  obtain ⟨Ana, cna, Anb, cnb, rfl⟩ := h3.form
  have hb : Below w.heap.size w (((w.alloc (.cells #[.int .i64 s.sorts, .slice Asa s.ops.length csa] 32)).alloc (.cells #[.slice Ama m.sizes.length cma, .slice Amb m.tables.length cmb] 34)).alloc (.cells #[.slice Ana n.sizes.length cna, .slice Anb n.tables.length cnb] 34)) := ((below_alloc _ _).alloc (by simp) _).alloc (by simp; omega) _
  have HB := Lib.hid hb
  have hsz : (((w.alloc (.cells #[.int .i64 s.sorts, .slice Asa s.ops.length csa] 32)).alloc (.cells #[.slice Ama m.sizes.length cma, .slice Amb m.tables.length cmb] 34)).alloc (.cells #[.slice Ana n.sizes.length cna, .slice Anb n.tables.length cnb] 34)).heap.size = w.heap.size + 3 := by simp
  have Hs := Lib.hid (h1.keep hb)
  have s0 := cell_keep (below_alloc ((w.alloc (.cells #[.int .i64 s.sorts, .slice Asa s.ops.length csa] 32)).alloc (.cells #[.slice Ama m.sizes.length cma, .slice Amb m.tables.length cmb] 34)) (.cells #[.slice Ana n.sizes.length cna, .slice Anb n.tables.length cnb] 34)) (cell_keep (below_alloc (w.alloc (.cells #[.int .i64 s.sorts, .slice Asa s.ops.length csa] 32)) (.cells #[.slice Ama m.sizes.length cma, .slice Amb m.tables.length cmb] 34)) (bx_at (w) #[.int .i64 s.sorts, .slice Asa s.ops.length csa] 32 (k := 0) rfl))
  have s1 := cell_keep (below_alloc ((w.alloc (.cells #[.int .i64 s.sorts, .slice Asa s.ops.length csa] 32)).alloc (.cells #[.slice Ama m.sizes.length cma, .slice Amb m.tables.length cmb] 34)) (.cells #[.slice Ana n.sizes.length cna, .slice Anb n.tables.length cnb] 34)) (cell_keep (below_alloc (w.alloc (.cells #[.int .i64 s.sorts, .slice Asa s.ops.length csa] 32)) (.cells #[.slice Ama m.sizes.length cma, .slice Amb m.tables.length cmb] 34)) (bx_at (w) #[.int .i64 s.sorts, .slice Asa s.ops.length csa] 32 (k := 1) rfl))
  have Hm := Lib.hid (h2.keep hb)
  have m0 := cell_keep (below_alloc ((w.alloc (.cells #[.int .i64 s.sorts, .slice Asa s.ops.length csa] 32)).alloc (.cells #[.slice Ama m.sizes.length cma, .slice Amb m.tables.length cmb] 34)) (.cells #[.slice Ana n.sizes.length cna, .slice Anb n.tables.length cnb] 34)) (bx_at (w.alloc (.cells #[.int .i64 s.sorts, .slice Asa s.ops.length csa] 32)) #[.slice Ama m.sizes.length cma, .slice Amb m.tables.length cmb] 34 (k := 0) rfl)
  have m1 := cell_keep (below_alloc ((w.alloc (.cells #[.int .i64 s.sorts, .slice Asa s.ops.length csa] 32)).alloc (.cells #[.slice Ama m.sizes.length cma, .slice Amb m.tables.length cmb] 34)) (.cells #[.slice Ana n.sizes.length cna, .slice Anb n.tables.length cnb] 34)) (bx_at (w.alloc (.cells #[.int .i64 s.sorts, .slice Asa s.ops.length csa] 32)) #[.slice Ama m.sizes.length cma, .slice Amb m.tables.length cmb] 34 (k := 1) rfl)
  have Hn := Lib.hid (h3.keep hb)
  have n0 := bx_at ((w.alloc (.cells #[.int .i64 s.sorts, .slice Asa s.ops.length csa] 32)).alloc (.cells #[.slice Ama m.sizes.length cma, .slice Amb m.tables.length cmb] 34)) #[.slice Ana n.sizes.length cna, .slice Anb n.tables.length cnb] 34 (k := 0) rfl
  have n1 := bx_at ((w.alloc (.cells #[.int .i64 s.sorts, .slice Asa s.ops.length csa] 32)).alloc (.cells #[.slice Ama m.sizes.length cma, .slice Amb m.tables.length cmb] 34)) #[.slice Ana n.sizes.length cna, .slice Anb n.tables.length cnb] 34 (k := 1) rfl
  simp only [World.size_alloc] at m0 m1 n0 n1
  generalize hW : ((w.alloc (.cells #[.int .i64 s.sorts, .slice Asa s.ops.length csa] 32)).alloc (.cells #[.slice Ama m.sizes.length cma, .slice Amb m.tables.length cmb] 34)).alloc (.cells #[.slice Ana n.sizes.length cna, .slice Anb n.tables.length cnb] 34) = W at HB hsz Hs s0 s1 Hm m0 m1 Hn n0 n1
  clear hb h1 h2 h3
  have HH := Lib.hid (h4.keep HB.out)
  have hhl := h4.len
  obtain ⟨Ah, ch, rfl, -⟩ := h4.form
  clear h4
  cases hma : modelB s m with
  | false =>
    have HMA := Lib.hid hma
    have HE := Lib.hid (hom_no1 (b := n) (h := h) hma)
    clear hma
    go_enter Try.func12, Try.ntmps12
    go_wp2_with fail
    clear hW
    refine (specModelOk_any s m _ _ _ Hs.out Hm.out).mono ?_
    rw [HMA.out]
    rintro x w1 ⟨rfl, hb⟩
    replace HB := Lib.hid (sz_keep HB.out hb)
    replace s0 := cell_keep hb s0
    replace s1 := cell_keep hb s1
    replace m0 := cell_keep hb m0
    replace m1 := cell_keep hb m1
    replace n0 := cell_keep hb n0
    replace n1 := cell_keep hb n1
    replace Hs := Lib.hid (Hs.out.keep hb)
    replace Hm := Lib.hid (Hm.out.keep hb)
    replace Hn := Lib.hid (Hn.out.keep hb)
    replace HH := Lib.hid (HH.out.keep hb)
    clear hb
    go_wp2
    go_ret
    exact ⟨ret_bool HE.out.symm, HB.out⟩
  | true =>
    have HMA := Lib.hid hma
    clear hma
    cases hmb : modelB s n with
    | false =>
      have HMB := Lib.hid hmb
      have HE := Lib.hid (hom_no2 (a := m) (h := h) hmb)
      clear hmb
      go_enter Try.func12, Try.ntmps12
      go_wp2_with fail
      clear hW
      refine (specModelOk_any s m _ _ _ Hs.out Hm.out).mono ?_
      rw [HMA.out]
      rintro x w1 ⟨rfl, hb⟩
      replace HB := Lib.hid (sz_keep HB.out hb)
      replace s0 := cell_keep hb s0
      replace s1 := cell_keep hb s1
      replace m0 := cell_keep hb m0
      replace m1 := cell_keep hb m1
      replace n0 := cell_keep hb n0
      replace n1 := cell_keep hb n1
      replace Hs := Lib.hid (Hs.out.keep hb)
      replace Hm := Lib.hid (Hm.out.keep hb)
      replace Hn := Lib.hid (Hn.out.keep hb)
      replace HH := Lib.hid (HH.out.keep hb)
      clear hb
      go_wp2_with fail
      refine (specModelOk_any s n _ _ _ Hs.out Hn.out).mono ?_
      rw [HMB.out]
      rintro x w2 ⟨rfl, hb⟩
      replace HB := Lib.hid (sz_keep HB.out hb)
      replace s0 := cell_keep hb s0
      replace s1 := cell_keep hb s1
      replace m0 := cell_keep hb m0
      replace m1 := cell_keep hb m1
      replace n0 := cell_keep hb n0
      replace n1 := cell_keep hb n1
      replace Hs := Lib.hid (Hs.out.keep hb)
      replace Hm := Lib.hid (Hm.out.keep hb)
      replace Hn := Lib.hid (Hn.out.keep hb)
      replace HH := Lib.hid (HH.out.keep hb)
      clear hb
      go_wp2
      go_ret
      exact ⟨ret_bool HE.out.symm, HB.out⟩
    | true =>
      have HMB := Lib.hid hmb
      have HFM := Lib.hid (model_facts HMA.out)
      have HFN := Lib.hid (model_facts hmb)
      clear hmb
      by_cases hls : (h.length : Int) = s.sorts
      · have e1 : ((h.length : Int) != s.sorts) = false := by simp [hls]
        have HLS := Lib.hid hls
        clear hls
        go_enter Try.func12, Try.ntmps12
        go_wp2_with fail
        clear hW
        refine (specModelOk_any s m _ _ _ Hs.out Hm.out).mono ?_
        rw [HMA.out]
        rintro x w1 ⟨rfl, hb⟩
        replace HB := Lib.hid (sz_keep HB.out hb)
        replace s0 := cell_keep hb s0
        replace s1 := cell_keep hb s1
        replace m0 := cell_keep hb m0
        replace m1 := cell_keep hb m1
        replace n0 := cell_keep hb n0
        replace n1 := cell_keep hb n1
        replace Hs := Lib.hid (Hs.out.keep hb)
        replace Hm := Lib.hid (Hm.out.keep hb)
        replace Hn := Lib.hid (Hn.out.keep hb)
        replace HH := Lib.hid (HH.out.keep hb)
        clear hb
        go_wp2_with fail
        refine (specModelOk_any s n _ _ _ Hs.out Hn.out).mono ?_
        rw [HMB.out]
        rintro x w2 ⟨rfl, hb⟩
        replace HB := Lib.hid (sz_keep HB.out hb)
        replace s0 := cell_keep hb s0
        replace s1 := cell_keep hb s1
        replace m0 := cell_keep hb m0
        replace m1 := cell_keep hb m1
        replace n0 := cell_keep hb n0
        replace n1 := cell_keep hb n1
        replace Hs := Lib.hid (Hs.out.keep hb)
        replace Hm := Lib.hid (Hm.out.keep hb)
        replace Hn := Lib.hid (Hn.out.keep hb)
        replace HH := Lib.hid (HH.out.keep hb)
        clear hb
        have HCX := Lib.hid (And.intro s0 (And.intro s1 (And.intro m0 (And.intro m1 (And.intro n0 n1)))))
        have hto := (valid_sorts HFM.out.va).2.2
        go_wp2
        clear s0 s1 m0 m1 n0 n1
        go_loopw [9, 10] (fun i _ wr => ∃ k : Nat, k ≤ h.length ∧ i = .int .i64 k ∧ allN (homRow m n h) k = true ∧ Below w2.heap.size w2 wr) (fun i _ _ => h.length - (intOf i).toNat)
        case atStart => exact ⟨0, Nat.zero_le _, rfl, rfl, Below.refl _ _⟩
        case round =>
          obtain ⟨k, hk, rfl, hall, hd⟩ := hrel
          have HALL := Lib.hid hall
          have HD := Lib.hid hd
          have f0 := cell_keep hd HCX.out.1
          have f1 := cell_keep hd HCX.out.2.1
          have f2 := cell_keep hd HCX.out.2.2.1
          have f3 := cell_keep hd HCX.out.2.2.2.1
          have f4 := cell_keep hd HCX.out.2.2.2.2.1
          have f5 := cell_keep hd HCX.out.2.2.2.2.2
          clear hall hd
          by_cases hlt : k < h.length
          · have hlt' : (k : Int) < (h.length : Int) := by omega
            have hkm : k < m.sizes.length := by have := HLS.out; have := HFM.out.sl; omega
            have hkn : k < n.sizes.length := by have := HLS.out; have := HFN.out.sl; omega
            have hkm' : (k : Int) < (m.sizes.length : Int) := by omega
            have hkn' : (k : Int) < (n.sizes.length : Int) := by omega
            have hk3 : k ≤ 3 := by have := HFM.out.sorts; omega
            obtain ⟨b4, o4, c4, u4, e, hx, hr4⟩ := (HH.out.keep HD.out).at_ hlt
            cases e
            obtain ⟨b5, o5, c5, e, hy⟩ := (Hm.out.of.1.keep HD.out).at_ hkm
            cases e
            obtain ⟨b6, o6, c6, e, hyn⟩ := (Hn.out.of.1.keep HD.out).at_ hkn
            cases e
            have HTS := Lib.hid (allN_succ (homRow m n h) k)
            have HNO := Lib.hid (fun e => hom_no4 (s := s) (a := m) (b := n) hlt e)
            have HR1 := Lib.hid (fun e => homRow_no1 (a := m) (b := n) (h := h) (k := k) e)
            have HR2 := Lib.hid (fun e => homRow_no2 (a := m) (b := n) (h := h) (k := k) e)
            have HR3 := Lib.hid (fun e1 e2 => homRow_yes (a := m) (b := n) (h := h) (k := k) e1 e2)
            have HYS := Lib.hid (HFN.out.sz _ (List.getElem_mem hkn))
            rw [getD_at _ hlt] at HR1 HR2 HR3
            rw [getD_at _ hkm] at HR1 HR3
            rw [getD_at _ hkn] at HR2 HR3
            generalize h[k] = row at hx hr4 HR1 HR2 HR3
            generalize m.sizes[k] = z at hy HR1 HR3
            generalize n.sizes[k] = y at hyn HR2 HR3 HYS
            have HRW := Lib.hid hr4
            have hrl := hr4.len
            obtain ⟨A6, d6, rfl, -⟩ := hr4.form
            clear hr4
            by_cases hlz : (row.length : Int) = z
            · have e2 : ((row.length : Int) != z) = false := by simp [hlz]
              have HLZ := Lib.hid hlz
              clear hlz
              have HCK := Lib.hid (And.intro f4 (And.intro f5 (And.intro hx hyn)))
              go_wp2_with fail
              refine wp_region_held_drew (S := (fun w' => w'.cell? ⟨b4, o4 + k, none⟩ = some (.slice A6 row.length d6) ∧ w'.cell? ⟨w.heap.size + 1, 0, none⟩ = some (.slice (some ⟨b5, o5, none⟩) m.sizes.length cma) ∧ w'.cell? ⟨b5, o5 + k, none⟩ = some (.int .i64 z))) (by kernel_rfl) ?_ (fun hHeld => ?_)
              · exact ⟨hx, f2, hy⟩
              refine wpAnyH_take (i := 0) (oi := _) (v := ?_) rfl (by kernel_rfl) (by kernel_rfl) (by kernel_rfl) (fun _ _ _ h => h) (Or.inl ⟨by rfl, ?_⟩) (by assumption) ?_
              rotate_left
              · first | (intro w' hSw; (try dsimp only at hSw); go_simp; done) | (intro w' hSw; (try dsimp only at hSw); go_simp; with_reducible rfl)
              try simp only [Act.put, List.getElem_toArray, List.getElem_cons_zero, List.getElem_cons_succ, List.setIfInBounds_toArray, List.set_cons_zero, List.set_cons_succ]
              refine wpAnyH_take (i := 1) (oi := _) (v := ?_) rfl (by kernel_rfl) (by kernel_rfl) (by kernel_rfl) (fun _ _ _ h => h) (Or.inl ⟨by rfl, ?_⟩) (by assumption) ?_
              rotate_left
              · first | (intro w' hSw; (try dsimp only at hSw); go_simp; done) | (intro w' hSw; (try dsimp only at hSw); go_simp; with_reducible rfl)
              try simp only [Act.put, List.getElem_toArray, List.getElem_cons_zero, List.getElem_cons_succ, List.setIfInBounds_toArray, List.set_cons_zero, List.set_cons_succ]
              refine wpAnyH_take (i := 2) (oi := _) (v := ?_) rfl (by kernel_rfl) (by kernel_rfl) (by kernel_rfl) (fun _ _ _ h => h) (Or.inl ⟨by rfl, ?_⟩) (by assumption) ?_
              rotate_left
              · first | (intro w' hSw; (try dsimp only at hSw); go_simp; done) | (intro w' hSw; (try dsimp only at hSw); go_simp; with_reducible rfl)
              try simp only [Act.put, List.getElem_toArray, List.getElem_cons_zero, List.getElem_cons_succ, List.setIfInBounds_toArray, List.set_cons_zero, List.set_cons_succ]
              refine wpAnyH_take (i := 3) (oi := _) (v := ?_) rfl (by kernel_rfl) (by kernel_rfl) (by kernel_rfl) (fun _ _ _ h => h) (Or.inl ⟨by rfl, ?_⟩) (by assumption) ?_
              rotate_left
              · first | (intro w' hSw; (try dsimp only at hSw); go_simp; done) | (intro w' hSw; (try dsimp only at hSw); go_simp; with_reducible rfl)
              try simp only [Act.put, List.getElem_toArray, List.getElem_cons_zero, List.getElem_cons_succ, List.setIfInBounds_toArray, List.set_cons_zero, List.set_cons_succ]
              refine wpAnyH_take (i := 4) (oi := _) (v := ?_) rfl (by kernel_rfl) (by kernel_rfl) (by kernel_rfl) (fun _ _ _ h => h) (Or.inl ⟨by rfl, ?_⟩) (by assumption) ?_
              rotate_left
              · first | (intro w' hSw; (try dsimp only at hSw); go_simp; done) | (intro w' hSw; (try dsimp only at hSw); go_simp; with_reducible rfl)
              try simp only [Act.put, List.getElem_toArray, List.getElem_cons_zero, List.getElem_cons_succ, List.setIfInBounds_toArray, List.set_cons_zero, List.set_cons_succ]
              refine wpAnyH_take (i := 5) (oi := _) (v := ?_) rfl (by kernel_rfl) (by kernel_rfl) (by kernel_rfl) (fun _ _ _ h => h) (Or.inl ⟨by rfl, ?_⟩) (by assumption) ?_
              rotate_left
              · first | (intro w' hSw; (try dsimp only at hSw); go_simp; done) | (intro w' hSw; (try dsimp only at hSw); go_simp; with_reducible rfl)
              try simp only [Act.put, List.getElem_toArray, List.getElem_cons_zero, List.getElem_cons_succ, List.setIfInBounds_toArray, List.set_cons_zero, List.set_cons_succ]
              refine wpAnyH_take (i := 6) (oi := _) (v := ?_) rfl (by kernel_rfl) (by kernel_rfl) (by kernel_rfl) (fun _ _ _ h => h) (Or.inl ⟨by rfl, ?_⟩) (by assumption) ?_
              rotate_left
              · first | (intro w' hSw; (try dsimp only at hSw); go_simp; done) | (intro w' hSw; (try dsimp only at hSw); go_simp; with_reducible rfl)
              try simp only [Act.put, List.getElem_toArray, List.getElem_cons_zero, List.getElem_cons_succ, List.setIfInBounds_toArray, List.set_cons_zero, List.set_cons_succ]
              refine wpAnyH_take (i := 7) (oi := _) (v := ?_) rfl (by kernel_rfl) (by kernel_rfl) (by kernel_rfl) (fun _ _ _ h => h) (Or.inl ⟨by rfl, ?_⟩) (by assumption) ?_
              rotate_left
              · first | (intro w' hSw; (try dsimp only at hSw); go_simp; done) | (intro w' hSw; (try dsimp only at hSw); go_simp; with_reducible rfl)
              try simp only [Act.put, List.getElem_toArray, List.getElem_cons_zero, List.getElem_cons_succ, List.setIfInBounds_toArray, List.set_cons_zero, List.set_cons_succ]
              refine wpAnyH_take (i := 8) (oi := _) (v := ?_) rfl (by kernel_rfl) (by kernel_rfl) (by kernel_rfl) (fun _ _ _ h => h) (Or.inl ⟨by rfl, ?_⟩) (by assumption) ?_
              rotate_left
              · first | (intro w' hSw; (try dsimp only at hSw); go_simp; done) | (intro w' hSw; (try dsimp only at hSw); go_simp; with_reducible rfl)
              try simp only [Act.put, List.getElem_toArray, List.getElem_cons_zero, List.getElem_cons_succ, List.setIfInBounds_toArray, List.set_cons_zero, List.set_cons_succ]
              refine wpAnyH_take (i := 9) (oi := _) (v := ?_) rfl (by kernel_rfl) (by kernel_rfl) (by kernel_rfl) (fun _ _ _ h => h) (Or.inl ⟨by rfl, ?_⟩) (by assumption) ?_
              rotate_left
              · first | (intro w' hSw; (try dsimp only at hSw); go_simp; done) | (intro w' hSw; (try dsimp only at hSw); go_simp; with_reducible rfl)
              try simp only [Act.put, List.getElem_toArray, List.getElem_cons_zero, List.getElem_cons_succ, List.setIfInBounds_toArray, List.set_cons_zero, List.set_cons_succ]
              refine wpAnyH_take (i := 10) (oi := _) (v := ?_) rfl (by kernel_rfl) (by kernel_rfl) (by kernel_rfl) (fun _ _ _ h => h) (Or.inl ⟨by rfl, ?_⟩) (by assumption) ?_
              rotate_left
              · first | (intro w' hSw; (try dsimp only at hSw); go_simp; done) | (intro w' hSw; (try dsimp only at hSw); go_simp; with_reducible rfl)
              try simp only [Act.put, List.getElem_toArray, List.getElem_cons_zero, List.getElem_cons_succ, List.setIfInBounds_toArray, List.set_cons_zero, List.set_cons_succ]
              refine wpAnyH_done (by kernel_rfl) ?_ _
              clear f0 f1 f2 f3 f4 f5 hx hy hyn
              go_wp2
              go_loopw [10] (fun i wk => ∃ j : Nat, j ≤ row.length ∧ i = .int .i64 j ∧ belowB (row.take j) y = true ∧ Below wr.heap.size wr wk) (fun i _ => row.length - (intOf i).toNat)
              case atStart => exact ⟨0, Nat.zero_le _, rfl, rfl, map_drew (Below.refl _ _)⟩
              case round =>
                obtain ⟨j, hj, rfl, hbl, hdk⟩ := hrel
                have HBL := Lib.hid hbl
                have HDK := Lib.hid hdk
                have f4 := cell_keep hdk HCK.out.1
                have f5 := cell_keep hdk HCK.out.2.1
                have hx := cell_keep hdk HCK.out.2.2.1
                have hyn := cell_keep hdk HCK.out.2.2.2
                clear hbl hdk
                by_cases hjt : j < row.length
                · have hjt' : (j : Int) < (row.length : Int) := by omega
                  obtain ⟨b7, o7, c7, e, hv7⟩ := (HRW.out.keep HDK.out).at_ hjt
                  cases e
                  have HT := Lib.hid (belowB_step (z := y) hjt)
                  have HN := Lib.hid (belowB_no (z := y) hjt)
                  generalize row[j] = x at hv7 HT HN
                  obtain ⟨r, hr⟩ : ∃ r, inSize y x = r := ⟨_, rfl⟩
                  rw [hr] at HT HN
                  have HR := Lib.hid (inSize_pred.trans hr)
                  have hyw : IntKind.i64.wrap (y - 1) = y - 1 := by have := HYS.out; rw [IntKind.wrap_i64]; omega
                  clear hr
                  go_wp2_with fail
                  refine wp_region_held_drew (S := (fun w' => w'.cell? ⟨b4, o4 + k, none⟩ = some (.slice (some ⟨b7, o7, none⟩) row.length d6) ∧ w'.cell? ⟨b7, o7 + j, none⟩ = some (.int .i64 x) ∧ w'.cell? ⟨w.heap.size + 1 + 1, 0, none⟩ = some (.slice (some ⟨b6, o6, none⟩) n.sizes.length cna) ∧ w'.cell? ⟨b6, o6 + k, none⟩ = some (.int .i64 y))) (by kernel_rfl) ?_ (fun hHeld => ?_)
                  · exact ⟨hx, hv7, f4, hyn⟩
                  refine wpAnyH_take (i := 0) (oi := _) (v := ?_) rfl (by kernel_rfl) (by kernel_rfl) (by kernel_rfl) (fun _ _ _ h => h) (Or.inl ⟨by rfl, ?_⟩) (by assumption) ?_
                  rotate_left
                  · first | (intro w' hSw; (try dsimp only at hSw); go_simp; done) | (intro w' hSw; (try dsimp only at hSw); go_simp; with_reducible rfl)
                  try simp only [Act.put, List.getElem_toArray, List.getElem_cons_zero, List.getElem_cons_succ, List.setIfInBounds_toArray, List.set_cons_zero, List.set_cons_succ]
                  refine wpAnyH_take (i := 1) (oi := _) (v := ?_) rfl (by kernel_rfl) (by kernel_rfl) (by kernel_rfl) (fun _ _ _ h => h) (Or.inl ⟨by rfl, ?_⟩) (by assumption) ?_
                  rotate_left
                  · first | (intro w' hSw; (try dsimp only at hSw); go_simp; done) | (intro w' hSw; (try dsimp only at hSw); go_simp; with_reducible rfl)
                  try simp only [Act.put, List.getElem_toArray, List.getElem_cons_zero, List.getElem_cons_succ, List.setIfInBounds_toArray, List.set_cons_zero, List.set_cons_succ]
                  refine wpAnyH_take (i := 2) (oi := _) (v := ?_) rfl (by kernel_rfl) (by kernel_rfl) (by kernel_rfl) (fun _ _ _ h => h) (Or.inl ⟨by rfl, ?_⟩) (by assumption) ?_
                  rotate_left
                  · first | (intro w' hSw; (try dsimp only at hSw); go_simp; done) | (intro w' hSw; (try dsimp only at hSw); go_simp; with_reducible rfl)
                  try simp only [Act.put, List.getElem_toArray, List.getElem_cons_zero, List.getElem_cons_succ, List.setIfInBounds_toArray, List.set_cons_zero, List.set_cons_succ]
                  refine wpAnyH_take (i := 3) (oi := _) (v := ?_) rfl (by kernel_rfl) (by kernel_rfl) (by kernel_rfl) (fun _ _ _ h => h) (Or.inl ⟨by rfl, ?_⟩) (by assumption) ?_
                  rotate_left
                  · first | (intro w' hSw; (try dsimp only at hSw); go_simp; done) | (intro w' hSw; (try dsimp only at hSw); go_simp; with_reducible rfl)
                  try simp only [Act.put, List.getElem_toArray, List.getElem_cons_zero, List.getElem_cons_succ, List.setIfInBounds_toArray, List.set_cons_zero, List.set_cons_succ]
                  refine wpAnyH_take (i := 4) (oi := _) (v := ?_) rfl (by kernel_rfl) (by kernel_rfl) (by kernel_rfl) (fun _ _ _ h => h) (Or.inl ⟨by rfl, ?_⟩) (by assumption) ?_
                  rotate_left
                  · first | (intro w' hSw; (try dsimp only at hSw); go_simp; done) | (intro w' hSw; (try dsimp only at hSw); go_simp; with_reducible rfl)
                  try simp only [Act.put, List.getElem_toArray, List.getElem_cons_zero, List.getElem_cons_succ, List.setIfInBounds_toArray, List.set_cons_zero, List.set_cons_succ]
                  refine wpAnyH_take (i := 5) (oi := _) (v := ?_) rfl (by kernel_rfl) (by kernel_rfl) (by kernel_rfl) (fun _ _ _ h => h) (Or.inl ⟨by rfl, ?_⟩) (by assumption) ?_
                  rotate_left
                  · first | (intro w' hSw; (try dsimp only at hSw); go_simp; done) | (intro w' hSw; (try dsimp only at hSw); go_simp; with_reducible rfl)
                  try simp only [Act.put, List.getElem_toArray, List.getElem_cons_zero, List.getElem_cons_succ, List.setIfInBounds_toArray, List.set_cons_zero, List.set_cons_succ]
                  refine wpAnyH_take (i := 6) (oi := _) (v := ?_) rfl (by kernel_rfl) (by kernel_rfl) (by kernel_rfl) (fun _ _ _ h => h) (Or.inl ⟨by rfl, ?_⟩) (by assumption) ?_
                  rotate_left
                  · first | (intro w' hSw; (try dsimp only at hSw); go_simp; done) | (intro w' hSw; (try dsimp only at hSw); go_simp; with_reducible rfl)
                  try simp only [Act.put, List.getElem_toArray, List.getElem_cons_zero, List.getElem_cons_succ, List.setIfInBounds_toArray, List.set_cons_zero, List.set_cons_succ]
                  refine wpAnyH_take (i := 7) (oi := _) (v := ?_) rfl (by kernel_rfl) (by kernel_rfl) (by kernel_rfl) (fun _ _ _ h => h) (Or.inl ⟨by rfl, ?_⟩) (by assumption) ?_
                  rotate_left
                  · first | (intro w' hSw; (try dsimp only at hSw); go_simp; done) | (intro w' hSw; (try dsimp only at hSw); go_simp; with_reducible rfl)
                  try simp only [Act.put, List.getElem_toArray, List.getElem_cons_zero, List.getElem_cons_succ, List.setIfInBounds_toArray, List.set_cons_zero, List.set_cons_succ]
                  refine wpAnyH_take (i := 8) (oi := _) (v := ?_) rfl (by kernel_rfl) (by kernel_rfl) (by kernel_rfl) (fun _ _ _ h => h) (Or.inl ⟨by rfl, ?_⟩) (by assumption) ?_
                  rotate_left
                  · first | (intro w' hSw; (try dsimp only at hSw); go_simp; done) | (intro w' hSw; (try dsimp only at hSw); go_simp; with_reducible rfl)
                  try simp only [Act.put, List.getElem_toArray, List.getElem_cons_zero, List.getElem_cons_succ, List.setIfInBounds_toArray, List.set_cons_zero, List.set_cons_succ]
                  refine wpAnyH_take (i := 9) (oi := _) (v := ?_) rfl (by kernel_rfl) (by kernel_rfl) (by kernel_rfl) (fun _ _ _ h => h) (Or.inl ⟨by rfl, ?_⟩) (by assumption) ?_
                  rotate_left
                  · first | (intro w' hSw; (try dsimp only at hSw); go_simp; done) | (intro w' hSw; (try dsimp only at hSw); go_simp; with_reducible rfl)
                  try simp only [Act.put, List.getElem_toArray, List.getElem_cons_zero, List.getElem_cons_succ, List.setIfInBounds_toArray, List.set_cons_zero, List.set_cons_succ]
                  refine wpAnyH_take (i := 10) (oi := _) (v := ?_) rfl (by kernel_rfl) (by kernel_rfl) (by kernel_rfl) (fun _ _ _ h => h) (Or.inl ⟨by rfl, ?_⟩) (by assumption) ?_
                  rotate_left
                  · first | (intro w' hSw; (try dsimp only at hSw); go_simp; done) | (intro w' hSw; (try dsimp only at hSw); go_simp; with_reducible rfl)
                  try simp only [Act.put, List.getElem_toArray, List.getElem_cons_zero, List.getElem_cons_succ, List.setIfInBounds_toArray, List.set_cons_zero, List.set_cons_succ]
                  refine wpAnyH_take (i := 11) (oi := _) (v := ?_) rfl (by kernel_rfl) (by kernel_rfl) (by kernel_rfl) (fun _ _ _ h => h) (Or.inl ⟨by rfl, ?_⟩) (by assumption) ?_
                  rotate_left
                  · first | (intro w' hSw; (try dsimp only at hSw); go_simp; done) | (intro w' hSw; (try dsimp only at hSw); go_simp; with_reducible rfl)
                  try simp only [Act.put, List.getElem_toArray, List.getElem_cons_zero, List.getElem_cons_succ, List.setIfInBounds_toArray, List.set_cons_zero, List.set_cons_succ]
                  refine wpAnyH_take (i := 12) (oi := _) (v := ?_) rfl (by kernel_rfl) (by kernel_rfl) (by kernel_rfl) (fun _ _ _ h => h) (Or.inl ⟨by rfl, ?_⟩) (by assumption) ?_
                  rotate_left
                  · first | (intro w' hSw; (try dsimp only at hSw); go_simp; done) | (intro w' hSw; (try dsimp only at hSw); go_simp; with_reducible rfl)
                  try simp only [Act.put, List.getElem_toArray, List.getElem_cons_zero, List.getElem_cons_succ, List.setIfInBounds_toArray, List.set_cons_zero, List.set_cons_succ]
                  refine wpAnyH_ready (rs := [13]) (by kernel_rfl) (by simp) ?_
                  refine AllReadyH.cons (o := _) rfl (fun K hK => ?_) AllReadyH.nil
                  go_simp
                  refine (l1In_is x 0 (y - 1) _ r HR.out).mono ?_
                  rintro e w7 ⟨rfl, rfl⟩
                  have HX7 := Lib.hid (map_drew HDK.out)
                  go_wp2_with fail
                  refine hK.out _ _ ?_ (fun hHeld => ?_)
                  · exact ⟨hx, hv7, f4, hyn⟩
                  clear hK K
                  try simp only [Act.put, List.getElem_toArray, List.getElem_cons_zero, List.getElem_cons_succ, List.setIfInBounds_toArray, List.set_cons_zero, List.set_cons_succ]
                  refine wpAnyH_take (i := 14) (oi := _) (v := ?_) rfl (by kernel_rfl) (by kernel_rfl) (by kernel_rfl) (fun _ _ _ h => h) (Or.inl ⟨by rfl, ?_⟩) (by assumption) ?_
                  rotate_left
                  · first | (intro w' hSw; (try dsimp only at hSw); go_simp; done) | (intro w' hSw; (try dsimp only at hSw); go_simp; with_reducible rfl)
                  try simp only [Act.put, List.getElem_toArray, List.getElem_cons_zero, List.getElem_cons_succ, List.setIfInBounds_toArray, List.set_cons_zero, List.set_cons_succ]
                  refine wpAnyH_done (by kernel_rfl) ?_ _
                  clear f4 f5 hx hyn hv7
                  cases r with
                  | true =>
                    go_wp2
                    go_roundw
                    case rel => exact ⟨j + 1, by omega, by go_num, by rw [HT.out, HBL.out]; rfl, HX7.out⟩
                    case measure => simp [intOf]; omega
                  | false =>
                    have HF := Lib.hid (HNO.out (HR2.out (HN.out rfl)))
                    go_wp2
                    go_ret
                    exact ⟨ret_bool HF.out.symm, sz_keep HB.out (sz_keep HD.out HX7.out)⟩
                · have hjn : j = row.length := by omega
                  have hjt' : ¬ (j : Int) < (row.length : Int) := by omega
                  have HT := Lib.hid (show row.take j = row from take_all (by omega))
                  rw [HT.out] at HBL
                  have HF := Lib.hid (HR3.out HLZ.out HBL.out)
                  go_wp2
                  go_roundw
                  case rel => exact ⟨k + 1, by omega, by go_num, by rw [HTS.out, HALL.out, HF.out]; rfl, sz_keep HD.out HDK.out⟩
                  case measure => simp [intOf]; omega
            · have e2 : ((row.length : Int) != z) = true := by simpa using hlz
              have HF := Lib.hid (HNO.out (HR1.out hlz))
              clear hlz
              go_wp2_with fail
              refine wp_region_held_drew (S := (fun w' => w'.cell? ⟨b4, o4 + k, none⟩ = some (.slice A6 row.length d6) ∧ w'.cell? ⟨w.heap.size + 1, 0, none⟩ = some (.slice (some ⟨b5, o5, none⟩) m.sizes.length cma) ∧ w'.cell? ⟨b5, o5 + k, none⟩ = some (.int .i64 z))) (by kernel_rfl) ?_ (fun hHeld => ?_)
              · exact ⟨hx, f2, hy⟩
              refine wpAnyH_take (i := 0) (oi := _) (v := ?_) rfl (by kernel_rfl) (by kernel_rfl) (by kernel_rfl) (fun _ _ _ h => h) (Or.inl ⟨by rfl, ?_⟩) (by assumption) ?_
              rotate_left
              · first | (intro w' hSw; (try dsimp only at hSw); go_simp; done) | (intro w' hSw; (try dsimp only at hSw); go_simp; with_reducible rfl)
              try simp only [Act.put, List.getElem_toArray, List.getElem_cons_zero, List.getElem_cons_succ, List.setIfInBounds_toArray, List.set_cons_zero, List.set_cons_succ]
              refine wpAnyH_take (i := 1) (oi := _) (v := ?_) rfl (by kernel_rfl) (by kernel_rfl) (by kernel_rfl) (fun _ _ _ h => h) (Or.inl ⟨by rfl, ?_⟩) (by assumption) ?_
              rotate_left
              · first | (intro w' hSw; (try dsimp only at hSw); go_simp; done) | (intro w' hSw; (try dsimp only at hSw); go_simp; with_reducible rfl)
              try simp only [Act.put, List.getElem_toArray, List.getElem_cons_zero, List.getElem_cons_succ, List.setIfInBounds_toArray, List.set_cons_zero, List.set_cons_succ]
              refine wpAnyH_take (i := 2) (oi := _) (v := ?_) rfl (by kernel_rfl) (by kernel_rfl) (by kernel_rfl) (fun _ _ _ h => h) (Or.inl ⟨by rfl, ?_⟩) (by assumption) ?_
              rotate_left
              · first | (intro w' hSw; (try dsimp only at hSw); go_simp; done) | (intro w' hSw; (try dsimp only at hSw); go_simp; with_reducible rfl)
              try simp only [Act.put, List.getElem_toArray, List.getElem_cons_zero, List.getElem_cons_succ, List.setIfInBounds_toArray, List.set_cons_zero, List.set_cons_succ]
              refine wpAnyH_take (i := 3) (oi := _) (v := ?_) rfl (by kernel_rfl) (by kernel_rfl) (by kernel_rfl) (fun _ _ _ h => h) (Or.inl ⟨by rfl, ?_⟩) (by assumption) ?_
              rotate_left
              · first | (intro w' hSw; (try dsimp only at hSw); go_simp; done) | (intro w' hSw; (try dsimp only at hSw); go_simp; with_reducible rfl)
              try simp only [Act.put, List.getElem_toArray, List.getElem_cons_zero, List.getElem_cons_succ, List.setIfInBounds_toArray, List.set_cons_zero, List.set_cons_succ]
              refine wpAnyH_take (i := 4) (oi := _) (v := ?_) rfl (by kernel_rfl) (by kernel_rfl) (by kernel_rfl) (fun _ _ _ h => h) (Or.inl ⟨by rfl, ?_⟩) (by assumption) ?_
              rotate_left
              · first | (intro w' hSw; (try dsimp only at hSw); go_simp; done) | (intro w' hSw; (try dsimp only at hSw); go_simp; with_reducible rfl)
              try simp only [Act.put, List.getElem_toArray, List.getElem_cons_zero, List.getElem_cons_succ, List.setIfInBounds_toArray, List.set_cons_zero, List.set_cons_succ]
              refine wpAnyH_take (i := 5) (oi := _) (v := ?_) rfl (by kernel_rfl) (by kernel_rfl) (by kernel_rfl) (fun _ _ _ h => h) (Or.inl ⟨by rfl, ?_⟩) (by assumption) ?_
              rotate_left
              · first | (intro w' hSw; (try dsimp only at hSw); go_simp; done) | (intro w' hSw; (try dsimp only at hSw); go_simp; with_reducible rfl)
              try simp only [Act.put, List.getElem_toArray, List.getElem_cons_zero, List.getElem_cons_succ, List.setIfInBounds_toArray, List.set_cons_zero, List.set_cons_succ]
              refine wpAnyH_take (i := 6) (oi := _) (v := ?_) rfl (by kernel_rfl) (by kernel_rfl) (by kernel_rfl) (fun _ _ _ h => h) (Or.inl ⟨by rfl, ?_⟩) (by assumption) ?_
              rotate_left
              · first | (intro w' hSw; (try dsimp only at hSw); go_simp; done) | (intro w' hSw; (try dsimp only at hSw); go_simp; with_reducible rfl)
              try simp only [Act.put, List.getElem_toArray, List.getElem_cons_zero, List.getElem_cons_succ, List.setIfInBounds_toArray, List.set_cons_zero, List.set_cons_succ]
              refine wpAnyH_take (i := 7) (oi := _) (v := ?_) rfl (by kernel_rfl) (by kernel_rfl) (by kernel_rfl) (fun _ _ _ h => h) (Or.inl ⟨by rfl, ?_⟩) (by assumption) ?_
              rotate_left
              · first | (intro w' hSw; (try dsimp only at hSw); go_simp; done) | (intro w' hSw; (try dsimp only at hSw); go_simp; with_reducible rfl)
              try simp only [Act.put, List.getElem_toArray, List.getElem_cons_zero, List.getElem_cons_succ, List.setIfInBounds_toArray, List.set_cons_zero, List.set_cons_succ]
              refine wpAnyH_take (i := 8) (oi := _) (v := ?_) rfl (by kernel_rfl) (by kernel_rfl) (by kernel_rfl) (fun _ _ _ h => h) (Or.inl ⟨by rfl, ?_⟩) (by assumption) ?_
              rotate_left
              · first | (intro w' hSw; (try dsimp only at hSw); go_simp; done) | (intro w' hSw; (try dsimp only at hSw); go_simp; with_reducible rfl)
              try simp only [Act.put, List.getElem_toArray, List.getElem_cons_zero, List.getElem_cons_succ, List.setIfInBounds_toArray, List.set_cons_zero, List.set_cons_succ]
              refine wpAnyH_take (i := 9) (oi := _) (v := ?_) rfl (by kernel_rfl) (by kernel_rfl) (by kernel_rfl) (fun _ _ _ h => h) (Or.inl ⟨by rfl, ?_⟩) (by assumption) ?_
              rotate_left
              · first | (intro w' hSw; (try dsimp only at hSw); go_simp; done) | (intro w' hSw; (try dsimp only at hSw); go_simp; with_reducible rfl)
              try simp only [Act.put, List.getElem_toArray, List.getElem_cons_zero, List.getElem_cons_succ, List.setIfInBounds_toArray, List.set_cons_zero, List.set_cons_succ]
              refine wpAnyH_take (i := 10) (oi := _) (v := ?_) rfl (by kernel_rfl) (by kernel_rfl) (by kernel_rfl) (fun _ _ _ h => h) (Or.inl ⟨by rfl, ?_⟩) (by assumption) ?_
              rotate_left
              · first | (intro w' hSw; (try dsimp only at hSw); go_simp; done) | (intro w' hSw; (try dsimp only at hSw); go_simp; with_reducible rfl)
              try simp only [Act.put, List.getElem_toArray, List.getElem_cons_zero, List.getElem_cons_succ, List.setIfInBounds_toArray, List.set_cons_zero, List.set_cons_succ]
              refine wpAnyH_done (by kernel_rfl) ?_ _
              clear f0 f1 f2 f3 f4 f5 hx hy hyn
              go_wp2
              go_ret
              exact ⟨ret_bool HF.out.symm, map_drew (sz_keep HB.out HD.out)⟩
          · have hkn : k = h.length := by omega
            have hlt' : ¬ (k : Int) < (h.length : Int) := by omega
            subst hkn
            have HRO := Lib.hid (hom_rows HMA.out HMB.out HLS.out HALL.out)
            have HIS := Lib.hid (hom_is HMA.out HMB.out HLS.out HALL.out)
            have HCK := Lib.hid (And.intro f0 (And.intro f1 (And.intro f2 (And.intro f3 (And.intro f4 f5)))))
            have HNF := Lib.hid (fun e => hom_no5 (s := s) (a := m) (b := n) (h := h) e)
            obtain ⟨wx, hwx⟩ : ∃ x : World, x = wr := ⟨_, rfl⟩
            subst hwx
            go_wp2
            clear f0 f1 f2 f3 f4 f5 HALL
            go_loopw [11, 12, 13, 14, 15, 16, 17, 18] (fun i _ _ _ _ _ _ _ wr => ∃ k : Nat, k ≤ s.ops.length ∧ i = .int .i64 k ∧ allN (homOp s m n h) k = true ∧ Below wx.heap.size wx wr) (fun i _ _ _ _ _ _ _ _ => s.ops.length - (intOf i).toNat)
            case atStart => exact ⟨0, Nat.zero_le _, rfl, rfl, Below.refl _ _⟩
            case round =>
              obtain ⟨k, hk, rfl, hall, hd⟩ := hrel
              have HALL := Lib.hid hall
              have HDW := Lib.hid (sz_keep HD.out hd)
              have f0 := cell_keep hd HCK.out.1
              have f1 := cell_keep hd HCK.out.2.1
              have f2 := cell_keep hd HCK.out.2.2.1
              have f3 := cell_keep hd HCK.out.2.2.2.1
              have f4 := cell_keep hd HCK.out.2.2.2.2.1
              have f5 := cell_keep hd HCK.out.2.2.2.2.2
              have HDX := Lib.hid hd
              clear hall hd
              by_cases hks : k < s.ops.length
              · have hks' : (k : Int) < (s.ops.length : Int) := by omega
                obtain ⟨b4, o4, c4, u4, e, hx, hr4⟩ := (Hs.out.of.2.keep HDW.out).at_ hks
                cases e
                obtain ⟨r1, r2, r3⟩ := opRow_valid HFM.out.va hks
                have HRI : Hid (RInts wr u4 (opRow s k)) := by rw [opRow_at hks]; exact hr4
                have HTS := Lib.hid (allN_succ (homOp s m n h) k)
                have HTN := Lib.hid (fun e => allN_bad (p := homOp s m n h) hks e)
                have HOA := Lib.hid (HRO.out.fa.op hks)
                have HOB := Lib.hid (HRO.out.fb.op hks)
                have HIN := Lib.hid (fun j : Int => HRO.out.in_ hks j)
                have HLH := Lib.hid (HRO.out.le)
                have HSM := Lib.hid (show m.sizes.length ≤ 3 ∧ n.sizes.length ≤ 3 ∧ n.sizes.length = m.sizes.length from ⟨HFM.out.sorts.1, HFN.out.sorts.1, by have := HFM.out.sl; have := HFN.out.sl; omega⟩)
                have HXI : Hid (∀ x ∈ opRow s k, 0 ≤ x ∧ x < (m.sizes.length : Int)) := fun x hx => by have := r3 x hx; have := HFM.out.sl; omega
                have hkm : k < m.tables.length := by have := HFM.out.tl; omega
                have hkn : k < n.tables.length := by have := HFN.out.tl; omega
                have hkm' : (k : Int) < (m.tables.length : Int) := by omega
                have hkn' : (k : Int) < (n.tables.length : Int) := by omega
                obtain ⟨bm, om, cm, um, e, hym, hrm⟩ := (Hm.out.of.2.keep HDW.out).at_ hkm
                cases e
                obtain ⟨bn, on, cn, un, e, hyn, hrn⟩ := (Hn.out.of.2.keep HDW.out).at_ hkn
                cases e
                have HMT : Hid (RInts wr um (m.tables.getD k [])) := by rw [getD_at _ hkm]; exact hrm
                have HNT : Hid (RInts wr un (n.tables.getD k [])) := by rw [getD_at _ hkn]; exact hrn
                obtain ⟨Am, dm, rfl, -, -⟩ := HMT.out.form
                obtain ⟨An, dn, rfl, -, -⟩ := HNT.out.form
                have HAT := Lib.hid (fun j (hj : j < (m.tables.getD k []).length) e => homOp_at2 (s := s) (m := m) (n := n) (h := h) hj e)
                have HAS : Hid (homOp s m n h k = allN (homAt s m n h k) (m.tables.getD k []).length) := Lib.hid rfl
                rw [homAt_to] at HAT HAS
                clear hrn hrm hr4 r3
                generalize opRow s k = row at HRI HOA HOB HIN HXI HAT HAS r1 r2
                generalize m.tables.getD k [] = table at HMT HOA hym HAT HAS
                generalize n.tables.getD k [] = tableN at HNT HOB hyn HAT HAS
                obtain ⟨nr, hnr⟩ : ∃ nr : Nat, row.length = nr + 1 := ⟨row.length - 1, by omega⟩
                have hne : nr < row.length := by omega
                obtain ⟨br, or_, cr, rfl, hyr⟩ := HRI.out.at_ hne
                have HLR := Lib.hid (last_row hnr hne)
                have HNR := Lib.hid hnr
                have HZ4 := Lib.hid HOA.out.zlen
                have HZ6 := Lib.hid HOB.out.zlen
                have HFW := Lib.hid HOA.out.few
                have HSA := Lib.hid HOA.out.siz
                have HSB := Lib.hid HOB.out.siz
                have HLA := Lib.hid HOA.out.len
                have HLB := Lib.hid HOB.out.len
                have HVL := Lib.hid HOA.out.val
                have HLI := Lib.hid HOA.out.lin
                have HLL := Lib.hid (show (ledM m.sizes row.dropLast).length = nr by rw [ledM_len, List.length_dropLast, hnr]; rfl)
                have HPA := Lib.hid (fun (w0 : World) (v0 v1 v2 : Value) (vals : List Int) (q0 : RInts w0 v0 m.sizes) (q1 : RInts w0 v1 row) (q2 : RInts w0 v2 vals) q3 => l6Place_any m.sizes row vals w0 v0 v1 v2 q0 q1 q2 r2 HOA.out.siz HXI.out HSM.out.1 q3)
                have HPB := Lib.hid (fun (w0 : World) (v0 v1 v2 : Value) (vals : List Int) (q0 : RInts w0 v0 n.sizes) (q1 : RInts w0 v1 row) (q2 : RInts w0 v2 vals) q3 => l6Place_any n.sizes row vals w0 v0 v1 v2 q0 q1 q2 r2 HOB.out.siz (by rw [HSM.out.2.2]; exact HXI.out) HSM.out.2.1 q3)
                have HTO := Lib.hid (fun j => (show homTo m n h row.dropLast (row.getLastD (-1)) table tableN j = decide (tableN.getD (placeM 0 (ledM n.sizes row.dropLast) (ledV h row.dropLast (digM (ledM m.sizes row.dropLast) j))).toNat 0 = ledOne h (row.getLastD (-1)) (table.getD j 0)) from rfl))
                obtain ⟨p, hp⟩ : ∃ p, homTo m n h row.dropLast (row.getLastD (-1)) table tableN = p := ⟨_, rfl⟩
                rw [hp] at HAT HAS HTO
                rw [HLR.out] at HTO HLI HVL
                clear hp HLR HOA HOB
                generalize row[nr] = last at hyr HTO HLI HVL
                have HLIM := Lib.hid (fun (w0 : World) (v0 v1 : Value) (q0 : RInts w0 v0 m.sizes) (q1 : RInts w0 v1 row) => l6Limits_any m.sizes row w0 v0 v1 q0 q1 r1 r2 HXI.out HSM.out.1)
                have HDL9 := Lib.hid (fun (i : Nat) (hi : i < nr) (hi' : i < row.length) (hi2 : i < row.dropLast.length) => (show row.dropLast[i] = row[i] from List.getElem_dropLast hi2))
                have HDN := Lib.hid (show row.dropLast.length = nr by rw [List.length_dropLast, hnr]; rfl)
                generalize ledM m.sizes row.dropLast = zs at HIN HZ4 HSA HLA HTO HPA HLL HLIM
                generalize ledM n.sizes row.dropLast = ys at HIN HZ6 HSB HLB HTO HPB
                generalize row.dropLast = takes at HIN HTO HDL9 HDN
                have hrl3 : row.length ≤ 3 := r2
                have hrl3' : (row.length : Int) ≤ 3 := by omega
                have hnr2 : nr ≤ 2 := by omega
                clear r1 hnr hne
                go_wp2_with fail
                refine (HLIM.out _ _ _ (Hm.out.of.1.keep HDW.out) HRI.out).mono ?_
                rintro x w5 ⟨u5, rfl, ho5, hb5⟩
                have HO5 := Lib.hid ho5.reads
                obtain ⟨A5, c5, rfl, -⟩ := ho5.reads.form
                have HX5 := Lib.hid hb5
                clear ho5
                obtain ⟨N, hN⟩ : ∃ N : Nat, waysM zs = (N : Int) := ⟨(waysM zs).toNat, by have := ways_pos HSA.out; omega⟩
                have HN := Lib.hid hN
                have hwp : 1 ≤ (N : Int) := by have := ways_pos HSA.out; omega
                have hwf : (N : Int) ≤ 81 := by have := ways_few HSA.out HZ4.out; omega
                have HNL := Lib.hid (show table.length = N by have := HLA.out; omega)
                have hzl := HZ4.out
                have hmk := run_make_row' (P := Try.prog) 25 3 (.int .i64 0) 8 Try.underlying25 Try.tinfo_int rfl .i64 .i64 zs.length (by omega) (by omega)
                have hba := below_alloc w5 (.cells (madeCells #[.int .i64 0] zs.length) 3)
                have hbn := World.alloc_heap_new w5 (.cells (madeCells #[.int .i64 0] zs.length) 3)
                have ho0 : OInts (w5.alloc (.cells (madeCells #[.int .i64 0] zs.length) 3)) w5.heap.size (.slice (some ⟨w5.heap.size, 0, none⟩) zs.length zs.length) (digM zs 0) := by
                  rw [made_zero, ← dig_zero] at hbn ⊢
                  have := row_owns (B := w5.heap.size) hbn (Nat.le_refl _) (by rw [digM_len]; omega)
                  rw [digM_len] at this
                  exact this
                generalize hW6 : w5.alloc (.cells (madeCells #[.int .i64 0] zs.length) 3) = w6 at hba ho0
                have HBA := Lib.hid hba
                have HO0 := Lib.hid ho0
                have HG := Lib.hid (And.intro (cell_keep hb5 f2) (And.intro (cell_keep hb5 f3) (And.intro (cell_keep hb5 f4) (And.intro (cell_keep hb5 f5) (And.intro (cell_keep hb5 hym) (And.intro (cell_keep hb5 hyn) (cell_keep hb5 hyr)))))))
                have HR5 := Lib.hid (HRI.out.keep hb5)
                have HMT5 := Lib.hid (HMT.out.keep hb5)
                have HNT5 := Lib.hid (HNT.out.keep hb5)
                have HD5 := Lib.hid (sz_keep HDW.out hb5)
                have HD5X := Lib.hid (sz_keep HDX.out hb5)
                clear hN hba ho0 hbn hb5
                clear f0 f1 f2 f3 f4 f5 hym hyn hyr hx
                go_wp2
                clear hmk hW6
                go_loopw [15, 16, 17, 18] (fun q _ _ _ wk => ∃ (b : Bool) (j : Nat), q = .bool b ∧ (b = true → j < N) ∧ (b = false → j = N) ∧ allN p j = true ∧ (b = true → OInts wk w5.heap.size (.slice (some ⟨w5.heap.size, 0, none⟩) zs.length zs.length) (digM zs j)) ∧ Below w5.heap.size w5 wk) (fun q _ _ _ wk => leftM zs N w5.heap.size q wk)
                case atStart => exact ⟨true, 0, rfl, (fun _ => by omega), (fun h => absurd h (by simp)), rfl, (fun _ => HO0.out), HBA.out⟩
                case round =>
                  obtain ⟨b, j, rfl, hjlt, hjeq, hpj, hown, hdk⟩ := hrel
                  have HPJ := Lib.hid hpj
                  have HDK := Lib.hid hdk
                  clear hpj
                  cases b with
                  | false =>
                    have HPE : Hid (homOp s m n h k = true) := by
                      have e := hjeq rfl
                      have := HPJ.out
                      rw [e] at this
                      exact HAS.out.trans (by rw [HNL.out]; exact this)
                    clear hjlt hjeq hown hdk
                    go_wp2
                    go_roundw
                    case rel => exact ⟨k + 1, by omega, by go_num, by rw [HTS.out, HALL.out, HPE.out]; rfl, sz_keep HD5X.out HDK.out⟩
                    case measure => simp [intOf]; omega
                  | true =>
                    have hjN := hjlt rfl
                    have HO := Lib.hid (hown rfl)
                    have hjt : j < table.length := by have := HNL.out; omega
                    obtain ⟨hvi, hia⟩ := HIN.out (j : Int)
                    have HVI := Lib.hid hvi
                    have HIA := Lib.hid hia
                    have HPS := Lib.hid (allN_succ p j)
                    have HPTO := Lib.hid (HTO.out j)
                    have HDL := Lib.hid (digM_len zs (j : Int))
                    have HDI := Lib.hid (dig_in HSA.out (j : Int))
                    have HND := Lib.hid (next_dig HSA.out (j : Int) (by omega))
                    have HPD := Lib.hid (place_dig HSA.out 0 (j : Int) (by omega))
                    clear hjlt hjeq hown hvi hia
                    generalize hds : digM zs (j : Int) = ds at HO HVI HIA HPTO HDL HDI HND HPD
                    have HDS := Lib.hid hds
                    clear hds hdk
                    obtain ⟨wk, hwk⟩ : ∃ x : World, x = wr := ⟨_, rfl⟩
                    subst hwk
                    have hwk9 := HDK.out.size
                    go_wp2
                    go_loopw [16, 17] (fun q i wi => ∃ t : Nat, t ≤ zs.length ∧ i = .int .i64 t ∧ OInts wi wk.heap.size q (ledV h (takes.take t) (ds.take t)) ∧ Below wk.heap.size wk wi) (fun _ i _ => zs.length - (intOf i).toNat)
                    case atStart => exact ⟨0, Nat.zero_le _, rfl, own_empty wk, below_alloc _ _⟩
                    case round =>
                      obtain ⟨t, ht, rfl, hoi, hbi⟩ := hrel
                      obtain ⟨wi, hwi⟩ : ∃ x : World, x = wr := ⟨_, rfl⟩
                      subst hwi
                      have HBI := Lib.hid hbi
                      have HOI := Lib.hid hoi
                      clear hbi hoi
                      have HKI := Lib.hid (sz_keep HDK.out HBI.out)
                      have HKH := Lib.hid (sz_keep HD5.out HKI.out)
                      by_cases htz : t < zs.length
                      · obtain ⟨A9, c9, rfl, -⟩ := own_reads HOI.out
                        have htz' : (t : Int) < (zs.length : Int) := by omega
                        have htr : t < row.length := by have := HNR.out; have := HLL.out; omega
                        have htr' : (t : Int) < (row.length : Int) := by omega
                        have htd : t < ds.length := by have := HDL.out; omega
                        have htk : t < takes.length := by have := HDN.out; have := HLL.out; omega
                        obtain ⟨b8, o8, c8, e, hv8⟩ := HO.out.reads.at_ htd
                        have HE8 : Hid (b8 = w5.heap.size ∧ o8 = 0) := by injection e with e1 e2; injection e1 with e1; injection e1 with e1 e3; exact ⟨e1.symm, e3.symm⟩
                        rw [HE8.out.1, HE8.out.2, Nat.zero_add] at hv8
                        clear e HE8
                        obtain ⟨b10, o10, c10, e, hx10⟩ := (HR5.out.keep HDK.out).at_ htr
                        cases e
                        have HTK := Lib.hid (ledV_take (h := h) htk htd)
                        obtain ⟨q1, q2, q3, q4⟩ := HVI.out.2 t htk htd
                        have hdl9 := HDL9.out t (by have := HLL.out; omega) htr htk
                        rw [hdl9] at HTK q1 q2 q4
                        clear hdl9
                        generalize row[t] = sk at hx10 HTK q1 q2 q4
                        generalize ds[t] = vk at hv8 HTK q3 q4
                        obtain ⟨i2, rfl⟩ : ∃ i2 : Nat, sk = (i2 : Int) := ⟨sk.toNat, by omega⟩
                        obtain ⟨i3, rfl⟩ : ∃ i3 : Nat, vk = (i3 : Int) := ⟨vk.toNat, by omega⟩
                        have hi2 : i2 < h.length := by omega
                        unfold ledOne at HTK
                        rw [Int.toNat_natCast] at q4
                        rw [Int.toNat_natCast, Int.toNat_natCast] at HTK
                        rw [getD_at _ hi2] at HTK q4
                        obtain ⟨b11, o11, c11, u11, e, hx11, hr11⟩ := (HH.out.keep (sz_keep HD5.out HDK.out)).at_ hi2
                        cases e
                        generalize h[i2] = hrow at hx11 hr11 HTK q4
                        have hi3 : i3 < hrow.length := by omega
                        rw [getD_at _ hi3] at HTK
                        obtain ⟨b12, o12, c12, rfl, hx12⟩ := hr11.at_ hi3
                        generalize hrow[i3] = y at hx12 HTK
                        clear hr11
                        have hp0 : (ledV h (takes.take t) (ds.take t)).length = t := by rw [ledV_len (by rw [List.length_take, List.length_take]; omega), List.length_take]; omega
                        have HLEN := Lib.hid hp0
                        generalize hps : ledV h (takes.take t) (ds.take t) = ps at HOI HTK HLEN
                        clear hps hp0
                        have hs1 := HBI.out.size
                        have hp1 : ps.length + 1 ≤ maxLen := by rw [HLEN.out, maxLen_eq]; omega
                        have hp2 : (ps.length + 1) * 8 ≤ 140737488355328 := by rw [HLEN.out]; omega
                        have HP := Lib.hid (And.intro hp1 hp2)
                        have hs3 : wk.heap.size ≤ (wi.alloc (.cells #[.int .i64 y] 3)).heap.size := by simp; omega
                        have HS3 := Lib.hid hs3
                        have HO1 := Lib.hid (own_keep HOI.out (below_alloc wi (.cells #[.int .i64 y] 3)))
                        have HN1 := Lib.hid (led_new wi y)
                        have HC4 := Lib.hid (And.intro hx10 (And.intro hx11 (And.intro hv8 hx12)))
                        replace hx10 := cell_keep HBI.out hx10
                        replace hx11 := cell_keep HBI.out hx11
                        replace hv8 := cell_keep HBI.out hv8
                        replace hx12 := cell_keep HBI.out hx12
                        have ea := World.new_ne wi _ hx10
                        have eb := World.new_ne wi _ hx11
                        have ec := World.new_ne wi _ hv8
                        have ed := World.new_ne wi _ hx12
                        clear hp1 hp2 hs3
                        go_wp2_with fail
                        go_region_held3 (fun w' => w'.cell? ⟨br, or_ + t, none⟩ = some (.int .i64 (i2 : Int)) ∧ w'.cell? ⟨b11, o11 + i2, none⟩ = some (.slice (some ⟨b12, o12, none⟩) hrow.length c12) ∧ w'.cell? ⟨w5.heap.size, t, none⟩ = some (.int .i64 (i3 : Int)) ∧ w'.cell? ⟨b12, o12 + i3, none⟩ = some (.int .i64 y)) (first | go_keep | exact ⟨cell_keep HB6.out HC4.out.1, cell_keep HB6.out HC4.out.2.1, cell_keep HB6.out HC4.out.2.2.1, cell_keep HB6.out HC4.out.2.2.2⟩)
                          (first
                            | (refine step_append_own rfl (.tmp 107) (.tmp 121) 25 rfl wk.heap.size 3 i0 (.int .i64 0) 1 8 Try.underlying25 hi0 hz0 hz1 hz2 rfl (by omega) _ ps.length (ps.map (Value.int .i64)) rfl HO1.out.drew ⟨wi.heap.size, 0, none⟩ 1 1 ([y].map (Value.int .i64)) rfl (by simp) HN1.out (ints_one _) HP.out.1 HP.out.2 HS3.out ?_; intro v6 w6 hv6 hg6; have HB6 := Lib.hid (led_below HBI.out hg6 (fun k e => (own_lt HOI.out k e).1)); have HO6 := Lib.hid (led_app (rs := [y]) rfl hv6); clear hv6 hg6))
                        have hsl : (ps ++ [y]).length = t + 1 := by rw [List.length_append, HLEN.out]; rfl
                        clear hx10 hx11 hv8 hx12 ea eb ec ed hsl
                        obtain ⟨A6, c6, rfl, -⟩ := own_reads HO6.out
                        go_wp2
                        go_roundw
                        case rel => exact ⟨t + 1, by omega, by go_num, by rw [HTK.out]; exact HO6.out, HB6.out⟩
                        case measure => simp [intOf]; omega
                      · have htn : t = zs.length := by omega
                        have htz' : ¬ (t : Int) < (zs.length : Int) := by omega
                        have HTA := Lib.hid (show takes.take t = takes from take_all (by have := HDN.out; have := HLL.out; omega))
                        have HTB := Lib.hid (show ds.take t = ds from take_all (by have := HDL.out; omega))
                        rw [HTA.out, HTB.out] at HOI
                        obtain ⟨A9, c9, rfl, -⟩ := own_reads HOI.out
                        have HLSR := Lib.hid HOI.out.reads
                        have HDSR := Lib.hid (HO.out.keep HBI.out).reads
                        have HPI := Lib.hid (place_in HSB.out HIA.out)
                        have HPJ2 := Lib.hid (show placeM 0 zs ds = (j : Int) by rw [HPD.out, HN.out, Int.emod_eq_of_lt (by omega) (by omega)]; omega)
                        generalize ledV h takes ds = ls at HLSR HIA HPTO HPI HOI
                        generalize hpl : placeM 0 ys ls = pl at HPTO HPI
                        have HPL := Lib.hid hpl
                        clear hpl
                        obtain ⟨q, rfl⟩ : ∃ q : Nat, pl = (q : Int) := ⟨pl.toNat, by have := HPI.out; omega⟩
                        have hq : q < tableN.length := by have := HPI.out; have := HLB.out; omega
                        have hq' : (q : Int) < (tableN.length : Int) := by omega
                        have hq0 : (0 : Int) ≤ (q : Int) := by omega
                        have g2 := cell_keep HKI.out HG.out.1
                        have g3 := cell_keep HKI.out HG.out.2.1
                        have g4 := cell_keep HKI.out HG.out.2.2.1
                        have g5 := cell_keep HKI.out HG.out.2.2.2.1
                        have gm := cell_keep HKI.out HG.out.2.2.2.2.1
                        have gn := cell_keep HKI.out HG.out.2.2.2.2.2.1
                        have gr := cell_keep HKI.out HG.out.2.2.2.2.2.2
                        have hjt' : (j : Int) < (table.length : Int) := by omega
                        have hj0 : (0 : Int) ≤ (j : Int) := by omega
                        obtain ⟨b8, o8, c8, e, hv8⟩ := (HMT5.out.keep HKI.out).at_ hjt
                        cases e
                        have HGT := Lib.hid (show table.getD j 0 = table[j] from getD_at _ hjt)
                        have HVJ := Lib.hid (HVL.out _ (List.getElem_mem hjt))
                        generalize table[j] = x7 at hv8 HGT HVJ
                        rw [HGT.out] at HPTO
                        obtain ⟨b9, o9, d9, e, hv9⟩ := (HNT5.out.keep HKI.out).at_ hq
                        cases e
                        have HG2 := Lib.hid (show tableN.getD ((q : Nat) : Int).toNat 0 = tableN[q] by rw [Int.toNat_natCast, getD_at _ hq])
                        generalize tableN[q] = y7 at hv9 HG2
                        obtain ⟨l, hl⟩ : ∃ l : Nat, last = (l : Int) := ⟨last.toNat, by have := HLI.out; omega⟩
                        subst hl
                        have hlm : l < m.sizes.length := by have := HLI.out; omega
                        have hlh : l < h.length := by have := HLH.out.1; omega
                        have hlh' : (l : Int) < (h.length : Int) := by omega
                        have hl0 : (0 : Int) ≤ (l : Int) := by omega
                        obtain ⟨b11, o11, c11, u11, e, hv11, hr11⟩ := (HH.out.keep HKH.out).at_ hlh
                        cases e
                        obtain ⟨i7, rfl⟩ : ∃ i : Nat, x7 = (i : Int) := ⟨x7.toNat, by have := HVJ.out; omega⟩
                        have HLE := Lib.hid (HLH.out.2 l hlm)
                        have HG3 := Lib.hid (show ledOne h (l : Int) (i7 : Int) = (h.getD l []).getD i7 0 by unfold ledOne; rw [Int.toNat_natCast, Int.toNat_natCast])
                        have HVJ2 := Lib.hid HVJ.out
                        rw [Int.toNat_natCast, getD_at _ hlm] at HVJ2
                        rw [getD_at _ hlh] at HLE HG3
                        generalize h[l] = hrow at hr11 HLE HG3 hv11
                        have hrl : i7 < hrow.length := by have := HVJ2.out; have := HLE.out; omega
                        rw [getD_at _ hrl] at HG3
                        obtain ⟨b12, o12, c12, rfl, hv12⟩ := hr11.at_ hrl
                        generalize hrow[i7] = z7 at hv12 HG3
                        have hrl' : (i7 : Int) < (hrow.length : Int) := by omega
                        have hi0' : (0 : Int) ≤ (i7 : Int) := by omega
                        rw [HG2.out, HG3.out] at HPTO
                        clear hr11
                        have hnr0 : IntKind.i64.wrap ((row.length : Int) - 1) = (nr : Int) := by have := HNR.out; rw [IntKind.wrap_i64]; omega
                        have hnr1 : (nr : Int) < (row.length : Int) := by have := HNR.out; omega
                        have HRW := Lib.hid (HR5.out.keep HKI.out)
                        have HSZM := Lib.hid (Hm.out.of.1.keep HKH.out)
                        have HSZN := Lib.hid (Hn.out.of.1.keep HKH.out)
                        go_wp2_with fail
                        refine wp_region_held_drew (S := (fun w' => w'.cell? ⟨w.heap.size + 1, 0, none⟩ = some (.slice Ama m.sizes.length cma) ∧ w'.cell? ⟨w.heap.size + 1, 1, none⟩ = some (.slice (some ⟨bm, om, none⟩) m.tables.length cmb) ∧ w'.cell? ⟨bm, om + k, none⟩ = some (.slice (some ⟨b8, o8, none⟩) table.length dm) ∧ w'.cell? ⟨b8, o8 + j, none⟩ = some (.int .i64 (i7 : Int)))) (by kernel_rfl) ?_ (fun hHeld => ?_)
                        · exact ⟨g2, g3, gm, hv8⟩
                        refine wpAnyH_take (i := 0) (oi := _) (v := ?_) rfl (by kernel_rfl) (by kernel_rfl) (by kernel_rfl) (fun _ _ _ h => h) (Or.inl ⟨by rfl, ?_⟩) (by assumption) ?_
                        rotate_left
                        · first | (intro w' hSw; (try dsimp only at hSw); go_simp; done) | (intro w' hSw; (try dsimp only at hSw); go_simp; with_reducible rfl)
                        try simp only [Act.put, List.getElem_toArray, List.getElem_cons_zero, List.getElem_cons_succ, List.setIfInBounds_toArray, List.set_cons_zero, List.set_cons_succ]
                        refine wpAnyH_take (i := 1) (oi := _) (v := ?_) rfl (by kernel_rfl) (by kernel_rfl) (by kernel_rfl) (fun _ _ _ h => h) (Or.inl ⟨by rfl, ?_⟩) (by assumption) ?_
                        rotate_left
                        · first | (intro w' hSw; (try dsimp only at hSw); go_simp; done) | (intro w' hSw; (try dsimp only at hSw); go_simp; with_reducible rfl)
                        try simp only [Act.put, List.getElem_toArray, List.getElem_cons_zero, List.getElem_cons_succ, List.setIfInBounds_toArray, List.set_cons_zero, List.set_cons_succ]
                        refine wpAnyH_take (i := 2) (oi := _) (v := ?_) rfl (by kernel_rfl) (by kernel_rfl) (by kernel_rfl) (fun _ _ _ h => h) (Or.inl ⟨by rfl, ?_⟩) (by assumption) ?_
                        rotate_left
                        · first | (intro w' hSw; (try dsimp only at hSw); go_simp; done) | (intro w' hSw; (try dsimp only at hSw); go_simp; with_reducible rfl)
                        try simp only [Act.put, List.getElem_toArray, List.getElem_cons_zero, List.getElem_cons_succ, List.setIfInBounds_toArray, List.set_cons_zero, List.set_cons_succ]
                        refine wpAnyH_take (i := 3) (oi := _) (v := ?_) rfl (by kernel_rfl) (by kernel_rfl) (by kernel_rfl) (fun _ _ _ h => h) (Or.inl ⟨by rfl, ?_⟩) (by assumption) ?_
                        rotate_left
                        · first | (intro w' hSw; (try dsimp only at hSw); go_simp; done) | (intro w' hSw; (try dsimp only at hSw); go_simp; with_reducible rfl)
                        try simp only [Act.put, List.getElem_toArray, List.getElem_cons_zero, List.getElem_cons_succ, List.setIfInBounds_toArray, List.set_cons_zero, List.set_cons_succ]
                        refine wpAnyH_take (i := 4) (oi := _) (v := ?_) rfl (by kernel_rfl) (by kernel_rfl) (by kernel_rfl) (fun _ _ _ h => h) (Or.inl ⟨by rfl, ?_⟩) (by assumption) ?_
                        rotate_left
                        · first | (intro w' hSw; (try dsimp only at hSw); go_simp; done) | (intro w' hSw; (try dsimp only at hSw); go_simp; with_reducible rfl)
                        try simp only [Act.put, List.getElem_toArray, List.getElem_cons_zero, List.getElem_cons_succ, List.setIfInBounds_toArray, List.set_cons_zero, List.set_cons_succ]
                        refine wpAnyH_take (i := 5) (oi := _) (v := ?_) rfl (by kernel_rfl) (by kernel_rfl) (by kernel_rfl) (fun _ _ _ h => h) (Or.inl ⟨by rfl, ?_⟩) (by assumption) ?_
                        rotate_left
                        · first | (intro w' hSw; (try dsimp only at hSw); go_simp; done) | (intro w' hSw; (try dsimp only at hSw); go_simp; with_reducible rfl)
                        try simp only [Act.put, List.getElem_toArray, List.getElem_cons_zero, List.getElem_cons_succ, List.setIfInBounds_toArray, List.set_cons_zero, List.set_cons_succ]
                        refine wpAnyH_take (i := 6) (oi := _) (v := ?_) rfl (by kernel_rfl) (by kernel_rfl) (by kernel_rfl) (fun _ _ _ h => h) (Or.inl ⟨by rfl, ?_⟩) (by assumption) ?_
                        rotate_left
                        · first | (intro w' hSw; (try dsimp only at hSw); go_simp; done) | (intro w' hSw; (try dsimp only at hSw); go_simp; with_reducible rfl)
                        try simp only [Act.put, List.getElem_toArray, List.getElem_cons_zero, List.getElem_cons_succ, List.setIfInBounds_toArray, List.set_cons_zero, List.set_cons_succ]
                        refine wpAnyH_take (i := 7) (oi := _) (v := ?_) rfl (by kernel_rfl) (by kernel_rfl) (by kernel_rfl) (fun _ _ _ h => h) (Or.inl ⟨by rfl, ?_⟩) (by assumption) ?_
                        rotate_left
                        · first | (intro w' hSw; (try dsimp only at hSw); go_simp; done) | (intro w' hSw; (try dsimp only at hSw); go_simp; with_reducible rfl)
                        try simp only [Act.put, List.getElem_toArray, List.getElem_cons_zero, List.getElem_cons_succ, List.setIfInBounds_toArray, List.set_cons_zero, List.set_cons_succ]
                        refine wpAnyH_take (i := 8) (oi := _) (v := ?_) rfl (by kernel_rfl) (by kernel_rfl) (by kernel_rfl) (fun _ _ _ h => h) (Or.inl ⟨by rfl, ?_⟩) (by assumption) ?_
                        rotate_left
                        · first | (intro w' hSw; (try dsimp only at hSw); go_simp; done) | (intro w' hSw; (try dsimp only at hSw); go_simp; with_reducible rfl)
                        try simp only [Act.put, List.getElem_toArray, List.getElem_cons_zero, List.getElem_cons_succ, List.setIfInBounds_toArray, List.set_cons_zero, List.set_cons_succ]
                        refine wpAnyH_ready (rs := [9]) (by kernel_rfl) (by simp) ?_
                        refine AllReadyH.cons (o := _) rfl (fun K hK => ?_) AllReadyH.nil
                        go_simp
                        refine (HPA.out _ _ _ _ ds (HSZM.out.keep (map_drew (Below.refl _ _))) (HRW.out.keep (map_drew (Below.refl _ _))) (HDSR.out.keep (map_drew (Below.refl _ _))) HDI.out).mono ?_
                        rw [HPJ2.out]
                        rintro x w7 ⟨rfl, hb7⟩
                        have hx7 := map_undrew hb7
                        have HX7 := Lib.hid hx7
                        have j2 := cell_keep hx7 g2
                        have j3 := cell_keep hx7 g3
                        have jm := cell_keep hx7 gm
                        have j8 := cell_keep hx7 hv8
                        clear hb7 hx7
                        go_wp2_with fail
                        refine hK.out _ _ ?_ (fun hHeld => ?_)
                        · exact ⟨j2, j3, jm, j8⟩
                        clear hK K
                        try simp only [Act.put, List.getElem_toArray, List.getElem_cons_zero, List.getElem_cons_succ, List.setIfInBounds_toArray, List.set_cons_zero, List.set_cons_succ]
                        refine wpAnyH_take (i := 10) (oi := _) (v := ?_) rfl (by kernel_rfl) (by kernel_rfl) (by kernel_rfl) (fun _ _ _ h => h) (Or.inl ⟨by rfl, ?_⟩) (by assumption) ?_
                        rotate_left
                        · first | (intro w' hSw; (try dsimp only at hSw); go_simp; done) | (intro w' hSw; (try dsimp only at hSw); go_simp; with_reducible rfl)
                        try simp only [Act.put, List.getElem_toArray, List.getElem_cons_zero, List.getElem_cons_succ, List.setIfInBounds_toArray, List.set_cons_zero, List.set_cons_succ]
                        refine wpAnyH_take (i := 11) (oi := _) (v := ?_) rfl (by kernel_rfl) (by kernel_rfl) (by kernel_rfl) (fun _ _ _ h => h) (Or.inl ⟨by rfl, ?_⟩) (by assumption) ?_
                        rotate_left
                        · first | (intro w' hSw; (try dsimp only at hSw); go_simp; done) | (intro w' hSw; (try dsimp only at hSw); go_simp; with_reducible rfl)
                        try simp only [Act.put, List.getElem_toArray, List.getElem_cons_zero, List.getElem_cons_succ, List.setIfInBounds_toArray, List.set_cons_zero, List.set_cons_succ]
                        refine wpAnyH_take (i := 12) (oi := _) (v := ?_) rfl (by kernel_rfl) (by kernel_rfl) (by kernel_rfl) (fun _ _ _ h => h) (Or.inl ⟨by rfl, ?_⟩) (by assumption) ?_
                        rotate_left
                        · first | (intro w' hSw; (try dsimp only at hSw); go_simp; done) | (intro w' hSw; (try dsimp only at hSw); go_simp; with_reducible rfl)
                        try simp only [Act.put, List.getElem_toArray, List.getElem_cons_zero, List.getElem_cons_succ, List.setIfInBounds_toArray, List.set_cons_zero, List.set_cons_succ]
                        refine wpAnyH_done (by kernel_rfl) ?_ _
                        replace g4 := cell_keep HX7.out g4
                        replace g5 := cell_keep HX7.out g5
                        replace gn := cell_keep HX7.out gn
                        replace gr := cell_keep HX7.out gr
                        replace hv9 := cell_keep HX7.out hv9
                        replace hv11 := cell_keep HX7.out hv11
                        replace hv12 := cell_keep HX7.out hv12
                        clear g2 g3 gm hv8 j2 j3 jm j8
                        go_wp2_with fail
                        refine wp_region_held_drew (S := (fun w' => w'.cell? ⟨br, or_ + nr, none⟩ = some (.int .i64 (l : Int)) ∧ w'.cell? ⟨b11, o11 + l, none⟩ = some (.slice (some ⟨b12, o12, none⟩) hrow.length c12) ∧ w'.cell? ⟨b12, o12 + i7, none⟩ = some (.int .i64 z7) ∧ w'.cell? ⟨w.heap.size + 1 + 1, 0, none⟩ = some (.slice Ana n.sizes.length cna) ∧ w'.cell? ⟨w.heap.size + 1 + 1, 1, none⟩ = some (.slice (some ⟨bn, on, none⟩) n.tables.length cnb) ∧ w'.cell? ⟨bn, on + k, none⟩ = some (.slice (some ⟨b9, o9, none⟩) tableN.length dn) ∧ w'.cell? ⟨b9, o9 + q, none⟩ = some (.int .i64 y7))) (by kernel_rfl) ?_ (fun hHeld => ?_)
                        · exact ⟨gr, hv11, hv12, g4, g5, gn, hv9⟩
                        refine wpAnyH_take (i := 0) (oi := _) (v := ?_) rfl (by kernel_rfl) (by kernel_rfl) (by kernel_rfl) (fun _ _ _ h => h) (Or.inl ⟨by rfl, ?_⟩) (by assumption) ?_
                        rotate_left
                        · first | (intro w' hSw; (try dsimp only at hSw); go_simp; done) | (intro w' hSw; (try dsimp only at hSw); go_simp; with_reducible rfl)
                        try simp only [Act.put, List.getElem_toArray, List.getElem_cons_zero, List.getElem_cons_succ, List.setIfInBounds_toArray, List.set_cons_zero, List.set_cons_succ]
                        refine wpAnyH_take (i := 1) (oi := _) (v := ?_) rfl (by kernel_rfl) (by kernel_rfl) (by kernel_rfl) (fun _ _ _ h => h) (Or.inl ⟨by rfl, ?_⟩) (by assumption) ?_
                        rotate_left
                        · first | (intro w' hSw; (try dsimp only at hSw); go_simp; done) | (intro w' hSw; (try dsimp only at hSw); go_simp; with_reducible rfl)
                        try simp only [Act.put, List.getElem_toArray, List.getElem_cons_zero, List.getElem_cons_succ, List.setIfInBounds_toArray, List.set_cons_zero, List.set_cons_succ]
                        refine wpAnyH_take (i := 2) (oi := _) (v := ?_) rfl (by kernel_rfl) (by kernel_rfl) (by kernel_rfl) (fun _ _ _ h => h) (Or.inl ⟨by rfl, ?_⟩) (by assumption) ?_
                        rotate_left
                        · first | (intro w' hSw; (try dsimp only at hSw); go_simp; done) | (intro w' hSw; (try dsimp only at hSw); go_simp; with_reducible rfl)
                        try simp only [Act.put, List.getElem_toArray, List.getElem_cons_zero, List.getElem_cons_succ, List.setIfInBounds_toArray, List.set_cons_zero, List.set_cons_succ]
                        refine wpAnyH_take (i := 3) (oi := _) (v := ?_) rfl (by kernel_rfl) (by kernel_rfl) (by kernel_rfl) (fun _ _ _ h => h) (Or.inl ⟨by rfl, ?_⟩) (by assumption) ?_
                        rotate_left
                        · first | (intro w' hSw; (try dsimp only at hSw); go_simp; done) | (intro w' hSw; (try dsimp only at hSw); go_simp; with_reducible rfl)
                        try simp only [Act.put, List.getElem_toArray, List.getElem_cons_zero, List.getElem_cons_succ, List.setIfInBounds_toArray, List.set_cons_zero, List.set_cons_succ]
                        refine wpAnyH_take (i := 4) (oi := _) (v := ?_) rfl (by kernel_rfl) (by kernel_rfl) (by kernel_rfl) (fun _ _ _ h => h) (Or.inl ⟨by rfl, ?_⟩) (by assumption) ?_
                        rotate_left
                        · first | (intro w' hSw; (try dsimp only at hSw); go_simp; done) | (intro w' hSw; (try dsimp only at hSw); go_simp; with_reducible rfl)
                        try simp only [Act.put, List.getElem_toArray, List.getElem_cons_zero, List.getElem_cons_succ, List.setIfInBounds_toArray, List.set_cons_zero, List.set_cons_succ]
                        refine wpAnyH_take (i := 5) (oi := _) (v := ?_) rfl (by kernel_rfl) (by kernel_rfl) (by kernel_rfl) (fun _ _ _ h => h) (Or.inl ⟨by rfl, ?_⟩) (by assumption) ?_
                        rotate_left
                        · first | (intro w' hSw; (try dsimp only at hSw); go_simp; done) | (intro w' hSw; (try dsimp only at hSw); go_simp; with_reducible rfl)
                        try simp only [Act.put, List.getElem_toArray, List.getElem_cons_zero, List.getElem_cons_succ, List.setIfInBounds_toArray, List.set_cons_zero, List.set_cons_succ]
                        refine wpAnyH_take (i := 6) (oi := _) (v := ?_) rfl (by kernel_rfl) (by kernel_rfl) (by kernel_rfl) (fun _ _ _ h => h) (Or.inl ⟨by rfl, ?_⟩) (by assumption) ?_
                        rotate_left
                        · first | (intro w' hSw; (try dsimp only at hSw); go_simp; done) | (intro w' hSw; (try dsimp only at hSw); go_simp; with_reducible rfl)
                        try simp only [Act.put, List.getElem_toArray, List.getElem_cons_zero, List.getElem_cons_succ, List.setIfInBounds_toArray, List.set_cons_zero, List.set_cons_succ]
                        refine wpAnyH_take (i := 7) (oi := _) (v := ?_) rfl (by kernel_rfl) (by kernel_rfl) (by kernel_rfl) (fun _ _ _ h => h) (Or.inl ⟨by rfl, ?_⟩) (by assumption) ?_
                        rotate_left
                        · first | (intro w' hSw; (try dsimp only at hSw); go_simp; done) | (intro w' hSw; (try dsimp only at hSw); go_simp; with_reducible rfl)
                        try simp only [Act.put, List.getElem_toArray, List.getElem_cons_zero, List.getElem_cons_succ, List.setIfInBounds_toArray, List.set_cons_zero, List.set_cons_succ]
                        refine wpAnyH_take (i := 8) (oi := _) (v := ?_) rfl (by kernel_rfl) (by kernel_rfl) (by kernel_rfl) (fun _ _ _ h => h) (Or.inl ⟨by rfl, ?_⟩) (by assumption) ?_
                        rotate_left
                        · first | (intro w' hSw; (try dsimp only at hSw); go_simp; done) | (intro w' hSw; (try dsimp only at hSw); go_simp; with_reducible rfl)
                        try simp only [Act.put, List.getElem_toArray, List.getElem_cons_zero, List.getElem_cons_succ, List.setIfInBounds_toArray, List.set_cons_zero, List.set_cons_succ]
                        refine wpAnyH_take (i := 9) (oi := _) (v := ?_) rfl (by kernel_rfl) (by kernel_rfl) (by kernel_rfl) (fun _ _ _ h => h) (Or.inl ⟨by rfl, ?_⟩) (by assumption) ?_
                        rotate_left
                        · first | (intro w' hSw; (try dsimp only at hSw); go_simp; done) | (intro w' hSw; (try dsimp only at hSw); go_simp; with_reducible rfl)
                        try simp only [Act.put, List.getElem_toArray, List.getElem_cons_zero, List.getElem_cons_succ, List.setIfInBounds_toArray, List.set_cons_zero, List.set_cons_succ]
                        refine wpAnyH_take (i := 10) (oi := _) (v := ?_) rfl (by kernel_rfl) (by kernel_rfl) (by kernel_rfl) (fun _ _ _ h => h) (Or.inl ⟨by rfl, ?_⟩) (by assumption) ?_
                        rotate_left
                        · first | (intro w' hSw; (try dsimp only at hSw); go_simp; done) | (intro w' hSw; (try dsimp only at hSw); go_simp; with_reducible rfl)
                        try simp only [Act.put, List.getElem_toArray, List.getElem_cons_zero, List.getElem_cons_succ, List.setIfInBounds_toArray, List.set_cons_zero, List.set_cons_succ]
                        refine wpAnyH_take (i := 11) (oi := _) (v := ?_) rfl (by kernel_rfl) (by kernel_rfl) (by kernel_rfl) (fun _ _ _ h => h) (Or.inl ⟨by rfl, ?_⟩) (by assumption) ?_
                        rotate_left
                        · first | (intro w' hSw; (try dsimp only at hSw); go_simp; done) | (intro w' hSw; (try dsimp only at hSw); go_simp; with_reducible rfl)
                        try simp only [Act.put, List.getElem_toArray, List.getElem_cons_zero, List.getElem_cons_succ, List.setIfInBounds_toArray, List.set_cons_zero, List.set_cons_succ]
                        refine wpAnyH_take (i := 12) (oi := _) (v := ?_) rfl (by kernel_rfl) (by kernel_rfl) (by kernel_rfl) (fun _ _ _ h => h) (Or.inl ⟨by rfl, ?_⟩) (by assumption) ?_
                        rotate_left
                        · first | (intro w' hSw; (try dsimp only at hSw); go_simp; done) | (intro w' hSw; (try dsimp only at hSw); go_simp; with_reducible rfl)
                        try simp only [Act.put, List.getElem_toArray, List.getElem_cons_zero, List.getElem_cons_succ, List.setIfInBounds_toArray, List.set_cons_zero, List.set_cons_succ]
                        refine wpAnyH_take (i := 13) (oi := _) (v := ?_) rfl (by kernel_rfl) (by kernel_rfl) (by kernel_rfl) (fun _ _ _ h => h) (Or.inl ⟨by rfl, ?_⟩) (by assumption) ?_
                        rotate_left
                        · first | (intro w' hSw; (try dsimp only at hSw); go_simp; done) | (intro w' hSw; (try dsimp only at hSw); go_simp; with_reducible rfl)
                        try simp only [Act.put, List.getElem_toArray, List.getElem_cons_zero, List.getElem_cons_succ, List.setIfInBounds_toArray, List.set_cons_zero, List.set_cons_succ]
                        refine wpAnyH_take (i := 14) (oi := _) (v := ?_) rfl (by kernel_rfl) (by kernel_rfl) (by kernel_rfl) (fun _ _ _ h => h) (Or.inl ⟨by rfl, ?_⟩) (by assumption) ?_
                        rotate_left
                        · first | (intro w' hSw; (try dsimp only at hSw); go_simp; done) | (intro w' hSw; (try dsimp only at hSw); go_simp; with_reducible rfl)
                        try simp only [Act.put, List.getElem_toArray, List.getElem_cons_zero, List.getElem_cons_succ, List.setIfInBounds_toArray, List.set_cons_zero, List.set_cons_succ]
                        refine wpAnyH_take (i := 15) (oi := _) (v := ?_) rfl (by kernel_rfl) (by kernel_rfl) (by kernel_rfl) (fun _ _ _ h => h) (Or.inl ⟨by rfl, ?_⟩) (by assumption) ?_
                        rotate_left
                        · first | (intro w' hSw; (try dsimp only at hSw); go_simp; done) | (intro w' hSw; (try dsimp only at hSw); go_simp; with_reducible rfl)
                        try simp only [Act.put, List.getElem_toArray, List.getElem_cons_zero, List.getElem_cons_succ, List.setIfInBounds_toArray, List.set_cons_zero, List.set_cons_succ]
                        refine wpAnyH_take (i := 16) (oi := _) (v := ?_) rfl (by kernel_rfl) (by kernel_rfl) (by kernel_rfl) (fun _ _ _ h => h) (Or.inl ⟨by rfl, ?_⟩) (by assumption) ?_
                        rotate_left
                        · first | (intro w' hSw; (try dsimp only at hSw); go_simp; done) | (intro w' hSw; (try dsimp only at hSw); go_simp; with_reducible rfl)
                        try simp only [Act.put, List.getElem_toArray, List.getElem_cons_zero, List.getElem_cons_succ, List.setIfInBounds_toArray, List.set_cons_zero, List.set_cons_succ]
                        refine wpAnyH_take (i := 17) (oi := _) (v := ?_) rfl (by kernel_rfl) (by kernel_rfl) (by kernel_rfl) (fun _ _ _ h => h) (Or.inl ⟨by rfl, ?_⟩) (by assumption) ?_
                        rotate_left
                        · first | (intro w' hSw; (try dsimp only at hSw); go_simp; done) | (intro w' hSw; (try dsimp only at hSw); go_simp; with_reducible rfl)
                        try simp only [Act.put, List.getElem_toArray, List.getElem_cons_zero, List.getElem_cons_succ, List.setIfInBounds_toArray, List.set_cons_zero, List.set_cons_succ]
                        refine wpAnyH_take (i := 18) (oi := _) (v := ?_) rfl (by kernel_rfl) (by kernel_rfl) (by kernel_rfl) (fun _ _ _ h => h) (Or.inl ⟨by rfl, ?_⟩) (by assumption) ?_
                        rotate_left
                        · first | (intro w' hSw; (try dsimp only at hSw); go_simp; done) | (intro w' hSw; (try dsimp only at hSw); go_simp; with_reducible rfl)
                        try simp only [Act.put, List.getElem_toArray, List.getElem_cons_zero, List.getElem_cons_succ, List.setIfInBounds_toArray, List.set_cons_zero, List.set_cons_succ]
                        refine wpAnyH_take (i := 19) (oi := _) (v := ?_) rfl (by kernel_rfl) (by kernel_rfl) (by kernel_rfl) (fun _ _ _ h => h) (Or.inl ⟨by rfl, ?_⟩) (by assumption) ?_
                        rotate_left
                        · first | (intro w' hSw; (try dsimp only at hSw); go_simp; done) | (intro w' hSw; (try dsimp only at hSw); go_simp; with_reducible rfl)
                        try simp only [Act.put, List.getElem_toArray, List.getElem_cons_zero, List.getElem_cons_succ, List.setIfInBounds_toArray, List.set_cons_zero, List.set_cons_succ]
                        refine wpAnyH_take (i := 20) (oi := _) (v := ?_) rfl (by kernel_rfl) (by kernel_rfl) (by kernel_rfl) (fun _ _ _ h => h) (Or.inl ⟨by rfl, ?_⟩) (by assumption) ?_
                        rotate_left
                        · first | (intro w' hSw; (try dsimp only at hSw); go_simp; done) | (intro w' hSw; (try dsimp only at hSw); go_simp; with_reducible rfl)
                        try simp only [Act.put, List.getElem_toArray, List.getElem_cons_zero, List.getElem_cons_succ, List.setIfInBounds_toArray, List.set_cons_zero, List.set_cons_succ]
                        refine wpAnyH_ready (rs := [21]) (by kernel_rfl) (by simp) ?_
                        refine AllReadyH.cons (o := _) rfl (fun K hK => ?_) AllReadyH.nil
                        go_simp
                        refine (HPB.out _ _ _ _ ls ((HSZN.out.keep HX7.out).keep (map_drew (Below.refl _ _))) ((HRW.out.keep HX7.out).keep (map_drew (Below.refl _ _))) ((HLSR.out.keep HX7.out).keep (map_drew (Below.refl _ _))) HIA.out).mono ?_
                        rw [HPL.out]
                        rintro x w8 ⟨rfl, hb8⟩
                        have hx8 := map_undrew hb8
                        have HX8 := Lib.hid (sz_keep HX7.out hx8)
                        have jr := cell_keep hx8 gr
                        have j11 := cell_keep hx8 hv11
                        have j12 := cell_keep hx8 hv12
                        have j4 := cell_keep hx8 g4
                        have j5 := cell_keep hx8 g5
                        have jn := cell_keep hx8 gn
                        have j9 := cell_keep hx8 hv9
                        clear hb8 hx8
                        go_wp2_with fail
                        refine hK.out _ _ ?_ (fun hHeld => ?_)
                        · exact ⟨jr, j11, j12, j4, j5, jn, j9⟩
                        clear hK K
                        try simp only [Act.put, List.getElem_toArray, List.getElem_cons_zero, List.getElem_cons_succ, List.setIfInBounds_toArray, List.set_cons_zero, List.set_cons_succ]
                        refine wpAnyH_take (i := 22) (oi := _) (v := ?_) rfl (by kernel_rfl) (by kernel_rfl) (by kernel_rfl) (fun _ _ _ h => h) (Or.inl ⟨by rfl, ?_⟩) (by assumption) ?_
                        rotate_left
                        · first | (intro w' hSw; (try dsimp only at hSw); go_simp; done) | (intro w' hSw; (try dsimp only at hSw); go_simp; with_reducible rfl)
                        try simp only [Act.put, List.getElem_toArray, List.getElem_cons_zero, List.getElem_cons_succ, List.setIfInBounds_toArray, List.set_cons_zero, List.set_cons_succ]
                        refine wpAnyH_take (i := 23) (oi := _) (v := ?_) rfl (by kernel_rfl) (by kernel_rfl) (by kernel_rfl) (fun _ _ _ h => h) (Or.inl ⟨by rfl, ?_⟩) (by assumption) ?_
                        rotate_left
                        · first | (intro w' hSw; (try dsimp only at hSw); go_simp; done) | (intro w' hSw; (try dsimp only at hSw); go_simp; with_reducible rfl)
                        try simp only [Act.put, List.getElem_toArray, List.getElem_cons_zero, List.getElem_cons_succ, List.setIfInBounds_toArray, List.set_cons_zero, List.set_cons_succ]
                        refine wpAnyH_take (i := 24) (oi := _) (v := ?_) rfl (by kernel_rfl) (by kernel_rfl) (by kernel_rfl) (fun _ _ _ h => h) (Or.inl ⟨by rfl, ?_⟩) (by assumption) ?_
                        rotate_left
                        · first | (intro w' hSw; (try dsimp only at hSw); go_simp; done) | (intro w' hSw; (try dsimp only at hSw); go_simp; with_reducible rfl)
                        try simp only [Act.put, List.getElem_toArray, List.getElem_cons_zero, List.getElem_cons_succ, List.setIfInBounds_toArray, List.set_cons_zero, List.set_cons_succ]
                        refine wpAnyH_done (by kernel_rfl) ?_ _
                        clear gr hv11 hv12 g4 g5 gn hv9 jr j11 j12 j4 j5 jn j9
                        have HX5X := Lib.hid (sz_keep HBI.out HX8.out)
                        have HK8 := Lib.hid (sz_keep HDK.out HX5X.out)
                        by_cases hyz : y7 = z7
                        · have hne : (z7 != y7) = false := by simp [hyz]
                          have HPJ1 := Lib.hid (show allN p (j + 1) = true by rw [HPS.out, HPJ.out, HPTO.out, hyz]; simp)
                          have HSMD := Lib.hid (dig_small HSA.out HDI.out)
                          have HK5 := Lib.hid (HO5.out)
                          clear hyz
                          go_wp2_with fail
                          refine (l4Next_is zs ds zs.length HDL.out w5.heap.size w5.heap.size zs.length _ _ (HO.out.keep HX5X.out) (by have := HDL.out; omega) HSMD.out (fun W' hg => HO5.out.keep (HK8.out.grown hg HK8.out.size (fun k e => by cases e; exact Nat.le_refl _))) (by have := HDL.out; omega)).mono ?_
                          rw [HND.out]
                          simp only
                          have hdn : OInts wk w5.heap.size (.slice (some ⟨w5.heap.size, 0, none⟩) ds.length ds.length) ds := by rw [HDL.out]; exact HO.out
                          have HM0 := Lib.hid (show leftM zs N w5.heap.size (.bool true) wk = N - j + 1 by
                            unfold leftM
                            simp only
                            rw [readRow_own hdn, HPJ2.out]
                            omega)
                          clear hdn
                          by_cases hlast : j + 1 < N
                          · have hflag : (!(((j : Int) + 1) % waysM zs == 0)) = true := by
                              rw [HN.out, Int.emod_eq_of_lt (by omega) (by omega)]
                              simp; omega
                            rw [hflag]
                            rintro x w9 ⟨rfl, ho9, hg9, hz9⟩
                            have HO9 := Lib.hid ho9
                            have HD9 := Lib.hid (HK8.out.grown hg9 HK8.out.size (fun k e => by cases e; exact Nat.le_refl _))
                            have hdn : OInts w9 w5.heap.size (.slice (some ⟨w5.heap.size, 0, none⟩) (digM zs ((j : Int) + 1)).length (digM zs ((j : Int) + 1)).length) (digM zs ((j : Int) + 1)) := by rw [digM_len]; exact ho9
                            have HM1 := Lib.hid (show leftM zs N w5.heap.size (.bool true) w9 = N - (j + 1) + 1 by
                              unfold leftM
                              simp only
                              rw [readRow_own hdn, place_dig HSA.out 0 ((j : Int) + 1) (by omega), HN.out, Int.emod_eq_of_lt (by omega) (by omega)]
                              omega)
                            clear ho9 hg9 hz9 hflag hdn
                            go_wp2
                            go_roundw
                            case rel => exact ⟨true, j + 1, rfl, (fun _ => hlast), (fun h => absurd h (by simp)), HPJ1.out, (fun _ => by have := HO9.out; simpa using this), HD9.out⟩
                            case measure => rw [HM0.out, HM1.out]; omega
                          · have hflag : (!(((j : Int) + 1) % waysM zs == 0)) = false := by
                              rw [HN.out, show (j : Int) + 1 = (N : Int) by omega, Int.emod_self]
                              rfl
                            rw [hflag]
                            rintro x w9 ⟨rfl, ho9, hg9, hz9⟩
                            have HD9 := Lib.hid (HK8.out.grown hg9 HK8.out.size (fun k e => by cases e; exact Nat.le_refl _))
                            clear ho9 hg9 hz9 hflag
                            go_wp2
                            go_roundw
                            case rel => exact ⟨false, j + 1, rfl, (fun h => absurd h (by simp)), (fun _ => by omega), HPJ1.out, (fun h => absurd h (by simp)), HD9.out⟩
                            case measure => rw [HM0.out]; unfold leftM; simp only; omega
                        · have hne : (z7 != y7) = true := by simpa using (fun e => hyz (Eq.symm e))
                          have HF : Hid (homOps s m n h = false) := HTN.out (HAT.out j hjt (by rw [HPTO.out]; simpa using hyz))
                          clear hyz
                          go_wp2
                          go_ret
                          exact ⟨ret_bool (HNF.out HF.out).symm, sz_keep HB.out (sz_keep HD5.out HK8.out)⟩
              · have hkn : k = s.ops.length := by omega
                have hks' : ¬ (k : Int) < (s.ops.length : Int) := by omega
                subst hkn
                have HF : Hid (homOps s m n h = true) := HALL.out
                go_wp2
                go_ret
                exact ⟨ret_bool (by rw [HIS.out, HF.out]), sz_keep HB.out HDW.out⟩
      · have e1 : ((h.length : Int) != s.sorts) = true := by simpa using hls
        have HE := Lib.hid (hom_no3 (a := m) (b := n) hls)
        clear hls
        go_enter Try.func12, Try.ntmps12
        go_wp2_with fail
        clear hW
        refine (specModelOk_any s m _ _ _ Hs.out Hm.out).mono ?_
        rw [HMA.out]
        rintro x w1 ⟨rfl, hb⟩
        replace HB := Lib.hid (sz_keep HB.out hb)
        replace s0 := cell_keep hb s0
        replace s1 := cell_keep hb s1
        replace m0 := cell_keep hb m0
        replace m1 := cell_keep hb m1
        replace n0 := cell_keep hb n0
        replace n1 := cell_keep hb n1
        replace Hs := Lib.hid (Hs.out.keep hb)
        replace Hm := Lib.hid (Hm.out.keep hb)
        replace Hn := Lib.hid (Hn.out.keep hb)
        replace HH := Lib.hid (HH.out.keep hb)
        clear hb
        go_wp2_with fail
        refine (specModelOk_any s n _ _ _ Hs.out Hn.out).mono ?_
        rw [HMB.out]
        rintro x w2 ⟨rfl, hb⟩
        replace HB := Lib.hid (sz_keep HB.out hb)
        replace s0 := cell_keep hb s0
        replace s1 := cell_keep hb s1
        replace m0 := cell_keep hb m0
        replace m1 := cell_keep hb m1
        replace n0 := cell_keep hb n0
        replace n1 := cell_keep hb n1
        replace Hs := Lib.hid (Hs.out.keep hb)
        replace Hm := Lib.hid (Hm.out.keep hb)
        replace Hn := Lib.hid (Hn.out.keep hb)
        replace HH := Lib.hid (HH.out.keep hb)
        clear hb
        go_wp2
        go_ret
        exact ⟨ret_bool HE.out.symm, HB.out⟩
end
end Go.Proofs.Ytfomeommkfemkaa
