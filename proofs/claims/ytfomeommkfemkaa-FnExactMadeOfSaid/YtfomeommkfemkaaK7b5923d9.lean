/- ModelOk of package impl. · HomOk of package impl. · ModelOk of package spec. · l4Next and l5Limits of package spec. · l6Limits, l6Place of package spec. · Rows of values one after the other by l4Next: what all walks need. -/
import Derived.Test.YtfomeommkfemkaaK9699d8da
import Derived.Laws.OwnMore
namespace Go.Proofs.Ytfomeommkfemkaa
section
open Go.RowKit
set_option linter.unusedVariables false
set_option linter.unusedSimpArgs false

theorem inB13 {z : Int} : inB z 1 3 = (decide (1 ≤ z) && decide (z ≤ 3)) := rfl
theorem inB13_low {z : Int} (h : z < 1) : inB z 1 3 = false := by unfold inB; simp; omega
theorem inB13_high {z : Int} (h : 3 < z) : inB z 1 3 = false := by unfold inB; simp; omega
theorem inB13_yes {z : Int} (h1 : 1 ≤ z) (h2 : z ≤ 3) : inB z 1 3 = true := by unfold inB; simp [h1, h2]
theorem tabB_at {s : MSig} {m : MModel} {k : Nat} (hs : k < s.ops.length) (hm : k < m.tables.length) : tabB s m k = tableB m.sizes s.ops[k] m.tables[k] := by
  unfold tabB; rw [getD_at _ hs, getD_at _ hm]

set_option maxHeartbeats 3200000 in
set_option maxRecDepth 100000 in
theorem modelOk_any (s : MSig) (m : MModel) (w : World) (v v' : Value) (h1 : RSig w v s) (h2 : RModel w v' m) :
    Calls Try.prog 45 #[v, v'] w fun e w' => e = .returned (.bool (modelB s m)) ∧ Below w.heap.size w w' := by
  obtain ⟨Asa, csa, rfl⟩ := h1.form
  obtain ⟨Ama, cma, Amb, cmb, rfl⟩ := h2.form
  have hb : Below w.heap.size w ((w.alloc (.cells #[.int .i64 s.sorts, .slice Asa s.ops.length csa] 32)).alloc (.cells #[.slice Ama m.sizes.length cma, .slice Amb m.tables.length cmb] 34)) := (below_alloc _ _).alloc (by simp) _
  have HB := Lib.hid hb
  have hsz : ((w.alloc (.cells #[.int .i64 s.sorts, .slice Asa s.ops.length csa] 32)).alloc (.cells #[.slice Ama m.sizes.length cma, .slice Amb m.tables.length cmb] 34)).heap.size = w.heap.size + 2 := by simp
  have Hs := Lib.hid (h1.keep hb)
  have s0 := cell_keep (below_alloc (w.alloc (.cells #[.int .i64 s.sorts, .slice Asa s.ops.length csa] 32)) (.cells #[.slice Ama m.sizes.length cma, .slice Amb m.tables.length cmb] 34)) (bx_at (w) #[.int .i64 s.sorts, .slice Asa s.ops.length csa] 32 (k := 0) rfl)
  have s1 := cell_keep (below_alloc (w.alloc (.cells #[.int .i64 s.sorts, .slice Asa s.ops.length csa] 32)) (.cells #[.slice Ama m.sizes.length cma, .slice Amb m.tables.length cmb] 34)) (bx_at (w) #[.int .i64 s.sorts, .slice Asa s.ops.length csa] 32 (k := 1) rfl)
  have Hm := Lib.hid (h2.keep hb)
  have m0 := bx_at (w.alloc (.cells #[.int .i64 s.sorts, .slice Asa s.ops.length csa] 32)) #[.slice Ama m.sizes.length cma, .slice Amb m.tables.length cmb] 34 (k := 0) rfl
  have m1 := bx_at (w.alloc (.cells #[.int .i64 s.sorts, .slice Asa s.ops.length csa] 32)) #[.slice Ama m.sizes.length cma, .slice Amb m.tables.length cmb] 34 (k := 1) rfl
  simp only [World.size_alloc] at m0 m1
  generalize hW : (w.alloc (.cells #[.int .i64 s.sorts, .slice Asa s.ops.length csa] 32)).alloc (.cells #[.slice Ama m.sizes.length cma, .slice Amb m.tables.length cmb] 34) = W at HB hsz Hs s0 s1 Hm m0 m1
  clear hb h1 h2
  have hl1 := Hs.out.of.2.len
  have hl2 := Hm.out.of.1.len
  have hl3 := Hm.out.of.2.len
  cases hv : validB s with
  | false =>
    have HV := Lib.hid hv
    have HE := Lib.hid (model_no1 (m := m) hv)
    clear hv
    go_enter Try.func45, Try.ntmps45
    go_wp2_with fail
    clear hW
    refine (sigValid_any _ s _ Hs.out).mono ?_
    rw [HV.out]
    rintro e w1 ⟨rfl, hb⟩
    replace HB := Lib.hid (sz_keep HB.out hb)
    replace s0 := cell_keep hb s0
    replace s1 := cell_keep hb s1
    replace m0 := cell_keep hb m0
    replace m1 := cell_keep hb m1
    replace Hs := Lib.hid (Hs.out.keep hb)
    replace Hm := Lib.hid (Hm.out.keep hb)
    clear hb
    go_wp2
    go_ret
    exact ⟨ret_bool HE.out.symm, HB.out⟩
  | true =>
    have HV := Lib.hid hv
    have hsv := valid_sorts hv
    clear hv
    by_cases hs : (m.sizes.length : Int) = s.sorts
    · have e1 : ((m.sizes.length : Int) != s.sorts) = false := by simp [hs]
      have HSL := Lib.hid hs
      have hms3 : m.sizes.length ≤ 3 := by omega
      by_cases ho : m.tables.length = s.ops.length
      · have e2 : ((m.tables.length : Int) != (s.ops.length : Int)) = false := by simp [ho]
        have HOL := Lib.hid ho
        have hle : m.tables.length ≤ s.ops.length := by omega
        clear ho hs
        go_enter Try.func45, Try.ntmps45
        go_wp2_with fail
        clear hW
        refine (sigValid_any _ s _ Hs.out).mono ?_
        rw [HV.out]
        rintro e w1 ⟨rfl, hb⟩
        replace HB := Lib.hid (sz_keep HB.out hb)
        replace s0 := cell_keep hb s0
        replace s1 := cell_keep hb s1
        replace m0 := cell_keep hb m0
        replace m1 := cell_keep hb m1
        replace Hs := Lib.hid (Hs.out.keep hb)
        replace Hm := Lib.hid (Hm.out.keep hb)
        clear hb
        have HC := Lib.hid (And.intro s0 (And.intro s1 (And.intro m0 m1)))
        go_wp2
        clear s0 s1 m0 m1
        go_loopw [6, 32] (fun p i wr => ∃ k : Nat, k ≤ m.sizes.length ∧ i = .int .i64 k ∧ sizesB (m.sizes.take k) = true ∧ w1 = wr) (fun _ i _ => m.sizes.length - (intOf i).toNat)
        case atStart => exact ⟨0, Nat.zero_le _, rfl, rfl, rfl⟩
        case round =>
          obtain ⟨k, hk, rfl, hb0, rfl⟩ := hrel
          have HB0 := Lib.hid hb0
          clear hb0
          by_cases hlt : k < m.sizes.length
          · obtain ⟨b3, o3, c3, e, hx⟩ := Hm.out.of.1.at_ hlt
            cases e
            have hlt' : (k : Int) < (m.sizes.length : Int) := by omega
            have HT := Lib.hid (all_take (p := fun z => inB z 1 3) hlt)
            have HN := Lib.hid (sizesB_bad hlt)
            generalize m.sizes[k] = z at hx HT HN
            by_cases hz1 : z < 1
            · have HF := Lib.hid (model_no4 (s := s) (HN.out (inB13_low hz1)))
              go_wp2
              go_ret
              exact ⟨ret_bool HF.out.symm, HB.out⟩
            · by_cases hz3 : 3 < z
              · have HF := Lib.hid (model_no4 (s := s) (HN.out (inB13_high hz3)))
                go_wp2
                go_ret
                exact ⟨ret_bool HF.out.symm, HB.out⟩
              · have hz1' : 1 ≤ z := by omega
                have hz3' : z ≤ 3 := by omega
                have HR := Lib.hid (inB13_yes hz1' hz3')
                go_wp2
                go_roundw
                case rel => exact ⟨k + 1, by omega, by go_num, by unfold sizesB; rw [HT.out, HR.out]; have := HB0.out; unfold sizesB at this; rw [this]; rfl, by first | trivial | rfl⟩
                case measure => simp [intOf]; omega
          · have hkn : k = m.sizes.length := by omega
            have hlt' : ¬ (k : Int) < (m.sizes.length : Int) := by omega
            have HT := Lib.hid (show m.sizes.take k = m.sizes from take_all (by omega))
            rw [HT.out] at HB0
            have HZ := Lib.hid (sizesB_iff.1 HB0.out)
            have m1 := HC.out.2.2.2
            go_wp2
            clear m1
            go_loopw [7, 8, 46] (fun p q i wr => ∃ k : Nat, k ≤ m.tables.length ∧ i = .int .i64 k ∧ allTab s m k = true ∧ Below w1.heap.size w1 wr) (fun _ _ i _ => m.tables.length - (intOf i).toNat)
            case atStart => exact ⟨0, Nat.zero_le _, rfl, allTab_zero _ _, Below.refl _ _⟩
            case round =>
              obtain ⟨j, hj, rfl, hal, hd⟩ := hrel
              have HAL := Lib.hid hal
              have HD := Lib.hid hd
              have f1 := cell_keep hd HC.out.2.1
              have f2 := cell_keep hd HC.out.2.2.1
              have f3 := cell_keep hd HC.out.2.2.2
              clear hal hd
              by_cases hjl : j < m.tables.length
              · have hjl' : (j : Int) < (m.tables.length : Int) := by omega
                have hja : j < s.ops.length := by omega
                have hja' : (j : Int) < (s.ops.length : Int) := by omega
                have hj0 : (0 : Int) ≤ (j : Int) := by omega
                obtain ⟨b7, o7, c7, u7, e, hra, hri⟩ := (Hs.out.of.2.keep HD.out).at_ hja
                cases e
                obtain ⟨b8, o8, c8, u8, e, hrb, hrj⟩ := (Hm.out.of.2.keep HD.out).at_ hjl
                cases e
                have hvr := valid_row HV.out hja
                have HIN := Lib.hid (show ∀ x ∈ s.ops[j], 0 ≤ x ∧ x < (m.sizes.length : Int) from fun y hy => by have := hvr.2.2 y hy; have := HSL.out; omega)
                have HR13 := Lib.hid (And.intro hvr.1 hvr.2.1)
                have HTA := Lib.hid (tabB_at hja hjl)
                have HBAD := Lib.hid (fun h => model_no5 (s := s) hjl h)
                have HSUC := Lib.hid (allTab_succ s m j)
                generalize s.ops[j] = row at hri hra HIN HTA HR13
                generalize m.tables[j] = table at hrj hrb HTA
                have HRI := Lib.hid hri
                have HRJ := Lib.hid hrj
                obtain ⟨A7, d7, rfl, -⟩ := hri.form
                obtain ⟨A8, d8, rfl, -⟩ := hrj.form
                obtain ⟨r, hr⟩ : ∃ r, tableB m.sizes row table = r := ⟨_, rfl⟩
                rw [hr] at HTA
                have HR := Lib.hid hr
                clear hr hri hrj hvr
                go_wp2_with fail
                refine wp_region_held_drew (S := (fun w' => w'.cell? ⟨w.heap.size, 1, none⟩ = some (.slice (some ⟨b7, o7, none⟩) s.ops.length csa) ∧ w'.cell? ⟨w.heap.size + 1, 0, none⟩ = some (.slice Ama m.sizes.length cma) ∧ w'.cell? ⟨w.heap.size + 1, 1, none⟩ = some (.slice (some ⟨b8, o8, none⟩) m.tables.length cmb) ∧ w'.cell? ⟨b7, o7 + j, none⟩ = some (.slice A7 row.length d7))) (by kernel_rfl) ?_ (fun hHeld => ?_)
                · exact ⟨f1, f2, f3, hra⟩
                refine wpAnyH_take (i := 0) (oi := _) (v := ?_) rfl (by kernel_rfl) (by kernel_rfl) (by kernel_rfl) (fun _ _ _ h => h) (Or.inl ⟨by rfl, ?_⟩) (by assumption) ?_
                rotate_left
                · first | (intro w' hSw; (try dsimp only at hSw); go_simp; done) | (intro w' hSw; (try dsimp only at hSw); go_simp; with_reducible rfl)
                try simp only [Act.put, List.getElem_toArray, List.getElem_cons_zero, List.getElem_cons_succ, List.setIfInBounds_toArray, List.set_cons_zero, List.set_cons_succ]
                refine wpAnyH_take (i := 1) (oi := _) (v := ?_) rfl (by kernel_rfl) (by kernel_rfl) (by kernel_rfl) (fun _ _ _ h => h) (Or.inl ⟨by rfl, ?_⟩) (by assumption) ?_
                rotate_left
                · first | (intro w' hSw; (try dsimp only at hSw); go_simp; done) | (intro w' hSw; (try dsimp only at hSw); go_simp; with_reducible rfl)
                try simp only [Act.put, List.getElem_toArray, List.getElem_cons_zero, List.getElem_cons_succ, List.setIfInBounds_toArray, List.set_cons_zero, List.set_cons_succ]
                refine wpAnyH_take (i := 2) (oi := _) (v := ?_) rfl (by kernel_rfl) (by kernel_rfl) (by kernel_rfl) (fun _ _ _ h => h) (Or.inl ⟨by rfl, ?_⟩) (by assumption) ?_
                rotate_left
                · first | (intro w' hSw; (try dsimp only at hSw); go_simp; done) | (intro w' hSw; (try dsimp only at hSw); go_simp; with_reducible rfl)
                try simp only [Act.put, List.getElem_toArray, List.getElem_cons_zero, List.getElem_cons_succ, List.setIfInBounds_toArray, List.set_cons_zero, List.set_cons_succ]
                refine wpAnyH_take (i := 3) (oi := _) (v := ?_) rfl (by kernel_rfl) (by kernel_rfl) (by kernel_rfl) (fun _ _ _ h => h) (Or.inl ⟨by rfl, ?_⟩) (by assumption) ?_
                rotate_left
                · first | (intro w' hSw; (try dsimp only at hSw); go_simp; done) | (intro w' hSw; (try dsimp only at hSw); go_simp; with_reducible rfl)
                try simp only [Act.put, List.getElem_toArray, List.getElem_cons_zero, List.getElem_cons_succ, List.setIfInBounds_toArray, List.set_cons_zero, List.set_cons_succ]
                refine wpAnyH_take (i := 4) (oi := _) (v := ?_) rfl (by kernel_rfl) (by kernel_rfl) (by kernel_rfl) (fun _ _ _ h => h) (Or.inl ⟨by rfl, ?_⟩) (by assumption) ?_
                rotate_left
                · first | (intro w' hSw; (try dsimp only at hSw); go_simp; done) | (intro w' hSw; (try dsimp only at hSw); go_simp; with_reducible rfl)
                try simp only [Act.put, List.getElem_toArray, List.getElem_cons_zero, List.getElem_cons_succ, List.setIfInBounds_toArray, List.set_cons_zero, List.set_cons_succ]
                refine wpAnyH_take (i := 5) (oi := _) (v := ?_) rfl (by kernel_rfl) (by kernel_rfl) (by kernel_rfl) (fun _ _ _ h => h) (Or.inl ⟨by rfl, ?_⟩) (by assumption) ?_
                rotate_left
                · first | (intro w' hSw; (try dsimp only at hSw); go_simp; done) | (intro w' hSw; (try dsimp only at hSw); go_simp; with_reducible rfl)
                try simp only [Act.put, List.getElem_toArray, List.getElem_cons_zero, List.getElem_cons_succ, List.setIfInBounds_toArray, List.set_cons_zero, List.set_cons_succ]
                refine wpAnyH_take (i := 6) (oi := _) (v := ?_) rfl (by kernel_rfl) (by kernel_rfl) (by kernel_rfl) (fun _ _ _ h => h) (Or.inl ⟨by rfl, ?_⟩) (by assumption) ?_
                rotate_left
                · first | (intro w' hSw; (try dsimp only at hSw); go_simp; done) | (intro w' hSw; (try dsimp only at hSw); go_simp; with_reducible rfl)
                try simp only [Act.put, List.getElem_toArray, List.getElem_cons_zero, List.getElem_cons_succ, List.setIfInBounds_toArray, List.set_cons_zero, List.set_cons_succ]
                refine wpAnyH_ready (rs := [7]) (by kernel_rfl) (by simp) ?_
                refine AllReadyH.cons (o := _) rfl (fun K hK => ?_) AllReadyH.nil
                go_simp
                refine (tableOk_any m row table _ _ _ _ ((Hm.out.keep HD.out).keep (map_drew (Below.refl _ _))) (HRI.out.keep (map_drew (Below.refl _ _))) (HRJ.out.keep (map_drew (Below.refl _ _))) HR13.out.1 HR13.out.2 HZ.out HIN.out hms3).mono ?_
                rw [HR.out]
                rintro x w5 ⟨rfl, hb5⟩
                have hx5 := map_undrew hb5
                have HX5 := Lib.hid (sz_keep HD.out hx5)
                have q1 := cell_keep hx5 f1
                have q2 := cell_keep hx5 f2
                have q3 := cell_keep hx5 f3
                have q4 := cell_keep hx5 hra
                clear hx5 hb5
                go_wp2_with fail
                refine hK.out _ _ ?_ (fun hHeld => ?_)
                · exact ⟨q1, q2, q3, q4⟩
                clear hK K
                try simp only [Act.put, List.getElem_toArray, List.getElem_cons_zero, List.getElem_cons_succ, List.setIfInBounds_toArray, List.set_cons_zero, List.set_cons_succ]
                refine wpAnyH_take (i := 8) (oi := _) (v := ?_) rfl (by kernel_rfl) (by kernel_rfl) (by kernel_rfl) (fun _ _ _ h => h) (Or.inl ⟨by rfl, ?_⟩) (by assumption) ?_
                rotate_left
                · first | (intro w' hSw; (try dsimp only at hSw); go_simp; done) | (intro w' hSw; (try dsimp only at hSw); go_simp; with_reducible rfl)
                try simp only [Act.put, List.getElem_toArray, List.getElem_cons_zero, List.getElem_cons_succ, List.setIfInBounds_toArray, List.set_cons_zero, List.set_cons_succ]
                refine wpAnyH_done (by kernel_rfl) ?_ _
                clear f1 f2 f3 hra hrb q1 q2 q3 q4
                cases r with
                | true =>
                  go_wp2
                  go_roundw
                  case rel => exact ⟨j + 1, by omega, by go_num, by rw [HSUC.out, HAL.out, HTA.out]; rfl, HX5.out⟩
                  case measure => simp [intOf]; omega
                | false =>
                  have HF := Lib.hid (HBAD.out HTA.out)
                  go_wp2
                  go_ret
                  exact ⟨ret_bool HF.out.symm, sz_keep HB.out HX5.out⟩
              · have hkn2 : j = m.tables.length := by omega
                have hlt2 : ¬ (j : Int) < (m.tables.length : Int) := by omega
                have HE := Lib.hid (model_yes HV.out HSL.out HOL.out (sizesB_iff.2 HZ.out) (by rw [← hkn2]; exact HAL.out))
                clear f1 f2 f3
                go_wp2
                go_ret
                exact ⟨ret_bool HE.out.symm, sz_keep HB.out HD.out⟩
      · have e2 : ((m.tables.length : Int) != (s.ops.length : Int)) = true := by simp; omega
        have HE := Lib.hid (model_no3 ho)
        clear ho hs
        go_enter Try.func45, Try.ntmps45
        go_wp2_with fail
        clear hW
        refine (sigValid_any _ s _ Hs.out).mono ?_
        rw [HV.out]
        rintro e w1 ⟨rfl, hb⟩
        replace HB := Lib.hid (sz_keep HB.out hb)
        replace s0 := cell_keep hb s0
        replace s1 := cell_keep hb s1
        replace m0 := cell_keep hb m0
        replace m1 := cell_keep hb m1
        replace Hs := Lib.hid (Hs.out.keep hb)
        replace Hm := Lib.hid (Hm.out.keep hb)
        clear hb
        go_wp2
        go_ret
        exact ⟨ret_bool HE.out.symm, HB.out⟩
    · have e1 : ((m.sizes.length : Int) != s.sorts) = true := by simpa using hs
      have HE := Lib.hid (model_no2 hs)
      clear hs
      go_enter Try.func45, Try.ntmps45
      go_wp2_with fail
      clear hW
      refine (sigValid_any _ s _ Hs.out).mono ?_
      rw [HV.out]
      rintro e w1 ⟨rfl, hb⟩
      replace HB := Lib.hid (sz_keep HB.out hb)
      replace s0 := cell_keep hb s0
      replace s1 := cell_keep hb s1
      replace m0 := cell_keep hb m0
      replace m1 := cell_keep hb m1
      replace Hs := Lib.hid (Hs.out.keep hb)
      replace Hm := Lib.hid (Hm.out.keep hb)
      clear hb
      go_wp2
      go_ret
      exact ⟨ret_bool HE.out.symm, HB.out⟩
end

section
open Go.RowKit
set_option linter.unusedVariables false
set_option linter.unusedSimpArgs false

set_option maxHeartbeats 3200000 in
set_option maxRecDepth 100000 in
theorem homOk_any (s : MSig) (m n : MModel) (h : List (List Int)) (w : World) (v va vb vh : Value) (h1 : RSig w v s) (h2 : RModel w va m) (h3 : RModel w vb n) (h4 : RRows w vh h) :
    Calls Try.prog 16 #[v, va, vb, vh] w fun e w' => e = .returned (.bool (homB s m n h)) ∧ Below w.heap.size w w' := by
  obtain ⟨Asa, csa, rfl⟩ := h1.form
  obtain ⟨Ama, cma, Amb, cmb, rfl⟩ := h2.form
  obtain ⟨Ana, cna, Anb, cnb, rfl⟩ := h3.form
  have hb : Below w.heap.size w (((w.alloc (.cells #[.int .i64 s.sorts, .slice Asa s.ops.length csa] 32)).alloc (.cells #[.slice Ama m.sizes.length cma, .slice Amb m.tables.length cmb] 34)).alloc (.cells #[.slice Ana n.sizes.length cna, .slice Anb n.tables.length cnb] 34)) := ((below_alloc _ _).alloc (by simp) _).alloc (by simp; omega) _
  have HB := Lib.hid hb
  have hsz : (((w.alloc (.cells #[.int .i64 s.sorts, .slice Asa s.ops.length csa] 32)).alloc (.cells #[.slice Ama m.sizes.length cma, .slice Amb m.tables.length cmb] 34)).alloc (.cells #[.slice Ana n.sizes.length cna, .slice Anb n.tables.length cnb] 34)).heap.size = w.heap.size + 3 := by simp
  have Hs := Lib.hid (h1.keep hb)
  have s0 := cell_keep (below_alloc ((w.alloc (.cells #[.int .i64 s.sorts, .slice Asa s.ops.length csa] 32)).alloc (.cells #[.slice Ama m.sizes.length cma, .slice Amb m.tables.length cmb] 34)) (.cells #[.slice Ana n.sizes.length cna, .slice Anb n.tables.length cnb] 34)) (cell_keep (below_alloc (w.alloc (.cells #[.int .i64 s.sorts, .slice Asa s.ops.length csa] 32)) (.cells #[.slice Ama m.sizes.length cma, .slice Amb m.tables.length cmb] 34)) (bx_at (w) #[.int .i64 s.sorts, .slice Asa s.ops.length csa] 32 (k := 0) rfl))
  have s1 := cell_keep (below_alloc ((w.alloc (.cells #[.int .i64 s.sorts, .slice Asa s.ops.length csa] 32)).alloc (.cells #[.slice Ama m.sizes.length cma, .slice Amb m.tables.length cmb] 34)) (.cells #[.slice Ana n.sizes.length cna, .slice Anb n.tables.length cnb] 34)) (cell_keep (below_alloc (w.alloc (.cells #[.int .i64 s.sorts, .slice Asa s.ops.length csa] 32)) (.cells #[.slice Ama m.sizes.length cma, .slice Amb m.tables.length cmb] 34)) (bx_at (w) #[.int .i64 s.sorts, .slice Asa s.ops.length csa] 32 (k := 1) rfl))
  have Hm := Lib.hid (h2.keep hb)
  have m0 := cell_keep (below_alloc ((w.alloc (.cells #[.int .i64 s.sorts, .slice Asa s.ops.length csa] 32)).alloc (.cells #[.slice Ama m.sizes.length cma, .slice Amb m.tables.length cmb] 34)) (.cells #[.slice Ana n.sizes.length cna, .slice Anb n.tables.length cnb] 34)) (bx_at (w.alloc (.cells #[.int .i64 s.sorts, .slice Asa s.ops.length csa] 32)) #[.slice Ama m.sizes.length cma, .slice Amb m.tables.length cmb] 34 (k := 0) rfl)
  have m1 := cell_keep (below_alloc ((w.alloc (.cells #[.int .i64 s.sorts, .slice Asa s.ops.length csa] 32)).alloc (.cells #[.slice Ama m.sizes.length cma, .slice Amb m.tables.length cmb] 34)) (.cells #[.slice Ana n.sizes.length cna, .slice Anb n.tables.length cnb] 34)) (bx_at (w.alloc (.cells #[.int .i64 s.sorts, .slice Asa s.ops.length csa] 32)) #[.slice Ama m.sizes.length cma, .slice Amb m.tables.length cmb] 34 (k := 1) rfl)
  have Hn := Lib.hid (h3.keep hb)
  have n0 := bx_at ((w.alloc (.cells #[.int .i64 s.sorts, .slice Asa s.ops.length csa] 32)).alloc (.cells #[.slice Ama m.sizes.length cma, .slice Amb m.tables.length cmb] 34)) #[.slice Ana n.sizes.length cna, .slice Anb n.tables.length cnb] 34 (k := 0) rfl
  have n1 := bx_at ((w.alloc (.cells #[.int .i64 s.sorts, .slice Asa s.ops.length csa] 32)).alloc (.cells #[.slice Ama m.sizes.length cma, .slice Amb m.tables.length cmb] 34)) #[.slice Ana n.sizes.length cna, .slice Anb n.tables.length cnb] 34 (k := 1) rfl
  simp only [World.size_alloc] at m0 m1 n0 n1
  generalize hW : ((w.alloc (.cells #[.int .i64 s.sorts, .slice Asa s.ops.length csa] 32)).alloc (.cells #[.slice Ama m.sizes.length cma, .slice Amb m.tables.length cmb] 34)).alloc (.cells #[.slice Ana n.sizes.length cna, .slice Anb n.tables.length cnb] 34) = W at HB hsz Hs s0 s1 Hm m0 m1 Hn n0 n1
  clear hb h1 h2 h3
  have HH := Lib.hid (h4.keep HB.out)
  have hhl := h4.len
  obtain ⟨Ah, ch, rfl, -⟩ := h4.form
  clear h4
  cases hma : modelB s m with
  | false =>
    have HMA := Lib.hid hma
    have HE := Lib.hid (hom_no1 (b := n) (h := h) hma)
    clear hma
    go_enter Try.func16, Try.ntmps16
    go_wp2_with fail
    clear hW
    refine (modelOk_any s m _ _ _ Hs.out Hm.out).mono ?_
    rw [HMA.out]
    rintro x w1 ⟨rfl, hb⟩
    replace HB := Lib.hid (sz_keep HB.out hb)
    replace s0 := cell_keep hb s0
    replace s1 := cell_keep hb s1
    replace m0 := cell_keep hb m0
    replace m1 := cell_keep hb m1
    replace n0 := cell_keep hb n0
    replace n1 := cell_keep hb n1
    replace Hs := Lib.hid (Hs.out.keep hb)
    replace Hm := Lib.hid (Hm.out.keep hb)
    replace Hn := Lib.hid (Hn.out.keep hb)
    replace HH := Lib.hid (HH.out.keep hb)
    clear hb
    go_wp2
    go_ret
    exact ⟨ret_bool HE.out.symm, HB.out⟩
  | true =>
    have HMA := Lib.hid hma
    clear hma
    cases hmb : modelB s n with
    | false =>
      have HMB := Lib.hid hmb
      have HE := Lib.hid (hom_no2 (a := m) (h := h) hmb)
      clear hmb
      go_enter Try.func16, Try.ntmps16
      go_wp2_with fail
      clear hW
      refine (modelOk_any s m _ _ _ Hs.out Hm.out).mono ?_
      rw [HMA.out]
      rintro x w1 ⟨rfl, hb⟩
      replace HB := Lib.hid (sz_keep HB.out hb)
      replace s0 := cell_keep hb s0
      replace s1 := cell_keep hb s1
      replace m0 := cell_keep hb m0
      replace m1 := cell_keep hb m1
      replace n0 := cell_keep hb n0
      replace n1 := cell_keep hb n1
      replace Hs := Lib.hid (Hs.out.keep hb)
      replace Hm := Lib.hid (Hm.out.keep hb)
      replace Hn := Lib.hid (Hn.out.keep hb)
      replace HH := Lib.hid (HH.out.keep hb)
      clear hb
      go_wp2_with fail
      refine (modelOk_any s n _ _ _ Hs.out Hn.out).mono ?_
      rw [HMB.out]
      rintro x w2 ⟨rfl, hb⟩
      replace HB := Lib.hid (sz_keep HB.out hb)
      replace s0 := cell_keep hb s0
      replace s1 := cell_keep hb s1
      replace m0 := cell_keep hb m0
      replace m1 := cell_keep hb m1
      replace n0 := cell_keep hb n0
      replace n1 := cell_keep hb n1
      replace Hs := Lib.hid (Hs.out.keep hb)
      replace Hm := Lib.hid (Hm.out.keep hb)
      replace Hn := Lib.hid (Hn.out.keep hb)
      replace HH := Lib.hid (HH.out.keep hb)
      clear hb
      go_wp2
      go_ret
      exact ⟨ret_bool HE.out.symm, HB.out⟩
    | true =>
      have HMB := Lib.hid hmb
      have HFM := Lib.hid (model_facts HMA.out)
      have HFN := Lib.hid (model_facts hmb)
      clear hmb
      by_cases hls : (h.length : Int) = s.sorts
      · have e1 : ((h.length : Int) != s.sorts) = false := by simp [hls]
        have HLS := Lib.hid hls
        clear hls
        go_enter Try.func16, Try.ntmps16
        go_wp2_with fail
        clear hW
        refine (modelOk_any s m _ _ _ Hs.out Hm.out).mono ?_
        rw [HMA.out]
        rintro x w1 ⟨rfl, hb⟩
        replace HB := Lib.hid (sz_keep HB.out hb)
        replace s0 := cell_keep hb s0
        replace s1 := cell_keep hb s1
        replace m0 := cell_keep hb m0
        replace m1 := cell_keep hb m1
        replace n0 := cell_keep hb n0
        replace n1 := cell_keep hb n1
        replace Hs := Lib.hid (Hs.out.keep hb)
        replace Hm := Lib.hid (Hm.out.keep hb)
        replace Hn := Lib.hid (Hn.out.keep hb)
        replace HH := Lib.hid (HH.out.keep hb)
        clear hb
        go_wp2_with fail
        refine (modelOk_any s n _ _ _ Hs.out Hn.out).mono ?_
        rw [HMB.out]
        rintro x w2 ⟨rfl, hb⟩
        replace HB := Lib.hid (sz_keep HB.out hb)
        replace s0 := cell_keep hb s0
        replace s1 := cell_keep hb s1
        replace m0 := cell_keep hb m0
        replace m1 := cell_keep hb m1
        replace n0 := cell_keep hb n0
        replace n1 := cell_keep hb n1
        replace Hs := Lib.hid (Hs.out.keep hb)
        replace Hm := Lib.hid (Hm.out.keep hb)
        replace Hn := Lib.hid (Hn.out.keep hb)
        replace HH := Lib.hid (HH.out.keep hb)
        clear hb
        have HCX := Lib.hid (And.intro s0 (And.intro s1 (And.intro m0 (And.intro m1 (And.intro n0 n1)))))
        go_wp2
        clear s0 s1 m0 m1 n0 n1
        go_loopw [9, 10, 12, 32] (fun _ _ _ i wr => ∃ k : Nat, k ≤ h.length ∧ i = .int .i64 k ∧ allN (homRow m n h) k = true ∧ Below w2.heap.size w2 wr) (fun _ _ _ i _ => h.length - (intOf i).toNat)
        case atStart => exact ⟨0, Nat.zero_le _, rfl, rfl, Below.refl _ _⟩
        case round =>
          obtain ⟨k, hk, rfl, hall, hd⟩ := hrel
          have HALL := Lib.hid hall
          have HD := Lib.hid hd
          have f0 := cell_keep hd HCX.out.1
          have f1 := cell_keep hd HCX.out.2.1
          have f2 := cell_keep hd HCX.out.2.2.1
          have f3 := cell_keep hd HCX.out.2.2.2.1
          have f4 := cell_keep hd HCX.out.2.2.2.2.1
          have f5 := cell_keep hd HCX.out.2.2.2.2.2
          clear hall hd
          by_cases hlt : k < h.length
          · have hlt' : (k : Int) < (h.length : Int) := by omega
            have hkm : k < m.sizes.length := by have := HLS.out; have := HFM.out.sl; omega
            have hkn : k < n.sizes.length := by have := HLS.out; have := HFN.out.sl; omega
            have hkm' : (k : Int) < (m.sizes.length : Int) := by omega
            have hkn' : (k : Int) < (n.sizes.length : Int) := by omega
            have hk3 : k ≤ 3 := by have := HFM.out.sorts; omega
            obtain ⟨b4, o4, c4, u4, e, hx, hr4⟩ := (HH.out.keep HD.out).at_ hlt
            cases e
            obtain ⟨b5, o5, c5, e, hy⟩ := (Hm.out.of.1.keep HD.out).at_ hkm
            cases e
            have HTS := Lib.hid (allN_succ (homRow m n h) k)
            have HNO := Lib.hid (fun e => hom_no4 (s := s) (a := m) (b := n) hlt e)
            have HR1 := Lib.hid (fun e => homRow_no1 (a := m) (b := n) (h := h) (k := k) e)
            have HR2 := Lib.hid (fun e => homRow_no2 (a := m) (b := n) (h := h) (k := k) e)
            have HR3 := Lib.hid (fun e1 e2 => homRow_yes (a := m) (b := n) (h := h) (k := k) e1 e2)
            rw [getD_at _ hlt] at HR1 HR2 HR3
            rw [getD_at _ hkm] at HR1 HR3
            generalize h[k] = row at hx hr4 HR1 HR2 HR3
            generalize m.sizes[k] = z at hy HR1 HR3
            have HRW := Lib.hid hr4
            have hrl := hr4.len
            obtain ⟨A6, c6, rfl, -⟩ := hr4.form
            clear hr4
            by_cases hlz : (row.length : Int) = z
            · have e2 : ((row.length : Int) != z) = false := by simp [hlz]
              have HLZ := Lib.hid hlz
              clear hlz
              have HQ := Lib.hid (fun w0 v0 (h0 : RModel w0 v0 n) x => isValue_any n (k : Int) x w0 v0 h0 (by omega) hkn')
              rw [Int.toNat_natCast] at HQ
              obtain ⟨y, hyv⟩ : ∃ y, n.sizes.getD k 0 = y := ⟨_, rfl⟩
              rw [hyv] at HQ HR2 HR3
              clear hyv
              have HCK := Lib.hid (And.intro f4 f5)
              go_wp2
              clear f0 f1 f2 f3 f4 f5 hx hy
              go_loopw [12, 47] (fun _ i wk => ∃ j : Nat, j ≤ row.length ∧ i = .int .i64 j ∧ belowB (row.take j) y = true ∧ Below wr.heap.size wr wk) (fun _ i _ => row.length - (intOf i).toNat)
              case atStart => exact ⟨0, Nat.zero_le _, rfl, rfl, Below.refl _ _⟩
              case round =>
                obtain ⟨j, hj, rfl, hbl, hdk⟩ := hrel
                have HBL := Lib.hid hbl
                have HDK := Lib.hid hdk
                have f4 := cell_keep hdk HCK.out.1
                have f5 := cell_keep hdk HCK.out.2
                clear hbl hdk
                by_cases hjt : j < row.length
                · have hjt' : (j : Int) < (row.length : Int) := by omega
                  obtain ⟨b7, o7, c7, e, hv7⟩ := (HRW.out.keep HDK.out).at_ hjt
                  cases e
                  have HT := Lib.hid (belowB_step (z := y) hjt)
                  have HN := Lib.hid (belowB_no (z := y) hjt)
                  generalize row[j] = x at hv7 HT HN
                  obtain ⟨r, hr⟩ : ∃ r, inSize y x = r := ⟨_, rfl⟩
                  rw [hr] at HT HN
                  have HR := Lib.hid hr
                  clear hr
                  go_wp2_with fail
                  refine (HQ.out _ _ ((Hn.out.keep HD.out).keep HDK.out) x).mono ?_
                  rw [HR.out]
                  rintro e w7 ⟨rfl, hb7⟩
                  have HX7 := Lib.hid (sz_keep HDK.out hb7)
                  clear hb7 f4 f5 hv7
                  cases r with
                  | true =>
                    go_wp2
                    go_roundw
                    case rel => exact ⟨j + 1, by omega, by go_num, by rw [HT.out, HBL.out]; rfl, HX7.out⟩
                    case measure => simp [intOf]; omega
                  | false =>
                    have HF := Lib.hid (HNO.out (HR2.out (HN.out rfl)))
                    go_wp2
                    go_ret
                    exact ⟨ret_bool HF.out.symm, sz_keep HB.out (sz_keep HD.out HX7.out)⟩
                · have hjn : j = row.length := by omega
                  have hjt' : ¬ (j : Int) < (row.length : Int) := by omega
                  have HT := Lib.hid (show row.take j = row from take_all (by omega))
                  rw [HT.out] at HBL
                  have HF := Lib.hid (HR3.out HLZ.out HBL.out)
                  go_wp2
                  go_roundw
                  case rel => exact ⟨k + 1, by omega, by go_num, by rw [HTS.out, HALL.out, HF.out]; rfl, sz_keep HD.out HDK.out⟩
                  case measure => simp [intOf]; omega
            · have e2 : ((row.length : Int) != z) = true := by simpa using hlz
              have HF := Lib.hid (HNO.out (HR1.out hlz))
              clear hlz
              go_wp2
              go_ret
              exact ⟨ret_bool HF.out.symm, sz_keep HB.out HD.out⟩
          · have hkn : k = h.length := by omega
            have hlt' : ¬ (k : Int) < (h.length : Int) := by omega
            subst hkn
            have HRW := Lib.hid (hom_rows HMA.out HMB.out HLS.out HALL.out)
            have HIS := Lib.hid (hom_is HMA.out HMB.out HLS.out HALL.out)
            go_wp2_with fail
            refine (opsGoAlong_any s m n h HRW.out _ _ _ _ _ (Hs.out.keep HD.out) (Hm.out.keep HD.out) (Hn.out.keep HD.out) (HH.out.keep HD.out)).mono ?_
            rintro e w7 ⟨rfl, hb7⟩
            have HX7 := Lib.hid (sz_keep HD.out hb7)
            clear hb7 f0 f1 f2 f3 f4 f5
            go_wp2
            go_ret
            exact ⟨ret_bool HIS.out.symm, sz_keep HB.out HX7.out⟩
      · have e1 : ((h.length : Int) != s.sorts) = true := by simpa using hls
        have HE := Lib.hid (hom_no3 (a := m) (b := n) hls)
        clear hls
        go_enter Try.func16, Try.ntmps16
        go_wp2_with fail
        clear hW
        refine (modelOk_any s m _ _ _ Hs.out Hm.out).mono ?_
        rw [HMA.out]
        rintro x w1 ⟨rfl, hb⟩
        replace HB := Lib.hid (sz_keep HB.out hb)
        replace s0 := cell_keep hb s0
        replace s1 := cell_keep hb s1
        replace m0 := cell_keep hb m0
        replace m1 := cell_keep hb m1
        replace n0 := cell_keep hb n0
        replace n1 := cell_keep hb n1
        replace Hs := Lib.hid (Hs.out.keep hb)
        replace Hm := Lib.hid (Hm.out.keep hb)
        replace Hn := Lib.hid (Hn.out.keep hb)
        replace HH := Lib.hid (HH.out.keep hb)
        clear hb
        go_wp2_with fail
        refine (modelOk_any s n _ _ _ Hs.out Hn.out).mono ?_
        rw [HMB.out]
        rintro x w2 ⟨rfl, hb⟩
        replace HB := Lib.hid (sz_keep HB.out hb)
        replace s0 := cell_keep hb s0
        replace s1 := cell_keep hb s1
        replace m0 := cell_keep hb m0
        replace m1 := cell_keep hb m1
        replace n0 := cell_keep hb n0
        replace n1 := cell_keep hb n1
        replace Hs := Lib.hid (Hs.out.keep hb)
        replace Hm := Lib.hid (Hm.out.keep hb)
        replace Hn := Lib.hid (Hn.out.keep hb)
        replace HH := Lib.hid (HH.out.keep hb)
        clear hb
        go_wp2
        go_ret
        exact ⟨ret_bool HE.out.symm, HB.out⟩
end

section
open Go.RowKit
set_option linter.unusedVariables false
set_option linter.unusedSimpArgs false

theorem rowLed_dl {sizes row : List Int} (h : ∀ x ∈ row, 0 ≤ x ∧ x < (sizes.length : Int)) (hs : sizes.length ≤ 3) : rowLed sizes row.dropLast = ledM sizes row.dropLast :=
  rowLed_led fun x hx => by have := h x (List.mem_of_mem_dropLast' hx); omega
theorem led_dl_at {sizes row : List Int} {k : Nat} (hk : k + 1 < row.length) (h : ∀ x ∈ row, 0 ≤ x ∧ x < (sizes.length : Int)) (hs : sizes.length ≤ 3) (h1 : k < (ledM sizes row.dropLast).length) : (ledM sizes row.dropLast)[k] = sizes.getD (row[k]).toNat 0 := by
  have hd : k < row.dropLast.length := by rw [List.length_dropLast]; omega
  have e := ledM_at (to := sizes) hd
  rw [List.getElem?_eq_getElem h1] at e
  injection e with e
  rw [e]
  have hg : row.dropLast[k] = row[k] := List.getElem_dropLast hd
  rw [hg]
  have := h _ (List.getElem_mem (show k < row.length by omega))
  rw [if_pos (by omega)]

set_option maxRecDepth 100000 in
theorem l5Rows_any (sizes row : List Int) (w : World) (v v' : Value) (h : RInts w v sizes) (h' : RInts w v' row) (hr1 : 1 ≤ row.length) (hr3 : row.length ≤ 3) (hz : Sizes sizes) (hin : ∀ x ∈ row, 0 ≤ x ∧ x < (sizes.length : Int)) (hms : sizes.length ≤ 3) :
    Calls Try.prog 61 #[v, v'] w fun e w' => e = .returned (.int .i64 (waysM (ledM sizes row.dropLast))) ∧ w = w' := by
  have H := Lib.hid h
  have H' := Lib.hid h'
  obtain ⟨A, c, rfl, -⟩ := h.form
  obtain ⟨A', c', rfl, -⟩ := h'.form
  have hll : (ledM sizes row.dropLast).length = row.length - 1 := by rw [ledM_len, List.length_dropLast]
  have hsz : Sizes (ledM sizes row.dropLast) := sizes_led hz fun x hx => by have := hin x (List.mem_of_mem_dropLast' hx); omega
  have HW := Lib.hid (fun (k : Nat) (hk : k < (ledM sizes row.dropLast).length) => ways_wrap hsz (by omega) hk)
  have HA := Lib.hid (fun (k : Nat) (hk : k + 1 < row.length) (h1 : k < (ledM sizes row.dropLast).length) => led_dl_at hk hin hms h1)
  have HIN := Lib.hid hin
  have HLL := Lib.hid hll
  generalize hzs : ledM sizes row.dropLast = zs at HW HA HLL ⊢
  clear h h' hz hin hll hsz hzs
  go_enter Try.func61, Try.ntmps61
  go_wp2
  go_loopw [5, 6] (fun p i wr => ∃ k : Nat, k + 1 ≤ row.length ∧ i = .int .i64 k ∧ p = .int .i64 (waysM (zs.take k)) ∧ w = wr) (fun _ i _ => row.length - (intOf i).toNat)
  case atStart => exact ⟨0, by omega, rfl, rfl, rfl⟩
  case round =>
    obtain ⟨k, hk, rfl, rfl, rfl⟩ := hrel
    by_cases hlt : k + 1 < row.length
    · have hkr : k < row.length := by omega
      obtain ⟨b, o, c2, e, hx⟩ := H'.out.at_ hkr
      cases e
      have hlt' : (k : Int) + 1 < (row.length : Int) := by omega
      have hkz : k < zs.length := by have := HLL.out; omega
      have HI := Lib.hid (HIN.out _ (List.getElem_mem hkr))
      have hza := HA.out k hlt hkz
      have hw := HW.out k hkz
      rw [hza] at hw
      clear hza
      generalize row[k] = x at hx HI hw
      obtain ⟨n, rfl⟩ : ∃ n : Nat, x = (n : Int) := ⟨x.toNat, by have := HI.out; omega⟩
      have hns : n < sizes.length := by have := HI.out; omega
      have hns' : (n : Int) < (sizes.length : Int) := by omega
      obtain ⟨b2, o2, c3, e, hy⟩ := H.out.at_ hns
      cases e
      rw [Int.toNat_natCast, getD_at _ hns] at hw
      generalize sizes[n] = z at hy hw
      generalize hq : waysM (zs.take (k + 1)) = q at hw
      have HQ := Lib.hid hq
      have hw1 : IntKind.i64.wrap ((k : Int) + 1) = (k : Int) + 1 := by rw [IntKind.wrap_i64]; omega
      clear hq
      go_wp2
      go_roundw
      case rel => exact ⟨k + 1, by omega, by go_num, by rw [HQ.out], by first | trivial | rfl⟩
      case measure => simp [intOf]; omega
    · have hkn : k = zs.length := by have := HLL.out; omega
      have hlt' : ¬ (k : Int) + 1 < (row.length : Int) := by omega
      have HT := Lib.hid (show zs.take k = zs from take_all (by omega))
      have hw1 : IntKind.i64.wrap ((k : Int) + 1) = (k : Int) + 1 := by rw [IntKind.wrap_i64]; omega
      rw [HT.out]
      go_wp2
      go_ret
      exact ⟨rfl, rfl⟩
end

section
open Go.RowKit
set_option linter.unusedVariables false
set_option linter.unusedSimpArgs false

theorem nextM_carry {zs xs : List Int} {m : Nat} (hz : m < zs.length) (hx : m < xs.length) (h : (nextM (zs.drop (m + 1)) (xs.drop (m + 1))).2 = false) :
    nextM (zs.drop m) (xs.drop m) = if xs[m] + 1 < zs[m] then ((xs[m] + 1) :: (nextM (zs.drop (m + 1)) (xs.drop (m + 1))).1, true) else (0 :: (nextM (zs.drop (m + 1)) (xs.drop (m + 1))).1, false) := by
  rw [List.drop_eq_getElem_cons hz, List.drop_eq_getElem_cons hx]
  simp only [nextM, h]
  simp
theorem nextM_pre : ∀ {zs xs : List Int} {m : Nat}, m ≤ zs.length → m ≤ xs.length → (nextM (zs.drop m) (xs.drop m)).2 = true → nextM zs xs = (xs.take m ++ (nextM (zs.drop m) (xs.drop m)).1, true)
  | zs, xs, 0, _, _, h => by
    simp only [List.drop_zero] at h ⊢
    rw [List.take_zero, List.nil_append, ← h]
  | [], _, m + 1, h1, _, _ => by simp at h1
  | _, [], m + 1, _, h2, _ => by simp at h2
  | z :: zs, x :: xs, m + 1, h1, h2, h => by
    simp only [List.drop_succ_cons] at h ⊢
    have := nextM_pre (zs := zs) (xs := xs) (m := m) (by simpa using h1) (by simpa using h2) h
    simp only [nextM, this]
    simp
theorem set_take {xs tl : List Int} {m : Nat} (h : m < xs.length) (y : Int) : (xs.take (m + 1) ++ tl).set m y = xs.take m ++ (y :: tl) := by
  rw [List.take_succ_eq_append_getElem h, List.append_assoc, List.set_append, if_neg (by rw [List.length_take]; omega)]
  congr 1
  rw [List.length_take, Nat.min_eq_left (by omega), Nat.sub_self]
  rfl
theorem grown_trans {a b c : World} {row : Option Nat} (h : a.grownBy b row) (k : b.grownBy c row) : a.grownBy c row :=
  ⟨k.os.trans h.os, k.tape.trans h.tape, k.output.trans h.output, Nat.le_trans h.size k.size, fun i hi hne => (k.block i (Nat.lt_of_lt_of_le hi h.size) hne).trans (h.block i hi hne)⟩
theorem grown_refl (w : World) (row : Option Nat) : w.grownBy w row := ⟨rfl, rfl, rfl, Nat.le_refl _, fun _ _ _ => rfl⟩
theorem own_cell {w : World} {B g n c : Nat} {xs : List Int} (h : OInts w B (.slice (some ⟨g, 0, none⟩) n c) xs) {k : Nat} (hk : k < xs.length) : w.cell? ⟨g, k, none⟩ = some (.int .i64 xs[k]) ∧ w.frozen? ⟨g, k, none⟩ = false := by
  obtain ⟨b, o, c', e, hc⟩ := h.reads.at_ hk
  injection e with e1 e2
  injection e1 with e1
  injection e1 with e1 e3
  subst e1 e3
  refine ⟨by simpa using hc, ?_⟩
  rcases h.2 with ⟨e, _⟩ | ⟨g', cap, cur, e, hg, hh, r⟩
  · cases e
  · injection e with e1 e2
    injection e1 with e1
    injection e1 with e1 e3
    subst e1
    exact blk_free hh k
theorem own_set {w : World} {B g n c : Nat} {xs : List Int} (h : OInts w B (.slice (some ⟨g, 0, none⟩) n c) xs) (hn : n = xs.length) (k : Nat) (y : Int) :
    OInts (w.setCell ⟨g, k, none⟩ (.int .i64 y)) B (.slice (some ⟨g, 0, none⟩) n c) (xs.set k y) ∧ w.grownBy (w.setCell ⟨g, k, none⟩ (.int .i64 y)) (some g) := by
  subst hn
  have := h.stored k (.int .i64 y)
  refine ⟨?_, this.2⟩
  unfold OInts
  rw [List.length_set, List.map_set]
  exact this.1

theorem own_drew {w : World} {B : Nat} {v : Value} {xs : List Int} (h : OInts w B v xs) : OInts w.drew B v xs := h
theorem grown_drew {a w : World} {row : Option Nat} (h : a.grownBy w row) : a.grownBy w.drew row := ⟨h.os, h.tape, h.output, h.size, h.block⟩
theorem own_drew2 {w : World} {B : Nat} {v u : Value} {xs : List Int} {p : Addr} (h : OInts (w.setCell p u) B v xs) : OInts (w.drew.setCell p u) B v xs := h
theorem grown_drew2 {a w : World} {row : Option Nat} {p : Addr} {u : Value} (h : a.grownBy (w.setCell p u) row) : a.grownBy (w.drew.setCell p u) row := ⟨h.os, h.tape, h.output, h.size, h.block⟩
set_option maxHeartbeats 1600000 in
set_option maxRecDepth 100000 in
theorem l4Next_any (zs xs : List Int) (B g c : Nat) (w : World) (lv : Value) (h : OInts w B (.slice (some ⟨g, 0, none⟩) xs.length c) xs) (hlen : xs.length = zs.length) (hs : xs.length ≤ 1000000) (hb : ∀ x ∈ xs, 0 ≤ x ∧ x ≤ 1000000) (hl : ∀ W', w.grownBy W' (some g) → RInts W' lv zs) :
    Calls Try.prog 43 #[.slice (some ⟨g, 0, none⟩) xs.length c, lv] w fun e w' => e = .returned (.bool (nextM zs xs).2) ∧ OInts w' B (.slice (some ⟨g, 0, none⟩) xs.length c) (nextM zs xs).1 ∧ w.grownBy w' (some g) ∧ w'.heap.size = w.heap.size := by
  have HL := Lib.hid hl
  have HBX := Lib.hid hb
  have H := Lib.hid h
  obtain ⟨Al, cl, rfl, -⟩ := (hl w (grown_refl _ _)).form
  have HLEN := Lib.hid hlen
  have hw0 : IntKind.i64.wrap ((xs.length : Int) - 1) = (xs.length : Int) - 1 := by rw [IntKind.wrap_i64]; omega
  clear h hl hb hlen
  go_enter Try.func43, Try.ntmps43
  go_wp2
  go_loopw [5] (fun i wr => ∃ r : Nat, r ≤ xs.length ∧ i = .int .i64 ((r : Int) - 1) ∧ OInts wr B (.slice (some ⟨g, 0, none⟩) xs.length c) (xs.take r ++ (nextM (zs.drop r) (xs.drop r)).1) ∧ (nextM (zs.drop r) (xs.drop r)).2 = false ∧ w.grownBy wr (some g) ∧ wr.heap.size = w.heap.size) (fun i _ => (intOf i + 1).toNat)
  case atStart =>
    have e1 : zs.drop xs.length = [] := List.drop_of_length_le (by have := HLEN.out; omega)
    refine ⟨xs.length, Nat.le_refl _, rfl, ?_, by rw [e1]; rfl, grown_refl _ _, rfl⟩
    rw [e1, take_all (Nat.le_refl _)]
    simp only [nextM, List.append_nil]
    exact H.out
  case round =>
    obtain ⟨r, hr, rfl, ho, hfl, hg, hz⟩ := hrel
    have HG := Lib.hid hg
    have HZ := Lib.hid hz
    cases r with
    | zero =>
      simp only [List.drop_zero, List.take_zero, List.nil_append] at ho hfl
      have HO := Lib.hid ho
      have HFL := Lib.hid hfl
      have e0 : ((0 : Nat) : Int) - 1 = -1 := rfl
      rw [e0]
      clear ho hfl hg hz
      go_wp2
      go_ret
      exact ⟨ret_bool HFL.out.symm, HO.out, HG.out, HZ.out⟩
    | succ m =>
      have e0 : ((m + 1 : Nat) : Int) - 1 = (m : Int) := by omega
      rw [e0]
      have hm : m < xs.length := by omega
      have hmz : m < zs.length := by have := HLEN.out; omega
      have hm' : (m : Int) < (xs.length : Int) := by omega
      have hmz' : (m : Int) < (zs.length : Int) := by omega
      have hm0 : (0 : Int) ≤ (m : Int) := by omega
      have HCA := Lib.hid (nextM_carry hmz hm hfl)
      have HPR := Lib.hid (fun h => nextM_pre (zs := zs) (xs := xs) (m := m) (Nat.le_of_lt hmz) (by omega) h)
      have hlm : m < (xs.take (m + 1) ++ (nextM (zs.drop (m + 1)) (xs.drop (m + 1))).1).length := by rw [List.length_append, List.length_take]; omega
      have htl : (nextM (zs.drop (m + 1)) (xs.drop (m + 1))).1.length = xs.length - (m + 1) := by rw [nextM_len (by rw [List.length_drop, List.length_drop, HLEN.out]), List.length_drop]
      have HTL := Lib.hid htl
      generalize (nextM (zs.drop (m + 1)) (xs.drop (m + 1))).1 = tl at ho HCA hlm HTL
      obtain ⟨c1, c2⟩ := own_cell ho hlm
      have hgx : (xs.take (m + 1) ++ tl)[m] = xs[m] := by
        rw [List.getElem_append_left (by rw [List.length_take]; omega), List.getElem_take]
      rw [hgx] at c1
      obtain ⟨o1, gg1⟩ := own_set ho (by rw [List.length_append, List.length_take, HTL.out]; omega) m (xs[m] + 1)
      rw [set_take hm] at o1
      have hxb := HBX.out _ (List.getElem_mem hm)
      have hw1 : IntKind.i64.wrap (xs[m] + 1) = xs[m] + 1 := by rw [IntKind.wrap_i64]; omega
      have HO1 := Lib.hid o1
      have HG1 := Lib.hid (grown_trans hg gg1)
      obtain ⟨bl, ol, cl', e, hlz⟩ := (HL.out _ HG1.out).at_ hmz
      cases e
      have hlx : m < (xs.take m ++ (xs[m] + 1) :: tl).length := by rw [List.length_append, List.length_take, List.length_cons]; omega
      obtain ⟨d1, d2⟩ := own_cell o1 hlx
      have hgx2 : (xs.take m ++ (xs[m] + 1) :: tl)[m] = xs[m] + 1 := by
        rw [List.getElem_append_right (by rw [List.length_take]; omega)]
        simp [List.length_take, Nat.min_eq_left (Nat.le_of_lt hm)]
      rw [hgx2] at d1
      obtain ⟨o2, gg2⟩ := own_set o1 (by rw [List.length_append, List.length_take, List.length_cons, HTL.out]; omega) m 0
      have hst2 : (xs.take m ++ (xs[m] + 1) :: tl).set m 0 = xs.take m ++ (0 :: tl) := by
        rw [List.set_append, if_neg (by rw [List.length_take]; omega)]
        congr 1
        rw [List.length_take, Nat.min_eq_left (by omega), Nat.sub_self]; rfl
      rw [hst2] at o2
      have HO2 := Lib.hid o2
      have HG2 := Lib.hid (grown_trans HG1.out gg2)
      have hz1 : (wr.setCell ⟨g, m, none⟩ (.int .i64 (xs[m] + 1))).heap.size = w.heap.size := by simpa [World.setCell] using hz
      have HZ1 := Lib.hid hz1
      generalize xs[m] = x at c1 hw1 d1 HO1 HG1 hlz HCA hxb HO2 HG2 HZ1 d2
      generalize zs[m] = z at hlz HCA
      generalize hWs : wr.setCell ⟨g, m, none⟩ (.int .i64 (x + 1)) = Ws at d1 d2 HO1 HG1 hlz HO2 HG2 HZ1
      clear hg hz ho hlm htl hgx o1 gg1 hlx hgx2 o2 gg2 hst2 hz1 hfl
      by_cases hlt : x + 1 < z
      · have HE := Lib.hid (HCA.out.trans (if_pos hlt))
        have HF := Lib.hid (HPR.out (by rw [HE.out]))
        go_wp2_with fail
        clear hWs c1 c2
        refine wp_region_held_drew (S := (fun w' => w'.cell? ⟨g, m, none⟩ = some (.int .i64 (x + 1)) ∧ w'.cell? ⟨bl, ol + m, none⟩ = some (.int .i64 z))) (by kernel_rfl) ?_ (fun hHeld => ?_)
        · exact ⟨d1, hlz⟩
        refine wpAnyH_take (i := 0) (oi := _) (v := ?_) rfl (by kernel_rfl) (by kernel_rfl) (by kernel_rfl) (fun _ _ _ h => h) (Or.inl ⟨by rfl, ?_⟩) (by assumption) ?_
        rotate_left
        · first | (intro w' hSw; (try dsimp only at hSw); go_simp; done) | (intro w' hSw; (try dsimp only at hSw); go_simp; with_reducible rfl)
        try simp only [Act.put, List.getElem_toArray, List.getElem_cons_zero, List.getElem_cons_succ, List.setIfInBounds_toArray, List.set_cons_zero, List.set_cons_succ]
        refine wpAnyH_take (i := 1) (oi := _) (v := ?_) rfl (by kernel_rfl) (by kernel_rfl) (by kernel_rfl) (fun _ _ _ h => h) (Or.inl ⟨by rfl, ?_⟩) (by assumption) ?_
        rotate_left
        · first | (intro w' hSw; (try dsimp only at hSw); go_simp; done) | (intro w' hSw; (try dsimp only at hSw); go_simp; with_reducible rfl)
        try simp only [Act.put, List.getElem_toArray, List.getElem_cons_zero, List.getElem_cons_succ, List.setIfInBounds_toArray, List.set_cons_zero, List.set_cons_succ]
        refine wpAnyH_take (i := 2) (oi := _) (v := ?_) rfl (by kernel_rfl) (by kernel_rfl) (by kernel_rfl) (fun _ _ _ h => h) (Or.inl ⟨by rfl, ?_⟩) (by assumption) ?_
        rotate_left
        · first | (intro w' hSw; (try dsimp only at hSw); go_simp; done) | (intro w' hSw; (try dsimp only at hSw); go_simp; with_reducible rfl)
        try simp only [Act.put, List.getElem_toArray, List.getElem_cons_zero, List.getElem_cons_succ, List.setIfInBounds_toArray, List.set_cons_zero, List.set_cons_succ]
        refine wpAnyH_take (i := 3) (oi := _) (v := ?_) rfl (by kernel_rfl) (by kernel_rfl) (by kernel_rfl) (fun _ _ _ h => h) (Or.inl ⟨by rfl, ?_⟩) (by assumption) ?_
        rotate_left
        · first | (intro w' hSw; (try dsimp only at hSw); go_simp; done) | (intro w' hSw; (try dsimp only at hSw); go_simp; with_reducible rfl)
        try simp only [Act.put, List.getElem_toArray, List.getElem_cons_zero, List.getElem_cons_succ, List.setIfInBounds_toArray, List.set_cons_zero, List.set_cons_succ]
        refine wpAnyH_take (i := 4) (oi := _) (v := ?_) rfl (by kernel_rfl) (by kernel_rfl) (by kernel_rfl) (fun _ _ _ h => h) (Or.inl ⟨by rfl, ?_⟩) (by assumption) ?_
        rotate_left
        · first | (intro w' hSw; (try dsimp only at hSw); go_simp; done) | (intro w' hSw; (try dsimp only at hSw); go_simp; with_reducible rfl)
        try simp only [Act.put, List.getElem_toArray, List.getElem_cons_zero, List.getElem_cons_succ, List.setIfInBounds_toArray, List.set_cons_zero, List.set_cons_succ]
        refine wpAnyH_take (i := 5) (oi := _) (v := ?_) rfl (by kernel_rfl) (by kernel_rfl) (by kernel_rfl) (fun _ _ _ h => h) (Or.inl ⟨by rfl, ?_⟩) (by assumption) ?_
        rotate_left
        · first | (intro w' hSw; (try dsimp only at hSw); go_simp; done) | (intro w' hSw; (try dsimp only at hSw); go_simp; with_reducible rfl)
        try simp only [Act.put, List.getElem_toArray, List.getElem_cons_zero, List.getElem_cons_succ, List.setIfInBounds_toArray, List.set_cons_zero, List.set_cons_succ]
        refine wpAnyH_take (i := 6) (oi := _) (v := ?_) rfl (by kernel_rfl) (by kernel_rfl) (by kernel_rfl) (fun _ _ _ h => h) (Or.inl ⟨by rfl, ?_⟩) (by assumption) ?_
        rotate_left
        · first | (intro w' hSw; (try dsimp only at hSw); go_simp; done) | (intro w' hSw; (try dsimp only at hSw); go_simp; with_reducible rfl)
        try simp only [Act.put, List.getElem_toArray, List.getElem_cons_zero, List.getElem_cons_succ, List.setIfInBounds_toArray, List.set_cons_zero, List.set_cons_succ]
        refine wpAnyH_take (i := 7) (oi := _) (v := ?_) rfl (by kernel_rfl) (by kernel_rfl) (by kernel_rfl) (fun _ _ _ h => h) (Or.inl ⟨by rfl, ?_⟩) (by assumption) ?_
        rotate_left
        · first | (intro w' hSw; (try dsimp only at hSw); go_simp; done) | (intro w' hSw; (try dsimp only at hSw); go_simp; with_reducible rfl)
        try simp only [Act.put, List.getElem_toArray, List.getElem_cons_zero, List.getElem_cons_succ, List.setIfInBounds_toArray, List.set_cons_zero, List.set_cons_succ]
        refine wpAnyH_take (i := 8) (oi := _) (v := ?_) rfl (by kernel_rfl) (by kernel_rfl) (by kernel_rfl) (fun _ _ _ h => h) (Or.inl ⟨by rfl, ?_⟩) (by assumption) ?_
        rotate_left
        · first | (intro w' hSw; (try dsimp only at hSw); go_simp; done) | (intro w' hSw; (try dsimp only at hSw); go_simp; with_reducible rfl)
        try simp only [Act.put, List.getElem_toArray, List.getElem_cons_zero, List.getElem_cons_succ, List.setIfInBounds_toArray, List.set_cons_zero, List.set_cons_succ]
        refine wpAnyH_done (by kernel_rfl) ?_ _
        clear d1 d2 hlz
        go_wp2
        go_ret
        rw [HF.out, HE.out]
        exact ⟨rfl, own_drew HO1.out, grown_drew HG1.out, HZ1.out⟩
      · have HE := Lib.hid (HCA.out.trans (if_neg hlt))
        go_wp2_with fail
        clear hWs c1 c2
        have d3 : Ws.drew.frozen? ⟨g, m, none⟩ = false := d2
        have d4 : Ws.drew.cell? ⟨g, m, none⟩ = some (.int .i64 (x + 1)) := d1
        refine wp_region_held_drew (S := (fun w' => w'.cell? ⟨g, m, none⟩ = some (.int .i64 (x + 1)) ∧ w'.cell? ⟨bl, ol + m, none⟩ = some (.int .i64 z))) (by kernel_rfl) ?_ (fun hHeld => ?_)
        · exact ⟨d1, hlz⟩
        refine wpAnyH_take (i := 0) (oi := _) (v := ?_) rfl (by kernel_rfl) (by kernel_rfl) (by kernel_rfl) (fun _ _ _ h => h) (Or.inl ⟨by rfl, ?_⟩) (by assumption) ?_
        rotate_left
        · first | (intro w' hSw; (try dsimp only at hSw); go_simp; done) | (intro w' hSw; (try dsimp only at hSw); go_simp; with_reducible rfl)
        try simp only [Act.put, List.getElem_toArray, List.getElem_cons_zero, List.getElem_cons_succ, List.setIfInBounds_toArray, List.set_cons_zero, List.set_cons_succ]
        refine wpAnyH_take (i := 1) (oi := _) (v := ?_) rfl (by kernel_rfl) (by kernel_rfl) (by kernel_rfl) (fun _ _ _ h => h) (Or.inl ⟨by rfl, ?_⟩) (by assumption) ?_
        rotate_left
        · first | (intro w' hSw; (try dsimp only at hSw); go_simp; done) | (intro w' hSw; (try dsimp only at hSw); go_simp; with_reducible rfl)
        try simp only [Act.put, List.getElem_toArray, List.getElem_cons_zero, List.getElem_cons_succ, List.setIfInBounds_toArray, List.set_cons_zero, List.set_cons_succ]
        refine wpAnyH_take (i := 2) (oi := _) (v := ?_) rfl (by kernel_rfl) (by kernel_rfl) (by kernel_rfl) (fun _ _ _ h => h) (Or.inl ⟨by rfl, ?_⟩) (by assumption) ?_
        rotate_left
        · first | (intro w' hSw; (try dsimp only at hSw); go_simp; done) | (intro w' hSw; (try dsimp only at hSw); go_simp; with_reducible rfl)
        try simp only [Act.put, List.getElem_toArray, List.getElem_cons_zero, List.getElem_cons_succ, List.setIfInBounds_toArray, List.set_cons_zero, List.set_cons_succ]
        refine wpAnyH_take (i := 3) (oi := _) (v := ?_) rfl (by kernel_rfl) (by kernel_rfl) (by kernel_rfl) (fun _ _ _ h => h) (Or.inl ⟨by rfl, ?_⟩) (by assumption) ?_
        rotate_left
        · first | (intro w' hSw; (try dsimp only at hSw); go_simp; done) | (intro w' hSw; (try dsimp only at hSw); go_simp; with_reducible rfl)
        try simp only [Act.put, List.getElem_toArray, List.getElem_cons_zero, List.getElem_cons_succ, List.setIfInBounds_toArray, List.set_cons_zero, List.set_cons_succ]
        refine wpAnyH_take (i := 4) (oi := _) (v := ?_) rfl (by kernel_rfl) (by kernel_rfl) (by kernel_rfl) (fun _ _ _ h => h) (Or.inl ⟨by rfl, ?_⟩) (by assumption) ?_
        rotate_left
        · first | (intro w' hSw; (try dsimp only at hSw); go_simp; done) | (intro w' hSw; (try dsimp only at hSw); go_simp; with_reducible rfl)
        try simp only [Act.put, List.getElem_toArray, List.getElem_cons_zero, List.getElem_cons_succ, List.setIfInBounds_toArray, List.set_cons_zero, List.set_cons_succ]
        refine wpAnyH_take (i := 5) (oi := _) (v := ?_) rfl (by kernel_rfl) (by kernel_rfl) (by kernel_rfl) (fun _ _ _ h => h) (Or.inl ⟨by rfl, ?_⟩) (by assumption) ?_
        rotate_left
        · first | (intro w' hSw; (try dsimp only at hSw); go_simp; done) | (intro w' hSw; (try dsimp only at hSw); go_simp; with_reducible rfl)
        try simp only [Act.put, List.getElem_toArray, List.getElem_cons_zero, List.getElem_cons_succ, List.setIfInBounds_toArray, List.set_cons_zero, List.set_cons_succ]
        refine wpAnyH_take (i := 6) (oi := _) (v := ?_) rfl (by kernel_rfl) (by kernel_rfl) (by kernel_rfl) (fun _ _ _ h => h) (Or.inl ⟨by rfl, ?_⟩) (by assumption) ?_
        rotate_left
        · first | (intro w' hSw; (try dsimp only at hSw); go_simp; done) | (intro w' hSw; (try dsimp only at hSw); go_simp; with_reducible rfl)
        try simp only [Act.put, List.getElem_toArray, List.getElem_cons_zero, List.getElem_cons_succ, List.setIfInBounds_toArray, List.set_cons_zero, List.set_cons_succ]
        refine wpAnyH_take (i := 7) (oi := _) (v := ?_) rfl (by kernel_rfl) (by kernel_rfl) (by kernel_rfl) (fun _ _ _ h => h) (Or.inl ⟨by rfl, ?_⟩) (by assumption) ?_
        rotate_left
        · first | (intro w' hSw; (try dsimp only at hSw); go_simp; done) | (intro w' hSw; (try dsimp only at hSw); go_simp; with_reducible rfl)
        try simp only [Act.put, List.getElem_toArray, List.getElem_cons_zero, List.getElem_cons_succ, List.setIfInBounds_toArray, List.set_cons_zero, List.set_cons_succ]
        refine wpAnyH_take (i := 8) (oi := _) (v := ?_) rfl (by kernel_rfl) (by kernel_rfl) (by kernel_rfl) (fun _ _ _ h => h) (Or.inl ⟨by rfl, ?_⟩) (by assumption) ?_
        rotate_left
        · first | (intro w' hSw; (try dsimp only at hSw); go_simp; done) | (intro w' hSw; (try dsimp only at hSw); go_simp; with_reducible rfl)
        try simp only [Act.put, List.getElem_toArray, List.getElem_cons_zero, List.getElem_cons_succ, List.setIfInBounds_toArray, List.set_cons_zero, List.set_cons_succ]
        refine wpAnyH_done (by kernel_rfl) ?_ _
        clear d1 d2 hlz
        have hw9 : IntKind.i64.wrap ((m : Int) - 1) = (m : Int) - 1 := by rw [IntKind.wrap_i64]; omega
        go_wp2
        go_roundw
        case rel => exact ⟨m, by omega, rfl, by rw [HE.out]; exact own_drew2 HO2.out, by rw [HE.out], grown_drew2 HG2.out, by have := HZ1.out; simpa [World.setCell] using this⟩
        case measure => simp [intOf]
end

section
open Go.RowKit
set_option linter.unusedVariables false
set_option linter.unusedSimpArgs false

theorem led_dl_take {sizes row : List Int} {k : Nat} (hk : k + 1 < row.length) (h : ∀ x ∈ row, 0 ≤ x ∧ x < (sizes.length : Int)) (hs : sizes.length ≤ 3) : ledM sizes (row.dropLast.take (k + 1)) = ledM sizes (row.dropLast.take k) ++ [sizes.getD (row[k]).toNat 0] := by
  have hd : k < row.dropLast.length := by rw [List.length_dropLast]; omega
  rw [ledM_take hd]
  have hg : row.dropLast[k] = row[k] := List.getElem_dropLast hd
  rw [hg]
  have := h _ (List.getElem_mem (show k < row.length by omega))
  rw [if_pos (by omega)]
theorem fin_below {W wr w6 : World} {o : Obj} {A : Option Addr} {n c : Nat} (h : Below W.heap.size W wr) (hg : (wr.alloc o).grownBy w6 (Value.slice A n c).ownBlock) (hr : ∀ k, (Value.slice A n c).ownBlock = some k → W.heap.size ≤ k) : Below W.heap.size W w6 :=
  (h.alloc h.size o).grown hg (h.alloc h.size o).size hr

set_option maxHeartbeats 1600000 in
set_option maxRecDepth 100000 in
theorem l6Limits_any (sizes row : List Int) (w : World) (v v' : Value) (h : RInts w v sizes) (h' : RInts w v' row) (hr1 : 1 ≤ row.length) (hr3 : row.length ≤ 3) (hin : ∀ x ∈ row, 0 ≤ x ∧ x < (sizes.length : Int)) (hms : sizes.length ≤ 3) :
    Calls Try.prog 42 #[v, v'] w fun e w' => ∃ u, e = .returned u ∧ OInts w' w.heap.size u (ledM sizes row.dropLast) ∧ Below w.heap.size w w' := by
  obtain ⟨i0, hi0, hz0, hz1, hz2⟩ := info_parts Try.tinfo_int
  have H := Lib.hid h
  have HV := Lib.hid h'
  have HIN := Lib.hid hin
  obtain ⟨A, c, rfl, -⟩ := h.form
  obtain ⟨A', c', rfl, -⟩ := h'.form
  have HTK := Lib.hid (fun (k : Nat) (hk : k + 1 < row.length) => led_dl_take hk hin hms)
  clear h h' hin
  go_enter Try.func42, Try.ntmps42
  go_wp2
  go_loopw [5, 6] (fun p i wr => ∃ k : Nat, k + 1 ≤ row.length ∧ i = .int .i64 k ∧ OInts wr w.heap.size p (ledM sizes (row.dropLast.take k)) ∧ Below w.heap.size w wr) (fun _ i _ => row.length - (intOf i).toNat)
  case atStart => exact ⟨0, by omega, rfl, by first | exact own_empty w | (have h := own_empty w; simpa [ledM] using h), below_alloc _ _⟩
  case round =>
    obtain ⟨k, hk, rfl, ho, hb⟩ := hrel
    have HBW := Lib.hid hb
    clear hb
    have hw1 : IntKind.i64.wrap ((k : Int) + 1) = (k : Int) + 1 := by rw [IntKind.wrap_i64]; omega
    by_cases hlt : k + 1 < row.length
    · obtain ⟨A9, c9, rfl, -⟩ := own_reads ho
      have HO := Lib.hid ho
      clear ho
      have hlt1 : (k : Int) + 1 < (row.length : Int) := by omega
      have hlt' : (k : Int) < (row.length : Int) := by omega
      have hkr : k < row.length := by omega
      obtain ⟨b, o, c4, e, hx⟩ := (HV.out.keep HBW.out).at_ hkr
      cases e
      have HTK1 := Lib.hid (HTK.out k hlt)
      have HI := Lib.hid (HIN.out _ (List.getElem_mem hkr))
      generalize row[k] = x at hx HTK1 HI
      obtain ⟨n, rfl⟩ : ∃ n : Nat, x = (n : Int) := ⟨x.toNat, by have := HI.out; omega⟩
      have hnl : n < sizes.length := by have := HI.out; omega
      have hnl' : (n : Int) < (sizes.length : Int) := by omega
      have hn0 : (0 : Int) ≤ (n : Int) := by omega
      obtain ⟨b2, o2, c2, e2, hy⟩ := (H.out.keep HBW.out).at_ hnl
      cases e2
      have HY := Lib.hid (show sizes.getD (n : Int).toNat 0 = sizes[n] by rw [Int.toNat_natCast, getD_at _ hnl])
      generalize sizes[n] = y at hy HY
      have hlen : (ledM sizes (row.dropLast.take k)).length = k := by rw [ledM_len, List.length_take, List.length_dropLast]; omega
      have HLEN := Lib.hid hlen
      generalize hps : ledM sizes (row.dropLast.take k) = ps at HO HTK1 HLEN
      clear hps hlen
      have hs1 := HBW.out.size
      go_wp2_with (at_builtin; refine wpList_append_own _ rfl _ _ 25 rfl w.heap.size 3 i0 (.int .i64 0) 1 8 Try.underlying25 hi0 hz0 hz1 hz2 rfl (by decide) _ ps.length (ps.map (Value.int .i64)) rfl (own_keep HO.out (below_alloc wr _)) ⟨wr.heap.size, 0, none⟩ 1 1 ([y].map (Value.int .i64)) rfl (by simp) (led_new wr y) (ints_one _) (by rw [HLEN.out, maxLen_eq]; omega) (by rw [HLEN.out]; omega) (by simp; omega) ?_)
      intro v6 w6 hv6 hg6 _
      have HO6 := Lib.hid (led_app (rs := [y]) rfl hv6)
      obtain ⟨A6, c6, rfl, -⟩ := own_reads hv6
      have HB6 := Lib.hid (fin_below HBW.out hg6 (fun k e => (own_lt HO.out k e).1))
      clear hv6 hg6 hx hy
      go_wp2
      go_roundw
      case rel => exact ⟨k + 1, by omega, by go_num, by rw [HTK1.out, HY.out]; exact HO6.out, HB6.out⟩
      case measure => simp [intOf]; omega
    · have hkn : k + 1 = row.length := by omega
      have hlt1 : ¬ (k : Int) + 1 < (row.length : Int) := by omega
      have HTA := Lib.hid (show row.dropLast.take k = row.dropLast from take_all (by rw [List.length_dropLast]; omega))
      rw [HTA.out] at ho
      obtain ⟨A9, c9, rfl, -⟩ := own_reads ho
      have HO := Lib.hid ho
      clear ho
      go_wp2
      go_ret
      exact ⟨_, rfl, HO.out, HBW.out⟩

set_option maxHeartbeats 1600000 in
set_option maxRecDepth 100000 in
theorem l6Place_any (sizes row vals : List Int) (w : World) (v v' v2 : Value) (h : RInts w v sizes) (h' : RInts w v' row) (h2 : RInts w v2 vals) (hr3 : row.length ≤ 3) (hz : Sizes (ledM sizes row.dropLast)) (hin : ∀ x ∈ row, 0 ≤ x ∧ x < (sizes.length : Int)) (hms : sizes.length ≤ 3) (hal : InAll (ledM sizes row.dropLast) vals) :
    Calls Try.prog 44 #[v, v', v2] w fun e w' => e = .returned (.int .i64 (placeM 0 (ledM sizes row.dropLast) vals)) ∧ Below w.heap.size w w' := by
  have H := Lib.hid h
  have HV := Lib.hid h'
  have H2 := Lib.hid h2
  have HIN := Lib.hid hin
  obtain ⟨A, c, rfl, -⟩ := h.form
  obtain ⟨A', c', rfl, -⟩ := h'.form
  obtain ⟨A2, c2, rfl, -⟩ := h2.form
  have hll : (ledM sizes row.dropLast).length = row.length - 1 := by rw [ledM_len, List.length_dropLast]
  have hvl : vals.length ≤ 2 := by have := hal.1; omega
  have HVL : Hid (vals.length + 1 ≤ row.length ∨ vals.length = 0) := Lib.hid (show vals.length + 1 ≤ row.length ∨ vals.length = 0 by have := hal.1; omega)
  have HW := Lib.hid (fun (k : Nat) (hk : k < (ledM sizes row.dropLast).length) (hk' : k < vals.length) => place_wrap hz (by omega) hal hk hk')
  have HA := Lib.hid (fun (k : Nat) (hk : k + 1 < row.length) (h1 : k < (ledM sizes row.dropLast).length) => led_dl_at hk hin hms h1)
  have HAL := Lib.hid hal
  have HZL := Lib.hid hal.1
  have HPT := Lib.hid (fun (k : Nat) (h1 : k < (ledM sizes row.dropLast).length) (h2 : k < vals.length) => placeM_take h1 h2)
  generalize hzs : ledM sizes row.dropLast = zs at HW HA HAL HZL hll HPT ⊢
  have HLL := Lib.hid hll
  clear h h' h2 hin hz hal hzs hll
  go_enter Try.func44, Try.ntmps44
  go_wp2
  go_loopw [7, 8] (fun p i wr => ∃ k : Nat, k ≤ vals.length ∧ i = .int .i64 k ∧ p = .int .i64 (placeM 0 (zs.take k) (vals.take k)) ∧ Below w.heap.size w wr) (fun _ i _ => vals.length - (intOf i).toNat)
  case atStart => exact ⟨0, by omega, rfl, rfl, Below.refl _ _⟩
  case round =>
    obtain ⟨k, hk, rfl, rfl, hb⟩ := hrel
    have HB := Lib.hid hb
    clear hb
    have hw1 : IntKind.i64.wrap ((k : Int) + 1) = (k : Int) + 1 := by rw [IntKind.wrap_i64]; omega
    by_cases hlt : k < vals.length
    · have hlt' : (k : Int) < (vals.length : Int) := by omega
      have hkr1 : k + 1 < row.length := by have := HZL.out; have := HLL.out; omega
      have hkr : k < row.length := by omega
      have hkr' : (k : Int) < (row.length : Int) := by omega
      have hkz : k < zs.length := by have := HLL.out; omega
      obtain ⟨b, o, c4, e, hx⟩ := (HV.out.keep HB.out).at_ hkr
      cases e
      obtain ⟨b3, o3, c3, e, hv⟩ := (H2.out.keep HB.out).at_ hlt
      cases e
      have HI := Lib.hid (HIN.out _ (List.getElem_mem hkr))
      have hw := HW.out k hkz hlt
      have hpt := HPT.out k hkz hlt
      have hza := HA.out k hkr1 hkz
      rw [hza] at hw hpt
      clear hza
      generalize row[k] = x at hx HI hw hpt
      obtain ⟨n, rfl⟩ : ∃ n : Nat, x = (n : Int) := ⟨x.toNat, by have := HI.out; omega⟩
      have hnl : n < sizes.length := by have := HI.out; omega
      have hnl' : (n : Int) < (sizes.length : Int) := by omega
      have hn0 : (0 : Int) ≤ (n : Int) := by omega
      obtain ⟨b2, o2, c5, e2, hy⟩ := (H.out.keep HB.out).at_ hnl
      cases e2
      rw [Int.toNat_natCast, getD_at _ hnl] at hw hpt
      generalize sizes[n] = y at hy hw hpt
      generalize vals[k] = t at hv hw hpt
      obtain ⟨a, ha1, ha2⟩ := hw
      clear hpt
      generalize placeM 0 (zs.take k) (vals.take k) = pk at ha1
      generalize hp1 : placeM 0 (zs.take (k + 1)) (vals.take (k + 1)) = pk1 at ha2
      have HP1 := Lib.hid hp1
      clear hp1
      go_wp2_with fail
      refine wp_region_held_drew (S := (fun w' => w'.cell? ⟨b, o + k, none⟩ = some (.int .i64 (n : Int)) ∧ w'.cell? ⟨b3, o3 + k, none⟩ = some (.int .i64 t) ∧ w'.cell? ⟨b2, o2 + n, none⟩ = some (.int .i64 y))) (by kernel_rfl) ?_ (fun hHeld => ?_)
      · exact ⟨hx, hv, hy⟩
      refine wpAnyH_take (i := 0) (oi := _) (v := ?_) rfl (by kernel_rfl) (by kernel_rfl) (by kernel_rfl) (fun _ _ _ h => h) (Or.inl ⟨by rfl, ?_⟩) (by assumption) ?_
      rotate_left
      · first | (intro w' hSw; (try dsimp only at hSw); go_simp; done) | (intro w' hSw; (try dsimp only at hSw); go_simp; with_reducible rfl)
      try simp only [Act.put, List.getElem_toArray, List.getElem_cons_zero, List.getElem_cons_succ, List.setIfInBounds_toArray, List.set_cons_zero, List.set_cons_succ]
      refine wpAnyH_take (i := 1) (oi := _) (v := ?_) rfl (by kernel_rfl) (by kernel_rfl) (by kernel_rfl) (fun _ _ _ h => h) (Or.inl ⟨by rfl, ?_⟩) (by assumption) ?_
      rotate_left
      · first | (intro w' hSw; (try dsimp only at hSw); go_simp; done) | (intro w' hSw; (try dsimp only at hSw); go_simp; with_reducible rfl)
      try simp only [Act.put, List.getElem_toArray, List.getElem_cons_zero, List.getElem_cons_succ, List.setIfInBounds_toArray, List.set_cons_zero, List.set_cons_succ]
      refine wpAnyH_take (i := 2) (oi := _) (v := ?_) rfl (by kernel_rfl) (by kernel_rfl) (by kernel_rfl) (fun _ _ _ h => h) (Or.inl ⟨by rfl, ?_⟩) (by assumption) ?_
      rotate_left
      · first | (intro w' hSw; (try dsimp only at hSw); go_simp; done) | (intro w' hSw; (try dsimp only at hSw); go_simp; with_reducible rfl)
      try simp only [Act.put, List.getElem_toArray, List.getElem_cons_zero, List.getElem_cons_succ, List.setIfInBounds_toArray, List.set_cons_zero, List.set_cons_succ]
      refine wpAnyH_take (i := 3) (oi := _) (v := ?_) rfl (by kernel_rfl) (by kernel_rfl) (by kernel_rfl) (fun _ _ _ h => h) (Or.inl ⟨by rfl, ?_⟩) (by assumption) ?_
      rotate_left
      · first | (intro w' hSw; (try dsimp only at hSw); go_simp; done) | (intro w' hSw; (try dsimp only at hSw); go_simp; with_reducible rfl)
      try simp only [Act.put, List.getElem_toArray, List.getElem_cons_zero, List.getElem_cons_succ, List.setIfInBounds_toArray, List.set_cons_zero, List.set_cons_succ]
      refine wpAnyH_take (i := 4) (oi := _) (v := ?_) rfl (by kernel_rfl) (by kernel_rfl) (by kernel_rfl) (fun _ _ _ h => h) (Or.inl ⟨by rfl, ?_⟩) (by assumption) ?_
      rotate_left
      · first | (intro w' hSw; (try dsimp only at hSw); go_simp; done) | (intro w' hSw; (try dsimp only at hSw); go_simp; with_reducible rfl)
      try simp only [Act.put, List.getElem_toArray, List.getElem_cons_zero, List.getElem_cons_succ, List.setIfInBounds_toArray, List.set_cons_zero, List.set_cons_succ]
      refine wpAnyH_take (i := 5) (oi := _) (v := ?_) rfl (by kernel_rfl) (by kernel_rfl) (by kernel_rfl) (fun _ _ _ h => h) (Or.inl ⟨by rfl, ?_⟩) (by assumption) ?_
      rotate_left
      · first | (intro w' hSw; (try dsimp only at hSw); go_simp; done) | (intro w' hSw; (try dsimp only at hSw); go_simp; with_reducible rfl)
      try simp only [Act.put, List.getElem_toArray, List.getElem_cons_zero, List.getElem_cons_succ, List.setIfInBounds_toArray, List.set_cons_zero, List.set_cons_succ]
      refine wpAnyH_take (i := 6) (oi := _) (v := ?_) rfl (by kernel_rfl) (by kernel_rfl) (by kernel_rfl) (fun _ _ _ h => h) (Or.inl ⟨by rfl, ?_⟩) (by assumption) ?_
      rotate_left
      · first | (intro w' hSw; (try dsimp only at hSw); go_simp; done) | (intro w' hSw; (try dsimp only at hSw); go_simp; with_reducible rfl)
      try simp only [Act.put, List.getElem_toArray, List.getElem_cons_zero, List.getElem_cons_succ, List.setIfInBounds_toArray, List.set_cons_zero, List.set_cons_succ]
      refine wpAnyH_take (i := 7) (oi := _) (v := ?_) rfl (by kernel_rfl) (by kernel_rfl) (by kernel_rfl) (fun _ _ _ h => h) (Or.inl ⟨by rfl, ?_⟩) (by assumption) ?_
      rotate_left
      · first | (intro w' hSw; (try dsimp only at hSw); go_simp; done) | (intro w' hSw; (try dsimp only at hSw); go_simp; with_reducible rfl)
      try simp only [Act.put, List.getElem_toArray, List.getElem_cons_zero, List.getElem_cons_succ, List.setIfInBounds_toArray, List.set_cons_zero, List.set_cons_succ]
      refine wpAnyH_take (i := 8) (oi := _) (v := ?_) rfl (by kernel_rfl) (by kernel_rfl) (by kernel_rfl) (fun _ _ _ h => h) (Or.inl ⟨by rfl, ?_⟩) (by assumption) ?_
      rotate_left
      · first | (intro w' hSw; (try dsimp only at hSw); go_simp; done) | (intro w' hSw; (try dsimp only at hSw); go_simp; with_reducible rfl)
      try simp only [Act.put, List.getElem_toArray, List.getElem_cons_zero, List.getElem_cons_succ, List.setIfInBounds_toArray, List.set_cons_zero, List.set_cons_succ]
      refine wpAnyH_take (i := 9) (oi := _) (v := ?_) rfl (by kernel_rfl) (by kernel_rfl) (by kernel_rfl) (fun _ _ _ h => h) (Or.inl ⟨by rfl, ?_⟩) (by assumption) ?_
      rotate_left
      · first | (intro w' hSw; (try dsimp only at hSw); go_simp; done) | (intro w' hSw; (try dsimp only at hSw); go_simp; with_reducible rfl)
      try simp only [Act.put, List.getElem_toArray, List.getElem_cons_zero, List.getElem_cons_succ, List.setIfInBounds_toArray, List.set_cons_zero, List.set_cons_succ]
      refine wpAnyH_take (i := 10) (oi := _) (v := ?_) rfl (by kernel_rfl) (by kernel_rfl) (by kernel_rfl) (fun _ _ _ h => h) (Or.inl ⟨by rfl, ?_⟩) (by assumption) ?_
      rotate_left
      · first | (intro w' hSw; (try dsimp only at hSw); go_simp; done) | (intro w' hSw; (try dsimp only at hSw); go_simp; with_reducible rfl)
      try simp only [Act.put, List.getElem_toArray, List.getElem_cons_zero, List.getElem_cons_succ, List.setIfInBounds_toArray, List.set_cons_zero, List.set_cons_succ]
      refine wpAnyH_take (i := 11) (oi := _) (v := ?_) rfl (by kernel_rfl) (by kernel_rfl) (by kernel_rfl) (fun _ _ _ h => h) (Or.inl ⟨by rfl, ?_⟩) (by assumption) ?_
      rotate_left
      · first | (intro w' hSw; (try dsimp only at hSw); go_simp; done) | (intro w' hSw; (try dsimp only at hSw); go_simp; with_reducible rfl)
      try simp only [Act.put, List.getElem_toArray, List.getElem_cons_zero, List.getElem_cons_succ, List.setIfInBounds_toArray, List.set_cons_zero, List.set_cons_succ]
      refine wpAnyH_take (i := 12) (oi := _) (v := ?_) rfl (by kernel_rfl) (by kernel_rfl) (by kernel_rfl) (fun _ _ _ h => h) (Or.inl ⟨by rfl, ?_⟩) (by assumption) ?_
      rotate_left
      · first | (intro w' hSw; (try dsimp only at hSw); go_simp; done) | (intro w' hSw; (try dsimp only at hSw); go_simp; with_reducible rfl)
      try simp only [Act.put, List.getElem_toArray, List.getElem_cons_zero, List.getElem_cons_succ, List.setIfInBounds_toArray, List.set_cons_zero, List.set_cons_succ]
      refine wpAnyH_take (i := 13) (oi := _) (v := ?_) rfl (by kernel_rfl) (by kernel_rfl) (by kernel_rfl) (fun _ _ _ h => h) (Or.inl ⟨by rfl, ?_⟩) (by assumption) ?_
      rotate_left
      · first | (intro w' hSw; (try dsimp only at hSw); go_simp; done) | (intro w' hSw; (try dsimp only at hSw); go_simp; with_reducible rfl)
      try simp only [Act.put, List.getElem_toArray, List.getElem_cons_zero, List.getElem_cons_succ, List.setIfInBounds_toArray, List.set_cons_zero, List.set_cons_succ]
      refine wpAnyH_take (i := 14) (oi := _) (v := ?_) rfl (by kernel_rfl) (by kernel_rfl) (by kernel_rfl) (fun _ _ _ h => h) (Or.inl ⟨by rfl, ?_⟩) (by assumption) ?_
      rotate_left
      · first | (intro w' hSw; (try dsimp only at hSw); go_simp; done) | (intro w' hSw; (try dsimp only at hSw); go_simp; with_reducible rfl)
      try simp only [Act.put, List.getElem_toArray, List.getElem_cons_zero, List.getElem_cons_succ, List.setIfInBounds_toArray, List.set_cons_zero, List.set_cons_succ]
      refine wpAnyH_done (by kernel_rfl) ?_ _
      clear hx hv hy
      go_wp2
      go_roundw
      case rel => exact ⟨k + 1, by omega, by go_num, by rw [HP1.out], map_drew HB.out⟩
      case measure => simp [intOf]; omega
    · have hkn : k = vals.length := by omega
      have hlt' : ¬ (k : Int) < (vals.length : Int) := by omega
      have HT := Lib.hid (show zs.take k = zs from take_all (by have := HZL.out; omega))
      have HT2 := Lib.hid (show vals.take k = vals from take_all (by omega))
      rw [HT.out, HT2.out]
      go_wp2
      go_ret
      exact ⟨rfl, HB.out⟩
end

section
open Go.RowKit
set_option linter.unusedVariables false
set_option linter.unusedSimpArgs false

theorem dig_zero (zs : List Int) : digM zs 0 = List.replicate zs.length 0 := by
  induction zs with
  | nil => rfl
  | cons z zs ih => simp [digM, ih, List.replicate_succ]
/-- the number of the row with a number -/
theorem place_dig {zs : List Int} (hz : Sizes zs) : ∀ (p n : Int), 0 ≤ n → placeM p zs (digM zs n) = p * waysM zs + n % waysM zs := by
  induction zs with
  | nil => intro p n _; simp [placeM, digM, waysM, Int.emod_one]
  | cons z zs ih =>
    intro p n hn
    have hz1 := hz z (List.mem_cons_self ..)
    have hw := ways_pos hz.tail
    simp only [digM, placeM, waysM]
    rw [ih hz.tail _ _ hn]
    generalize waysM zs = W at *
    have e1 := Int.emod_add_mul_ediv n W
    have e2 := Int.emod_add_mul_ediv (n / W) z
    have c1 := Int.emod_nonneg (n / W) (show z ≠ 0 by omega)
    have c2 := Int.emod_lt_of_pos (n / W) (show 0 < z by omega)
    have b1 := Int.emod_nonneg n (show W ≠ 0 by omega)
    have b2 := Int.emod_lt_of_pos n (show 0 < W by omega)
    have key : n % (z * W) = W * (n / W % z) + n % W := by
      have c4 : W * (n / W % z) ≤ W * (z - 1) := Int.mul_le_mul_of_nonneg_left (by omega) (by omega)
      have c5 : 0 ≤ W * (n / W % z) := Int.mul_nonneg (by omega) c1
      rw [Int.mul_sub] at c4
      have e : n = (W * (n / W % z) + n % W) + z * W * (n / W / z) := by
        have : W * (n / W) = W * (n / W % z) + z * W * (n / W / z) := by
          conv => lhs; rw [← e2]
          rw [Int.mul_add, Int.mul_comm z W, Int.mul_assoc]
        omega
      conv => lhs; rw [e]
      rw [Int.add_mul_emod_self_left, Int.emod_eq_of_lt (by omega) (by rw [Int.mul_comm z W]; omega)]
    rw [key, Int.add_mul, Int.mul_assoc, Int.mul_comm (n / W % z) W]
    omega
def readRow (w : World) (g : Nat) : List Int := match w.heap[g]? with
  | some (.cells cs _ _) => cs.toList.map intOf
  | _ => []
theorem readRow_own {w : World} {B g : Nat} {xs : List Int} (h : OInts w B (.slice (some ⟨g, 0, none⟩) xs.length xs.length) xs) : readRow w g = xs := by
  rcases h.2 with ⟨e, _⟩ | ⟨g', cap, cur, e, hg, hh, h1, h2, h3, h4⟩
  · cases e
  · injection e with e1 e2 e3
    injection e1 with e1
    injection e1 with e1
    subst e1 e3
    unfold readRow
    rw [hh]
    simp only
    rw [List.take_of_length_le (by simp at h3 ⊢; omega)] at h4
    rw [h4, List.map_map]
    conv => rhs; rw [← List.map_id xs]
    exact List.map_congr_left fun x _ => rfl
/-- how many rows of values are still to come -/
def leftM (zs : List Int) (N g : Nat) (more : Value) (w : World) : Nat := match more with
  | .bool true => N - (placeM 0 zs (readRow w g)).toNat + 1
  | _ => 0

theorem dig_small {zs ds : List Int} (hz : Sizes zs) (h : InAll zs ds) : ∀ x ∈ ds, 0 ≤ x ∧ x ≤ 1000000 := by
  intro x hx
  obtain ⟨k, hk, rfl⟩ := List.getElem_of_mem hx
  have hk' : k < zs.length := by rw [← h.1]; exact hk
  have := h.2 k hk' hk
  have := hz _ (List.getElem_mem hk')
  omega
theorem l4Next_is (zs xs : List Int) (n : Nat) (hn : xs.length = n) (B g c : Nat) (w : World) (lv : Value) (h : OInts w B (.slice (some ⟨g, 0, none⟩) n c) xs) (hs : xs.length ≤ 1000000) (hb : ∀ x ∈ xs, 0 ≤ x ∧ x ≤ 1000000) (hl : ∀ W', w.grownBy W' (some g) → RInts W' lv zs) (hlen : xs.length = zs.length := by assumption) :
    Calls Try.prog 43 #[.slice (some ⟨g, 0, none⟩) n c, lv] w fun e w' => e = .returned (.bool (nextM zs xs).2) ∧ OInts w' B (.slice (some ⟨g, 0, none⟩) n c) (nextM zs xs).1 ∧ w.grownBy w' (some g) ∧ w'.heap.size = w.heap.size := by
  subst hn
  exact l4Next_any zs xs B g c w lv h hlen hs hb hl
end
end Go.Proofs.Ytfomeommkfemkaa
