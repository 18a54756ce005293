/- ModelOk of package impl. -/
import Derived.Test.YteccjnnhihbdhaaModTb
namespace Go.Proofs.Yteccjnnhihbdhaa
open Go.RowKit
set_option linter.unusedVariables false
set_option linter.unusedSimpArgs false

theorem inB13 {z : Int} : inB z 1 3 = (decide (1 ≤ z) && decide (z ≤ 3)) := rfl
theorem inB13_low {z : Int} (h : z < 1) : inB z 1 3 = false := by unfold inB; simp; omega
theorem inB13_high {z : Int} (h : 3 < z) : inB z 1 3 = false := by unfold inB; simp; omega
theorem inB13_yes {z : Int} (h1 : 1 ≤ z) (h2 : z ≤ 3) : inB z 1 3 = true := by unfold inB; simp [h1, h2]
theorem tabB_at {s : MSig} {m : MModel} {k : Nat} (hs : k < s.ops.length) (hm : k < m.tables.length) : tabB s m k = tableB m.sizes s.ops[k] m.tables[k] := by
  unfold tabB; rw [getD_at _ hs, getD_at _ hm]

set_option maxHeartbeats 3200000 in
set_option maxRecDepth 100000 in
theorem modelOk_any (s : MSig) (m : MModel) (w : World) (v v' : Value) (h1 : RSig w v s) (h2 : RModel w v' m) :
    Calls Try.prog 14 #[v, v'] w fun e w' => e = .returned (.bool (modelB s m)) ∧ Below w.heap.size w w' := by
  obtain ⟨Asa, csa, rfl⟩ := h1.form
  obtain ⟨Ama, cma, Amb, cmb, rfl⟩ := h2.form
  have hb : Below w.heap.size w ((w.alloc (.cells #[.int .i64 s.sorts, .slice Asa s.ops.length csa] 31)).alloc (.cells #[.slice Ama m.sizes.length cma, .slice Amb m.tables.length cmb] 33)) := (below_alloc _ _).alloc (by simp) _
  have HB := Lib.hid hb
  have hsz : ((w.alloc (.cells #[.int .i64 s.sorts, .slice Asa s.ops.length csa] 31)).alloc (.cells #[.slice Ama m.sizes.length cma, .slice Amb m.tables.length cmb] 33)).heap.size = w.heap.size + 2 := by simp
  have Hs := Lib.hid (h1.keep hb)
  have s0 := cell_keep (below_alloc (w.alloc (.cells #[.int .i64 s.sorts, .slice Asa s.ops.length csa] 31)) (.cells #[.slice Ama m.sizes.length cma, .slice Amb m.tables.length cmb] 33)) (bx_at (w) #[.int .i64 s.sorts, .slice Asa s.ops.length csa] 31 (k := 0) rfl)
  have s1 := cell_keep (below_alloc (w.alloc (.cells #[.int .i64 s.sorts, .slice Asa s.ops.length csa] 31)) (.cells #[.slice Ama m.sizes.length cma, .slice Amb m.tables.length cmb] 33)) (bx_at (w) #[.int .i64 s.sorts, .slice Asa s.ops.length csa] 31 (k := 1) rfl)
  have Hm := Lib.hid (h2.keep hb)
  have m0 := bx_at (w.alloc (.cells #[.int .i64 s.sorts, .slice Asa s.ops.length csa] 31)) #[.slice Ama m.sizes.length cma, .slice Amb m.tables.length cmb] 33 (k := 0) rfl
  have m1 := bx_at (w.alloc (.cells #[.int .i64 s.sorts, .slice Asa s.ops.length csa] 31)) #[.slice Ama m.sizes.length cma, .slice Amb m.tables.length cmb] 33 (k := 1) rfl
  simp only [World.size_alloc] at m0 m1
  generalize hW : (w.alloc (.cells #[.int .i64 s.sorts, .slice Asa s.ops.length csa] 31)).alloc (.cells #[.slice Ama m.sizes.length cma, .slice Amb m.tables.length cmb] 33) = W at HB hsz Hs s0 s1 Hm m0 m1
  clear hb h1 h2
  have hl1 := Hs.out.of.2.len
  have hl2 := Hm.out.of.1.len
  have hl3 := Hm.out.of.2.len
  cases hv : validB s with
  | false =>
    have HV := Lib.hid hv
    have HE := Lib.hid (model_no1 (m := m) hv)
    clear hv
    go_enter Try.func14, Try.ntmps14
    go_wp2_with fail
    clear hW
    refine (sigValid_any _ s _ Hs.out).mono ?_
    rw [HV.out]
    rintro e w1 ⟨rfl, hb⟩
    replace HB := Lib.hid (sz_keep HB.out hb)
    replace s0 := cell_keep hb s0
    replace s1 := cell_keep hb s1
    replace m0 := cell_keep hb m0
    replace m1 := cell_keep hb m1
    replace Hs := Lib.hid (Hs.out.keep hb)
    replace Hm := Lib.hid (Hm.out.keep hb)
    clear hb
    go_wp2
    go_ret
    exact ⟨ret_bool HE.out.symm, HB.out⟩
  | true =>
    have HV := Lib.hid hv
    have hsv := valid_sorts hv
    clear hv
    by_cases hs : (m.sizes.length : Int) = s.sorts
    · have e1 : ((m.sizes.length : Int) != s.sorts) = false := by simp [hs]
      have HSL := Lib.hid hs
      have hms3 : m.sizes.length ≤ 3 := by omega
      by_cases ho : m.tables.length = s.ops.length
      · have e2 : ((m.tables.length : Int) != (s.ops.length : Int)) = false := by simp [ho]
        have HOL := Lib.hid ho
        have hle : m.tables.length ≤ s.ops.length := by omega
        clear ho hs
        go_enter Try.func14, Try.ntmps14
        go_wp2_with fail
        clear hW
        refine (sigValid_any _ s _ Hs.out).mono ?_
        rw [HV.out]
        rintro e w1 ⟨rfl, hb⟩
        replace HB := Lib.hid (sz_keep HB.out hb)
        replace s0 := cell_keep hb s0
        replace s1 := cell_keep hb s1
        replace m0 := cell_keep hb m0
        replace m1 := cell_keep hb m1
        replace Hs := Lib.hid (Hs.out.keep hb)
        replace Hm := Lib.hid (Hm.out.keep hb)
        clear hb
        have HC := Lib.hid (And.intro s0 (And.intro s1 (And.intro m0 m1)))
        go_wp2
        clear s0 s1 m0 m1
        go_loopw [6, 32] (fun p i wr => ∃ k : Nat, k ≤ m.sizes.length ∧ i = .int .i64 k ∧ sizesB (m.sizes.take k) = true ∧ w1 = wr) (fun _ i _ => m.sizes.length - (intOf i).toNat)
        case atStart => exact ⟨0, Nat.zero_le _, rfl, rfl, rfl⟩
        case round =>
          obtain ⟨k, hk, rfl, hb0, rfl⟩ := hrel
          have HB0 := Lib.hid hb0
          clear hb0
          by_cases hlt : k < m.sizes.length
          · obtain ⟨b3, o3, c3, e, hx⟩ := Hm.out.of.1.at_ hlt
            cases e
            have hlt' : (k : Int) < (m.sizes.length : Int) := by omega
            have HT := Lib.hid (all_take (p := fun z => inB z 1 3) hlt)
            have HN := Lib.hid (sizesB_bad hlt)
            generalize m.sizes[k] = z at hx HT HN
            by_cases hz1 : z < 1
            · have HF := Lib.hid (model_no4 (s := s) (HN.out (inB13_low hz1)))
              go_wp2
              go_ret
              exact ⟨ret_bool HF.out.symm, HB.out⟩
            · by_cases hz3 : 3 < z
              · have HF := Lib.hid (model_no4 (s := s) (HN.out (inB13_high hz3)))
                go_wp2
                go_ret
                exact ⟨ret_bool HF.out.symm, HB.out⟩
              · have hz1' : 1 ≤ z := by omega
                have hz3' : z ≤ 3 := by omega
                have HR := Lib.hid (inB13_yes hz1' hz3')
                go_wp2
                go_roundw
                case rel => exact ⟨k + 1, by omega, by go_num, by unfold sizesB; rw [HT.out, HR.out]; have := HB0.out; unfold sizesB at this; rw [this]; rfl, by first | trivial | rfl⟩
                case measure => simp [intOf]; omega
          · have hkn : k = m.sizes.length := by omega
            have hlt' : ¬ (k : Int) < (m.sizes.length : Int) := by omega
            have HT := Lib.hid (show m.sizes.take k = m.sizes from take_all (by omega))
            rw [HT.out] at HB0
            have HZ := Lib.hid (sizesB_iff.1 HB0.out)
            have m1 := HC.out.2.2.2
            go_wp2
            clear m1
            go_loopw [7, 8, 46] (fun p q i wr => ∃ k : Nat, k ≤ m.tables.length ∧ i = .int .i64 k ∧ allTab s m k = true ∧ Below w1.heap.size w1 wr) (fun _ _ i _ => m.tables.length - (intOf i).toNat)
            case atStart => exact ⟨0, Nat.zero_le _, rfl, allTab_zero _ _, Below.refl _ _⟩
            case round =>
              obtain ⟨j, hj, rfl, hal, hd⟩ := hrel
              have HAL := Lib.hid hal
              have HD := Lib.hid hd
              have f1 := cell_keep hd HC.out.2.1
              have f2 := cell_keep hd HC.out.2.2.1
              have f3 := cell_keep hd HC.out.2.2.2
              clear hal hd
              by_cases hjl : j < m.tables.length
              · have hjl' : (j : Int) < (m.tables.length : Int) := by omega
                have hja : j < s.ops.length := by omega
                have hja' : (j : Int) < (s.ops.length : Int) := by omega
                have hj0 : (0 : Int) ≤ (j : Int) := by omega
                obtain ⟨b7, o7, c7, u7, e, hra, hri⟩ := (Hs.out.of.2.keep HD.out).at_ hja
                cases e
                obtain ⟨b8, o8, c8, u8, e, hrb, hrj⟩ := (Hm.out.of.2.keep HD.out).at_ hjl
                cases e
                have hvr := valid_row HV.out hja
                have HIN := Lib.hid (show ∀ x ∈ s.ops[j], 0 ≤ x ∧ x < (m.sizes.length : Int) from fun y hy => by have := hvr.2.2 y hy; have := HSL.out; omega)
                have HR13 := Lib.hid (And.intro hvr.1 hvr.2.1)
                have HTA := Lib.hid (tabB_at hja hjl)
                have HBAD := Lib.hid (fun h => model_no5 (s := s) hjl h)
                have HSUC := Lib.hid (allTab_succ s m j)
                generalize s.ops[j] = row at hri hra HIN HTA HR13
                generalize m.tables[j] = table at hrj hrb HTA
                have HRI := Lib.hid hri
                have HRJ := Lib.hid hrj
                obtain ⟨A7, d7, rfl, -⟩ := hri.form
                obtain ⟨A8, d8, rfl, -⟩ := hrj.form
                obtain ⟨r, hr⟩ : ∃ r, tableB m.sizes row table = r := ⟨_, rfl⟩
                rw [hr] at HTA
                have HR := Lib.hid hr
                clear hr hri hrj hvr
                go_wp2_with fail
                refine wp_region_held_drew (S := (fun w' => w'.cell? ⟨w.heap.size, 1, none⟩ = some (.slice (some ⟨b7, o7, none⟩) s.ops.length csa) ∧ w'.cell? ⟨w.heap.size + 1, 0, none⟩ = some (.slice Ama m.sizes.length cma) ∧ w'.cell? ⟨w.heap.size + 1, 1, none⟩ = some (.slice (some ⟨b8, o8, none⟩) m.tables.length cmb) ∧ w'.cell? ⟨b7, o7 + j, none⟩ = some (.slice A7 row.length d7))) (by kernel_rfl) ?_ (fun hHeld => ?_)
                · exact ⟨f1, f2, f3, hra⟩
                refine wpAnyH_take (i := 0) (oi := _) (v := ?_) rfl (by kernel_rfl) (by kernel_rfl) (by kernel_rfl) (fun _ _ _ h => h) (Or.inl ⟨by rfl, ?_⟩) (by assumption) ?_
                rotate_left
                · first | (intro w' hSw; (try dsimp only at hSw); go_simp; done) | (intro w' hSw; (try dsimp only at hSw); go_simp; with_reducible rfl)
                try simp only [Act.put, List.getElem_toArray, List.getElem_cons_zero, List.getElem_cons_succ, List.setIfInBounds_toArray, List.set_cons_zero, List.set_cons_succ]
                refine wpAnyH_take (i := 1) (oi := _) (v := ?_) rfl (by kernel_rfl) (by kernel_rfl) (by kernel_rfl) (fun _ _ _ h => h) (Or.inl ⟨by rfl, ?_⟩) (by assumption) ?_
                rotate_left
                · first | (intro w' hSw; (try dsimp only at hSw); go_simp; done) | (intro w' hSw; (try dsimp only at hSw); go_simp; with_reducible rfl)
                try simp only [Act.put, List.getElem_toArray, List.getElem_cons_zero, List.getElem_cons_succ, List.setIfInBounds_toArray, List.set_cons_zero, List.set_cons_succ]
                refine wpAnyH_take (i := 2) (oi := _) (v := ?_) rfl (by kernel_rfl) (by kernel_rfl) (by kernel_rfl) (fun _ _ _ h => h) (Or.inl ⟨by rfl, ?_⟩) (by assumption) ?_
                rotate_left
                · first | (intro w' hSw; (try dsimp only at hSw); go_simp; done) | (intro w' hSw; (try dsimp only at hSw); go_simp; with_reducible rfl)
                try simp only [Act.put, List.getElem_toArray, List.getElem_cons_zero, List.getElem_cons_succ, List.setIfInBounds_toArray, List.set_cons_zero, List.set_cons_succ]
                refine wpAnyH_take (i := 3) (oi := _) (v := ?_) rfl (by kernel_rfl) (by kernel_rfl) (by kernel_rfl) (fun _ _ _ h => h) (Or.inl ⟨by rfl, ?_⟩) (by assumption) ?_
                rotate_left
                · first | (intro w' hSw; (try dsimp only at hSw); go_simp; done) | (intro w' hSw; (try dsimp only at hSw); go_simp; with_reducible rfl)
                try simp only [Act.put, List.getElem_toArray, List.getElem_cons_zero, List.getElem_cons_succ, List.setIfInBounds_toArray, List.set_cons_zero, List.set_cons_succ]
                refine wpAnyH_take (i := 4) (oi := _) (v := ?_) rfl (by kernel_rfl) (by kernel_rfl) (by kernel_rfl) (fun _ _ _ h => h) (Or.inl ⟨by rfl, ?_⟩) (by assumption) ?_
                rotate_left
                · first | (intro w' hSw; (try dsimp only at hSw); go_simp; done) | (intro w' hSw; (try dsimp only at hSw); go_simp; with_reducible rfl)
                try simp only [Act.put, List.getElem_toArray, List.getElem_cons_zero, List.getElem_cons_succ, List.setIfInBounds_toArray, List.set_cons_zero, List.set_cons_succ]
                refine wpAnyH_take (i := 5) (oi := _) (v := ?_) rfl (by kernel_rfl) (by kernel_rfl) (by kernel_rfl) (fun _ _ _ h => h) (Or.inl ⟨by rfl, ?_⟩) (by assumption) ?_
                rotate_left
                · first | (intro w' hSw; (try dsimp only at hSw); go_simp; done) | (intro w' hSw; (try dsimp only at hSw); go_simp; with_reducible rfl)
                try simp only [Act.put, List.getElem_toArray, List.getElem_cons_zero, List.getElem_cons_succ, List.setIfInBounds_toArray, List.set_cons_zero, List.set_cons_succ]
                refine wpAnyH_take (i := 6) (oi := _) (v := ?_) rfl (by kernel_rfl) (by kernel_rfl) (by kernel_rfl) (fun _ _ _ h => h) (Or.inl ⟨by rfl, ?_⟩) (by assumption) ?_
                rotate_left
                · first | (intro w' hSw; (try dsimp only at hSw); go_simp; done) | (intro w' hSw; (try dsimp only at hSw); go_simp; with_reducible rfl)
                try simp only [Act.put, List.getElem_toArray, List.getElem_cons_zero, List.getElem_cons_succ, List.setIfInBounds_toArray, List.set_cons_zero, List.set_cons_succ]
                refine wpAnyH_ready (rs := [7]) (by kernel_rfl) (by simp) ?_
                refine AllReadyH.cons (o := _) rfl (fun K hK => ?_) AllReadyH.nil
                go_simp
                refine (tableOk_any m row table _ _ _ _ ((Hm.out.keep HD.out).keep (map_drew (Below.refl _ _))) (HRI.out.keep (map_drew (Below.refl _ _))) (HRJ.out.keep (map_drew (Below.refl _ _))) HR13.out.1 HR13.out.2 HZ.out HIN.out hms3).mono ?_
                rw [HR.out]
                rintro x w5 ⟨rfl, hb5⟩
                have hx5 := map_undrew hb5
                have HX5 := Lib.hid (sz_keep HD.out hx5)
                have q1 := cell_keep hx5 f1
                have q2 := cell_keep hx5 f2
                have q3 := cell_keep hx5 f3
                have q4 := cell_keep hx5 hra
                clear hx5 hb5
                go_wp2_with fail
                refine hK.out _ _ ?_ (fun hHeld => ?_)
                · exact ⟨q1, q2, q3, q4⟩
                clear hK K
                try simp only [Act.put, List.getElem_toArray, List.getElem_cons_zero, List.getElem_cons_succ, List.setIfInBounds_toArray, List.set_cons_zero, List.set_cons_succ]
                refine wpAnyH_take (i := 8) (oi := _) (v := ?_) rfl (by kernel_rfl) (by kernel_rfl) (by kernel_rfl) (fun _ _ _ h => h) (Or.inl ⟨by rfl, ?_⟩) (by assumption) ?_
                rotate_left
                · first | (intro w' hSw; (try dsimp only at hSw); go_simp; done) | (intro w' hSw; (try dsimp only at hSw); go_simp; with_reducible rfl)
                try simp only [Act.put, List.getElem_toArray, List.getElem_cons_zero, List.getElem_cons_succ, List.setIfInBounds_toArray, List.set_cons_zero, List.set_cons_succ]
                refine wpAnyH_done (by kernel_rfl) ?_ _
                clear f1 f2 f3 hra hrb q1 q2 q3 q4
                cases r with
                | true =>
                  go_wp2
                  go_roundw
                  case rel => exact ⟨j + 1, by omega, by go_num, by rw [HSUC.out, HAL.out, HTA.out]; rfl, HX5.out⟩
                  case measure => simp [intOf]; omega
                | false =>
                  have HF := Lib.hid (HBAD.out HTA.out)
                  go_wp2
                  go_ret
                  exact ⟨ret_bool HF.out.symm, sz_keep HB.out HX5.out⟩
              · have hkn2 : j = m.tables.length := by omega
                have hlt2 : ¬ (j : Int) < (m.tables.length : Int) := by omega
                have HE := Lib.hid (model_yes HV.out HSL.out HOL.out (sizesB_iff.2 HZ.out) (by rw [← hkn2]; exact HAL.out))
                clear f1 f2 f3
                go_wp2
                go_ret
                exact ⟨ret_bool HE.out.symm, sz_keep HB.out HD.out⟩
      · have e2 : ((m.tables.length : Int) != (s.ops.length : Int)) = true := by simp; omega
        have HE := Lib.hid (model_no3 ho)
        clear ho hs
        go_enter Try.func14, Try.ntmps14
        go_wp2_with fail
        clear hW
        refine (sigValid_any _ s _ Hs.out).mono ?_
        rw [HV.out]
        rintro e w1 ⟨rfl, hb⟩
        replace HB := Lib.hid (sz_keep HB.out hb)
        replace s0 := cell_keep hb s0
        replace s1 := cell_keep hb s1
        replace m0 := cell_keep hb m0
        replace m1 := cell_keep hb m1
        replace Hs := Lib.hid (Hs.out.keep hb)
        replace Hm := Lib.hid (Hm.out.keep hb)
        clear hb
        go_wp2
        go_ret
        exact ⟨ret_bool HE.out.symm, HB.out⟩
    · have e1 : ((m.sizes.length : Int) != s.sorts) = true := by simpa using hs
      have HE := Lib.hid (model_no2 hs)
      clear hs
      go_enter Try.func14, Try.ntmps14
      go_wp2_with fail
      clear hW
      refine (sigValid_any _ s _ Hs.out).mono ?_
      rw [HV.out]
      rintro e w1 ⟨rfl, hb⟩
      replace HB := Lib.hid (sz_keep HB.out hb)
      replace s0 := cell_keep hb s0
      replace s1 := cell_keep hb s1
      replace m0 := cell_keep hb m0
      replace m1 := cell_keep hb m1
      replace Hs := Lib.hid (Hs.out.keep hb)
      replace Hm := Lib.hid (Hm.out.keep hb)
      clear hb
      go_wp2
      go_ret
      exact ⟨ret_bool HE.out.symm, HB.out⟩
end Go.Proofs.Yteccjnnhihbdhaa
