/- ModelOk of package impl. · SameMade of package impl. · Rows of values one after the other by l4Next: what all walks need. · Classes put into one, row by row (plain): what a round of package spec leaves. No walk. · slices.Index, placesIn, hasValue of package impl. · haveValues, setsOk of package impl. · addMade of package impl. · An own list of rows whose inner rows a callee changes in place: what stays. No walk. · l6Join of package spec. · ModelOk of package spec. -/
import Derived.Test.YticldaddbljleaaK8e1fec58
import Derived.StillTailTactics
namespace Go.Proofs.Yticldaddbljleaa
section
open Go.RowKit
set_option linter.unusedVariables false
set_option linter.unusedSimpArgs false

theorem inB13 {z : Int} : inB z 1 3 = (decide (1 ≤ z) && decide (z ≤ 3)) := rfl
theorem inB13_low {z : Int} (h : z < 1) : inB z 1 3 = false := by unfold inB; simp; omega
theorem inB13_high {z : Int} (h : 3 < z) : inB z 1 3 = false := by unfold inB; simp; omega
theorem inB13_yes {z : Int} (h1 : 1 ≤ z) (h2 : z ≤ 3) : inB z 1 3 = true := by unfold inB; simp [h1, h2]
theorem tabB_at {s : MSig} {m : MModel} {k : Nat} (hs : k < s.ops.length) (hm : k < m.tables.length) : tabB s m k = tableB m.sizes s.ops[k] m.tables[k] := by
  unfold tabB; rw [getD_at _ hs, getD_at _ hm]

set_option maxHeartbeats 3200000 in
set_option maxRecDepth 100000 in
theorem modelOk_any (s : MSig) (m : MModel) (w : World) (v v' : Value) (h1 : RSig w v s) (h2 : RModel w v' m) :
    Calls Try.prog 95 #[v, v'] w fun e w' => e = .returned (.bool (modelB s m)) ∧ Below w.heap.size w w' := by
  obtain ⟨Asa, csa, rfl⟩ := h1.form
  obtain ⟨Ama, cma, Amb, cmb, rfl⟩ := h2.form
  have hb : Below w.heap.size w ((w.alloc (.cells #[.int .i64 s.sorts, .slice Asa s.ops.length csa] 25)).alloc (.cells #[.slice Ama m.sizes.length cma, .slice Amb m.tables.length cmb] 28)) := (below_alloc _ _).alloc (by simp) _
  have HB := Lib.hid hb
  have hsz : ((w.alloc (.cells #[.int .i64 s.sorts, .slice Asa s.ops.length csa] 25)).alloc (.cells #[.slice Ama m.sizes.length cma, .slice Amb m.tables.length cmb] 28)).heap.size = w.heap.size + 2 := by simp
  have Hs := Lib.hid (h1.keep hb)
  have s0 := cell_keep (below_alloc (w.alloc (.cells #[.int .i64 s.sorts, .slice Asa s.ops.length csa] 25)) (.cells #[.slice Ama m.sizes.length cma, .slice Amb m.tables.length cmb] 28)) (bx_at (w) #[.int .i64 s.sorts, .slice Asa s.ops.length csa] 25 (k := 0) rfl)
  have s1 := cell_keep (below_alloc (w.alloc (.cells #[.int .i64 s.sorts, .slice Asa s.ops.length csa] 25)) (.cells #[.slice Ama m.sizes.length cma, .slice Amb m.tables.length cmb] 28)) (bx_at (w) #[.int .i64 s.sorts, .slice Asa s.ops.length csa] 25 (k := 1) rfl)
  have Hm := Lib.hid (h2.keep hb)
  have m0 := bx_at (w.alloc (.cells #[.int .i64 s.sorts, .slice Asa s.ops.length csa] 25)) #[.slice Ama m.sizes.length cma, .slice Amb m.tables.length cmb] 28 (k := 0) rfl
  have m1 := bx_at (w.alloc (.cells #[.int .i64 s.sorts, .slice Asa s.ops.length csa] 25)) #[.slice Ama m.sizes.length cma, .slice Amb m.tables.length cmb] 28 (k := 1) rfl
  simp only [World.size_alloc] at m0 m1
  generalize hW : (w.alloc (.cells #[.int .i64 s.sorts, .slice Asa s.ops.length csa] 25)).alloc (.cells #[.slice Ama m.sizes.length cma, .slice Amb m.tables.length cmb] 28) = W at HB hsz Hs s0 s1 Hm m0 m1
  clear hb h1 h2
  have hl1 := Hs.out.of.2.len
  have hl2 := Hm.out.of.1.len
  have hl3 := Hm.out.of.2.len
  cases hv : validB s with
  | false =>
    have HV := Lib.hid hv
    have HE := Lib.hid (model_no1 (m := m) hv)
    clear hv
    go_enter Try.func95, Try.ntmps95
    go_wp2_with fail
    clear hW
    refine (sigValid_any _ s _ Hs.out).mono ?_
    rw [HV.out]
    rintro e w1 ⟨rfl, hb⟩
    replace HB := Lib.hid (sz_keep HB.out hb)
    replace s0 := cell_keep hb s0
    replace s1 := cell_keep hb s1
    replace m0 := cell_keep hb m0
    replace m1 := cell_keep hb m1
    replace Hs := Lib.hid (Hs.out.keep hb)
    replace Hm := Lib.hid (Hm.out.keep hb)
    clear hb
    go_wp2
    go_ret
    exact ⟨ret_bool HE.out.symm, HB.out⟩
  | true =>
    have HV := Lib.hid hv
    have hsv := valid_sorts hv
    clear hv
    by_cases hs : (m.sizes.length : Int) = s.sorts
    · have e1 : ((m.sizes.length : Int) != s.sorts) = false := by simp [hs]
      have HSL := Lib.hid hs
      have hms3 : m.sizes.length ≤ 3 := by omega
      by_cases ho : m.tables.length = s.ops.length
      · have e2 : ((m.tables.length : Int) != (s.ops.length : Int)) = false := by simp [ho]
        have HOL := Lib.hid ho
        have hle : m.tables.length ≤ s.ops.length := by omega
        clear ho hs
        go_enter Try.func95, Try.ntmps95
        go_wp2_with fail
        clear hW
        refine (sigValid_any _ s _ Hs.out).mono ?_
        rw [HV.out]
        rintro e w1 ⟨rfl, hb⟩
        replace HB := Lib.hid (sz_keep HB.out hb)
        replace s0 := cell_keep hb s0
        replace s1 := cell_keep hb s1
        replace m0 := cell_keep hb m0
        replace m1 := cell_keep hb m1
        replace Hs := Lib.hid (Hs.out.keep hb)
        replace Hm := Lib.hid (Hm.out.keep hb)
        clear hb
        have HC := Lib.hid (And.intro s0 (And.intro s1 (And.intro m0 m1)))
        go_wp2
        clear s0 s1 m0 m1
        go_loopw [6, 32] (fun p i wr => ∃ k : Nat, k ≤ m.sizes.length ∧ i = .int .i64 k ∧ sizesB (m.sizes.take k) = true ∧ w1 = wr) (fun _ i _ => m.sizes.length - (intOf i).toNat)
        case atStart => exact ⟨0, Nat.zero_le _, rfl, rfl, rfl⟩
        case round =>
          obtain ⟨k, hk, rfl, hb0, rfl⟩ := hrel
          have HB0 := Lib.hid hb0
          clear hb0
          by_cases hlt : k < m.sizes.length
          · obtain ⟨b3, o3, c3, e, hx⟩ := Hm.out.of.1.at_ hlt
            cases e
            have hlt' : (k : Int) < (m.sizes.length : Int) := by omega
            have HT := Lib.hid (all_take (p := fun z => inB z 1 3) hlt)
            have HN := Lib.hid (sizesB_bad hlt)
            generalize m.sizes[k] = z at hx HT HN
            by_cases hz1 : z < 1
            · have HF := Lib.hid (model_no4 (s := s) (HN.out (inB13_low hz1)))
              go_wp2
              go_ret
              exact ⟨ret_bool HF.out.symm, HB.out⟩
            · by_cases hz3 : 3 < z
              · have HF := Lib.hid (model_no4 (s := s) (HN.out (inB13_high hz3)))
                go_wp2
                go_ret
                exact ⟨ret_bool HF.out.symm, HB.out⟩
              · have hz1' : 1 ≤ z := by omega
                have hz3' : z ≤ 3 := by omega
                have HR := Lib.hid (inB13_yes hz1' hz3')
                go_wp2
                go_roundw
                case rel => exact ⟨k + 1, by omega, by go_num, by unfold sizesB; rw [HT.out, HR.out]; have := HB0.out; unfold sizesB at this; rw [this]; rfl, by first | trivial | rfl⟩
                case measure => simp [intOf]; omega
          · have hkn : k = m.sizes.length := by omega
            have hlt' : ¬ (k : Int) < (m.sizes.length : Int) := by omega
            have HT := Lib.hid (show m.sizes.take k = m.sizes from take_all (by omega))
            rw [HT.out] at HB0
            have HZ := Lib.hid (sizesB_iff.1 HB0.out)
            have m1 := HC.out.2.2.2
            go_wp2
            clear m1
            go_loopw [7, 8, 46] (fun p q i wr => ∃ k : Nat, k ≤ m.tables.length ∧ i = .int .i64 k ∧ allTab s m k = true ∧ Below w1.heap.size w1 wr) (fun _ _ i _ => m.tables.length - (intOf i).toNat)
            case atStart => exact ⟨0, Nat.zero_le _, rfl, allTab_zero _ _, Below.refl _ _⟩
            case round =>
              obtain ⟨j, hj, rfl, hal, hd⟩ := hrel
              have HAL := Lib.hid hal
              have HD := Lib.hid hd
              have f1 := cell_keep hd HC.out.2.1
              have f2 := cell_keep hd HC.out.2.2.1
              have f3 := cell_keep hd HC.out.2.2.2
              clear hal hd
              by_cases hjl : j < m.tables.length
              · have hjl' : (j : Int) < (m.tables.length : Int) := by omega
                have hja : j < s.ops.length := by omega
                have hja' : (j : Int) < (s.ops.length : Int) := by omega
                have hj0 : (0 : Int) ≤ (j : Int) := by omega
                obtain ⟨b7, o7, c7, u7, e, hra, hri⟩ := (Hs.out.of.2.keep HD.out).at_ hja
                cases e
                obtain ⟨b8, o8, c8, u8, e, hrb, hrj⟩ := (Hm.out.of.2.keep HD.out).at_ hjl
                cases e
                have hvr := valid_row HV.out hja
                have HIN := Lib.hid (show ∀ x ∈ s.ops[j], 0 ≤ x ∧ x < (m.sizes.length : Int) from fun y hy => by have := hvr.2.2 y hy; have := HSL.out; omega)
                have HR13 := Lib.hid (And.intro hvr.1 hvr.2.1)
                have HTA := Lib.hid (tabB_at hja hjl)
                have HBAD := Lib.hid (fun h => model_no5 (s := s) hjl h)
                have HSUC := Lib.hid (allTab_succ s m j)
                generalize s.ops[j] = row at hri hra HIN HTA HR13
                generalize m.tables[j] = table at hrj hrb HTA
                have HRI := Lib.hid hri
                have HRJ := Lib.hid hrj
                obtain ⟨A7, d7, rfl, -⟩ := hri.form
                obtain ⟨A8, d8, rfl, -⟩ := hrj.form
                obtain ⟨r, hr⟩ : ∃ r, tableB m.sizes row table = r := ⟨_, rfl⟩
                rw [hr] at HTA
                have HR := Lib.hid hr
                clear hr hri hrj hvr
                go_wp2_with fail
                refine wp_region_held_drew (S := (fun w' => w'.cell? ⟨w.heap.size, 1, none⟩ = some (.slice (some ⟨b7, o7, none⟩) s.ops.length csa) ∧ w'.cell? ⟨w.heap.size + 1, 0, none⟩ = some (.slice Ama m.sizes.length cma) ∧ w'.cell? ⟨w.heap.size + 1, 1, none⟩ = some (.slice (some ⟨b8, o8, none⟩) m.tables.length cmb) ∧ w'.cell? ⟨b7, o7 + j, none⟩ = some (.slice A7 row.length d7))) (by kernel_rfl) ?_ (fun hHeld => ?_)
                · exact ⟨f1, f2, f3, hra⟩
                refine wpAnyH_take (i := 0) (oi := _) (v := ?_) rfl (by kernel_rfl) (by kernel_rfl) (by kernel_rfl) (fun _ _ _ h => h) (Or.inl ⟨by rfl, ?_⟩) (by assumption) ?_
                rotate_left
                · first | (intro w' hSw; (try dsimp only at hSw); go_simp; done) | (intro w' hSw; (try dsimp only at hSw); go_simp; with_reducible rfl)
                try simp only [Act.put, List.getElem_toArray, List.getElem_cons_zero, List.getElem_cons_succ, List.setIfInBounds_toArray, List.set_cons_zero, List.set_cons_succ]
                refine wpAnyH_take (i := 1) (oi := _) (v := ?_) rfl (by kernel_rfl) (by kernel_rfl) (by kernel_rfl) (fun _ _ _ h => h) (Or.inl ⟨by rfl, ?_⟩) (by assumption) ?_
                rotate_left
                · first | (intro w' hSw; (try dsimp only at hSw); go_simp; done) | (intro w' hSw; (try dsimp only at hSw); go_simp; with_reducible rfl)
                try simp only [Act.put, List.getElem_toArray, List.getElem_cons_zero, List.getElem_cons_succ, List.setIfInBounds_toArray, List.set_cons_zero, List.set_cons_succ]
                refine wpAnyH_take (i := 2) (oi := _) (v := ?_) rfl (by kernel_rfl) (by kernel_rfl) (by kernel_rfl) (fun _ _ _ h => h) (Or.inl ⟨by rfl, ?_⟩) (by assumption) ?_
                rotate_left
                · first | (intro w' hSw; (try dsimp only at hSw); go_simp; done) | (intro w' hSw; (try dsimp only at hSw); go_simp; with_reducible rfl)
                try simp only [Act.put, List.getElem_toArray, List.getElem_cons_zero, List.getElem_cons_succ, List.setIfInBounds_toArray, List.set_cons_zero, List.set_cons_succ]
                refine wpAnyH_take (i := 3) (oi := _) (v := ?_) rfl (by kernel_rfl) (by kernel_rfl) (by kernel_rfl) (fun _ _ _ h => h) (Or.inl ⟨by rfl, ?_⟩) (by assumption) ?_
                rotate_left
                · first | (intro w' hSw; (try dsimp only at hSw); go_simp; done) | (intro w' hSw; (try dsimp only at hSw); go_simp; with_reducible rfl)
                try simp only [Act.put, List.getElem_toArray, List.getElem_cons_zero, List.getElem_cons_succ, List.setIfInBounds_toArray, List.set_cons_zero, List.set_cons_succ]
                refine wpAnyH_take (i := 4) (oi := _) (v := ?_) rfl (by kernel_rfl) (by kernel_rfl) (by kernel_rfl) (fun _ _ _ h => h) (Or.inl ⟨by rfl, ?_⟩) (by assumption) ?_
                rotate_left
                · first | (intro w' hSw; (try dsimp only at hSw); go_simp; done) | (intro w' hSw; (try dsimp only at hSw); go_simp; with_reducible rfl)
                try simp only [Act.put, List.getElem_toArray, List.getElem_cons_zero, List.getElem_cons_succ, List.setIfInBounds_toArray, List.set_cons_zero, List.set_cons_succ]
                refine wpAnyH_take (i := 5) (oi := _) (v := ?_) rfl (by kernel_rfl) (by kernel_rfl) (by kernel_rfl) (fun _ _ _ h => h) (Or.inl ⟨by rfl, ?_⟩) (by assumption) ?_
                rotate_left
                · first | (intro w' hSw; (try dsimp only at hSw); go_simp; done) | (intro w' hSw; (try dsimp only at hSw); go_simp; with_reducible rfl)
                try simp only [Act.put, List.getElem_toArray, List.getElem_cons_zero, List.getElem_cons_succ, List.setIfInBounds_toArray, List.set_cons_zero, List.set_cons_succ]
                refine wpAnyH_take (i := 6) (oi := _) (v := ?_) rfl (by kernel_rfl) (by kernel_rfl) (by kernel_rfl) (fun _ _ _ h => h) (Or.inl ⟨by rfl, ?_⟩) (by assumption) ?_
                rotate_left
                · first | (intro w' hSw; (try dsimp only at hSw); go_simp; done) | (intro w' hSw; (try dsimp only at hSw); go_simp; with_reducible rfl)
                try simp only [Act.put, List.getElem_toArray, List.getElem_cons_zero, List.getElem_cons_succ, List.setIfInBounds_toArray, List.set_cons_zero, List.set_cons_succ]
                refine wpAnyH_ready (rs := [7]) (by kernel_rfl) (by simp) ?_
                refine AllReadyH.cons (o := _) rfl (fun K hK => ?_) AllReadyH.nil
                go_simp
                refine (tableOk_any m row table _ _ _ _ ((Hm.out.keep HD.out).keep (map_drew (Below.refl _ _))) (HRI.out.keep (map_drew (Below.refl _ _))) (HRJ.out.keep (map_drew (Below.refl _ _))) HR13.out.1 HR13.out.2 HZ.out HIN.out hms3).mono ?_
                rw [HR.out]
                rintro x w5 ⟨rfl, hb5⟩
                have hx5 := map_undrew hb5
                have HX5 := Lib.hid (sz_keep HD.out hx5)
                have q1 := cell_keep hx5 f1
                have q2 := cell_keep hx5 f2
                have q3 := cell_keep hx5 f3
                have q4 := cell_keep hx5 hra
                clear hx5 hb5
                go_wp2_with fail
                refine hK.out _ _ ?_ (fun hHeld => ?_)
                · exact ⟨q1, q2, q3, q4⟩
                clear hK K
                try simp only [Act.put, List.getElem_toArray, List.getElem_cons_zero, List.getElem_cons_succ, List.setIfInBounds_toArray, List.set_cons_zero, List.set_cons_succ]
                refine wpAnyH_take (i := 8) (oi := _) (v := ?_) rfl (by kernel_rfl) (by kernel_rfl) (by kernel_rfl) (fun _ _ _ h => h) (Or.inl ⟨by rfl, ?_⟩) (by assumption) ?_
                rotate_left
                · first | (intro w' hSw; (try dsimp only at hSw); go_simp; done) | (intro w' hSw; (try dsimp only at hSw); go_simp; with_reducible rfl)
                try simp only [Act.put, List.getElem_toArray, List.getElem_cons_zero, List.getElem_cons_succ, List.setIfInBounds_toArray, List.set_cons_zero, List.set_cons_succ]
                refine wpAnyH_done (by kernel_rfl) ?_ _
                clear f1 f2 f3 hra hrb q1 q2 q3 q4
                cases r with
                | true =>
                  go_wp2
                  go_roundw
                  case rel => exact ⟨j + 1, by omega, by go_num, by rw [HSUC.out, HAL.out, HTA.out]; rfl, HX5.out⟩
                  case measure => simp [intOf]; omega
                | false =>
                  have HF := Lib.hid (HBAD.out HTA.out)
                  go_wp2
                  go_ret
                  exact ⟨ret_bool HF.out.symm, sz_keep HB.out HX5.out⟩
              · have hkn2 : j = m.tables.length := by omega
                have hlt2 : ¬ (j : Int) < (m.tables.length : Int) := by omega
                have HE := Lib.hid (model_yes HV.out HSL.out HOL.out (sizesB_iff.2 HZ.out) (by rw [← hkn2]; exact HAL.out))
                clear f1 f2 f3
                go_wp2
                go_ret
                exact ⟨ret_bool HE.out.symm, sz_keep HB.out HD.out⟩
      · have e2 : ((m.tables.length : Int) != (s.ops.length : Int)) = true := by simp; omega
        have HE := Lib.hid (model_no3 ho)
        clear ho hs
        go_enter Try.func95, Try.ntmps95
        go_wp2_with fail
        clear hW
        refine (sigValid_any _ s _ Hs.out).mono ?_
        rw [HV.out]
        rintro e w1 ⟨rfl, hb⟩
        replace HB := Lib.hid (sz_keep HB.out hb)
        replace s0 := cell_keep hb s0
        replace s1 := cell_keep hb s1
        replace m0 := cell_keep hb m0
        replace m1 := cell_keep hb m1
        replace Hs := Lib.hid (Hs.out.keep hb)
        replace Hm := Lib.hid (Hm.out.keep hb)
        clear hb
        go_wp2
        go_ret
        exact ⟨ret_bool HE.out.symm, HB.out⟩
    · have e1 : ((m.sizes.length : Int) != s.sorts) = true := by simpa using hs
      have HE := Lib.hid (model_no2 hs)
      clear hs
      go_enter Try.func95, Try.ntmps95
      go_wp2_with fail
      clear hW
      refine (sigValid_any _ s _ Hs.out).mono ?_
      rw [HV.out]
      rintro e w1 ⟨rfl, hb⟩
      replace HB := Lib.hid (sz_keep HB.out hb)
      replace s0 := cell_keep hb s0
      replace s1 := cell_keep hb s1
      replace m0 := cell_keep hb m0
      replace m1 := cell_keep hb m1
      replace Hs := Lib.hid (Hs.out.keep hb)
      replace Hm := Lib.hid (Hm.out.keep hb)
      clear hb
      go_wp2
      go_ret
      exact ⟨ret_bool HE.out.symm, HB.out⟩
end

section
open Go.RowKit
set_option linter.unusedVariables false
set_option linter.unusedSimpArgs false

theorem below_gr3 {w w' : World} {g B : Nat} (h : w.grownBy w' (some g)) (hg : B ≤ g) (hB : B ≤ w.heap.size := by omega) : Below B w w' :=
  ⟨h.os, h.tape, h.output, h.size, fun k hk => h.block k (by omega) (fun e => by injection e with e; omega)⟩
theorem same_no {s : MSig} {m : MModel} {so x y : Int} (h : sameOkB s m so x y = false) : sameM s m so x y = [] := by unfold sameM; rw [h]; rfl

set_option maxHeartbeats 1600000 in
set_option maxRecDepth 100000 in
theorem sameMade_any (s : MSig) (m : MModel) (so x y : Int) (w : World) (v va : Value) (h1 : RSig w v s) (h2 : RModel w va m) :
    Calls Try.prog 29 #[v, va, .int .i64 so, .int .i64 x, .int .i64 y] w fun e w' => ∃ u, e = .returned u ∧ ORows w' w.heap.size u (sameM s m so x y) ∧ Below w.heap.size w w' := by
  obtain ⟨Asa, csa, rfl⟩ := h1.form
  obtain ⟨Ama, cma, Amb, cmb, rfl⟩ := h2.form
  have hb : Below w.heap.size w ((w.alloc (.cells #[.int .i64 s.sorts, .slice Asa s.ops.length csa] 25)).alloc (.cells #[.slice Ama m.sizes.length cma, .slice Amb m.tables.length cmb] 28)) := (below_alloc _ _).alloc (by simp) _
  have HB := Lib.hid hb
  have hsz : ((w.alloc (.cells #[.int .i64 s.sorts, .slice Asa s.ops.length csa] 25)).alloc (.cells #[.slice Ama m.sizes.length cma, .slice Amb m.tables.length cmb] 28)).heap.size = w.heap.size + 2 := by simp
  have Hs := Lib.hid (h1.keep hb)
  have s0 := cell_keep (below_alloc (w.alloc (.cells #[.int .i64 s.sorts, .slice Asa s.ops.length csa] 25)) (.cells #[.slice Ama m.sizes.length cma, .slice Amb m.tables.length cmb] 28)) (bx_at (w) #[.int .i64 s.sorts, .slice Asa s.ops.length csa] 25 (k := 0) rfl)
  have s1 := cell_keep (below_alloc (w.alloc (.cells #[.int .i64 s.sorts, .slice Asa s.ops.length csa] 25)) (.cells #[.slice Ama m.sizes.length cma, .slice Amb m.tables.length cmb] 28)) (bx_at (w) #[.int .i64 s.sorts, .slice Asa s.ops.length csa] 25 (k := 1) rfl)
  have Hm := Lib.hid (h2.keep hb)
  have m0 := bx_at (w.alloc (.cells #[.int .i64 s.sorts, .slice Asa s.ops.length csa] 25)) #[.slice Ama m.sizes.length cma, .slice Amb m.tables.length cmb] 28 (k := 0) rfl
  have m1 := bx_at (w.alloc (.cells #[.int .i64 s.sorts, .slice Asa s.ops.length csa] 25)) #[.slice Ama m.sizes.length cma, .slice Amb m.tables.length cmb] 28 (k := 1) rfl
  simp only [World.size_alloc] at m0 m1
  generalize hW : (w.alloc (.cells #[.int .i64 s.sorts, .slice Asa s.ops.length csa] 25)).alloc (.cells #[.slice Ama m.sizes.length cma, .slice Amb m.tables.length cmb] 28) = W at HB hsz Hs s0 s1 Hm m0 m1
  clear hb h1 h2
  cases hma : modelB s m with
  | false =>
    have HMA := Lib.hid hma
    have HE := Lib.hid (same_no (s := s) (m := m) (so := so) (x := x) (y := y) (by unfold sameOkB; rw [hma]; simp))
    clear hma
    go_enter Try.func29, Try.ntmps29
    go_wp2_with fail
    clear hW
    refine (modelOk_any s m _ _ _ Hs.out Hm.out).mono ?_
    rw [HMA.out]
    rintro x w1 ⟨rfl, hb⟩
    replace HB := Lib.hid (sz_keep HB.out hb)
    replace s0 := cell_keep hb s0
    replace s1 := cell_keep hb s1
    replace m0 := cell_keep hb m0
    replace m1 := cell_keep hb m1
    replace Hs := Lib.hid (Hs.out.keep hb)
    replace Hm := Lib.hid (Hm.out.keep hb)
    clear hb
    go_wp2
    go_ret
    rw [HE.out]
    exact ⟨_, rfl, ORows.nil _ _, HB.out⟩
  | true =>
    have HMA := Lib.hid hma
    have HF := Lib.hid (model_facts hma)
    by_cases hs0 : so < 0
    · have HE := Lib.hid (same_no (s := s) (m := m) (so := so) (x := x) (y := y) (by unfold sameOkB; rw [decide_eq_false (show ¬ 0 ≤ so by omega)]; simp))
      clear hma
      go_enter Try.func29, Try.ntmps29
      go_wp2_with fail
      clear hW
      refine (modelOk_any s m _ _ _ Hs.out Hm.out).mono ?_
      rw [HMA.out]
      rintro x w1 ⟨rfl, hb⟩
      replace HB := Lib.hid (sz_keep HB.out hb)
      replace s0 := cell_keep hb s0
      replace s1 := cell_keep hb s1
      replace m0 := cell_keep hb m0
      replace m1 := cell_keep hb m1
      replace Hs := Lib.hid (Hs.out.keep hb)
      replace Hm := Lib.hid (Hm.out.keep hb)
      clear hb
      go_wp2
      go_ret
      rw [HE.out]
      exact ⟨_, rfl, ORows.nil _ _, HB.out⟩
    · by_cases hs1 : s.sorts ≤ so
      · have HE := Lib.hid (same_no (s := s) (m := m) (so := so) (x := x) (y := y) (by unfold sameOkB; rw [decide_eq_false (show ¬ so < s.sorts by omega)]; simp))
        clear hma
        go_enter Try.func29, Try.ntmps29
        go_wp2_with fail
        clear hW
        refine (modelOk_any s m _ _ _ Hs.out Hm.out).mono ?_
        rw [HMA.out]
        rintro x w1 ⟨rfl, hb⟩
        replace HB := Lib.hid (sz_keep HB.out hb)
        replace s0 := cell_keep hb s0
        replace s1 := cell_keep hb s1
        replace m0 := cell_keep hb m0
        replace m1 := cell_keep hb m1
        replace Hs := Lib.hid (Hs.out.keep hb)
        replace Hm := Lib.hid (Hm.out.keep hb)
        clear hb
        go_wp2
        go_ret
        rw [HE.out]
        exact ⟨_, rfl, ORows.nil _ _, HB.out⟩
      · have hsl := HF.out.sl
        cases hx : inSize (m.sizes.getD so.toNat 0) x with
        | false =>
          have HX := Lib.hid hx
          have HE := Lib.hid (same_no (s := s) (m := m) (so := so) (x := x) (y := y) (by
            unfold sameOkB
            unfold inSize at hx
            rw [hx]
            simp))
          clear hma hx
          go_enter Try.func29, Try.ntmps29
          go_wp2_with fail
          clear hW
          refine (modelOk_any s m _ _ _ Hs.out Hm.out).mono ?_
          rw [HMA.out]
          rintro _ w1 ⟨rfl, hb⟩
          replace HB := Lib.hid (sz_keep HB.out hb)
          replace s0 := cell_keep hb s0
          replace s1 := cell_keep hb s1
          replace m0 := cell_keep hb m0
          replace m1 := cell_keep hb m1
          replace Hs := Lib.hid (Hs.out.keep hb)
          replace Hm := Lib.hid (Hm.out.keep hb)
          clear hb
          go_wp2_with fail
          refine (isValue_any m so x _ _ Hm.out (by omega) (by omega)).mono ?_
          rw [HX.out]
          rintro _ w2 ⟨rfl, hb⟩
          replace HB := Lib.hid (sz_keep HB.out hb)
          replace s0 := cell_keep hb s0
          replace s1 := cell_keep hb s1
          replace m0 := cell_keep hb m0
          replace m1 := cell_keep hb m1
          replace Hs := Lib.hid (Hs.out.keep hb)
          replace Hm := Lib.hid (Hm.out.keep hb)
          clear hb
          go_wp2
          go_ret
          rw [HE.out]
          exact ⟨_, rfl, ORows.nil _ _, HB.out⟩
        | true =>
          have HX := Lib.hid hx
          cases hy : inSize (m.sizes.getD so.toNat 0) y with
          | false =>
            have HY := Lib.hid hy
            have HE := Lib.hid (same_no (s := s) (m := m) (so := so) (x := x) (y := y) (by
              unfold sameOkB
              unfold inSize at hy
              rw [hy]
              simp))
            clear hma hx hy
            go_enter Try.func29, Try.ntmps29
            go_wp2_with fail
            clear hW
            refine (modelOk_any s m _ _ _ Hs.out Hm.out).mono ?_
            rw [HMA.out]
            rintro _ w1 ⟨rfl, hb⟩
            replace HB := Lib.hid (sz_keep HB.out hb)
            replace s0 := cell_keep hb s0
            replace s1 := cell_keep hb s1
            replace m0 := cell_keep hb m0
            replace m1 := cell_keep hb m1
            replace Hs := Lib.hid (Hs.out.keep hb)
            replace Hm := Lib.hid (Hm.out.keep hb)
            clear hb
            go_wp2_with fail
            refine (isValue_any m so x _ _ Hm.out (by omega) (by omega)).mono ?_
            rw [HX.out]
            rintro _ w2 ⟨rfl, hb⟩
            replace HB := Lib.hid (sz_keep HB.out hb)
            replace s0 := cell_keep hb s0
            replace s1 := cell_keep hb s1
            replace m0 := cell_keep hb m0
            replace m1 := cell_keep hb m1
            replace Hs := Lib.hid (Hs.out.keep hb)
            replace Hm := Lib.hid (Hm.out.keep hb)
            clear hb
            go_wp2_with fail
            refine (isValue_any m so y _ _ Hm.out (by omega) (by omega)).mono ?_
            rw [HY.out]
            rintro _ w3 ⟨rfl, hb⟩
            replace HB := Lib.hid (sz_keep HB.out hb)
            replace s0 := cell_keep hb s0
            replace s1 := cell_keep hb s1
            replace m0 := cell_keep hb m0
            replace m1 := cell_keep hb m1
            replace Hs := Lib.hid (Hs.out.keep hb)
            replace Hm := Lib.hid (Hm.out.keep hb)
            clear hb
            go_wp2
            go_ret
            rw [HE.out]
            exact ⟨_, rfl, ORows.nil _ _, HB.out⟩
          | true =>
            have HY := Lib.hid hy
            have hok : sameOkB s m so x y = true := by
              unfold sameOkB
              unfold inSize at hx hy
              rw [hma, hx, hy]
              simp
              omega
            have HOK := Lib.hid hok
            have HIX := Lib.hid (sameOk_facts hok).2.1
            have HIY := Lib.hid (sameOk_facts hok).2.2
            have hfew := HF.out.sorts
            clear hma hx hy hok
            go_enter Try.func29, Try.ntmps29
            go_wp2_with fail
            clear hW
            refine (modelOk_any s m _ _ _ Hs.out Hm.out).mono ?_
            rw [HMA.out]
            rintro _ w1 ⟨rfl, hb⟩
            replace HB := Lib.hid (sz_keep HB.out hb)
            replace s0 := cell_keep hb s0
            replace s1 := cell_keep hb s1
            replace m0 := cell_keep hb m0
            replace m1 := cell_keep hb m1
            replace Hs := Lib.hid (Hs.out.keep hb)
            replace Hm := Lib.hid (Hm.out.keep hb)
            clear hb
            go_wp2_with fail
            refine (isValue_any m so x _ _ Hm.out (by omega) (by omega)).mono ?_
            rw [HX.out]
            rintro _ w2 ⟨rfl, hb⟩
            replace HB := Lib.hid (sz_keep HB.out hb)
            replace s0 := cell_keep hb s0
            replace s1 := cell_keep hb s1
            replace m0 := cell_keep hb m0
            replace m1 := cell_keep hb m1
            replace Hs := Lib.hid (Hs.out.keep hb)
            replace Hm := Lib.hid (Hm.out.keep hb)
            clear hb
            go_wp2_with fail
            refine (isValue_any m so y _ _ Hm.out (by omega) (by omega)).mono ?_
            rw [HY.out]
            rintro _ w3 ⟨rfl, hb⟩
            replace HB := Lib.hid (sz_keep HB.out hb)
            replace s0 := cell_keep hb s0
            replace s1 := cell_keep hb s1
            replace m0 := cell_keep hb m0
            replace m1 := cell_keep hb m1
            replace Hs := Lib.hid (Hs.out.keep hb)
            replace Hm := Lib.hid (Hm.out.keep hb)
            clear hb
            have HCX := Lib.hid (And.intro s0 (And.intro s1 (And.intro m0 m1)))
            simp only [List.getElem_toArray, List.getElem_cons_zero, ← hsl] at s0
            have hmk := run_make_row' (P := Try.prog) 23 26 (.slice none 0 0) 24 Try.underlying23 Try.tinfo_ints rfl .i64 .i64 m.sizes.length (by omega) (by omega)
            have HKL := Lib.hid (show (startM m).length = m.sizes.length by simp [startM])
            have hxa : w.heap.size + 1 < w3.heap.size := World.block_lt_of_cell? w3 _ m0
            clear hsl
            go_wp2
            clear hmk s0 s1 m0 m1 hs0 hs1
            go_loopw [12, 13, 49] (fun _ _ i wr => ∃ k : Nat, k ≤ m.sizes.length ∧ i = .int .i64 k ∧ FillingR w3 wr (startM m) k) (fun _ _ i _ => m.sizes.length - (intOf i).toNat)
            case atStart => exact ⟨0, Nat.zero_le _, rfl, FillingR.start w3 _ _ (by simp [madeCells, startM])⟩
            case round =>
              obtain ⟨k, hk, rfl, hf⟩ := hrel
              have HFI := Lib.hid hf
              have HD : Hid (Below w3.heap.size w3 wr) := by obtain ⟨_, _, _, _, _, hb⟩ := hf; exact hb
              clear hf
              by_cases hlt : k < m.sizes.length
              · have hlt' : (k : Int) < (m.sizes.length : Int) := by omega
                obtain ⟨b, o, c', e, hx⟩ := (Hm.out.of.1.keep HD.out).at_ hlt
                cases e
                have HAT := Lib.hid (show (startM m)[k]'(by rw [HKL.out]; exact hlt) = countM (m.sizes[k]).toNat by simp [startM])
                have hz := HF.out.sz _ (List.getElem_mem hlt)
                generalize m.sizes[k] = z at hx HAT hz
                go_wp2_with fail
                refine (countedRow_any z _ (by omega) (by omega)).mono ?_
                rintro e w7 ⟨u, rfl, ho, hb⟩
                obtain ⟨u0, g1, g2⟩ := HFI.out.cell (by rw [HKL.out]; exact hlt) hb
                have HN := Lib.hid (HFI.out.step (u := u) (by rw [HKL.out]; exact hlt) hb (by rw [HAT.out]; exact ho))
                obtain ⟨A1, c1, rfl, -⟩ := ho.reads.form
                clear ho hb hx
                go_wp2
                go_roundw
                case rel => exact ⟨k + 1, by omega, by go_num, HN.out⟩
                case measure => simp [intOf]; omega
              · have hlt' : ¬ (k : Int) < (m.sizes.length : Int) := by omega
                have hkn : k = m.sizes.length := by omega
                subst hkn
                obtain ⟨r1, r2⟩ := HFI.out.done HKL.out.symm (by omega)
                have HR1 := Lib.hid r1
                have HR2 := Lib.hid r2
                clear r1 r2
                go_wp2
                go_loopw [2, 3, 4, 14] (fun vs vx vy vb wk => ∃ (c : List (List Int)) (so' x' y' : Int) (b : Bool), vs = .int .i64 so' ∧ vx = .int .i64 x' ∧ vy = .int .i64 y' ∧ vb = .bool b ∧ ORows wk w3.heap.size (.slice (some ⟨w3.heap.size, 0, none⟩) m.sizes.length m.sizes.length) c ∧ Below w3.heap.size w3 wk ∧ (b = true → Run s m so x y c so' x' y') ∧ (b = false → Least s m so x y c ∧ Shut s m c)) (fun vs vx vy vb wk => restS (.slice (some ⟨w3.heap.size, 0, none⟩) m.sizes.length m.sizes.length) vb vs vx vy wk)
                case atStart => exact ⟨startM m, so, x, y, true, rfl, rfl, rfl, rfl, HR1.out, HR2.out, fun _ => start_run HF.out HIX.out HIY.out, fun h => by cases h⟩
                case round =>
                  obtain ⟨c, so', x', y', b, rfl, rfl, rfl, rfl, ho, hd, hr, hl⟩ := hrel
                  have HO := Lib.hid ho
                  have HD9 := Lib.hid hd
                  cases b with
                  | false =>
                    have HE := Lib.hid (same_is HOK.out (hl rfl).1 (hl rfl).2)
                    clear ho hd hr hl
                    go_wp2
                    go_ret
                    rw [← HE.out]
                    exact ⟨_, rfl, HO.out.base HB.out.size, sz_keep HB.out HD9.out⟩
                  | true =>
                    have HR := Lib.hid (hr rfl)
                    have HL := Lib.hid (HR.out.least HIX.out HIY.out)
                    have hn0 : 0 ≤ so' := HR.out.ix.1
                    obtain ⟨n, rfl⟩ : ∃ n : Nat, so' = (n : Int) := ⟨so'.toNat, by omega⟩
                    have HM0 := Lib.hid (restS_yes (so := (n : Int)) (x := x') (y := y') ho.reads)
                    have hk := lens_in HR.out.cls.le HR.out.ix
                    have hk' := lens_in HR.out.cls.le HR.out.iy
                    have hx0 := HR.out.ix.2.2.1
                    have hy0 := HR.out.iy.2.2.1
                    have hlen : c.length = m.sizes.length := HR.out.cls.le.1
                    rw [Int.toNat_natCast] at hk hk'
                    have hnl : n < c.length := hk.1
                    have hnm : (n : Int) < (m.sizes.length : Int) := by omega
                    rw [getD_at _ hnl] at hk hk'
                    have hrl : c[n].length ≤ 1000 := by
                      have a := HR.out.cls.le.2 n (by omega)
                      rw [getD_at _ hnl] at a
                      have b := HF.out.sz _ (List.getElem_mem (show n < m.sizes.length by omega))
                      omega
                    obtain ⟨gi, ci, hcell, hrow, hgi, hnew⟩ := ho.at_own hnl (by omega)
                    have HJ := Lib.hid (joinClasses_any c[n] x' y' wr _ gi _ ci hrow rfl hrl hx0 (by omega) hy0 (by omega))
                    have HNW := Lib.hid (show ∀ w5 : World, OInts w5 w3.heap.size (.slice (some ⟨gi, 0, none⟩) c[n].length ci) (joinRow c[n] x' y') → wr.grownBy w5 (some gi) → ORows w5 w3.heap.size (.slice (some ⟨w3.heap.size, 0, none⟩) m.sizes.length m.sizes.length) (joinM c (n : Int) x' y') ∧ Below w3.heap.size w3 w5 from fun w5 a b => ⟨by
                      have := hnew w5 _ a b
                      unfold joinM
                      rw [Int.toNat_natCast, getD_at _ hnl]
                      exact this, hd.trans (below_gr3 b hgi hd.size)⟩)
                    generalize c[n].length = cl at hcell HJ HNW
                    clear ho hd hr hl hk hk' hrow hnew hrl hx0 hy0
                    go_wp2_with fail
                    refine HJ.out.mono ?_
                    rintro _ w5 ⟨⟨u5, rfl⟩, ho5, hg5⟩
                    obtain ⟨ho6, hd5⟩ := HNW.out w5 ho5 hg5
                    have HO5 := Lib.hid ho6
                    have HD5 := Lib.hid hd5
                    have q0 := cell_keep hd5 HCX.out.1
                    have q1 := cell_keep hd5 HCX.out.2.1
                    have q2 := cell_keep hd5 HCX.out.2.2.1
                    have q3 := cell_keep hd5 HCX.out.2.2.2
                    clear ho5 hg5 ho6 hd5 hcell
                    go_wp2_with fail
                    refine (leftApart_any s m (joinM c (n : Int) x' y') HF.out HL.out.cls w5 _ _ _ (Hs.out.keep HD5.out) (Hm.out.keep HD5.out) HO5.out.reads).mono ?_
                    cases hfa : firstApart s m (joinM c (n : Int) x' y') with
                    | none =>
                      have HSH := Lib.hid (shut_iff.1 hfa)
                      clear hfa
                      simp only [apartV]
                      rintro _ w6 ⟨rfl, hb6⟩
                      have HO6 := Lib.hid (HO5.out.keep hb6)
                      have HD6 := Lib.hid (sz_keep HD5.out hb6)
                      clear hb6 q0 q1 q2 q3
                      go_wp2
                      go_roundw
                      case rel => exact ⟨_, 0, 0, 0, false, rfl, rfl, rfl, rfl, HO6.out, HD6.out, (fun h => by cases h), fun _ => ⟨HL.out, HSH.out⟩⟩
                      case measure => rw [HM0.out, restS_no]; omega
                    | some t =>
                      obtain ⟨so2, x2, y2⟩ := t
                      have HRL := Lib.hid (rest_less HF.out HIX.out HIY.out HR.out hfa)
                      clear hfa
                      simp only [apartV]
                      rintro _ w6 ⟨rfl, hb6⟩
                      have HO6 := Lib.hid (HO5.out.keep hb6)
                      have HD6 := Lib.hid (sz_keep HD5.out hb6)
                      have HM1 := Lib.hid (restS_yes (so := so2) (x := x2) (y := y2) HO6.out.reads)
                      clear hb6 q0 q1 q2 q3
                      go_wp2
                      go_roundw
                      case rel => exact ⟨_, so2, x2, y2, true, rfl, rfl, rfl, rfl, HO6.out, HD6.out, fun _ => HRL.out.1, fun h => by cases h⟩
                      case measure => rw [HM0.out, HM1.out]; have := HRL.out.2; omega
end

section
open Go.RowKit
set_option linter.unusedVariables false
set_option linter.unusedSimpArgs false

theorem dig_zero (zs : List Int) : digM zs 0 = List.replicate zs.length 0 := by
  induction zs with
  | nil => rfl
  | cons z zs ih => simp [digM, ih, List.replicate_succ]
/-- the number of the row with a number -/
theorem place_dig {zs : List Int} (hz : Sizes zs) : ∀ (p n : Int), 0 ≤ n → placeM p zs (digM zs n) = p * waysM zs + n % waysM zs := by
  induction zs with
  | nil => intro p n _; simp [placeM, digM, waysM, Int.emod_one]
  | cons z zs ih =>
    intro p n hn
    have hz1 := hz z (List.mem_cons_self ..)
    have hw := ways_pos hz.tail
    simp only [digM, placeM, waysM]
    rw [ih hz.tail _ _ hn]
    generalize waysM zs = W at *
    have e1 := Int.emod_add_mul_ediv n W
    have e2 := Int.emod_add_mul_ediv (n / W) z
    have c1 := Int.emod_nonneg (n / W) (show z ≠ 0 by omega)
    have c2 := Int.emod_lt_of_pos (n / W) (show 0 < z by omega)
    have b1 := Int.emod_nonneg n (show W ≠ 0 by omega)
    have b2 := Int.emod_lt_of_pos n (show 0 < W by omega)
    have key : n % (z * W) = W * (n / W % z) + n % W := by
      have c4 : W * (n / W % z) ≤ W * (z - 1) := Int.mul_le_mul_of_nonneg_left (by omega) (by omega)
      have c5 : 0 ≤ W * (n / W % z) := Int.mul_nonneg (by omega) c1
      rw [Int.mul_sub] at c4
      have e : n = (W * (n / W % z) + n % W) + z * W * (n / W / z) := by
        have : W * (n / W) = W * (n / W % z) + z * W * (n / W / z) := by
          conv => lhs; rw [← e2]
          rw [Int.mul_add, Int.mul_comm z W, Int.mul_assoc]
        omega
      conv => lhs; rw [e]
      rw [Int.add_mul_emod_self_left, Int.emod_eq_of_lt (by omega) (by rw [Int.mul_comm z W]; omega)]
    rw [key, Int.add_mul, Int.mul_assoc, Int.mul_comm (n / W % z) W]
    omega
def readRow (w : World) (g : Nat) : List Int := match w.heap[g]? with
  | some (.cells cs _ _) => cs.toList.map intOf
  | _ => []
theorem readRow_own {w : World} {B g : Nat} {xs : List Int} (h : OInts w B (.slice (some ⟨g, 0, none⟩) xs.length xs.length) xs) : readRow w g = xs := by
  rcases h.2 with ⟨e, _⟩ | ⟨g', cap, cur, e, hg, hh, h1, h2, h3, h4⟩
  · cases e
  · injection e with e1 e2 e3
    injection e1 with e1
    injection e1 with e1
    subst e1 e3
    unfold readRow
    rw [hh]
    simp only
    rw [List.take_of_length_le (by simp at h3 ⊢; omega)] at h4
    rw [h4, List.map_map]
    conv => rhs; rw [← List.map_id xs]
    exact List.map_congr_left fun x _ => rfl
/-- how many rows of values are still to come -/
def leftM (zs : List Int) (N g : Nat) (more : Value) (w : World) : Nat := match more with
  | .bool true => N - (placeM 0 zs (readRow w g)).toNat + 1
  | _ => 0

theorem dig_small {zs ds : List Int} (hz : Sizes zs) (h : InAll zs ds) : ∀ x ∈ ds, 0 ≤ x ∧ x ≤ 1000000 := by
  intro x hx
  obtain ⟨k, hk, rfl⟩ := List.getElem_of_mem hx
  have hk' : k < zs.length := by rw [← h.1]; exact hk
  have := h.2 k hk' hk
  have := hz _ (List.getElem_mem hk')
  omega
theorem l4Next_is (zs xs : List Int) (n : Nat) (hn : xs.length = n) (B g c : Nat) (w : World) (lv : Value) (h : OInts w B (.slice (some ⟨g, 0, none⟩) n c) xs) (hs : xs.length ≤ 1000000) (hb : ∀ x ∈ xs, 0 ≤ x ∧ x ≤ 1000000) (hl : ∀ W', w.grownBy W' (some g) → RInts W' lv zs) (hlen : xs.length = zs.length := by assumption) :
    Calls Try.prog 93 #[.slice (some ⟨g, 0, none⟩) n c, lv] w fun e w' => e = .returned (.bool (nextM zs xs).2) ∧ OInts w' B (.slice (some ⟨g, 0, none⟩) n c) (nextM zs xs).1 ∧ w.grownBy w' (some g) ∧ w'.heap.size = w.heap.size := by
  subst hn
  exact l4Next_any zs xs B g c w lv h hlen hs hb hl
end

section
open Go.RowKit
set_option linter.unusedVariables false
set_option linter.unusedSimpArgs false

section
variable {s : MSig} {m : MModel}
theorem join_eq {c : List (List Int)} {so x y : Int} (h : ledOne c so x = ledOne c so y) : joinM c so x y = c := by
  have hr : joinRow (c.getD so.toNat []) x y = c.getD so.toNat [] := by
    unfold joinRow
    unfold ledOne at h
    rw [h, Int.max_self, Int.min_self]
    conv => rhs; rw [← List.map_id (c.getD so.toNat [])]
    refine List.map_congr_left fun v _ => ?_
    split
    · rename_i e; exact e.symm
    · rfl
  unfold joinM
  rw [hr]
  rcases Nat.lt_or_ge so.toNat c.length with q | q
  · rw [getD_at _ q, List.set_getElem_self]
  · exact List.set_eq_of_length_le q
theorem Least.next (f : ModFacts s m) {s0 x0 y0 : Int} {c : List (List Int)} (h : Least s m s0 x0 y0 c) {k n : Nat} (hk : k < s.ops.length) (hn : n < (m.tables.getD k []).length) :
    Run s m s0 x0 y0 c ((opRow s k).getLastD (-1)) ((m.tables.getD k []).getD n 0) ((m.tables.getD k []).getD (otherN m c (opRow s k).dropLast n).toNat 0) := by
  have o := f.op hk
  obtain ⟨a1, a2, a3⟩ := other_in f h.cls o n
  have hn2 : (otherN m c (opRow s k).dropLast n).toNat < (m.tables.getD k []).length := by omega
  have v1 := o.val _ (List.getElem_mem hn)
  have v2 := o.val _ (List.getElem_mem hn2)
  rw [← getD_at 0 hn] at v1
  rw [← getD_at 0 hn2] at v2
  exact ⟨h.cls, fun d a b q => ⟨h.min d a b q, forced f h.cls a (h.min d a b q) b hk hn⟩, ⟨o.lin.1, o.lin.2, v1⟩, ⟨o.lin.1, o.lin.2, v2⟩, .inl h.one⟩
/-- how far a round is: the operation k, and in its table n -/
structure Going (s : MSig) (m : MModel) (s0 x0 y0 : Int) (c0 c : List (List Int)) (fl : Bool) (k n : Nat) : Prop where
  least : Least s m s0 x0 y0 c
  same : fl = false → c = c0 ∧ ∀ k' n', k' < s.ops.length → n' < (m.tables.getD k' []).length → (k' < k ∨ (k' = k ∧ n' < n)) → sameOp s m c k' n' = true
  less : fl = true → sumC c < sumC c0
theorem Going.start {s0 x0 y0 : Int} {c : List (List Int)} (h : Least s m s0 x0 y0 c) : Going s m s0 x0 y0 c c false 0 0 :=
  ⟨h, fun _ => ⟨rfl, fun k' n' _ _ h => by omega⟩, fun h => by cases h⟩
theorem Going.op {s0 x0 y0 : Int} {c0 c : List (List Int)} {fl : Bool} {k n : Nat} (h : Going s m s0 x0 y0 c0 c fl k n) (hn : n = (m.tables.getD k []).length) : Going s m s0 x0 y0 c0 c fl (k + 1) 0 :=
  ⟨h.least, fun e => ⟨(h.same e).1, fun k' n' a b q => (h.same e).2 k' n' a b (by
    rcases q with q | ⟨-, q⟩
    · rcases Nat.lt_or_ge k' k with q2 | q2
      · exact .inl q2
      · have e2 : k' = k := by omega
        subst e2
        exact .inr ⟨rfl, by omega⟩
    · omega)⟩, h.less⟩
theorem Going.end_ {s0 x0 y0 : Int} {c0 c : List (List Int)} {k : Nat} (h : Going s m s0 x0 y0 c0 c false k 0) (hk : k = s.ops.length) : Least s m s0 x0 y0 c ∧ Shut s m c :=
  ⟨h.least, fun k' n' a b => (h.same rfl).2 k' n' a b (.inl (by omega))⟩
/-- one row more -/
theorem Going.step (f : ModFacts s m) {s0 x0 y0 : Int} (i0 : InM m s0 x0) (i1 : InM m s0 y0) {c0 c : List (List Int)} {fl : Bool} {k n : Nat} (h : Going s m s0 x0 y0 c0 c fl k n) (hk : k < s.ops.length) (hn : n < (m.tables.getD k []).length) {last a b : Int}
    (hl : (opRow s k).getLastD (-1) = last) (ha : (m.tables.getD k []).getD n 0 = a) (hb : (m.tables.getD k []).getD (otherN m c (opRow s k).dropLast n).toNat 0 = b) :
    Going s m s0 x0 y0 c0 (joinM c last a b) (fl || (ledOne c last a != ledOne c last b)) k (n + 1) := by
  subst hl ha hb
  have r := h.least.next f hk hn
  cases e : decide (ledOne c ((opRow s k).getLastD (-1)) ((m.tables.getD k []).getD n 0) = ledOne c ((opRow s k).getLastD (-1)) ((m.tables.getD k []).getD (otherN m c (opRow s k).dropLast n).toNat 0)) with
  | true =>
    have e' := of_decide_eq_true e
    rw [join_eq e', show (ledOne c ((opRow s k).getLastD (-1)) ((m.tables.getD k []).getD n 0) != ledOne c ((opRow s k).getLastD (-1)) ((m.tables.getD k []).getD (otherN m c (opRow s k).dropLast n).toNat 0)) = false by simpa using e', Bool.or_false]
    refine ⟨h.least, fun hf => ⟨(h.same hf).1, fun k' n' q1 q2 q3 => ?_⟩, h.less⟩
    by_cases hx : k' = k ∧ n' = n
    · obtain ⟨rfl, rfl⟩ := hx
      exact e
    · exact (h.same hf).2 k' n' q1 q2 (by omega)
  | false =>
    have e' := of_decide_eq_false e
    rw [show (ledOne c ((opRow s k).getLastD (-1)) ((m.tables.getD k []).getD n 0) != ledOne c ((opRow s k).getLastD (-1)) ((m.tables.getD k []).getD (otherN m c (opRow s k).dropLast n).toNat 0)) = true by simpa using e', Bool.or_true]
    refine ⟨r.least i0 i1, (fun h => by cases h), fun _ => ?_⟩
    have h1 := sum_join r.cls r.ix r.iy e'
    cases fl with
    | true => have := h.less rfl; omega
    | false => rw [← (h.same rfl).1]; exact h1
theorem start_at (f : ModFacts s m) {so v : Int} (i : InM m so v) : ledOne (startM m) so v = v := by
  have le := (start_cls f).le
  obtain ⟨h1, h2⟩ := lens_in le i
  have e : (startM m).getD so.toNat [] = countM (m.sizes[so.toNat]'(by rw [← le.1]; exact h1)).toNat := by rw [getD_at _ h1]; simp [startM]
  have h3 := countM_at (n := (m.sizes[so.toNat]'(by rw [← le.1]; exact h1)).toNat) (k := v.toNat) (by rw [e, countM_len] at h2; exact h2)
  rw [← e, List.getElem?_eq_getElem h2] at h3
  injection h3 with h3
  unfold ledOne
  rw [getD_at _ h2, h3]
  have := i.2.2.1
  omega
theorem start_shut (f : ModFacts s m) : Shut s m (startM m) := by
  intro k n hk hn
  have o := f.op hk
  have hd := dig_in o.siz (n : Int)
  have key : ledV (startM m) (opRow s k).dropLast (digM (ledM m.sizes (opRow s k).dropLast) n) = digM (ledM m.sizes (opRow s k).dropLast) n := by
    have e1 : (digM (ledM m.sizes (opRow s k).dropLast) (n : Int)).length = (opRow s k).dropLast.length := by rw [hd.1, ledM_len]
    apply List.ext_getElem
    · rw [ledV_len e1]
    · intro j h1 h2
      have hj : j < (opRow s k).dropLast.length := by rw [e1] at h2; exact h2
      rw [ledV_at hj h2 h1]
      have a := o.tin _ (List.getElem_mem hj)
      have b := hd.2 j (by rw [ledM_len]; exact hj) h2
      have f3 := f.sorts.1
      rw [led_get hj (by omega) (by rw [ledM_len]; exact hj)] at b
      exact start_at f ⟨a.1, a.2, b.1, b.2⟩
  unfold sameOp sameAt
  rw [decide_eq_true_eq, key, place_dig o.siz 0 (n : Int) (by omega)]
  have hw : (n : Int) < waysM (ledM m.sizes (opRow s k).dropLast) := by rw [← o.len]; omega
  rw [Int.emod_eq_of_lt (by omega) hw]
  simp
/-- the first join changes nothing -/
theorem same_start {so x y : Int} (h : sameOkB s m so x y = true) (e : ledOne (startM m) so x = ledOne (startM m) so y) : startM m = sameM s m so x y := by
  obtain ⟨f, ix, iy⟩ := sameOk_facts h
  have hl := (start_run f ix iy).least ix iy
  rw [join_eq e] at hl
  exact same_is h hl (start_shut f)
open Classical in
/-- what the walk measures -/
noncomputable def restG (v fl : Value) (w : World) : Nat := match fl with
  | .bool true => (sumC (rowsIn w v)).toNat + 1
  | _ => 0
theorem restG_yes {v : Value} {w : World} {c : List (List Int)} (h : RRows w v c) : restG v (.bool true) w = (sumC c).toNat + 1 := by
  unfold restG
  simp only [rowsIn_is h]
theorem restG_no (v : Value) (w : World) : restG v (.bool false) w = 0 := rfl
end
end

section
open Go.RowKit
set_option linter.unusedVariables false
set_option linter.unusedSimpArgs false
end

section
open Go.RowKit
set_option linter.unusedVariables false
set_option linter.unusedSimpArgs false
end

section
open Go.RowKit
set_option linter.unusedVariables false
set_option linter.unusedSimpArgs false

theorem gr_cell {w w' : World} {g b o : Nat} {u : Value} (h : w.grownBy w' (some g)) (hb : b ≠ g) (hc : w.cell? ⟨b, o, none⟩ = some u) : w'.cell? ⟨b, o, none⟩ = some u := by
  have hl := World.block_lt_of_cell? w _ hc
  rw [World.cell?_of_block (h.block b hl (fun e => by injection e with e; exact hb e))]
  exact hc
theorem gro_below {w w' w2 : World} {row : Option Nat} (h : w.grownBy w' row) (hb : Below w'.heap.size w' w2) : w.grownBy w2 row :=
  ⟨hb.os.trans h.os, hb.tape.trans h.tape, hb.output.trans h.output, Nat.le_trans h.size hb.size, fun i hi hne => (hb.block i (Nat.lt_of_lt_of_le hi h.size)).trans (h.block i hi hne)⟩
theorem gr_of_below {w w2 : World} {row : Option Nat} (hb : Below w.heap.size w w2) : w.grownBy w2 row := gro_below (grown_refl w row) hb
theorem gr_base {w0 w w' : World} {g : Nat} (h0 : Below w0.heap.size w0 w) (hg : w0.heap.size ≤ g) (h : w.grownBy w' (some g)) : Below w0.heap.size w0 w' :=
  h0.grown h h0.size (fun k e => by cases e; exact hg)
theorem own_gr {w w' : World} {B g : Nat} {v : Value} {xs : List Int} (h : OInts w B v xs) (hg : w.grownBy w' (some g)) (hB : g < B) : OInts w' B v xs := by
  refine own_grown h hg ?_
  cases e : v.ownBlock with
  | none => exact .inl rfl
  | some k => right; intro e2; injection e2 with e2; have := (own_lt h k e).1; omega

set_option maxRecDepth 100000 in
theorem takesAndLeaves_base (s : MSig) (k : Nat) (w0 w : World) (v : Value) (h0 : Below w0.heap.size w0 w) (h : RSig w0 v s) (hv : validB s = true) (hk : k < s.ops.length) :
    Calls Try.prog 140 #[v, .int .i64 k] w fun e w' => ∃ u, e = .returned (.tuple #[u, .int .i64 ((opRow s k).getLastD (-1))]) ∧ RInts w0 u (opRow s k).dropLast ∧ Below w.heap.size w w' := by
  have h' := h.keep h0
  have h9 := h
  obtain ⟨Asa, csa, rfl⟩ := h'.form
  have hb : Below w.heap.size w (w.alloc (.cells #[.int .i64 s.sorts, .slice Asa s.ops.length csa] 25)) := below_alloc _ _
  have HB := Lib.hid hb
  have hsz : (w.alloc (.cells #[.int .i64 s.sorts, .slice Asa s.ops.length csa] 25)).heap.size = w.heap.size + 1 := by simp
  have Hs := Lib.hid (h'.keep hb)
  have s0 := bx_at (w) #[.int .i64 s.sorts, .slice Asa s.ops.length csa] 25 (k := 0) rfl
  have s1 := bx_at (w) #[.int .i64 s.sorts, .slice Asa s.ops.length csa] 25 (k := 1) rfl
  generalize hW : w.alloc (.cells #[.int .i64 s.sorts, .slice Asa s.ops.length csa] 25) = W at HB hsz Hs s0 s1
  clear hb h'
  have HB9 := Lib.hid (sz_keep h0 HB.out)
  have hk' : (k : Int) < (s.ops.length : Int) := by omega
  obtain ⟨r1, r2, -⟩ := opRow_valid hv hk
  obtain ⟨b, o, c, u, e, hx, hr⟩ := h9.of.2.at_ hk
  cases e
  replace hx := cell_keep HB9.out hx
  have HR : Hid (RInts w0 u (opRow s k)) := by rw [opRow_at hk]; exact hr
  clear hr hv h9
  generalize opRow s k = row at HR r1 r2
  obtain ⟨n, hn⟩ : ∃ n : Nat, row.length = n + 1 := ⟨row.length - 1, by omega⟩
  have hne : n < row.length := by omega
  obtain ⟨b1, o1, c1, rfl, hy⟩ := HR.out.at_ hne
  replace hy := cell_keep HB9.out hy
  have hcap : n ≤ c1 := by
    obtain ⟨A9, c9, e, h9, -⟩ := HR.out.form
    cases e
    omega
  have HLS : Hid (row.getLastD (-1) = row[n]) := by
    have := last_at (row := row) (by omega)
    simp only [hn, Nat.add_sub_cancel] at this
    exact this
  have HD := Lib.hid HR.out.dropLast
  rw [hn] at HD
  simp only [Nat.add_sub_cancel] at HD
  rw [HLS.out]
  generalize row[n] = last at hy
  have hw0 : IntKind.i64.wrap (((n + 1 : Nat) : Int) - 1) = (n : Int) := by rw [IntKind.wrap_i64]; omega
  have hnn : (n : Int) < (n : Int) + 1 := by omega
  rw [hn] at hx
  clear HR HLS hne h0
  go_enter Try.func140, Try.ntmps140
  go_wp2_with fail
  clear hW
  refine wp_region_held_drew (S := (fun w' => w'.cell? ⟨b1, o1 + n, none⟩ = some (.int .i64 last))) (by kernel_rfl) ?_ (fun hHeld => ?_)
  · exact hy
  refine wpAnyH_take (i := 0) (oi := _) (v := ?_) rfl (by kernel_rfl) (by kernel_rfl) (by kernel_rfl) (fun _ _ _ h => h) (Or.inl ⟨by rfl, ?_⟩) (by assumption) ?_
  rotate_left
  · first | (intro w' hSw; (try dsimp only at hSw); go_simp; done) | (intro w' hSw; (try dsimp only at hSw); go_simp; with_reducible rfl)
  try simp only [Act.put, List.getElem_toArray, List.getElem_cons_zero, List.getElem_cons_succ, List.setIfInBounds_toArray, List.set_cons_zero, List.set_cons_succ]
  refine wpAnyH_take (i := 1) (oi := _) (v := ?_) rfl (by kernel_rfl) (by kernel_rfl) (by kernel_rfl) (fun _ _ _ h => h) (Or.inl ⟨by rfl, ?_⟩) (by assumption) ?_
  rotate_left
  · first | (intro w' hSw; (try dsimp only at hSw); go_simp; done) | (intro w' hSw; (try dsimp only at hSw); go_simp; with_reducible rfl)
  try simp only [Act.put, List.getElem_toArray, List.getElem_cons_zero, List.getElem_cons_succ, List.setIfInBounds_toArray, List.set_cons_zero, List.set_cons_succ]
  refine wpAnyH_take (i := 2) (oi := _) (v := ?_) rfl (by kernel_rfl) (by kernel_rfl) (by kernel_rfl) (fun _ _ _ h => h) (Or.inl ⟨by rfl, ?_⟩) (by assumption) ?_
  rotate_left
  · first | (intro w' hSw; (try dsimp only at hSw); go_simp; done) | (intro w' hSw; (try dsimp only at hSw); go_simp; with_reducible rfl)
  try simp only [Act.put, List.getElem_toArray, List.getElem_cons_zero, List.getElem_cons_succ, List.setIfInBounds_toArray, List.set_cons_zero, List.set_cons_succ]
  refine wpAnyH_take (i := 3) (oi := _) (v := ?_) rfl (by kernel_rfl) (by kernel_rfl) (by kernel_rfl) (fun _ _ _ h => h) (Or.inl ⟨by rfl, ?_⟩) (by assumption) ?_
  rotate_left
  · first | (intro w' hSw; (try dsimp only at hSw); go_simp; done) | (intro w' hSw; (try dsimp only at hSw); go_simp; with_reducible rfl)
  try simp only [Act.put, List.getElem_toArray, List.getElem_cons_zero, List.getElem_cons_succ, List.setIfInBounds_toArray, List.set_cons_zero, List.set_cons_succ]
  refine wpAnyH_take (i := 4) (oi := _) (v := ?_) rfl (by kernel_rfl) (by kernel_rfl) (by kernel_rfl) (fun _ _ _ h => h) (Or.inl ⟨by rfl, ?_⟩) (by assumption) ?_
  rotate_left
  · first | (intro w' hSw; (try dsimp only at hSw); go_simp; done) | (intro w' hSw; (try dsimp only at hSw); go_simp; with_reducible rfl)
  try simp only [Act.put, List.getElem_toArray, List.getElem_cons_zero, List.getElem_cons_succ, List.setIfInBounds_toArray, List.set_cons_zero, List.set_cons_succ]
  refine wpAnyH_take (i := 5) (oi := _) (v := ?_) rfl (by kernel_rfl) (by kernel_rfl) (by kernel_rfl) (fun _ _ _ h => h) (Or.inl ⟨by rfl, ?_⟩) (by assumption) ?_
  rotate_left
  · first | (intro w' hSw; (try dsimp only at hSw); go_simp; done) | (intro w' hSw; (try dsimp only at hSw); go_simp; with_reducible rfl)
  try simp only [Act.put, List.getElem_toArray, List.getElem_cons_zero, List.getElem_cons_succ, List.setIfInBounds_toArray, List.set_cons_zero, List.set_cons_succ]
  refine wpAnyH_take (i := 6) (oi := _) (v := ?_) rfl (by kernel_rfl) (by kernel_rfl) (by kernel_rfl) (fun _ _ _ h => h) (Or.inl ⟨by rfl, ?_⟩) (by assumption) ?_
  rotate_left
  · first | (intro w' hSw; (try dsimp only at hSw); go_simp; done) | (intro w' hSw; (try dsimp only at hSw); go_simp; with_reducible rfl)
  try simp only [Act.put, List.getElem_toArray, List.getElem_cons_zero, List.getElem_cons_succ, List.setIfInBounds_toArray, List.set_cons_zero, List.set_cons_succ]
  refine wpAnyH_take (i := 7) (oi := _) (v := ?_) rfl (by kernel_rfl) (by kernel_rfl) (by kernel_rfl) (fun _ _ _ h => h) (Or.inl ⟨by rfl, ?_⟩) (by assumption) ?_
  rotate_left
  · first | (intro w' hSw; (try dsimp only at hSw); go_simp; done) | (intro w' hSw; (try dsimp only at hSw); go_simp; with_reducible rfl)
  try simp only [Act.put, List.getElem_toArray, List.getElem_cons_zero, List.getElem_cons_succ, List.setIfInBounds_toArray, List.set_cons_zero, List.set_cons_succ]
  refine wpAnyH_take (i := 8) (oi := _) (v := ?_) rfl (by kernel_rfl) (by kernel_rfl) (by kernel_rfl) (fun _ _ _ h => h) (Or.inl ⟨by rfl, ?_⟩) (by assumption) ?_
  rotate_left
  · first | (intro w' hSw; (try dsimp only at hSw); go_simp; done) | (intro w' hSw; (try dsimp only at hSw); go_simp; with_reducible rfl)
  try simp only [Act.put, List.getElem_toArray, List.getElem_cons_zero, List.getElem_cons_succ, List.setIfInBounds_toArray, List.set_cons_zero, List.set_cons_succ]
  refine wpAnyH_done (by kernel_rfl) ?_ _
  clear hx hy s0 s1
  go_wp2
  refine bodyPost_ret (v := .tuple #[.slice (some ⟨b1, o1, none⟩) n c1, .int .i64 last]) (by simp [results, Try.results140, go_sem]) rfl ?_
  exact ⟨_, rfl, HD.out, map_drew HB.out⟩
end

section
open Go.RowKit
set_option linter.unusedVariables false

/-- one inner row of an own list of rows: its block is below, and is not the outer one -/
theorem ORows.at_own2 {w : World} {B g n c k : Nat} {rows : List (List Int)} (h : ORows w B (.slice (some ⟨g, 0, none⟩) n c) rows) (hk : k < rows.length) (hne : 0 < rows[k].length) :
    ∃ gi ci, w.cell? ⟨g, k, none⟩ = some (.slice (some ⟨gi, 0, none⟩) rows[k].length ci) ∧ OInts w B (.slice (some ⟨gi, 0, none⟩) rows[k].length ci) rows[k] ∧ B ≤ gi ∧ gi < w.heap.size ∧ gi ≠ g ∧
      ∀ (w1 : World) (row : List Int), OInts w1 B (.slice (some ⟨gi, 0, none⟩) rows[k].length ci) row → w.grownBy w1 (some gi) → ORows w1 B (.slice (some ⟨g, 0, none⟩) n c) (rows.set k row) := by
  obtain ⟨us, h1, h2, h3, h4⟩ := h
  have hu : us[k]? = some us[k] := List.getElem?_eq_getElem (by omega)
  have ho := h3 k _ _ hu (List.getElem?_eq_getElem hk)
  obtain ⟨A, c', e, -, -, hc⟩ := own_reads h1
  obtain ⟨b, o, eA, ec⟩ := hc k _ hu
  injection e with e1 e2 e3
  rw [eA] at e1
  injection e1 with e1
  injection e1 with x1 x2
  subst x1 x2
  generalize us[k] = u at hu ho ec
  obtain ⟨gi, ci, rfl, hg⟩ := own_at0 ho hne
  refine ⟨gi, ci, by simpa using ec, ho, hg, (own_lt ho gi rfl).2, ?_, fun w1 row hr hgr => ORows.inner h1 h2 h3 h4 hu (by intro q; cases q) ho hr hgr⟩
  rcases ho.blk_ne h1 with q | q
  · cases q
  · intro e9; exact q (by subst e9; rfl)
theorem rows_at0 {w : World} {B : Nat} {v : Value} {rows : List (List Int)} (h : ORows w B v rows) (hx : 0 < rows.length) : ∃ g c, v = .slice (some ⟨g, 0, none⟩) rows.length c ∧ B ≤ g ∧ g < w.heap.size := by
  obtain ⟨us, h1, h2, -, -⟩ := h
  have h0 := h1
  rcases h1.2 with ⟨e, e2⟩ | ⟨g', cap, cur, e, hg, r⟩
  · omega
  · exact ⟨g', cap, e, hg, (own_lt h0 g' (by rw [e]; rfl)).2⟩
/-- of what w holds all stays but the blocks from B on below T, the block g aside -/
structure Kept (B T g : Nat) (w w' : World) : Prop where
  os : w'.os = w.os
  tape : w'.tape = w.tape
  output : w'.output = w.output
  size : w.heap.size ≤ w'.heap.size
  block : ∀ k, k < w.heap.size → (k < B ∨ T ≤ k ∨ k = g) → w'.heap[k]? = w.heap[k]?
theorem Kept.refl (B T g : Nat) (w : World) : Kept B T g w w := ⟨rfl, rfl, rfl, Nat.le_refl _, fun _ _ _ => rfl⟩
theorem Kept.below {B T g : Nat} {w w1 w2 : World} (h : Kept B T g w w1) (hb : Below w1.heap.size w1 w2) : Kept B T g w w2 :=
  ⟨hb.os.trans h.os, hb.tape.trans h.tape, hb.output.trans h.output, Nat.le_trans h.size hb.size, fun k hk q => (hb.block k (Nat.lt_of_lt_of_le hk h.size)).trans (h.block k hk q)⟩
theorem Kept.join {B T g gi : Nat} {w w1 w2 : World} (h : Kept B T g w w1) (hg : w1.grownBy w2 (some gi)) (h1 : B ≤ gi) (h2 : gi < T) (h3 : gi ≠ g) : Kept B T g w w2 :=
  ⟨hg.os.trans h.os, hg.tape.trans h.tape, hg.output.trans h.output, Nat.le_trans h.size hg.size, fun k hk q => (hg.block k (Nat.lt_of_lt_of_le hk h.size) (fun e => by injection e with e; omega)).trans (h.block k hk q)⟩
theorem Kept.up {B T g g2 : Nat} {w w1 w2 : World} (h : Kept B T g w w1) (hg : w1.grownBy w2 (some g2)) (h1 : w.heap.size ≤ g2) : Kept B T g w w2 :=
  ⟨hg.os.trans h.os, hg.tape.trans h.tape, hg.output.trans h.output, Nat.le_trans h.size hg.size, fun k hk q => (hg.block k (Nat.lt_of_lt_of_le hk h.size) (fun e => by injection e with e; omega)).trans (h.block k hk q)⟩
theorem Kept.base {B T g : Nat} {w0 w w1 : World} (h : Kept B T g w w1) (hb : Below w0.heap.size w0 w) (h0 : w0.heap.size ≤ B) : Below w0.heap.size w0 w1 :=
  ⟨h.os.trans hb.os, h.tape.trans hb.tape, h.output.trans hb.output, Nat.le_trans hb.size h.size, fun k hk => (h.block k (Nat.lt_of_lt_of_le hk hb.size) (.inl (by omega))).trans (hb.block k hk)⟩
theorem Kept.own {B T T2 g : Nat} {w w1 : World} {v : Value} {xs : List Int} (h : Kept B T g w w1) (ho : OInts w T2 v xs) (ht : T ≤ T2) : OInts w1 T2 v xs :=
  ho.same fun k h1 h2 => h.block k h2 (.inr (.inl (by omega)))
/-- the inner row k lies where it lay ahead -/
theorem Kept.inner {B g k n c : Nat} {w0 w w1 : World} {rows0 : List (List Int)} (h : Kept B w0.heap.size g w w1) (hb : Below w0.heap.size w0 w) (hg : g < w0.heap.size)
    (h0 : ORows w0 B (.slice (some ⟨g, 0, none⟩) n c) rows0) (hk0 : k < rows0.length) (hn0 : 0 < rows0[k].length) {gi n1 ci : Nat} (hc : w1.cell? ⟨g, k, none⟩ = some (.slice (some ⟨gi, 0, none⟩) n1 ci)) : B ≤ gi ∧ gi < w0.heap.size ∧ gi ≠ g := by
  obtain ⟨gi', ci', h1, -, h2, h3, h4, -⟩ := h0.at_own2 hk0 hn0
  have e0 : w1.cell? ⟨g, k, none⟩ = w0.cell? ⟨g, k, none⟩ := World.cell?_of_block ((h.block g (Nat.lt_of_lt_of_le hg hb.size) (.inr (.inr rfl))).trans (hb.block g hg))
  rw [e0, h1] at hc
  injection hc with h1
  injection h1 with e1 e2 e3
  injection e1 with e1
  injection e1 with e1
  subst e1
  exact ⟨h2, h3, h4⟩
/-- a block that is none of the rows' own changes -/
theorem ORows.past {w w' : World} {B g n c g2 : Nat} {rows : List (List Int)} (h : ORows w B (.slice (some ⟨g, 0, none⟩) n c) rows) (hg : w.grownBy w' (some g2)) (h1 : g ≠ g2)
    (h2 : ∀ (k gi n1 ci : Nat), k < rows.length → w.cell? ⟨g, k, none⟩ = some (.slice (some ⟨gi, 0, none⟩) n1 ci) → gi ≠ g2) : ORows w' B (.slice (some ⟨g, 0, none⟩) n c) rows := by
  obtain ⟨us, a1, a2, a3, a4⟩ := h
  refine ⟨us, own_grown a1 hg (.inr (fun e => h1 (by injection e with e))), a2, fun j u row hu hr => own_grown (a3 j u row hu hr) hg ?_, a4⟩
  have hj : j < rows.length := (List.getElem?_eq_some_iff.1 hr).1
  obtain ⟨A, c', e, -, -, hc⟩ := own_reads a1
  obtain ⟨b, o, eA, ec⟩ := hc j _ hu
  injection e with e1 e2 e3
  rw [eA] at e1
  injection e1 with e1
  injection e1 with x1 x2
  subst x1 x2
  rcases (a3 j u row hu hr).2 with ⟨e, e2⟩ | ⟨g', cap, cur, e, r⟩
  · left; rw [e]; rfl
  · right
    rw [e] at ec ⊢
    intro q
    have q2 : g' = g2 := by injection q
    exact h2 j g' _ _ hj (by simpa using ec) q2
end

section
open Go.RowKit
set_option linter.unusedVariables false
set_option linter.unusedSimpArgs false

theorem join_same {row : List Int} {x y : Int} (h : row.getD x.toNat 0 = row.getD y.toNat 0) : joinRow row x y = row := by
  unfold joinRow
  rw [h, Int.max_self, Int.min_self]
  conv => rhs; rw [← List.map_id row]
  refine List.map_congr_left fun v _ => ?_
  split
  · rename_i e; exact e.symm
  · rfl
theorem gr_cellV {w wr : World} {g0 gi k : Nat} {u : Value} (h : w.grownBy wr (some gi)) (hne : g0 ≠ gi) (hc : w.cell? ⟨g0, k, none⟩ = some u) : wr.cell? ⟨g0, k, none⟩ = some u :=
  (World.cell?_of_block (h.block g0 (World.block_lt_of_cell? w _ hc) (fun e => by injection e with e; omega))).trans hc

set_option maxHeartbeats 1600000 in
set_option maxRecDepth 100000 in
theorem l6Join_any (row : List Int) (n : Nat) (x y : Int) (w : World) (B g0 n0 c0 gi ci : Nat) (hcell : w.cell? ⟨g0, n, none⟩ = some (.slice (some ⟨gi, 0, none⟩) row.length ci)) (h : OInts w B (.slice (some ⟨gi, 0, none⟩) row.length ci) row) (hgne : g0 ≠ gi) (hn : n < n0) (hs : row.length ≤ 1000) (hx0 : 0 ≤ x) (hx1 : x < (row.length : Int)) (hy0 : 0 ≤ y) (hy1 : y < (row.length : Int)) :
    Calls Try.prog 91 #[.slice (some ⟨g0, 0, none⟩) n0 c0, .int .i64 (n : Int), .int .i64 x, .int .i64 y] w fun e w' => e = .returned (.bool (row.getD x.toNat 0 != row.getD y.toNat 0)) ∧ OInts w' B (.slice (some ⟨gi, 0, none⟩) row.length ci) (joinRow row x y) ∧ w.grownBy w' (some gi) := by
  obtain ⟨i, rfl⟩ : ∃ i : Nat, x = (i : Int) := ⟨x.toNat, by omega⟩
  obtain ⟨j, rfl⟩ : ∃ j : Nat, y = (j : Int) := ⟨y.toNat, by omega⟩
  have hi : i < row.length := by omega
  have hj : j < row.length := by omega
  have hnn : (n : Int) < (n0 : Int) := by omega
  obtain ⟨c1, -⟩ := own_cell h hi
  obtain ⟨c2, -⟩ := own_cell h hj
  have HNX := Lib.hid (fun (k : Nat) (hk : k < row.length) => joinPart_next (x := (i : Int)) (y := (j : Int)) hk)
  have HJS := Lib.hid (fun e => join_same (row := row) (x := (i : Int)) (y := (j : Int)) e)
  have HGN := Lib.hid hgne
  have HCELL := Lib.hid hcell
  simp only [Int.toNat_natCast, getD_at _ hi, getD_at _ hj] at HNX HJS ⊢
  generalize row[i] = a at c1 HNX HJS ⊢
  generalize row[j] = b at c2 HNX HJS ⊢
  have HO := Lib.hid h
  clear h hgne
  by_cases hab : a = b
  · subst hab
    have HE := Lib.hid (HJS.out rfl)
    have hbn : (a != a) = false := by simp
    rw [hbn]
    go_enter Try.func91, Try.ntmps91
    go_wp2
    go_ret
    rw [HE.out]
    exact ⟨rfl, HO.out, grown_refl _ _⟩
  · have hbn : (a != b) = true := by simpa using hab
    have hbe : (a == b) = false := by simpa using hab
    rw [hbn]
    rcases Int.lt_or_gt_of_ne hab with hlt9 | hlt9
    · have hge9 : ¬ b < a := by omega
      simp only [Int.max_eq_right (Int.le_of_lt hlt9), Int.min_eq_left (Int.le_of_lt hlt9)] at HNX
      go_enter Try.func91, Try.ntmps91
      go_wp2
      clear c1 c2 hcell
      go_loopw [11] (fun q wr => ∃ k : Nat, k ≤ row.length ∧ q = .int .i64 k ∧ OInts wr B (.slice (some ⟨gi, 0, none⟩) row.length ci) (joinPart row i j k) ∧ w.grownBy wr (some gi)) (fun q _ => row.length - (intOf q).toNat)
      case atStart => exact ⟨0, Nat.zero_le _, rfl, by rw [joinPart_zero]; exact HO.out, grown_refl _ _⟩
      case round =>
        obtain ⟨k, hk, rfl, ho, hgr⟩ := hrel
        have HG := Lib.hid hgr
        have hcell := gr_cellV hgr HGN.out HCELL.out
        by_cases hlt : k < row.length
        · have hlt' : (k : Int) < (row.length : Int) := by omega
          have hkp : k < (joinPart row (i : Int) (j : Int) k).length := by rw [joinPart_len]; exact hlt
          obtain ⟨e1, e2⟩ := own_cell ho hkp
          rw [joinPart_at hlt hkp] at e1
          have HNK := Lib.hid (HNX.out k hlt)
          have HSET := Lib.hid (fun z => own_set ho (by rw [joinPart_len]) k z)
          have HOK := Lib.hid ho
          have HSAME := Lib.hid (show (joinPart row (i : Int) (j : Int) k).set k row[k] = joinPart row (i : Int) (j : Int) k by
            have := set_same hkp
            rw [joinPart_at hlt hkp] at this
            exact this)
          generalize row[k] = z at e1 HNK HSAME
          clear ho hgr
          by_cases hz : z = b
          · have hz' : (z == b) = true := by simp [hz]
            have HNE := Lib.hid (show joinPart row (i : Int) (j : Int) (k + 1) = (joinPart row (i : Int) (j : Int) k).set k a by rw [HNK.out, if_pos hz])
            obtain ⟨o1, g1⟩ := HSET.out a
            have HO1 := Lib.hid o1
            have HG1 := Lib.hid (grown_trans HG.out g1)
            clear o1 g1 hz
            go_wp2
            go_roundw
            case rel => exact ⟨k + 1, by omega, by go_num, by rw [HNE.out]; exact HO1.out, HG1.out⟩
            case measure => simp [intOf]; omega
          · have hz' : (z == b) = false := by simpa using hz
            have HNE := Lib.hid (show joinPart row (i : Int) (j : Int) (k + 1) = joinPart row (i : Int) (j : Int) k by rw [HNK.out, if_neg hz, HSAME.out])
            clear hz
            go_wp2
            go_roundw
            case rel => exact ⟨k + 1, by omega, by go_num, by rw [HNE.out]; exact HOK.out, HG.out⟩
            case measure => simp [intOf]; omega
        · have hkn : k = row.length := by omega
          have hlt' : ¬ (k : Int) < (row.length : Int) := by omega
          have HOE := Lib.hid (show OInts wr B (.slice (some ⟨gi, 0, none⟩) row.length ci) (joinRow row i j) by rw [← joinPart_all, ← hkn]; rw [← hkn] at ho; exact ho)
          clear ho hgr
          go_wp2
          go_ret
          exact ⟨rfl, HOE.out, HG.out⟩
    · have hge9 : ¬ a < b := by omega
      simp only [Int.max_eq_left (Int.le_of_lt hlt9), Int.min_eq_right (Int.le_of_lt hlt9)] at HNX
      go_enter Try.func91, Try.ntmps91
      go_wp2
      clear c1 c2 hcell
      go_loopw [11] (fun q wr => ∃ k : Nat, k ≤ row.length ∧ q = .int .i64 k ∧ OInts wr B (.slice (some ⟨gi, 0, none⟩) row.length ci) (joinPart row i j k) ∧ w.grownBy wr (some gi)) (fun q _ => row.length - (intOf q).toNat)
      case atStart => exact ⟨0, Nat.zero_le _, rfl, by rw [joinPart_zero]; exact HO.out, grown_refl _ _⟩
      case round =>
        obtain ⟨k, hk, rfl, ho, hgr⟩ := hrel
        have HG := Lib.hid hgr
        have hcell := gr_cellV hgr HGN.out HCELL.out
        by_cases hlt : k < row.length
        · have hlt' : (k : Int) < (row.length : Int) := by omega
          have hkp : k < (joinPart row (i : Int) (j : Int) k).length := by rw [joinPart_len]; exact hlt
          obtain ⟨e1, e2⟩ := own_cell ho hkp
          rw [joinPart_at hlt hkp] at e1
          have HNK := Lib.hid (HNX.out k hlt)
          have HSET := Lib.hid (fun z => own_set ho (by rw [joinPart_len]) k z)
          have HOK := Lib.hid ho
          have HSAME := Lib.hid (show (joinPart row (i : Int) (j : Int) k).set k row[k] = joinPart row (i : Int) (j : Int) k by
            have := set_same hkp
            rw [joinPart_at hlt hkp] at this
            exact this)
          generalize row[k] = z at e1 HNK HSAME
          clear ho hgr
          by_cases hz : z = a
          · have hz' : (z == a) = true := by simp [hz]
            have HNE := Lib.hid (show joinPart row (i : Int) (j : Int) (k + 1) = (joinPart row (i : Int) (j : Int) k).set k b by rw [HNK.out, if_pos hz])
            obtain ⟨o1, g1⟩ := HSET.out b
            have HO1 := Lib.hid o1
            have HG1 := Lib.hid (grown_trans HG.out g1)
            clear o1 g1 hz
            go_wp2
            go_roundw
            case rel => exact ⟨k + 1, by omega, by go_num, by rw [HNE.out]; exact HO1.out, HG1.out⟩
            case measure => simp [intOf]; omega
          · have hz' : (z == a) = false := by simpa using hz
            have HNE := Lib.hid (show joinPart row (i : Int) (j : Int) (k + 1) = joinPart row (i : Int) (j : Int) k by rw [HNK.out, if_neg hz, HSAME.out])
            clear hz
            go_wp2
            go_roundw
            case rel => exact ⟨k + 1, by omega, by go_num, by rw [HNE.out]; exact HOK.out, HG.out⟩
            case measure => simp [intOf]; omega
        · have hkn : k = row.length := by omega
          have hlt' : ¬ (k : Int) < (row.length : Int) := by omega
          have HOE := Lib.hid (show OInts wr B (.slice (some ⟨gi, 0, none⟩) row.length ci) (joinRow row i j) by rw [← joinPart_all, ← hkn]; rw [← hkn] at ho; exact ho)
          clear ho hgr
          go_wp2
          go_ret
          exact ⟨rfl, HOE.out, HG.out⟩
end

section
open Go.RowKit
set_option linter.unusedVariables false
set_option linter.unusedSimpArgs false

theorem rowLed_dl {sizes row : List Int} (h : ∀ x ∈ row, 0 ≤ x ∧ x < (sizes.length : Int)) (hs : sizes.length ≤ 3) : rowLed sizes row.dropLast = ledM sizes row.dropLast :=
  rowLed_led fun x hx => by have := h x (List.mem_of_mem_dropLast' hx); omega
theorem led_dl_at {sizes row : List Int} {k : Nat} (hk : k + 1 < row.length) (h : ∀ x ∈ row, 0 ≤ x ∧ x < (sizes.length : Int)) (hs : sizes.length ≤ 3) (h1 : k < (ledM sizes row.dropLast).length) : (ledM sizes row.dropLast)[k] = sizes.getD (row[k]).toNat 0 := by
  have hd : k < row.dropLast.length := by rw [List.length_dropLast]; omega
  have e := ledM_at (tq := sizes) hd
  rw [List.getElem?_eq_getElem h1] at e
  injection e with e
  rw [e]
  have hg : row.dropLast[k] = row[k] := List.getElem_dropLast hd
  rw [hg]
  have := h _ (List.getElem_mem (show k < row.length by omega))
  rw [if_pos (by omega)]

set_option maxRecDepth 100000 in
theorem l5Rows_any (sizes row : List Int) (w : World) (v v' : Value) (h : RInts w v sizes) (h' : RInts w v' row) (hr1 : 1 ≤ row.length) (hr3 : row.length ≤ 3) (hz : Sizes sizes) (hin : ∀ x ∈ row, 0 ≤ x ∧ x < (sizes.length : Int)) (hms : sizes.length ≤ 3) :
    Calls Try.prog 138 #[v, v'] w fun e w' => e = .returned (.int .i64 (waysM (ledM sizes row.dropLast))) ∧ w = w' := by
  have H := Lib.hid h
  have H' := Lib.hid h'
  obtain ⟨A, c, rfl, -⟩ := h.form
  obtain ⟨A', c', rfl, -⟩ := h'.form
  have hll : (ledM sizes row.dropLast).length = row.length - 1 := by rw [ledM_len, List.length_dropLast]
  have hsz : Sizes (ledM sizes row.dropLast) := sizes_led hz fun x hx => by have := hin x (List.mem_of_mem_dropLast' hx); omega
  have HW := Lib.hid (fun (k : Nat) (hk : k < (ledM sizes row.dropLast).length) => ways_wrap hsz (by omega) hk)
  have HA := Lib.hid (fun (k : Nat) (hk : k + 1 < row.length) (h1 : k < (ledM sizes row.dropLast).length) => led_dl_at hk hin hms h1)
  have HIN := Lib.hid hin
  have HLL := Lib.hid hll
  generalize hzs : ledM sizes row.dropLast = zs at HW HA HLL ⊢
  clear h h' hz hin hll hsz hzs
  go_enter Try.func138, Try.ntmps138
  go_wp2
  go_loopw [5, 6] (fun p i wr => ∃ k : Nat, k + 1 ≤ row.length ∧ i = .int .i64 k ∧ p = .int .i64 (waysM (zs.take k)) ∧ w = wr) (fun _ i _ => row.length - (intOf i).toNat)
  case atStart => exact ⟨0, by omega, rfl, rfl, rfl⟩
  case round =>
    obtain ⟨k, hk, rfl, rfl, rfl⟩ := hrel
    by_cases hlt : k + 1 < row.length
    · have hkr : k < row.length := by omega
      obtain ⟨b, o, c2, e, hx⟩ := H'.out.at_ hkr
      cases e
      have hlt' : (k : Int) + 1 < (row.length : Int) := by omega
      have hkz : k < zs.length := by have := HLL.out; omega
      have HI := Lib.hid (HIN.out _ (List.getElem_mem hkr))
      have hza := HA.out k hlt hkz
      have hw := HW.out k hkz
      rw [hza] at hw
      clear hza
      generalize row[k] = x at hx HI hw
      obtain ⟨n, rfl⟩ : ∃ n : Nat, x = (n : Int) := ⟨x.toNat, by have := HI.out; omega⟩
      have hns : n < sizes.length := by have := HI.out; omega
      have hns' : (n : Int) < (sizes.length : Int) := by omega
      obtain ⟨b2, o2, c3, e, hy⟩ := H.out.at_ hns
      cases e
      rw [Int.toNat_natCast, getD_at _ hns] at hw
      generalize sizes[n] = z at hy hw
      generalize hq : waysM (zs.take (k + 1)) = q at hw
      have HQ := Lib.hid hq
      have hw1 : IntKind.i64.wrap ((k : Int) + 1) = (k : Int) + 1 := by rw [IntKind.wrap_i64]; omega
      clear hq
      go_wp2
      go_roundw
      case rel => exact ⟨k + 1, by omega, by go_num, by rw [HQ.out], by first | trivial | rfl⟩
      case measure => simp [intOf]; omega
    · have hkn : k = zs.length := by have := HLL.out; omega
      have hlt' : ¬ (k : Int) + 1 < (row.length : Int) := by omega
      have HT := Lib.hid (show zs.take k = zs from take_all (by omega))
      have hw1 : IntKind.i64.wrap ((k : Int) + 1) = (k : Int) + 1 := by rw [IntKind.wrap_i64]; omega
      rw [HT.out]
      go_wp2
      go_ret
      exact ⟨rfl, rfl⟩
end
end Go.Proofs.Yticldaddbljleaa
