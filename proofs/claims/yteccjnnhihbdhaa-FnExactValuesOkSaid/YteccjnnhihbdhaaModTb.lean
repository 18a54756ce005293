/- tableOk of package impl. -/
import Derived.Test.YteccjnnhihbdhaaModV
namespace Go.Proofs.Yteccjnnhihbdhaa
open Go.RowKit
set_option linter.unusedVariables false
set_option linter.unusedSimpArgs false

theorem tableB_len {sizes row table : List Int} (h : ¬ (table.length : Int) = waysM (ledM sizes row.dropLast)) : tableB sizes row table = false := by unfold tableB; simp [h]
theorem tableB_val {sizes row table : List Int} (h : belowB table (sizes.getD (row.getLastD (-1)).toNat 0) = false) : tableB sizes row table = false := by unfold tableB; rw [h, Bool.and_false]
theorem tableB_yes {sizes row table : List Int} (h1 : (table.length : Int) = waysM (ledM sizes row.dropLast)) (h : belowB table (sizes.getD (row.getLastD (-1)).toNat 0) = true) : tableB sizes row table = true := by unfold tableB; rw [h]; simp [h1]

set_option maxHeartbeats 1600000 in
set_option maxRecDepth 100000 in
theorem tableOk_any (m : MModel) (row table : List Int) (w : World) (v v1 v2 : Value) (h : RModel w v m) (h1 : RInts w v1 row) (h2 : RInts w v2 table) (hr1 : 1 ≤ row.length) (hr3 : row.length ≤ 3) (hz : Sizes m.sizes) (hin : ∀ x ∈ row, 0 ≤ x ∧ x < (m.sizes.length : Int)) (hms : m.sizes.length ≤ 3) :
    Calls Try.prog 47 #[v, v1, v2] w fun e w' => e = .returned (.bool (tableB m.sizes row table)) ∧ Below w.heap.size w w' := by
  obtain ⟨Ama, cma, Amb, cmb, rfl⟩ := h.form
  have hb : Below w.heap.size w (w.alloc (.cells #[.slice Ama m.sizes.length cma, .slice Amb m.tables.length cmb] 33)) := below_alloc _ _
  have HB := Lib.hid hb
  have hsz : (w.alloc (.cells #[.slice Ama m.sizes.length cma, .slice Amb m.tables.length cmb] 33)).heap.size = w.heap.size + 1 := by simp
  have Hm := Lib.hid (h.keep hb)
  have m0 := bx_at (w) #[.slice Ama m.sizes.length cma, .slice Amb m.tables.length cmb] 33 (k := 0) rfl
  have m1 := bx_at (w) #[.slice Ama m.sizes.length cma, .slice Amb m.tables.length cmb] 33 (k := 1) rfl
  generalize hW : w.alloc (.cells #[.slice Ama m.sizes.length cma, .slice Amb m.tables.length cmb] 33) = W at HB hsz Hm m0 m1
  clear hb h
  have H1 := Lib.hid (h1.keep HB.out)
  have H2 := Lib.hid (h2.keep HB.out)
  have hl2 := h2.len
  obtain ⟨n, hn⟩ : ∃ n : Nat, row.length = n + 1 := ⟨row.length - 1, by omega⟩
  have hne : n < row.length := by omega
  obtain ⟨b1, o1, c1, e, hx⟩ := H1.out.at_ hne
  obtain ⟨A2, c2, e2, -⟩ := H2.out.form
  cases e
  cases e2
  have hcap : n ≤ c1 := by
    obtain ⟨A9, c9, e, h9, -⟩ := H1.out.form
    cases e
    omega
  have HLB := Lib.hid (last_at (row := row) (by omega))
  have HLS : Hid (row.getLastD (-1) = row[n]) := by
    have := HLB.out
    simp only [hn, Nat.add_sub_cancel] at this
    exact this
  have HIL := Lib.hid (hin _ (List.getElem_mem hne))
  have HD := Lib.hid H1.out.dropLast
  rw [hn] at HD
  simp only [Nat.add_sub_cancel] at HD
  have HSZ : Hid (Sizes (ledM m.sizes row.dropLast)) := sizes_led hz fun x hx => by have := hin x (List.mem_of_mem_dropLast' hx); omega
  have HIN : Hid (InTo m.sizes row.dropLast) := fun x hx _ => hin x (List.mem_of_mem_dropLast' hx)
  have hdl : row.dropLast.length = n := by rw [List.length_dropLast, hn]; rfl
  have HDL := Lib.hid hdl
  generalize row[n] = last at hx HLS HIL
  have hw0 : IntKind.i64.wrap (((n + 1 : Nat) : Int) - 1) = (n : Int) := by rw [IntKind.wrap_i64]; omega
  have HCX := Lib.hid (And.intro m0 (And.intro m1 hx))
  obtain ⟨q, hq⟩ : ∃ q, waysM (ledM m.sizes row.dropLast) = q := ⟨_, rfl⟩
  have HQ := Lib.hid hq
  have hn3 : n ≤ 2 := by omega
  have hnn : (n : Int) < (n : Int) + 1 := by omega
  rw [hn]
  clear h1 h2 HLB hz hin hq hdl hne
  by_cases hlen : (table.length : Int) = q
  · have HLEN := Lib.hid hlen
    have e1 : ((table.length : Int) != q) = false := by simp [hlen]
    clear hlen
    go_enter Try.func47, Try.ntmps47
    go_wp2_with fail
    clear hW
    refine wp_region_held_drew (S := (fun w' => w'.cell? ⟨w.heap.size, 0, none⟩ = some (.slice Ama m.sizes.length cma) ∧ w'.cell? ⟨w.heap.size, 1, none⟩ = some (.slice Amb m.tables.length cmb))) (by kernel_rfl) ?_ (fun hHeld => ?_)
    · exact ⟨m0, m1⟩
    refine wpAnyH_take (i := 0) (oi := _) (v := ?_) rfl (by kernel_rfl) (by kernel_rfl) (by kernel_rfl) (fun _ _ _ h => h) (Or.inl ⟨by rfl, ?_⟩) (by assumption) ?_
    rotate_left
    · first | (intro w' hSw; (try dsimp only at hSw); go_simp; done) | (intro w' hSw; (try dsimp only at hSw); go_simp; with_reducible rfl)
    try simp only [Act.put, List.getElem_toArray, List.getElem_cons_zero, List.getElem_cons_succ, List.setIfInBounds_toArray, List.set_cons_zero, List.set_cons_succ]
    refine wpAnyH_take (i := 1) (oi := _) (v := ?_) rfl (by kernel_rfl) (by kernel_rfl) (by kernel_rfl) (fun _ _ _ h => h) (Or.inl ⟨by rfl, ?_⟩) (by assumption) ?_
    rotate_left
    · first | (intro w' hSw; (try dsimp only at hSw); go_simp; done) | (intro w' hSw; (try dsimp only at hSw); go_simp; with_reducible rfl)
    try simp only [Act.put, List.getElem_toArray, List.getElem_cons_zero, List.getElem_cons_succ, List.setIfInBounds_toArray, List.set_cons_zero, List.set_cons_succ]
    refine wpAnyH_take (i := 2) (oi := _) (v := ?_) rfl (by kernel_rfl) (by kernel_rfl) (by kernel_rfl) (fun _ _ _ h => h) (Or.inl ⟨by rfl, ?_⟩) (by assumption) ?_
    rotate_left
    · first | (intro w' hSw; (try dsimp only at hSw); go_simp; done) | (intro w' hSw; (try dsimp only at hSw); go_simp; with_reducible rfl)
    try simp only [Act.put, List.getElem_toArray, List.getElem_cons_zero, List.getElem_cons_succ, List.setIfInBounds_toArray, List.set_cons_zero, List.set_cons_succ]
    refine wpAnyH_take (i := 3) (oi := _) (v := ?_) rfl (by kernel_rfl) (by kernel_rfl) (by kernel_rfl) (fun _ _ _ h => h) (Or.inl ⟨by rfl, ?_⟩) (by assumption) ?_
    rotate_left
    · first | (intro w' hSw; (try dsimp only at hSw); go_simp; done) | (intro w' hSw; (try dsimp only at hSw); go_simp; with_reducible rfl)
    try simp only [Act.put, List.getElem_toArray, List.getElem_cons_zero, List.getElem_cons_succ, List.setIfInBounds_toArray, List.set_cons_zero, List.set_cons_succ]
    refine wpAnyH_take (i := 4) (oi := _) (v := ?_) rfl (by kernel_rfl) (by kernel_rfl) (by kernel_rfl) (fun _ _ _ h => h) (Or.inl ⟨by rfl, ?_⟩) (by assumption) ?_
    rotate_left
    · first | (intro w' hSw; (try dsimp only at hSw); go_simp; done) | (intro w' hSw; (try dsimp only at hSw); go_simp; with_reducible rfl)
    try simp only [Act.put, List.getElem_toArray, List.getElem_cons_zero, List.getElem_cons_succ, List.setIfInBounds_toArray, List.set_cons_zero, List.set_cons_succ]
    refine wpAnyH_take (i := 5) (oi := _) (v := ?_) rfl (by kernel_rfl) (by kernel_rfl) (by kernel_rfl) (fun _ _ _ h => h) (Or.inl ⟨by rfl, ?_⟩) (by assumption) ?_
    rotate_left
    · first | (intro w' hSw; (try dsimp only at hSw); go_simp; done) | (intro w' hSw; (try dsimp only at hSw); go_simp; with_reducible rfl)
    try simp only [Act.put, List.getElem_toArray, List.getElem_cons_zero, List.getElem_cons_succ, List.setIfInBounds_toArray, List.set_cons_zero, List.set_cons_succ]
    refine wpAnyH_ready (rs := [6]) (by kernel_rfl) (by simp) ?_
    refine AllReadyH.cons (o := _) rfl (fun K hK => ?_) AllReadyH.nil
    go_simp
    refine (sizesOf_any m row.dropLast _ _ _ (Hm.out.keep (map_drew (Below.refl _ _))) (HD.out.keep (map_drew (Below.refl _ _))) HIN.out (by rw [HDL.out]; omega)).mono ?_
    rintro x w4 ⟨u4, rfl, ho4, hb4⟩
    have hx4 := map_undrew hb4
    obtain ⟨A4, c4, rfl, -⟩ := ho4.reads.form
    have HO4 := Lib.hid ho4.reads
    have HX4 := Lib.hid hx4
    have j1 := cell_keep hx4 m0
    have j2 := cell_keep hx4 m1
    clear ho4 hb4 hx4
    go_wp2_with fail
    refine hK.out _ _ ?_ (fun hHeld => ?_)
    · exact ⟨j1, j2⟩
    clear hK K
    try simp only [Act.put, List.getElem_toArray, List.getElem_cons_zero, List.getElem_cons_succ, List.setIfInBounds_toArray, List.set_cons_zero, List.set_cons_succ]
    refine wpAnyH_ready (rs := [7]) (by kernel_rfl) (by simp) ?_
    refine AllReadyH.cons (o := _) rfl (fun K hK => ?_) AllReadyH.nil
    go_simp
    refine (rowsOf_any _ w4 _ HO4.out HSZ.out (by rw [ledM_len, HDL.out]; omega)).mono ?_
    rw [HQ.out]
    rintro x w5 ⟨rfl, rfl⟩
    go_wp2_with fail
    refine hK.out _ _ ?_ (fun hHeld => ?_)
    · exact ⟨j1, j2⟩
    clear hK K
    try simp only [Act.put, List.getElem_toArray, List.getElem_cons_zero, List.getElem_cons_succ, List.setIfInBounds_toArray, List.set_cons_zero, List.set_cons_succ]
    refine wpAnyH_take (i := 8) (oi := _) (v := ?_) rfl (by kernel_rfl) (by kernel_rfl) (by kernel_rfl) (fun _ _ _ h => h) (Or.inl ⟨by rfl, ?_⟩) (by assumption) ?_
    rotate_left
    · first | (intro w' hSw; (try dsimp only at hSw); go_simp; done) | (intro w' hSw; (try dsimp only at hSw); go_simp; with_reducible rfl)
    try simp only [Act.put, List.getElem_toArray, List.getElem_cons_zero, List.getElem_cons_succ, List.setIfInBounds_toArray, List.set_cons_zero, List.set_cons_succ]
    refine wpAnyH_done (by kernel_rfl) ?_ _
    clear m0 m1 j1 j2 hx
    go_wp2
    go_loopw [9, 24] (fun p i wr => ∃ k : Nat, k ≤ table.length ∧ i = .int .i64 k ∧ belowB (table.take k) (m.sizes.getD last.toNat 0) = true ∧ Below W.heap.size W wr) (fun _ i _ => table.length - (intOf i).toNat)
    case atStart => exact ⟨0, Nat.zero_le _, rfl, rfl, HX4.out⟩
    case round =>
      obtain ⟨k, hk, rfl, hb0, hd⟩ := hrel
      have HB0 := Lib.hid hb0
      have HBW := Lib.hid hd
      have f0 := cell_keep hd HCX.out.1
      have f1 := cell_keep hd HCX.out.2.1
      have f2 := cell_keep hd HCX.out.2.2
      clear hb0 hd
      by_cases hlt : k < table.length
      · obtain ⟨b3, o3, c3, e, hy⟩ := (H2.out.keep HBW.out).at_ hlt
        cases e
        have hlt' : (k : Int) < (table.length : Int) := by omega
        have HT := Lib.hid (belowB_step (z := m.sizes.getD last.toNat 0) hlt)
        have HN := Lib.hid (belowB_no (z := m.sizes.getD last.toNat 0) hlt)
        generalize table[k] = y at hy HT HN
        obtain ⟨r, hr⟩ : ∃ r, inSize (m.sizes.getD last.toNat 0) y = r := ⟨_, rfl⟩
        have HR := Lib.hid hr
        have hil := HIL.out
        clear hr
        go_wp2_with fail
        refine wp_region_held_drew (S := (fun w' => w'.cell? ⟨w.heap.size, 0, none⟩ = some (.slice Ama m.sizes.length cma) ∧ w'.cell? ⟨w.heap.size, 1, none⟩ = some (.slice Amb m.tables.length cmb) ∧ w'.cell? ⟨b1, o1 + n, none⟩ = some (.int .i64 last))) (by kernel_rfl) ?_ (fun hHeld => ?_)
        · exact ⟨f0, f1, f2⟩
        refine wpAnyH_take (i := 0) (oi := _) (v := ?_) rfl (by kernel_rfl) (by kernel_rfl) (by kernel_rfl) (fun _ _ _ h => h) (Or.inl ⟨by rfl, ?_⟩) (by assumption) ?_
        rotate_left
        · first | (intro w' hSw; (try dsimp only at hSw); go_simp; done) | (intro w' hSw; (try dsimp only at hSw); go_simp; with_reducible rfl)
        try simp only [Act.put, List.getElem_toArray, List.getElem_cons_zero, List.getElem_cons_succ, List.setIfInBounds_toArray, List.set_cons_zero, List.set_cons_succ]
        refine wpAnyH_take (i := 1) (oi := _) (v := ?_) rfl (by kernel_rfl) (by kernel_rfl) (by kernel_rfl) (fun _ _ _ h => h) (Or.inl ⟨by rfl, ?_⟩) (by assumption) ?_
        rotate_left
        · first | (intro w' hSw; (try dsimp only at hSw); go_simp; done) | (intro w' hSw; (try dsimp only at hSw); go_simp; with_reducible rfl)
        try simp only [Act.put, List.getElem_toArray, List.getElem_cons_zero, List.getElem_cons_succ, List.setIfInBounds_toArray, List.set_cons_zero, List.set_cons_succ]
        refine wpAnyH_take (i := 2) (oi := _) (v := ?_) rfl (by kernel_rfl) (by kernel_rfl) (by kernel_rfl) (fun _ _ _ h => h) (Or.inl ⟨by rfl, ?_⟩) (by assumption) ?_
        rotate_left
        · first | (intro w' hSw; (try dsimp only at hSw); go_simp; done) | (intro w' hSw; (try dsimp only at hSw); go_simp; with_reducible rfl)
        try simp only [Act.put, List.getElem_toArray, List.getElem_cons_zero, List.getElem_cons_succ, List.setIfInBounds_toArray, List.set_cons_zero, List.set_cons_succ]
        refine wpAnyH_take (i := 3) (oi := _) (v := ?_) rfl (by kernel_rfl) (by kernel_rfl) (by kernel_rfl) (fun _ _ _ h => h) (Or.inl ⟨by rfl, ?_⟩) (by assumption) ?_
        rotate_left
        · first | (intro w' hSw; (try dsimp only at hSw); go_simp; done) | (intro w' hSw; (try dsimp only at hSw); go_simp; with_reducible rfl)
        try simp only [Act.put, List.getElem_toArray, List.getElem_cons_zero, List.getElem_cons_succ, List.setIfInBounds_toArray, List.set_cons_zero, List.set_cons_succ]
        refine wpAnyH_take (i := 4) (oi := _) (v := ?_) rfl (by kernel_rfl) (by kernel_rfl) (by kernel_rfl) (fun _ _ _ h => h) (Or.inl ⟨by rfl, ?_⟩) (by assumption) ?_
        rotate_left
        · first | (intro w' hSw; (try dsimp only at hSw); go_simp; done) | (intro w' hSw; (try dsimp only at hSw); go_simp; with_reducible rfl)
        try simp only [Act.put, List.getElem_toArray, List.getElem_cons_zero, List.getElem_cons_succ, List.setIfInBounds_toArray, List.set_cons_zero, List.set_cons_succ]
        refine wpAnyH_take (i := 5) (oi := _) (v := ?_) rfl (by kernel_rfl) (by kernel_rfl) (by kernel_rfl) (fun _ _ _ h => h) (Or.inl ⟨by rfl, ?_⟩) (by assumption) ?_
        rotate_left
        · first | (intro w' hSw; (try dsimp only at hSw); go_simp; done) | (intro w' hSw; (try dsimp only at hSw); go_simp; with_reducible rfl)
        try simp only [Act.put, List.getElem_toArray, List.getElem_cons_zero, List.getElem_cons_succ, List.setIfInBounds_toArray, List.set_cons_zero, List.set_cons_succ]
        refine wpAnyH_ready (rs := [6]) (by kernel_rfl) (by simp) ?_
        refine AllReadyH.cons (o := _) rfl (fun K hK => ?_) AllReadyH.nil
        go_simp
        refine (isValue_any m last y _ _ ((Hm.out.keep HBW.out).keep (map_drew (Below.refl _ _))) hil.1 hil.2).mono ?_
        rw [HR.out]
        rintro x w6 ⟨rfl, hb6⟩
        have hx6 := map_undrew hb6
        have HX6 := Lib.hid (sz_keep HBW.out hx6)
        have j1 := cell_keep hx6 f0
        have j2 := cell_keep hx6 f1
        have j3 := cell_keep hx6 f2
        clear hb6 hx6
        go_wp2_with fail
        refine hK.out _ _ ?_ (fun hHeld => ?_)
        · exact ⟨j1, j2, j3⟩
        clear hK K
        try simp only [Act.put, List.getElem_toArray, List.getElem_cons_zero, List.getElem_cons_succ, List.setIfInBounds_toArray, List.set_cons_zero, List.set_cons_succ]
        refine wpAnyH_take (i := 7) (oi := _) (v := ?_) rfl (by kernel_rfl) (by kernel_rfl) (by kernel_rfl) (fun _ _ _ h => h) (Or.inl ⟨by rfl, ?_⟩) (by assumption) ?_
        rotate_left
        · first | (intro w' hSw; (try dsimp only at hSw); go_simp; done) | (intro w' hSw; (try dsimp only at hSw); go_simp; with_reducible rfl)
        try simp only [Act.put, List.getElem_toArray, List.getElem_cons_zero, List.getElem_cons_succ, List.setIfInBounds_toArray, List.set_cons_zero, List.set_cons_succ]
        refine wpAnyH_done (by kernel_rfl) ?_ _
        clear f0 f1 f2 j1 j2 j3 hy hil
        cases r with
        | true =>
          go_wp2
          go_roundw
          case rel => exact ⟨k + 1, by omega, by go_num, by rw [HT.out, HB0.out, HR.out]; rfl, HX6.out⟩
          case measure => simp [intOf]; omega
        | false =>
          have HF := Lib.hid (tableB_val (row := row) (by rw [HLS.out]; exact HN.out HR.out))
          go_wp2
          go_ret
          exact ⟨ret_bool HF.out.symm, sz_keep HB.out HX6.out⟩
      · have hkn : k = table.length := by omega
        have hlt' : ¬ (k : Int) < (table.length : Int) := by omega
        have HT := Lib.hid (show table.take k = table from take_all (by omega))
        rw [HT.out] at HB0
        have HF := Lib.hid (tableB_yes (sizes := m.sizes) (row := row) (by rw [HQ.out]; exact HLEN.out) (by rw [HLS.out]; exact HB0.out))
        clear f0 f1 f2
        go_wp2
        go_ret
        exact ⟨ret_bool HF.out.symm, sz_keep HB.out HBW.out⟩
  · have HF := Lib.hid (tableB_len (by rw [HQ.out]; exact hlen))
    have e1 : ((table.length : Int) != q) = true := by simpa using hlen
    clear hlen
    go_enter Try.func47, Try.ntmps47
    go_wp2_with fail
    clear hW
    refine wp_region_held_drew (S := (fun w' => w'.cell? ⟨w.heap.size, 0, none⟩ = some (.slice Ama m.sizes.length cma) ∧ w'.cell? ⟨w.heap.size, 1, none⟩ = some (.slice Amb m.tables.length cmb))) (by kernel_rfl) ?_ (fun hHeld => ?_)
    · exact ⟨m0, m1⟩
    refine wpAnyH_take (i := 0) (oi := _) (v := ?_) rfl (by kernel_rfl) (by kernel_rfl) (by kernel_rfl) (fun _ _ _ h => h) (Or.inl ⟨by rfl, ?_⟩) (by assumption) ?_
    rotate_left
    · first | (intro w' hSw; (try dsimp only at hSw); go_simp; done) | (intro w' hSw; (try dsimp only at hSw); go_simp; with_reducible rfl)
    try simp only [Act.put, List.getElem_toArray, List.getElem_cons_zero, List.getElem_cons_succ, List.setIfInBounds_toArray, List.set_cons_zero, List.set_cons_succ]
    refine wpAnyH_take (i := 1) (oi := _) (v := ?_) rfl (by kernel_rfl) (by kernel_rfl) (by kernel_rfl) (fun _ _ _ h => h) (Or.inl ⟨by rfl, ?_⟩) (by assumption) ?_
    rotate_left
    · first | (intro w' hSw; (try dsimp only at hSw); go_simp; done) | (intro w' hSw; (try dsimp only at hSw); go_simp; with_reducible rfl)
    try simp only [Act.put, List.getElem_toArray, List.getElem_cons_zero, List.getElem_cons_succ, List.setIfInBounds_toArray, List.set_cons_zero, List.set_cons_succ]
    refine wpAnyH_take (i := 2) (oi := _) (v := ?_) rfl (by kernel_rfl) (by kernel_rfl) (by kernel_rfl) (fun _ _ _ h => h) (Or.inl ⟨by rfl, ?_⟩) (by assumption) ?_
    rotate_left
    · first | (intro w' hSw; (try dsimp only at hSw); go_simp; done) | (intro w' hSw; (try dsimp only at hSw); go_simp; with_reducible rfl)
    try simp only [Act.put, List.getElem_toArray, List.getElem_cons_zero, List.getElem_cons_succ, List.setIfInBounds_toArray, List.set_cons_zero, List.set_cons_succ]
    refine wpAnyH_take (i := 3) (oi := _) (v := ?_) rfl (by kernel_rfl) (by kernel_rfl) (by kernel_rfl) (fun _ _ _ h => h) (Or.inl ⟨by rfl, ?_⟩) (by assumption) ?_
    rotate_left
    · first | (intro w' hSw; (try dsimp only at hSw); go_simp; done) | (intro w' hSw; (try dsimp only at hSw); go_simp; with_reducible rfl)
    try simp only [Act.put, List.getElem_toArray, List.getElem_cons_zero, List.getElem_cons_succ, List.setIfInBounds_toArray, List.set_cons_zero, List.set_cons_succ]
    refine wpAnyH_take (i := 4) (oi := _) (v := ?_) rfl (by kernel_rfl) (by kernel_rfl) (by kernel_rfl) (fun _ _ _ h => h) (Or.inl ⟨by rfl, ?_⟩) (by assumption) ?_
    rotate_left
    · first | (intro w' hSw; (try dsimp only at hSw); go_simp; done) | (intro w' hSw; (try dsimp only at hSw); go_simp; with_reducible rfl)
    try simp only [Act.put, List.getElem_toArray, List.getElem_cons_zero, List.getElem_cons_succ, List.setIfInBounds_toArray, List.set_cons_zero, List.set_cons_succ]
    refine wpAnyH_take (i := 5) (oi := _) (v := ?_) rfl (by kernel_rfl) (by kernel_rfl) (by kernel_rfl) (fun _ _ _ h => h) (Or.inl ⟨by rfl, ?_⟩) (by assumption) ?_
    rotate_left
    · first | (intro w' hSw; (try dsimp only at hSw); go_simp; done) | (intro w' hSw; (try dsimp only at hSw); go_simp; with_reducible rfl)
    try simp only [Act.put, List.getElem_toArray, List.getElem_cons_zero, List.getElem_cons_succ, List.setIfInBounds_toArray, List.set_cons_zero, List.set_cons_succ]
    refine wpAnyH_ready (rs := [6]) (by kernel_rfl) (by simp) ?_
    refine AllReadyH.cons (o := _) rfl (fun K hK => ?_) AllReadyH.nil
    go_simp
    refine (sizesOf_any m row.dropLast _ _ _ (Hm.out.keep (map_drew (Below.refl _ _))) (HD.out.keep (map_drew (Below.refl _ _))) HIN.out (by rw [HDL.out]; omega)).mono ?_
    rintro x w4 ⟨u4, rfl, ho4, hb4⟩
    have hx4 := map_undrew hb4
    obtain ⟨A4, c4, rfl, -⟩ := ho4.reads.form
    have HO4 := Lib.hid ho4.reads
    have HX4 := Lib.hid hx4
    have j1 := cell_keep hx4 m0
    have j2 := cell_keep hx4 m1
    clear ho4 hb4 hx4
    go_wp2_with fail
    refine hK.out _ _ ?_ (fun hHeld => ?_)
    · exact ⟨j1, j2⟩
    clear hK K
    try simp only [Act.put, List.getElem_toArray, List.getElem_cons_zero, List.getElem_cons_succ, List.setIfInBounds_toArray, List.set_cons_zero, List.set_cons_succ]
    refine wpAnyH_ready (rs := [7]) (by kernel_rfl) (by simp) ?_
    refine AllReadyH.cons (o := _) rfl (fun K hK => ?_) AllReadyH.nil
    go_simp
    refine (rowsOf_any _ w4 _ HO4.out HSZ.out (by rw [ledM_len, HDL.out]; omega)).mono ?_
    rw [HQ.out]
    rintro x w5 ⟨rfl, rfl⟩
    go_wp2_with fail
    refine hK.out _ _ ?_ (fun hHeld => ?_)
    · exact ⟨j1, j2⟩
    clear hK K
    try simp only [Act.put, List.getElem_toArray, List.getElem_cons_zero, List.getElem_cons_succ, List.setIfInBounds_toArray, List.set_cons_zero, List.set_cons_succ]
    refine wpAnyH_take (i := 8) (oi := _) (v := ?_) rfl (by kernel_rfl) (by kernel_rfl) (by kernel_rfl) (fun _ _ _ h => h) (Or.inl ⟨by rfl, ?_⟩) (by assumption) ?_
    rotate_left
    · first | (intro w' hSw; (try dsimp only at hSw); go_simp; done) | (intro w' hSw; (try dsimp only at hSw); go_simp; with_reducible rfl)
    try simp only [Act.put, List.getElem_toArray, List.getElem_cons_zero, List.getElem_cons_succ, List.setIfInBounds_toArray, List.set_cons_zero, List.set_cons_succ]
    refine wpAnyH_done (by kernel_rfl) ?_ _
    clear m0 m1 j1 j2 hx
    go_wp2
    go_ret
    exact ⟨ret_bool HF.out.symm, sz_keep HB.out HX4.out⟩
end Go.Proofs.Yteccjnnhihbdhaa
