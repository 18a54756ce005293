/- tableOk of package impl. · ModelOk of package spec. · The draw of a model of a signature (l20ModelOf). -/
import Derived.Test.YtbopcghbmbchkabK060b8bea
import Derived.Deep.DeepCutAuto
namespace Go.Proofs.Ytbopcghbmbchkab
section
open Go.RowKit
set_option linter.unusedVariables false
set_option linter.unusedSimpArgs false

theorem tableB_len {sizes row table : List Int} (h : ¬ (table.length : Int) = waysM (ledM sizes row.dropLast)) : tableB sizes row table = false := by unfold tableB; simp [h]
theorem tableB_val {sizes row table : List Int} (h : belowB table (sizes.getD (row.getLastD (-1)).toNat 0) = false) : tableB sizes row table = false := by unfold tableB; rw [h, Bool.and_false]
theorem tableB_yes {sizes row table : List Int} (h1 : (table.length : Int) = waysM (ledM sizes row.dropLast)) (h : belowB table (sizes.getD (row.getLastD (-1)).toNat 0) = true) : tableB sizes row table = true := by unfold tableB; rw [h]; simp [h1]

set_option maxHeartbeats 1600000 in
set_option maxRecDepth 100000 in
theorem tableOk_any (m : MModel) (row table : List Int) (w : World) (v v1 v2 : Value) (h : RModel w v m) (h1 : RInts w v1 row) (h2 : RInts w v2 table) (hr1 : 1 ≤ row.length) (hr3 : row.length ≤ 3) (hz : Sizes m.sizes) (hin : ∀ x ∈ row, 0 ≤ x ∧ x < (m.sizes.length : Int)) (hms : m.sizes.length ≤ 3) :
    Calls Try.prog 66 #[v, v1, v2] w fun e w' => e = .returned (.bool (tableB m.sizes row table)) ∧ Below w.heap.size w w' := by
  obtain ⟨Ama, cma, Amb, cmb, rfl⟩ := h.form
  have hb : Below w.heap.size w (w.alloc (.cells #[.slice Ama m.sizes.length cma, .slice Amb m.tables.length cmb] 30)) := below_alloc _ _
  have HB := Lib.hid hb
  have hsz : (w.alloc (.cells #[.slice Ama m.sizes.length cma, .slice Amb m.tables.length cmb] 30)).heap.size = w.heap.size + 1 := by simp
  have Hm := Lib.hid (h.keep hb)
  have m0 := bx_at (w) #[.slice Ama m.sizes.length cma, .slice Amb m.tables.length cmb] 30 (k := 0) rfl
  have m1 := bx_at (w) #[.slice Ama m.sizes.length cma, .slice Amb m.tables.length cmb] 30 (k := 1) rfl
  generalize hW : w.alloc (.cells #[.slice Ama m.sizes.length cma, .slice Amb m.tables.length cmb] 30) = W at HB hsz Hm m0 m1
  clear hb h
  have H1 := Lib.hid (h1.keep HB.out)
  have H2 := Lib.hid (h2.keep HB.out)
  have hl2 := h2.len
  obtain ⟨n, hn⟩ : ∃ n : Nat, row.length = n + 1 := ⟨row.length - 1, by omega⟩
  have hne : n < row.length := by omega
  obtain ⟨b1, o1, c1, e, hx⟩ := H1.out.at_ hne
  obtain ⟨A2, c2, e2, -⟩ := H2.out.form
  cases e
  cases e2
  have hcap : n ≤ c1 := by
    obtain ⟨A9, c9, e, h9, -⟩ := H1.out.form
    cases e
    omega
  have HLB := Lib.hid (last_at (row := row) (by omega))
  have HLS : Hid (row.getLastD (-1) = row[n]) := by
    have := HLB.out
    simp only [hn, Nat.add_sub_cancel] at this
    exact this
  have HIL := Lib.hid (hin _ (List.getElem_mem hne))
  have HD := Lib.hid H1.out.dropLast
  rw [hn] at HD
  simp only [Nat.add_sub_cancel] at HD
  have HSZ : Hid (Sizes (ledM m.sizes row.dropLast)) := sizes_led hz fun x hx => by have := hin x (List.mem_of_mem_dropLast' hx); omega
  have HIN : Hid (InTo m.sizes row.dropLast) := fun x hx _ => hin x (List.mem_of_mem_dropLast' hx)
  have hdl : row.dropLast.length = n := by rw [List.length_dropLast, hn]; rfl
  have HDL := Lib.hid hdl
  generalize row[n] = last at hx HLS HIL
  have hw0 : IntKind.i64.wrap (((n + 1 : Nat) : Int) - 1) = (n : Int) := by rw [IntKind.wrap_i64]; omega
  have HCX := Lib.hid (And.intro m0 (And.intro m1 hx))
  obtain ⟨q, hq⟩ : ∃ q, waysM (ledM m.sizes row.dropLast) = q := ⟨_, rfl⟩
  have HQ := Lib.hid hq
  have hn3 : n ≤ 2 := by omega
  have hnn : (n : Int) < (n : Int) + 1 := by omega
  rw [hn]
  clear h1 h2 HLB hz hin hq hdl hne
  by_cases hlen : (table.length : Int) = q
  · have HLEN := Lib.hid hlen
    have e1 : ((table.length : Int) != q) = false := by simp [hlen]
    clear hlen
    go_enter Try.func66, Try.ntmps66
    go_wp2_with fail
    clear hW
    refine wp_region_held_drew (S := (fun w' => w'.cell? ⟨w.heap.size, 0, none⟩ = some (.slice Ama m.sizes.length cma) ∧ w'.cell? ⟨w.heap.size, 1, none⟩ = some (.slice Amb m.tables.length cmb))) (by kernel_rfl) ?_ (fun hHeld => ?_)
    · exact ⟨m0, m1⟩
    refine wpAnyH_take (i := 0) (oi := _) (v := ?_) rfl (by kernel_rfl) (by kernel_rfl) (by kernel_rfl) (fun _ _ _ h => h) (Or.inl ⟨by rfl, ?_⟩) (by assumption) ?_
    rotate_left
    · first | (intro w' hSw; (try dsimp only at hSw); go_simp; done) | (intro w' hSw; (try dsimp only at hSw); go_simp; with_reducible rfl)
    try simp only [Act.put, List.getElem_toArray, List.getElem_cons_zero, List.getElem_cons_succ, List.setIfInBounds_toArray, List.set_cons_zero, List.set_cons_succ]
    refine wpAnyH_take (i := 1) (oi := _) (v := ?_) rfl (by kernel_rfl) (by kernel_rfl) (by kernel_rfl) (fun _ _ _ h => h) (Or.inl ⟨by rfl, ?_⟩) (by assumption) ?_
    rotate_left
    · first | (intro w' hSw; (try dsimp only at hSw); go_simp; done) | (intro w' hSw; (try dsimp only at hSw); go_simp; with_reducible rfl)
    try simp only [Act.put, List.getElem_toArray, List.getElem_cons_zero, List.getElem_cons_succ, List.setIfInBounds_toArray, List.set_cons_zero, List.set_cons_succ]
    refine wpAnyH_take (i := 2) (oi := _) (v := ?_) rfl (by kernel_rfl) (by kernel_rfl) (by kernel_rfl) (fun _ _ _ h => h) (Or.inl ⟨by rfl, ?_⟩) (by assumption) ?_
    rotate_left
    · first | (intro w' hSw; (try dsimp only at hSw); go_simp; done) | (intro w' hSw; (try dsimp only at hSw); go_simp; with_reducible rfl)
    try simp only [Act.put, List.getElem_toArray, List.getElem_cons_zero, List.getElem_cons_succ, List.setIfInBounds_toArray, List.set_cons_zero, List.set_cons_succ]
    refine wpAnyH_take (i := 3) (oi := _) (v := ?_) rfl (by kernel_rfl) (by kernel_rfl) (by kernel_rfl) (fun _ _ _ h => h) (Or.inl ⟨by rfl, ?_⟩) (by assumption) ?_
    rotate_left
    · first | (intro w' hSw; (try dsimp only at hSw); go_simp; done) | (intro w' hSw; (try dsimp only at hSw); go_simp; with_reducible rfl)
    try simp only [Act.put, List.getElem_toArray, List.getElem_cons_zero, List.getElem_cons_succ, List.setIfInBounds_toArray, List.set_cons_zero, List.set_cons_succ]
    refine wpAnyH_take (i := 4) (oi := _) (v := ?_) rfl (by kernel_rfl) (by kernel_rfl) (by kernel_rfl) (fun _ _ _ h => h) (Or.inl ⟨by rfl, ?_⟩) (by assumption) ?_
    rotate_left
    · first | (intro w' hSw; (try dsimp only at hSw); go_simp; done) | (intro w' hSw; (try dsimp only at hSw); go_simp; with_reducible rfl)
    try simp only [Act.put, List.getElem_toArray, List.getElem_cons_zero, List.getElem_cons_succ, List.setIfInBounds_toArray, List.set_cons_zero, List.set_cons_succ]
    refine wpAnyH_take (i := 5) (oi := _) (v := ?_) rfl (by kernel_rfl) (by kernel_rfl) (by kernel_rfl) (fun _ _ _ h => h) (Or.inl ⟨by rfl, ?_⟩) (by assumption) ?_
    rotate_left
    · first | (intro w' hSw; (try dsimp only at hSw); go_simp; done) | (intro w' hSw; (try dsimp only at hSw); go_simp; with_reducible rfl)
    try simp only [Act.put, List.getElem_toArray, List.getElem_cons_zero, List.getElem_cons_succ, List.setIfInBounds_toArray, List.set_cons_zero, List.set_cons_succ]
    refine wpAnyH_ready (rs := [6]) (by kernel_rfl) (by simp) ?_
    refine AllReadyH.cons (o := _) rfl (fun K hK => ?_) AllReadyH.nil
    go_simp
    refine (sizesOf_any m row.dropLast _ _ _ (Hm.out.keep (map_drew (Below.refl _ _))) (HD.out.keep (map_drew (Below.refl _ _))) HIN.out (by rw [HDL.out]; omega)).mono ?_
    rintro x w4 ⟨u4, rfl, ho4, hb4⟩
    have hx4 := map_undrew hb4
    obtain ⟨A4, c4, rfl, -⟩ := ho4.reads.form
    have HO4 := Lib.hid ho4.reads
    have HX4 := Lib.hid hx4
    have j1 := cell_keep hx4 m0
    have j2 := cell_keep hx4 m1
    clear ho4 hb4 hx4
    go_wp2_with fail
    refine hK.out _ _ ?_ (fun hHeld => ?_)
    · exact ⟨j1, j2⟩
    clear hK K
    try simp only [Act.put, List.getElem_toArray, List.getElem_cons_zero, List.getElem_cons_succ, List.setIfInBounds_toArray, List.set_cons_zero, List.set_cons_succ]
    refine wpAnyH_ready (rs := [7]) (by kernel_rfl) (by simp) ?_
    refine AllReadyH.cons (o := _) rfl (fun K hK => ?_) AllReadyH.nil
    go_simp
    refine (rowsOf_any _ w4 _ HO4.out HSZ.out (by rw [ledM_len, HDL.out]; omega)).mono ?_
    rw [HQ.out]
    rintro x w5 ⟨rfl, rfl⟩
    go_wp2_with fail
    refine hK.out _ _ ?_ (fun hHeld => ?_)
    · exact ⟨j1, j2⟩
    clear hK K
    try simp only [Act.put, List.getElem_toArray, List.getElem_cons_zero, List.getElem_cons_succ, List.setIfInBounds_toArray, List.set_cons_zero, List.set_cons_succ]
    refine wpAnyH_take (i := 8) (oi := _) (v := ?_) rfl (by kernel_rfl) (by kernel_rfl) (by kernel_rfl) (fun _ _ _ h => h) (Or.inl ⟨by rfl, ?_⟩) (by assumption) ?_
    rotate_left
    · first | (intro w' hSw; (try dsimp only at hSw); go_simp; done) | (intro w' hSw; (try dsimp only at hSw); go_simp; with_reducible rfl)
    try simp only [Act.put, List.getElem_toArray, List.getElem_cons_zero, List.getElem_cons_succ, List.setIfInBounds_toArray, List.set_cons_zero, List.set_cons_succ]
    refine wpAnyH_done (by kernel_rfl) ?_ _
    clear m0 m1 j1 j2 hx
    go_wp2
    go_loopw [9, 24] (fun p i wr => ∃ k : Nat, k ≤ table.length ∧ i = .int .i64 k ∧ belowB (table.take k) (m.sizes.getD last.toNat 0) = true ∧ Below W.heap.size W wr) (fun _ i _ => table.length - (intOf i).toNat)
    case atStart => exact ⟨0, Nat.zero_le _, rfl, rfl, HX4.out⟩
    case round =>
      obtain ⟨k, hk, rfl, hb0, hd⟩ := hrel
      have HB0 := Lib.hid hb0
      have HBW := Lib.hid hd
      have f0 := cell_keep hd HCX.out.1
      have f1 := cell_keep hd HCX.out.2.1
      have f2 := cell_keep hd HCX.out.2.2
      clear hb0 hd
      by_cases hlt : k < table.length
      · obtain ⟨b3, o3, c3, e, hy⟩ := (H2.out.keep HBW.out).at_ hlt
        cases e
        have hlt' : (k : Int) < (table.length : Int) := by omega
        have HT := Lib.hid (belowB_step (z := m.sizes.getD last.toNat 0) hlt)
        have HN := Lib.hid (belowB_no (z := m.sizes.getD last.toNat 0) hlt)
        generalize table[k] = y at hy HT HN
        obtain ⟨r, hr⟩ : ∃ r, inSize (m.sizes.getD last.toNat 0) y = r := ⟨_, rfl⟩
        have HR := Lib.hid hr
        have hil := HIL.out
        clear hr
        go_wp2_with fail
        refine wp_region_held_drew (S := (fun w' => w'.cell? ⟨w.heap.size, 0, none⟩ = some (.slice Ama m.sizes.length cma) ∧ w'.cell? ⟨w.heap.size, 1, none⟩ = some (.slice Amb m.tables.length cmb) ∧ w'.cell? ⟨b1, o1 + n, none⟩ = some (.int .i64 last))) (by kernel_rfl) ?_ (fun hHeld => ?_)
        · exact ⟨f0, f1, f2⟩
        refine wpAnyH_take (i := 0) (oi := _) (v := ?_) rfl (by kernel_rfl) (by kernel_rfl) (by kernel_rfl) (fun _ _ _ h => h) (Or.inl ⟨by rfl, ?_⟩) (by assumption) ?_
        rotate_left
        · first | (intro w' hSw; (try dsimp only at hSw); go_simp; done) | (intro w' hSw; (try dsimp only at hSw); go_simp; with_reducible rfl)
        try simp only [Act.put, List.getElem_toArray, List.getElem_cons_zero, List.getElem_cons_succ, List.setIfInBounds_toArray, List.set_cons_zero, List.set_cons_succ]
        refine wpAnyH_take (i := 1) (oi := _) (v := ?_) rfl (by kernel_rfl) (by kernel_rfl) (by kernel_rfl) (fun _ _ _ h => h) (Or.inl ⟨by rfl, ?_⟩) (by assumption) ?_
        rotate_left
        · first | (intro w' hSw; (try dsimp only at hSw); go_simp; done) | (intro w' hSw; (try dsimp only at hSw); go_simp; with_reducible rfl)
        try simp only [Act.put, List.getElem_toArray, List.getElem_cons_zero, List.getElem_cons_succ, List.setIfInBounds_toArray, List.set_cons_zero, List.set_cons_succ]
        refine wpAnyH_take (i := 2) (oi := _) (v := ?_) rfl (by kernel_rfl) (by kernel_rfl) (by kernel_rfl) (fun _ _ _ h => h) (Or.inl ⟨by rfl, ?_⟩) (by assumption) ?_
        rotate_left
        · first | (intro w' hSw; (try dsimp only at hSw); go_simp; done) | (intro w' hSw; (try dsimp only at hSw); go_simp; with_reducible rfl)
        try simp only [Act.put, List.getElem_toArray, List.getElem_cons_zero, List.getElem_cons_succ, List.setIfInBounds_toArray, List.set_cons_zero, List.set_cons_succ]
        refine wpAnyH_take (i := 3) (oi := _) (v := ?_) rfl (by kernel_rfl) (by kernel_rfl) (by kernel_rfl) (fun _ _ _ h => h) (Or.inl ⟨by rfl, ?_⟩) (by assumption) ?_
        rotate_left
        · first | (intro w' hSw; (try dsimp only at hSw); go_simp; done) | (intro w' hSw; (try dsimp only at hSw); go_simp; with_reducible rfl)
        try simp only [Act.put, List.getElem_toArray, List.getElem_cons_zero, List.getElem_cons_succ, List.setIfInBounds_toArray, List.set_cons_zero, List.set_cons_succ]
        refine wpAnyH_take (i := 4) (oi := _) (v := ?_) rfl (by kernel_rfl) (by kernel_rfl) (by kernel_rfl) (fun _ _ _ h => h) (Or.inl ⟨by rfl, ?_⟩) (by assumption) ?_
        rotate_left
        · first | (intro w' hSw; (try dsimp only at hSw); go_simp; done) | (intro w' hSw; (try dsimp only at hSw); go_simp; with_reducible rfl)
        try simp only [Act.put, List.getElem_toArray, List.getElem_cons_zero, List.getElem_cons_succ, List.setIfInBounds_toArray, List.set_cons_zero, List.set_cons_succ]
        refine wpAnyH_take (i := 5) (oi := _) (v := ?_) rfl (by kernel_rfl) (by kernel_rfl) (by kernel_rfl) (fun _ _ _ h => h) (Or.inl ⟨by rfl, ?_⟩) (by assumption) ?_
        rotate_left
        · first | (intro w' hSw; (try dsimp only at hSw); go_simp; done) | (intro w' hSw; (try dsimp only at hSw); go_simp; with_reducible rfl)
        try simp only [Act.put, List.getElem_toArray, List.getElem_cons_zero, List.getElem_cons_succ, List.setIfInBounds_toArray, List.set_cons_zero, List.set_cons_succ]
        refine wpAnyH_ready (rs := [6]) (by kernel_rfl) (by simp) ?_
        refine AllReadyH.cons (o := _) rfl (fun K hK => ?_) AllReadyH.nil
        go_simp
        refine (isValue_any m last y _ _ ((Hm.out.keep HBW.out).keep (map_drew (Below.refl _ _))) hil.1 hil.2).mono ?_
        rw [HR.out]
        rintro x w6 ⟨rfl, hb6⟩
        have hx6 := map_undrew hb6
        have HX6 := Lib.hid (sz_keep HBW.out hx6)
        have j1 := cell_keep hx6 f0
        have j2 := cell_keep hx6 f1
        have j3 := cell_keep hx6 f2
        clear hb6 hx6
        go_wp2_with fail
        refine hK.out _ _ ?_ (fun hHeld => ?_)
        · exact ⟨j1, j2, j3⟩
        clear hK K
        try simp only [Act.put, List.getElem_toArray, List.getElem_cons_zero, List.getElem_cons_succ, List.setIfInBounds_toArray, List.set_cons_zero, List.set_cons_succ]
        refine wpAnyH_take (i := 7) (oi := _) (v := ?_) rfl (by kernel_rfl) (by kernel_rfl) (by kernel_rfl) (fun _ _ _ h => h) (Or.inl ⟨by rfl, ?_⟩) (by assumption) ?_
        rotate_left
        · first | (intro w' hSw; (try dsimp only at hSw); go_simp; done) | (intro w' hSw; (try dsimp only at hSw); go_simp; with_reducible rfl)
        try simp only [Act.put, List.getElem_toArray, List.getElem_cons_zero, List.getElem_cons_succ, List.setIfInBounds_toArray, List.set_cons_zero, List.set_cons_succ]
        refine wpAnyH_done (by kernel_rfl) ?_ _
        clear f0 f1 f2 j1 j2 j3 hy hil
        cases r with
        | true =>
          go_wp2
          go_roundw
          case rel => exact ⟨k + 1, by omega, by go_num, by rw [HT.out, HB0.out, HR.out]; rfl, HX6.out⟩
          case measure => simp [intOf]; omega
        | false =>
          have HF := Lib.hid (tableB_val (row := row) (by rw [HLS.out]; exact HN.out HR.out))
          go_wp2
          go_ret
          exact ⟨ret_bool HF.out.symm, sz_keep HB.out HX6.out⟩
      · have hkn : k = table.length := by omega
        have hlt' : ¬ (k : Int) < (table.length : Int) := by omega
        have HT := Lib.hid (show table.take k = table from take_all (by omega))
        rw [HT.out] at HB0
        have HF := Lib.hid (tableB_yes (sizes := m.sizes) (row := row) (by rw [HQ.out]; exact HLEN.out) (by rw [HLS.out]; exact HB0.out))
        clear f0 f1 f2
        go_wp2
        go_ret
        exact ⟨ret_bool HF.out.symm, sz_keep HB.out HBW.out⟩
  · have HF := Lib.hid (tableB_len (by rw [HQ.out]; exact hlen))
    have e1 : ((table.length : Int) != q) = true := by simpa using hlen
    clear hlen
    go_enter Try.func66, Try.ntmps66
    go_wp2_with fail
    clear hW
    refine wp_region_held_drew (S := (fun w' => w'.cell? ⟨w.heap.size, 0, none⟩ = some (.slice Ama m.sizes.length cma) ∧ w'.cell? ⟨w.heap.size, 1, none⟩ = some (.slice Amb m.tables.length cmb))) (by kernel_rfl) ?_ (fun hHeld => ?_)
    · exact ⟨m0, m1⟩
    refine wpAnyH_take (i := 0) (oi := _) (v := ?_) rfl (by kernel_rfl) (by kernel_rfl) (by kernel_rfl) (fun _ _ _ h => h) (Or.inl ⟨by rfl, ?_⟩) (by assumption) ?_
    rotate_left
    · first | (intro w' hSw; (try dsimp only at hSw); go_simp; done) | (intro w' hSw; (try dsimp only at hSw); go_simp; with_reducible rfl)
    try simp only [Act.put, List.getElem_toArray, List.getElem_cons_zero, List.getElem_cons_succ, List.setIfInBounds_toArray, List.set_cons_zero, List.set_cons_succ]
    refine wpAnyH_take (i := 1) (oi := _) (v := ?_) rfl (by kernel_rfl) (by kernel_rfl) (by kernel_rfl) (fun _ _ _ h => h) (Or.inl ⟨by rfl, ?_⟩) (by assumption) ?_
    rotate_left
    · first | (intro w' hSw; (try dsimp only at hSw); go_simp; done) | (intro w' hSw; (try dsimp only at hSw); go_simp; with_reducible rfl)
    try simp only [Act.put, List.getElem_toArray, List.getElem_cons_zero, List.getElem_cons_succ, List.setIfInBounds_toArray, List.set_cons_zero, List.set_cons_succ]
    refine wpAnyH_take (i := 2) (oi := _) (v := ?_) rfl (by kernel_rfl) (by kernel_rfl) (by kernel_rfl) (fun _ _ _ h => h) (Or.inl ⟨by rfl, ?_⟩) (by assumption) ?_
    rotate_left
    · first | (intro w' hSw; (try dsimp only at hSw); go_simp; done) | (intro w' hSw; (try dsimp only at hSw); go_simp; with_reducible rfl)
    try simp only [Act.put, List.getElem_toArray, List.getElem_cons_zero, List.getElem_cons_succ, List.setIfInBounds_toArray, List.set_cons_zero, List.set_cons_succ]
    refine wpAnyH_take (i := 3) (oi := _) (v := ?_) rfl (by kernel_rfl) (by kernel_rfl) (by kernel_rfl) (fun _ _ _ h => h) (Or.inl ⟨by rfl, ?_⟩) (by assumption) ?_
    rotate_left
    · first | (intro w' hSw; (try dsimp only at hSw); go_simp; done) | (intro w' hSw; (try dsimp only at hSw); go_simp; with_reducible rfl)
    try simp only [Act.put, List.getElem_toArray, List.getElem_cons_zero, List.getElem_cons_succ, List.setIfInBounds_toArray, List.set_cons_zero, List.set_cons_succ]
    refine wpAnyH_take (i := 4) (oi := _) (v := ?_) rfl (by kernel_rfl) (by kernel_rfl) (by kernel_rfl) (fun _ _ _ h => h) (Or.inl ⟨by rfl, ?_⟩) (by assumption) ?_
    rotate_left
    · first | (intro w' hSw; (try dsimp only at hSw); go_simp; done) | (intro w' hSw; (try dsimp only at hSw); go_simp; with_reducible rfl)
    try simp only [Act.put, List.getElem_toArray, List.getElem_cons_zero, List.getElem_cons_succ, List.setIfInBounds_toArray, List.set_cons_zero, List.set_cons_succ]
    refine wpAnyH_take (i := 5) (oi := _) (v := ?_) rfl (by kernel_rfl) (by kernel_rfl) (by kernel_rfl) (fun _ _ _ h => h) (Or.inl ⟨by rfl, ?_⟩) (by assumption) ?_
    rotate_left
    · first | (intro w' hSw; (try dsimp only at hSw); go_simp; done) | (intro w' hSw; (try dsimp only at hSw); go_simp; with_reducible rfl)
    try simp only [Act.put, List.getElem_toArray, List.getElem_cons_zero, List.getElem_cons_succ, List.setIfInBounds_toArray, List.set_cons_zero, List.set_cons_succ]
    refine wpAnyH_ready (rs := [6]) (by kernel_rfl) (by simp) ?_
    refine AllReadyH.cons (o := _) rfl (fun K hK => ?_) AllReadyH.nil
    go_simp
    refine (sizesOf_any m row.dropLast _ _ _ (Hm.out.keep (map_drew (Below.refl _ _))) (HD.out.keep (map_drew (Below.refl _ _))) HIN.out (by rw [HDL.out]; omega)).mono ?_
    rintro x w4 ⟨u4, rfl, ho4, hb4⟩
    have hx4 := map_undrew hb4
    obtain ⟨A4, c4, rfl, -⟩ := ho4.reads.form
    have HO4 := Lib.hid ho4.reads
    have HX4 := Lib.hid hx4
    have j1 := cell_keep hx4 m0
    have j2 := cell_keep hx4 m1
    clear ho4 hb4 hx4
    go_wp2_with fail
    refine hK.out _ _ ?_ (fun hHeld => ?_)
    · exact ⟨j1, j2⟩
    clear hK K
    try simp only [Act.put, List.getElem_toArray, List.getElem_cons_zero, List.getElem_cons_succ, List.setIfInBounds_toArray, List.set_cons_zero, List.set_cons_succ]
    refine wpAnyH_ready (rs := [7]) (by kernel_rfl) (by simp) ?_
    refine AllReadyH.cons (o := _) rfl (fun K hK => ?_) AllReadyH.nil
    go_simp
    refine (rowsOf_any _ w4 _ HO4.out HSZ.out (by rw [ledM_len, HDL.out]; omega)).mono ?_
    rw [HQ.out]
    rintro x w5 ⟨rfl, rfl⟩
    go_wp2_with fail
    refine hK.out _ _ ?_ (fun hHeld => ?_)
    · exact ⟨j1, j2⟩
    clear hK K
    try simp only [Act.put, List.getElem_toArray, List.getElem_cons_zero, List.getElem_cons_succ, List.setIfInBounds_toArray, List.set_cons_zero, List.set_cons_succ]
    refine wpAnyH_take (i := 8) (oi := _) (v := ?_) rfl (by kernel_rfl) (by kernel_rfl) (by kernel_rfl) (fun _ _ _ h => h) (Or.inl ⟨by rfl, ?_⟩) (by assumption) ?_
    rotate_left
    · first | (intro w' hSw; (try dsimp only at hSw); go_simp; done) | (intro w' hSw; (try dsimp only at hSw); go_simp; with_reducible rfl)
    try simp only [Act.put, List.getElem_toArray, List.getElem_cons_zero, List.getElem_cons_succ, List.setIfInBounds_toArray, List.set_cons_zero, List.set_cons_succ]
    refine wpAnyH_done (by kernel_rfl) ?_ _
    clear m0 m1 j1 j2 hx
    go_wp2
    go_ret
    exact ⟨ret_bool HF.out.symm, sz_keep HB.out HX4.out⟩
end

section
open Go.RowKit
set_option linter.unusedVariables false
set_option linter.unusedSimpArgs false

theorem rowLed_dl {sizes row : List Int} (h : ∀ x ∈ row, 0 ≤ x ∧ x < (sizes.length : Int)) (hs : sizes.length ≤ 3) : rowLed sizes row.dropLast = ledM sizes row.dropLast :=
  rowLed_led fun x hx => by have := h x (List.mem_of_mem_dropLast' hx); omega
theorem led_dl_at {sizes row : List Int} {k : Nat} (hk : k + 1 < row.length) (h : ∀ x ∈ row, 0 ≤ x ∧ x < (sizes.length : Int)) (hs : sizes.length ≤ 3) (h1 : k < (ledM sizes row.dropLast).length) : (ledM sizes row.dropLast)[k] = sizes.getD (row[k]).toNat 0 := by
  have hd : k < row.dropLast.length := by rw [List.length_dropLast]; omega
  have e := ledM_at (tq := sizes) hd
  rw [List.getElem?_eq_getElem h1] at e
  injection e with e
  rw [e]
  have hg : row.dropLast[k] = row[k] := List.getElem_dropLast hd
  rw [hg]
  have := h _ (List.getElem_mem (show k < row.length by omega))
  rw [if_pos (by omega)]

set_option maxRecDepth 100000 in
theorem l5Rows_any (sizes row : List Int) (w : World) (v v' : Value) (h : RInts w v sizes) (h' : RInts w v' row) (hr1 : 1 ≤ row.length) (hr3 : row.length ≤ 3) (hz : Sizes sizes) (hin : ∀ x ∈ row, 0 ≤ x ∧ x < (sizes.length : Int)) (hms : sizes.length ≤ 3) :
    Calls Try.prog 107 #[v, v'] w fun e w' => e = .returned (.int .i64 (waysM (ledM sizes row.dropLast))) ∧ w = w' := by
  have H := Lib.hid h
  have H' := Lib.hid h'
  obtain ⟨A, c, rfl, -⟩ := h.form
  obtain ⟨A', c', rfl, -⟩ := h'.form
  have hll : (ledM sizes row.dropLast).length = row.length - 1 := by rw [ledM_len, List.length_dropLast]
  have hsz : Sizes (ledM sizes row.dropLast) := sizes_led hz fun x hx => by have := hin x (List.mem_of_mem_dropLast' hx); omega
  have HW := Lib.hid (fun (k : Nat) (hk : k < (ledM sizes row.dropLast).length) => ways_wrap hsz (by omega) hk)
  have HA := Lib.hid (fun (k : Nat) (hk : k + 1 < row.length) (h1 : k < (ledM sizes row.dropLast).length) => led_dl_at hk hin hms h1)
  have HIN := Lib.hid hin
  have HLL := Lib.hid hll
  generalize hzs : ledM sizes row.dropLast = zs at HW HA HLL ⊢
  clear h h' hz hin hll hsz hzs
  go_enter Try.func107, Try.ntmps107
  go_wp2
  go_loopw [5, 6] (fun p i wr => ∃ k : Nat, k + 1 ≤ row.length ∧ i = .int .i64 k ∧ p = .int .i64 (waysM (zs.take k)) ∧ w = wr) (fun _ i _ => row.length - (intOf i).toNat)
  case atStart => exact ⟨0, by omega, rfl, rfl, rfl⟩
  case round =>
    obtain ⟨k, hk, rfl, rfl, rfl⟩ := hrel
    by_cases hlt : k + 1 < row.length
    · have hkr : k < row.length := by omega
      obtain ⟨b, o, c2, e, hx⟩ := H'.out.at_ hkr
      cases e
      have hlt' : (k : Int) + 1 < (row.length : Int) := by omega
      have hkz : k < zs.length := by have := HLL.out; omega
      have HI := Lib.hid (HIN.out _ (List.getElem_mem hkr))
      have hza := HA.out k hlt hkz
      have hw := HW.out k hkz
      rw [hza] at hw
      clear hza
      generalize row[k] = x at hx HI hw
      obtain ⟨n, rfl⟩ : ∃ n : Nat, x = (n : Int) := ⟨x.toNat, by have := HI.out; omega⟩
      have hns : n < sizes.length := by have := HI.out; omega
      have hns' : (n : Int) < (sizes.length : Int) := by omega
      obtain ⟨b2, o2, c3, e, hy⟩ := H.out.at_ hns
      cases e
      rw [Int.toNat_natCast, getD_at _ hns] at hw
      generalize sizes[n] = z at hy hw
      generalize hq : waysM (zs.take (k + 1)) = q at hw
      have HQ := Lib.hid hq
      have hw1 : IntKind.i64.wrap ((k : Int) + 1) = (k : Int) + 1 := by rw [IntKind.wrap_i64]; omega
      clear hq
      go_wp2
      go_roundw
      case rel => exact ⟨k + 1, by omega, by go_num, by rw [HQ.out], by first | trivial | rfl⟩
      case measure => simp [intOf]; omega
    · have hkn : k = zs.length := by have := HLL.out; omega
      have hlt' : ¬ (k : Int) + 1 < (row.length : Int) := by omega
      have HT := Lib.hid (show zs.take k = zs from take_all (by omega))
      have hw1 : IntKind.i64.wrap ((k : Int) + 1) = (k : Int) + 1 := by rw [IntKind.wrap_i64]; omega
      rw [HT.out]
      go_wp2
      go_ret
      exact ⟨rfl, rfl⟩
end

section
open Go.RowKit
set_option linter.unusedVariables false
set_option linter.unusedSimpArgs false

/-- of what was there only two blocks have turned -/
structure Two2 (a w : World) (l g : Nat) : Prop where
  os : w.os = a.os
  tape : w.tape = a.tape
  output : w.output = a.output
  size : a.heap.size ≤ w.heap.size
  block : ∀ k, k < a.heap.size → k ≠ l → k ≠ g → w.heap[k]? = a.heap[k]?
theorem Two2.refl (a : World) (l g : Nat) : Two2 a a l g := ⟨rfl, rfl, rfl, Nat.le_refl _, fun _ _ _ _ => rfl⟩
theorem Two2.grown {a w w' : World} {l g : Nat} {row : Option Nat} (h : Two2 a w l g) (k : w.grownBy w' row) (hr : ∀ x, row = some x → x = l ∨ x = g ∨ a.heap.size ≤ x) : Two2 a w' l g :=
  ⟨k.os.trans h.os, k.tape.trans h.tape, k.output.trans h.output, Nat.le_trans h.size k.size, fun i hi h1 h2 => (k.block i (Nat.lt_of_lt_of_le hi h.size) (fun e => by rcases hr i e.symm with x | x | x <;> omega)).trans (h.block i hi h1 h2)⟩
theorem Two2.alloc {a w : World} {l g : Nat} (h : Two2 a w l g) (o : Obj) : Two2 a (w.alloc o) l g := h.grown (World.grownBy_alloc w o none) (fun x e => by cases e)
theorem Two2.drew {a w : World} {l g : Nat} (h : Two2 a w l g) : Two2 a w.drew l g := ⟨h.os, h.tape, h.output, h.size, h.block⟩
theorem Two2.set {a w : World} {l g b : Nat} (h : Two2 a w l g) (i : Nat) (u : Value) (hb : b = l ∨ b = g ∨ a.heap.size ≤ b) : Two2 a (w.setCell ⟨b, i, none⟩ u) l g :=
  ⟨h.os, h.tape, h.output, by simpa [World.setCell] using h.size, fun k hk h1 h2 => (Below.heap_setCell w ⟨b, i, none⟩ u k (by show k ≠ b; rcases hb with x | x | x <;> omega)).trans (h.block k hk h1 h2)⟩
theorem Two2.at_ {a w : World} {l g k : Nat} {o : Obj} (h : Two2 a w l g) (ho : a.heap[k]? = some o) (h1 : k ≠ l) (h2 : k ≠ g) : w.heap[k]? = some o := (h.block k (Array.getElem?_eq_some_iff.1 ho).1 h1 h2).trans ho
theorem Two2.below {a w : World} {l g : Nat} {w0 : World} (h : Two2 a w l g) (hb : w0.grownBy a (some g)) (hl : w0.heap.size ≤ l) : w0.grownBy w (some g) :=
  ⟨h.os.trans hb.os, h.tape.trans hb.tape, h.output.trans hb.output, Nat.le_trans hb.size h.size, fun k hk hne => (h.block k (Nat.lt_of_lt_of_le hk hb.size) (by omega) (fun e => hne (by rw [e]))).trans (hb.block k hk hne)⟩

theorem Two2.cell {a w : World} {l g b o : Nat} {u : Value} (h : Two2 a w l g) (hc : a.cell? ⟨b, o, none⟩ = some u) (h1 : b ≠ l) (h2 : b ≠ g) : w.cell? ⟨b, o, none⟩ = some u := by
  have hl := World.block_lt_of_cell? a _ hc
  rw [World.cell?_of_block (h.block b hl h1 h2)]
  exact hc
theorem two_ints {a w : World} {l g : Nat} {v : Value} {xs : List Int} (h : Two2 a w l g) {w0 : World} (hr : RInts w0 v xs) (hb : Below w0.heap.size w0 a) (hl : w0.heap.size ≤ l) (hg : w0.heap.size ≤ g) : RInts w v xs :=
  hr.keep ⟨h.os.trans hb.os, h.tape.trans hb.tape, h.output.trans hb.output, Nat.le_trans hb.size h.size, fun k hk => (h.block k (Nat.lt_of_lt_of_le hk hb.size) (by omega) (by omega)).trans (hb.block k hk)⟩
/-- inside l20ModelOf: a: the world ahead of the loops; l: the local model's block, g: the reader's -/
structure MdAt (a w : World) (l g : Nat) (u x : Value) (zs : List Int) (q : Nat) : Prop where
  loc : w.heap[l]? = some (.cells #[u, x] 30 (0, 0))
  own : OInts w a.heap.size u zs
  rd : RRd w g q
  two : Two2 a w l g
  gl : g < l
  la : l < a.heap.size
  sz : Sizes zs
/-- the literal of sizes -/
def lit4 : Obj := .cells #[.int .i64 1, .int .i64 2, .int .i64 2, .int .i64 3] 3
theorem lit4_at {w : World} {b : Nat} (h : w.heap[b]? = some (.cells #[.int .i64 1, .int .i64 2, .int .i64 2, .int .i64 3] 3 (0, 0))) {y : Nat} (hy : y < 4) : ∃ z : Int, w.cell? ⟨b, y, none⟩ = some (.int .i64 z) ∧ 1 ≤ z ∧ z ≤ 3 := by
  rw [blk_cell h]
  match y, hy with
  | 0, _ => exact ⟨1, rfl, by omega, by omega⟩
  | 1, _ => exact ⟨2, rfl, by omega, by omega⟩
  | 2, _ => exact ⟨2, rfl, by omega, by omega⟩
  | 3, _ => exact ⟨3, rfl, by omega, by omega⟩
/-- behind the literal and the pick, in whatever order -/
structure MdMid (a w : World) (l g b : Nat) (u x : Value) (zs : List Int) (q y : Nat) : Prop where
  at_ : MdAt a w l g u x zs q
  lit : w.heap[b]? = some (.cells #[.int .i64 1, .int .i64 2, .int .i64 2, .int .i64 3] 3 (0, 0))
  hy : y < 4
theorem MdAt.later {a w w' : World} {l g : Nat} {u x : Value} {zs : List Int} {q q' : Nat} (h : MdAt a w l g u x zs q) (hg : w.grownBy w' (some g)) (hr : RRd w' g q') : MdAt a w' l g u x zs q' :=
  ⟨gr_at hg (by have := h.gl; omega) h.loc, own_grown h.own hg (by
    cases e : u.ownBlock with
    | none => exact .inl rfl
    | some k => right; intro e2; injection e2 with e2; have := (own_lt h.own k e).1; have := h.gl; have := h.la; omega), hr, h.two.grown hg (fun x e => by injection e with e; exact .inr (.inl e.symm)), h.gl, h.la, h.sz⟩
theorem MdAt.alloc {a w : World} {l g : Nat} {u x : Value} {zs : List Int} {q : Nat} (h : MdAt a w l g u x zs q) (o : Obj) : MdAt a (w.alloc o) l g u x zs q :=
  ⟨(heap_alloc_old w o (Array.getElem?_eq_some_iff.1 h.loc).1).trans h.loc, h.own.keep (below_alloc w o), h.rd.keep (below_alloc w o), h.two.alloc o, h.gl, h.la, h.sz⟩
theorem MdAt.drew {a w : World} {l g : Nat} {u x : Value} {zs : List Int} {q : Nat} (h : MdAt a w l g u x zs q) : MdAt a w.drew l g u x zs q := ⟨h.loc, h.own, h.rd, h.two.drew, h.gl, h.la, h.sz⟩
/-- one size more: w6 behind the append, w6.setCell: stored -/
theorem MdAt.push {a w w6 : World} {l g : Nat} {u x v' : Value} {zs : List Int} {q : Nat} {z : Int} {o : Obj} (h : MdAt a w l g u x zs q) (hg : (w.alloc o).grownBy w6 u.ownBlock) (ho : OInts w6 a.heap.size v' (zs ++ [z])) (hz : 1 ≤ z ∧ z ≤ 3) :
    MdAt a (w6.setCell ⟨l, 0, none⟩ v') l g v' x (zs ++ [z]) q ∧ w6.heap[l]? = some (.cells #[u, x] 30 (0, 0)) := by
  have hb : ∀ k, u.ownBlock = some k → a.heap.size ≤ k := fun k e => (own_lt h.own k e).1
  have hla := h.la
  have hgl := h.gl
  have hl6 : w6.heap[l]? = some (.cells #[u, x] 30 (0, 0)) := by
    have hlr := (Array.getElem?_eq_some_iff.1 h.loc).1
    exact ((hg.block l (by simp; omega) (fun e => by have := hb l e.symm; omega)).trans (heap_alloc_old w o hlr)).trans h.loc
  have hr6 : RRd w6 g q := (h.rd.keep (below_alloc w o)).grown hg (fun k e => by have := hb k e; omega)
  refine ⟨⟨blk_set hl6 0 v', ho.setLow hla 0 v', hr6.setCell hgl v', ((h.two.alloc o).grown hg (fun k e => .inr (.inr (hb k e)))).set 0 v' (.inl rfl), hgl, hla, ?_⟩, hl6⟩
  intro y hy
  rcases List.mem_append.1 hy with hy | hy
  · exact h.sz y hy
  · rw [List.mem_singleton.1 hy]; exact hz

/-- in the second loop: wa: the world behind the sizes; rows: the tables -/
structure MdTab (a wa w : World) (l g : Nat) (u x : Value) (zs : List Int) (rows : List (List Int)) (q : Nat) : Prop where
  loc : w.heap[l]? = some (.cells #[u, x] 30 (0, 0))
  own : OInts w a.heap.size u zs
  ub : ∀ k, u.ownBlock = some k → k < wa.heap.size
  tab : ORows w wa.heap.size x rows
  rd : RRd w g q
  two : Two2 a w l g
  gl : g < l
  la : l < a.heap.size
  aw : a.heap.size ≤ wa.heap.size
  ww : wa.heap.size ≤ w.heap.size
  sz : Sizes zs
theorem MdAt.tabs {a w : World} {l g : Nat} {u : Value} {zs : List Int} {q : Nat} (h : MdAt a w l g u (.slice none 0 0) zs q) : MdTab a w w l g u (.slice none 0 0) zs [] q :=
  ⟨h.loc, h.own, fun k e => (own_lt h.own k e).2, ORows.nil _ _, h.rd, h.two, h.gl, h.la, h.two.size, Nat.le_refl _, h.sz⟩
theorem MdTab.later {a wa w w' : World} {l g : Nat} {u x : Value} {zs : List Int} {rows : List (List Int)} {q q' : Nat} (h : MdTab a wa w l g u x zs rows q) (hg : w.grownBy w' (some g)) (hr : RRd w' g q') : MdTab a wa w' l g u x zs rows q' := by
  have h1 := h.gl
  have h2 := h.la
  have h3 := h.aw
  exact ⟨gr_at hg (by omega) h.loc, own_past h.own hg (by omega), h.ub, h.tab.grown hg (fun k e => by injection e with e; omega), hr, h.two.grown hg (fun x e => by injection e with e; exact .inr (.inl e.symm)), h.gl, h.la, h.aw, Nat.le_trans h.ww hg.size, h.sz⟩
theorem MdTab.alloc {a wa w : World} {l g : Nat} {u x : Value} {zs : List Int} {rows : List (List Int)} {q : Nat} (h : MdTab a wa w l g u x zs rows q) (o : Obj) : MdTab a wa (w.alloc o) l g u x zs rows q :=
  ⟨(heap_alloc_old w o (Array.getElem?_eq_some_iff.1 h.loc).1).trans h.loc, h.own.keep (below_alloc w o), h.ub, h.tab.keep (below_alloc w o), h.rd.keep (below_alloc w o), h.two.alloc o, h.gl, h.la, h.aw, by have := h.ww; simp; omega, h.sz⟩
theorem MdTab.drew {a wa w : World} {l g : Nat} {u x : Value} {zs : List Int} {rows : List (List Int)} {q : Nat} (h : MdTab a wa w l g u x zs rows q) : MdTab a wa w.drew l g u x zs rows q := ⟨h.loc, h.own, h.ub, h.tab.keep (map_drew (Below.refl _ _)), h.rd, h.two.drew, h.gl, h.la, h.aw, h.ww, h.sz⟩
/-- one table more: wb: where the tables were last told; wj: ahead of the append -/
theorem MdTab.push {a wa wb wj w7 : World} {l g : Nat} {u x v' tv : Value} {zs row : List Int} {rows : List (List Int)} {q q2 : Nat} {us : List Value} (h : MdTab a wa wb l g u x zs rows q) (hj : wb.grownBy wj (some g)) (hr : RRd wj g q2) (ht : OInts wj wb.heap.size tv row)
    (h1 : wb.ownsRow wa.heap.size 26 1 x rows.length us) (h2 : us.length = rows.length)
    (h3 : ∀ (j : Nat) (u : Value) (row : List Int), us[j]? = some u → rows[j]? = some row → OInts wb wa.heap.size u row) (h4 : ∀ (i j : Nat) (u u' : Value), i < j → us[i]? = some u → us[j]? = some u' → u.ownBlock = none ∨ u.ownBlock ≠ u'.ownBlock)
    (hv' : w7.ownsRow wa.heap.size 26 1 v' (rows.length + 1) (us ++ [tv])) (hg : (wj.alloc (.cells #[tv] 26)).grownBy w7 x.ownBlock) :
    MdTab a wa (w7.setCell ⟨l, 1, none⟩ v') l g u v' zs (rows ++ [row]) q2 ∧ w7.heap[l]? = some (.cells #[u, x] 30 (0, 0)) := by
  have hb : ∀ k, x.ownBlock = some k → wa.heap.size ≤ k := fun k e => (own_lt h1 k e).1
  have g1 := h.gl
  have g2 := h.la
  have g3 := h.aw
  have g4 := h.ww
  have hm := h.later hj hr
  have hl7 : w7.heap[l]? = some (.cells #[u, x] 30 (0, 0)) :=
    ((hg.block l (by have := (Array.getElem?_eq_some_iff.1 hm.loc).1; simp; omega) (fun e => by have := hb l e.symm; omega)).trans (heap_alloc_old wj _ (Array.getElem?_eq_some_iff.1 hm.loc).1)).trans hm.loc
  have hr7 : RRd w7 g q2 := (hr.keep (below_alloc wj _)).grown hg (fun k e => by have := hb k e; omega)
  have ho7 : OInts w7 a.heap.size u zs := by
    refine own_grown (hm.own.keep (below_alloc wj (.cells #[tv] 26))) hg ?_
    cases e : u.ownBlock with
    | none => exact .inl rfl
    | some k => right; intro e2; have := hb k e2.symm; have := h.ub k e; omega
  have ht7 : ORows w7 wa.heap.size v' (rows ++ [row]) := rows_push h1 h2 h3 h4 hj (by omega) (Nat.le_refl _) g4 ht hv' hg
  exact ⟨⟨blk_set hl7 1 v', ho7.setLow g2 1 v', h.ub, ht7.setLow' (by omega) 1 v', hr7.setCell g1 v', ((hm.two.alloc _).grown hg (fun k e => .inr (.inr (by have := hb k e; omega)))).set 1 v' (.inl rfl), g1, g2, g3, by
    have h5 := hj.size
    have h6 := hg.size
    simp at h6
    simp [World.setCell]
    omega, h.sz⟩, hl7⟩
theorem osig_of {w : World} {B : Nat} {a0 a1 : Value} {s : MSig} (h : OSig w B (.agg #[a0, a1]) s) : ORows w B a1 s.ops := by
  obtain ⟨u, e, h⟩ := h
  have e2 : a1 = u := by injection e with e; simp at e; exact e.2
  rw [e2]; exact h
theorem orows_at {w : World} {B : Nat} {v : Value} {rows : List (List Int)} (h : ORows w B v rows) {k : Nat} (hk : k < rows.length) : ∃ b o c u, v = .slice (some ⟨b, o, none⟩) rows.length c ∧ w.cell? ⟨b, o + k, none⟩ = some u ∧ OInts w B u rows[k] := by
  obtain ⟨us, h1, h2, h3, h4⟩ := h
  obtain ⟨A, c, e, -, -, h5⟩ := own_reads h1
  have hu : us[k]? = some us[k] := List.getElem?_eq_getElem (by omega)
  obtain ⟨b, o, rfl, hc⟩ := h5 k _ hu
  exact ⟨b, o, c, _, e, hc, h3 k _ _ hu (List.getElem?_eq_getElem hk)⟩
/-- what l20ModelOf answers -/
def MdPost (s : MSig) (g p : Nat) (w : World) (e : Ending) (w' : World) : Prop :=
  ∃ (v : Value) (m : MModel) (q : Nat), e = .returned v ∧ OModel w' w.heap.size v m ∧ (m.sizes.length : Int) = s.sorts ∧ Sizes m.sizes ∧ m.tables.length = s.ops.length ∧ (∀ row ∈ m.tables, 1 ≤ row.length ∧ row.length ≤ 9) ∧ RRd w' g q ∧ q ≤ p + 70 ∧ w.grownBy w' (some g)
theorem md_done {a wa wr w : World} {l g rb : Nat} {u x c0 c1 : Value} {zs : List Int} {rows : List (List Int)} {q : Nat} (h : MdTab a wa wr l g u x zs rows q) (hg : w.grownBy wr (some g)) (hrb : rb < wr.heap.size) (hrl : rb < l ∧ w.heap.size ≤ rb) (hgr : g < rb) (hres : wr.heap[rb]? = some (.cells #[c0, c1] 30 (0, 0))) :
    ((wr.setCell ⟨rb, 0, none⟩ u).setCell ⟨rb, 1, none⟩ x).heap[rb]? = some (.cells #[u, x] 30 (0, 0)) ∧ (w.heap.size ≤ a.heap.size → OModel ((wr.setCell ⟨rb, 0, none⟩ u).setCell ⟨rb, 1, none⟩ x) w.heap.size (.agg #[u, x]) ⟨zs, rows⟩) ∧ RRd ((wr.setCell ⟨rb, 0, none⟩ u).setCell ⟨rb, 1, none⟩ x) g q ∧ w.grownBy ((wr.setCell ⟨rb, 0, none⟩ u).setCell ⟨rb, 1, none⟩ x) (some g) := by
  have h1 := h.la
  have h2 := h.aw
  refine ⟨blk_set (blk_set hres 0 u) 1 x, fun hwa => ⟨_, _, rfl, ((h.own.setLow (by omega) 0 u).setLow (by omega) 1 x).base hwa, wa.heap.size, by omega, h.ub, (h.tab.setLow' (by omega) 0 u).setLow' (by omega) 1 x⟩, (h.rd.setCell hgr u).setCell hgr x, gr_setCell (gr_setCell hg (.inr hrl.2) u) (.inr hrl.2) x⟩
/-- a number more in a table: with or without a pick ahead of it -/
theorem row_append {wj w1 wo w2 : World} {g q q' : Nat} {rv v' : Value} {row : List Int} {x : Int} {o : Obj} (h : RowAt wo wo wj g rv row q) (hgl : g < wo.heap.size) (hp : wj.grownBy w2 (some g)) (hr : RRd w2 g q')
    (hv' : w1.ownsRow wo.heap.size 3 1 v' (row.length + 1) (row.map (Value.int .i64) ++ [.int .i64 x])) (hg1 : (w2.alloc o).grownBy w1 rv.ownBlock) : RowAt wo wo w1 g v' (row ++ [x]) q' := by
  have hb : ∀ k, rv.ownBlock = some k → wo.heap.size ≤ k := fun k e => (own_lt h.own k e).1
  refine ⟨by unfold OInts; simpa using hv', (hr.keep (below_alloc w2 o)).grown hg1 (fun k e => by have := hb k e; omega), ?_⟩
  exact gr_trans (gr_alloc (gr_trans h.gr hp (fun x e => by injection e with e; exact .inl e.symm)) o) hg1 (fun k e => .inr (hb k e))
end
end Go.Proofs.Ytbopcghbmbchkab
