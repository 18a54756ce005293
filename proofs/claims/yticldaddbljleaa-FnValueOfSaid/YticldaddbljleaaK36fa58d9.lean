/- l20Valued: a signature, a model, letters, a term and values. · slices.Clone, TermAt of both packages. · TermPut of both packages. -/
import Derived.Test.YticldaddbljleaaK7591686e
import Derived.Deep.RegionHeld3
import Derived.Lib.SliceRun
namespace Go.Proofs.Yticldaddbljleaa
section
open Go.RowKit
set_option linter.unusedVariables false
set_option linter.unusedSimpArgs false

theorem gr_undrewvt {w w' : World} {r : Option Nat} (h : w.drew.grownBy w' r) : w.grownBy w' r := ⟨h.os, h.tape, h.output, h.size, h.block⟩
theorem qb2vt : Qb 2 = 21636 := by decide
/-- what l20Valued answers (nothing is told of the term); wn: a world in which all but the values lies already -/
def ValtPost (g p : Nat) (w : World) (x : Ending) (w' : World) : Prop :=
  ∃ (sv mv vv tv lv : Value) (s : MSig) (m : MModel) (vars vals : List Int) (q : Nat) (wn : World), x = .returned (.tuple #[sv, mv, vv, tv, lv]) ∧ w.heap.size + 2 ≤ wn.heap.size ∧ OSig wn (w.heap.size + 2) sv s ∧ OModel wn (w.heap.size + 2) mv m ∧ FewMo s m ∧ OInts wn (w.heap.size + 2) vv vars ∧ vars.length ≤ 5 ∧ (∀ k, w.heap.size + 2 ≤ k → k < wn.heap.size → w'.heap[k]? = wn.heap[k]?) ∧ OInts w' wn.heap.size lv vals ∧ vals.length ≤ 6 ∧ RRd w' g q ∧ q ≤ p + 100000 ∧ w.grownBy w' (some g) ∧ ∃ t, OInts w' wn.heap.size tv t ∧ Small t

set_option maxHeartbeats 3200000 in
set_option maxRecDepth 100000 in
theorem valuedT_any (g p : Nat) (w : World) (h : RRd w g p) (hp : p ≤ 100000) :
    Calls Try.prog 63 #[.pointer (some ⟨g, 0, none⟩)] w (ValtPost g p w) := by
  have hgl := h.lt
  obtain ⟨i0, hi0, hz0, hz1, hz2⟩ := info_parts Try.info_int
  obtain ⟨W, hW⟩ : ∃ W : World, W = (w.alloc (.cells #[.int .i64 0, .slice none 0 0] 25)).alloc (.cells #[.slice none 0 0, .slice none 0 0] 28) := ⟨_, rfl⟩
  have hb0 : Below w.heap.size w W := by rw [hW]; exact (below_alloc _ _).alloc (by simp) _
  have HB0 := Lib.hid hb0
  have HZ0 := Lib.hid (show W.heap.size = w.heap.size + 2 by rw [hW]; simp)
  have HZR0 := Lib.hid (show W.heap[w.heap.size]? = some (.cells #[.int .i64 0, .slice none 0 0] 25 (0, 0)) by rw [hW]; exact (heap_alloc_old (w.alloc (.cells #[.int .i64 0, .slice none 0 0] 25)) _ (by simp)).trans (heap_alloc_new (w) _))
  have HZR1 := Lib.hid (show W.heap[w.heap.size + 1]? = some (.cells #[.slice none 0 0, .slice none 0 0] 28 (0, 0)) by rw [hW]; exact (congrArg (fun i => ((w.alloc (.cells #[.int .i64 0, .slice none 0 0] 25)).alloc (.cells #[.slice none 0 0, .slice none 0 0] 28)).heap[i]?) (by simp)).trans (heap_alloc_new (w.alloc (.cells #[.int .i64 0, .slice none 0 0] 25)) _))
  have HR0 := Lib.hid (h.keep hb0)
  have hW' := hW.symm
  clear hb0 hW h
  go_enter Try.func63, Try.ntmps63
  go_wp2_with fail
  clear hW'
  refine (model_any g p 16 _ HR0.out (by omega) (by omega) (by omega)).mono ?_
  rintro x w2 ⟨sv, mv, ⟨sorts, rows⟩, m, q, rfl, ⟨u, rfl, ho⟩, hs1, hm, hl1, hl2, hl3, hl4, hr2, hq2, hg2⟩
  obtain ⟨x, y, rfl, o1, C, hC, hub, o2⟩ := hm
  obtain ⟨us, hu1, -⟩ := id ho
  obtain ⟨Au, cu, rfl, -⟩ := own_reads hu1
  obtain ⟨A0, c0, rfl, -⟩ := own_reads o1
  obtain ⟨us2, hu2, -⟩ := id o2
  obtain ⟨A1, c1, rfl, -⟩ := own_reads hu2
  have HF := Lib.hid (show FewMo ⟨sorts, rows⟩ m from ⟨hs1, hl1, hl2, hl3, hl4⟩)
  have hzW := HZ0.out
  have hzz2 : W.heap.size ≤ w2.heap.size := hg2.size
  have hba : Below w2.heap.size w2 ((w2.alloc (.cells #[.int .i64 sorts, .slice Au rows.length cu] 25)).alloc (.cells #[.slice A0 m.sizes.length c0, .slice A1 m.tables.length c1] 28)) := (below_alloc _ _).alloc (by simp) _
  have HG3 := Lib.hid (gr_alloc (gr_alloc hg2 (.cells #[.int .i64 sorts, .slice Au rows.length cu] 25)) (.cells #[.slice A0 m.sizes.length c0, .slice A1 m.tables.length c1] 28))
  have HBA3 := Lib.hid ((heap_alloc_old (w2.alloc (.cells #[.int .i64 sorts, .slice Au rows.length cu] 25)) (.cells #[.slice A0 m.sizes.length c0, .slice A1 m.tables.length c1] 28) (by simp)).trans (heap_alloc_new w2 (.cells #[.int .i64 sorts, .slice Au rows.length cu] 25)))
  have HBB3 := Lib.hid ((congrArg (fun i => ((w2.alloc (.cells #[.int .i64 sorts, .slice Au rows.length cu] 25)).alloc (.cells #[.slice A0 m.sizes.length c0, .slice A1 m.tables.length c1] 28)).heap[i]?) (show w2.heap.size + 1 = (w2.alloc (.cells #[.int .i64 sorts, .slice Au rows.length cu] 25)).heap.size by simp)).trans (heap_alloc_new (w2.alloc (.cells #[.int .i64 sorts, .slice Au rows.length cu] 25)) (.cells #[.slice A0 m.sizes.length c0, .slice A1 m.tables.length c1] 28)))
  have HO3 := Lib.hid ((ho.keep hba).base (B' := w.heap.size + 2) (by omega))
  have HM3 := Lib.hid (OModel.base (B' := w.heap.size + 2) (show OModel _ W.heap.size (.agg #[.slice A0 m.sizes.length c0, .slice A1 m.tables.length c1]) m from ⟨_, _, rfl, o1.keep hba, C, hC, hub, o2.keep hba⟩) (by omega))
  have HR3 := Lib.hid (hr2.keep hba)
  clear ho o1 o2 hu1 hu2 hub hr2 hg2 hba hs1 hl1 hl2 hl3 hl4
  generalize hW3 : (w2.alloc (.cells #[.int .i64 sorts, .slice Au rows.length cu] 25)).alloc (.cells #[.slice A0 m.sizes.length c0, .slice A1 m.tables.length c1] 28) = w3 at HG3 HBA3 HBB3 HO3 HM3 HR3
  have hz3 : w2.heap.size + 1 < w3.heap.size := (Array.getElem?_eq_some_iff.1 HBB3.out).1
  have p0 := block_cell HBA3.out 0
  have p1 := block_cell HBA3.out 1
  have p2 := block_cell HBB3.out 0
  have p3 := block_cell HBB3.out 1
  simp at p0 p1 p2 p3
  have HS := Lib.hid (show RSig w3 (.agg #[.int .i64 sorts, .slice Au rows.length cu]) ⟨sorts, rows⟩ from ⟨_, rfl, HO3.out.reads⟩)
  have HGW3 := Lib.hid (gr_trans (gr_below (gr_refl w g) HB0.out) HG3.out (fun x e => by injection e with e; exact .inl e.symm))
  go_wp2_with fail
  clear hW3
  refine (drawVars_any g q 16 ⟨sorts, rows⟩ _ w3 HR3.out (by omega) (by omega) (by omega) HS.out).mono ?_
  rintro x w4 ⟨vv, vars, q4, rfl, ov, hvl, hr4, hq4, hg4⟩
  obtain ⟨Av, cv, rfl, -⟩ := own_reads ov
  have hz4 := hg4.size
  have HGW4 := Lib.hid (gr_trans HGW3.out hg4 (fun x e => by injection e with e; exact .inl e.symm))
  have HBA := Lib.hid (gr_at hg4 (by omega) HBA3.out)
  have HBB := Lib.hid (gr_at hg4 (by omega) HBB3.out)
  have HO4 := Lib.hid (HO3.out.grown hg4 (fun k e => by injection e with e; omega))
  have HM4 := Lib.hid (OModel.past HM3.out hg4 (by omega))
  have HV4 := Lib.hid (ov.base (B' := w.heap.size + 2) (by omega))
  have hra4 := gr_at (gr_trans HG3.out hg4 (fun x e => by injection e with e; exact .inl e.symm)) (by omega) HZR0.out
  have hrb4 := gr_at (gr_trans HG3.out hg4 (fun x e => by injection e with e; exact .inl e.symm)) (by omega) HZR1.out
  have HRA4 := Lib.hid hra4
  have HRB4 := Lib.hid hrb4
  have hb5 : Below w4.heap.size w4 ((w4.alloc (.cells #[] 3)).alloc (.cells #[] 3)) := (below_alloc _ _).alloc (by simp) _
  have HG5 := Lib.hid (gr_below (gr_refl w4 g) hb5)
  have HZ5 := Lib.hid (show ((w4.alloc (.cells #[] 3)).alloc (.cells #[] 3)).heap.size = w4.heap.size + 2 by simp)
  have HL5 := Lib.hid (show OInts ((w4.alloc (.cells #[] 3)).alloc (.cells #[] 3)) (w4.heap.size + 1) (.slice (some ⟨w4.heap.size + 1, 0, none⟩) ([] : List Int).length 0) [] by simpa using own_empty (w4.alloc (.cells #[] 3)))
  have HR5 := Lib.hid (hr4.keep hb5)
  have HT5 := Lib.hid (show OInts ((w4.alloc (.cells #[] 3)).alloc (.cells #[] 3)) w4.heap.size (.slice (some ⟨w4.heap.size, 0, none⟩) ([] : List Int).length 0) [] by simpa using (own_empty w4).keep (below_alloc _ _))
  clear ov hr4 hg4 hb5 p0 p1 p2 p3 hra4 hrb4
  generalize hW5 : (w4.alloc (.cells #[] 3)).alloc (.cells #[] 3) = w5 at HG5 HZ5 HL5 HR5 HT5
  go_upto_region 5 with fail
  clear hW5
  have p0 := block_cell (gr_at HG5.out (by omega) HBA.out) 0
  have p1 := block_cell (gr_at HG5.out (by omega) HBA.out) 1
  have p2 := block_cell (gr_at HG5.out (by omega) HBB.out) 0
  have p3 := block_cell (gr_at HG5.out (by omega) HBB.out) 1
  simp at p0 p1 p2 p3
  have HSG5 := Lib.hid (show RSig w5 (.agg #[.int .i64 sorts, .slice Au rows.length cu]) ⟨sorts, rows⟩ from ⟨_, rfl, (HO4.out.grown HG5.out (fun k e => by injection e with e; omega)).reads⟩)
  have HMD5 := Lib.hid (OModel.past HM4.out HG5.out (by omega)).reads
  have HVR5 := Lib.hid (show OInts w5 (w.heap.size + 2) (.slice Av vars.length cv) vars from own_past HV4.out HG5.out (by omega))
  go_cut [30] (fun s30 wx => ∃ (b : Bool), s30 = .bool b ∧ (b = true → modelB ⟨sorts, rows⟩ m = true ∧ varsB ⟨sorts, rows⟩ vars = true) ∧ Below w5.heap.size w5 wx)
  case first =>
    go_wp2_with fail
    refine (specModelOk_any ⟨sorts, rows⟩ m w5 _ _ HSG5.out HMD5.out).mono ?_
    rintro x w6 ⟨rfl, hb6⟩
    have HB6 := Lib.hid hb6
    replace p0 := cell_keep hb6 p0
    replace p1 := cell_keep hb6 p1
    replace p2 := cell_keep hb6 p2
    replace p3 := cell_keep hb6 p3
    clear hb6
    cases hmb : modelB ⟨sorts, rows⟩ m with
    | false =>
      go_wp2
      go_meet
      case rel => exact ⟨false, rfl, by simp, HB6.out⟩
    | true =>
      go_wp2_with fail
      refine (specVarsOk_any _ _ ⟨sorts, rows⟩ vars w6 (HSG5.out.keep HB6.out) (HVR5.out.reads.keep HB6.out)).mono ?_
      rintro x w7 ⟨rfl, hb7⟩
      have HB7 := Lib.hid (sz_keep HB6.out hb7)
      clear hb7 p0 p1 p2 p3
      cases hvb : varsB ⟨sorts, rows⟩ vars with
      | false =>
        go_wp2
        go_meet
        case rel => exact ⟨false, rfl, by simp, HB7.out⟩
      | true =>
        go_wp2
        go_meet
        case rel => exact ⟨true, rfl, fun _ => ⟨hmb, hvb⟩, HB7.out⟩
  case rest =>
    obtain ⟨b, rfl, hbt, hb6⟩ := hcut
    obtain ⟨w6, hw6⟩ : ∃ x : World, x = wc := ⟨_, rfl⟩
    subst hw6
    have HBT := Lib.hid hbt
    have HG6 := Lib.hid (gr_below HG5.out hb6)
    have hb6z := Lib.hid hb6.size
    have HR6 := Lib.hid (HR5.out.keep hb6)
    have HL6 := Lib.hid (HL5.out.keep hb6)
    have HT6 := Lib.hid (HT5.out.keep hb6)
    clear hbt hb6 p0 p1 p2 p3
    go_upto_if 30 with fail
    go_cut [10, 11] (fun s10 s11 wx => ∃ (At : Option Addr) (ct : Nat) (t : List Int) (Al : Option Addr) (cl : Nat) (vals : List Int) (q' : Nat), s10 = .slice At t.length ct ∧ OInts wx w4.heap.size (.slice At t.length ct) t ∧ Small t ∧ Off (.slice At t.length ct) (.slice Al vals.length cl) ∧ s11 = .slice Al vals.length cl ∧ OInts wx (w4.heap.size + 1) (.slice Al vals.length cl) vals ∧ vals.length ≤ 5 ∧ w4.grownBy wx (some g) ∧ RRd wx g q' ∧ q' ≤ p + 90000)
    case first =>
      cases b with
      | false =>
        go_wp2
        go_meet
        case rel => exact ⟨_, _, [], _, _, [], q4, rfl, HT6.out, (fun x hx => by cases hx), .inr (by simp [Value.ownBlock]), rfl, HL6.out, by simp, HG6.out, HR6.out, by omega⟩
      | true =>
        obtain ⟨hmb, hvb⟩ := HBT.out rfl
        have hf := model_facts hmb
        have HVA := Lib.hid hf.va
        have hvv := vars_valid hvb
        have HVI := Lib.hid (show ∀ (k : Nat) (h : k < vars.length), 0 ≤ vars[k] ∧ vars[k] < (m.sizes.length : Int) from fun k hk => by have := hvv.2.2 k hk; have := hf.sl; omega)
        have hv4 : vars.length ≤ 4 := hvv.2.1
        clear hmb hvb hf hvv
        have p0 := block_cell (gr_at HG6.out (by omega) HBA.out) 0
        have p1 := block_cell (gr_at HG6.out (by omega) HBA.out) 1
        have p2 := block_cell (gr_at HG6.out (by omega) HBB.out) 0
        have p3 := block_cell (gr_at HG6.out (by omega) HBB.out) 1
        simp at p0 p1 p2 p3
        go_wp2_with fail
        refine (drawAny_any ⟨sorts, rows⟩ vars HVA.out (by omega) 2 (by omega) g q4 _ _ w6 HR6.out (by rw [qb2vt]; omega) ⟨_, rfl, (HO4.out.grown HG6.out (fun k e => by injection e with e; omega)).base (by omega)⟩ (OInts.base (show OInts w6 (w.heap.size + 2) (.slice Av vars.length cv) vars from own_past HV4.out HG6.out (by omega)) (by omega))).mono ?_
        rintro x w7 ⟨tv, t, q7, rfl, ⟨adt, ct, rfl⟩, ot7, -, hst, hr7, hq7, hg7⟩
        have hgt := own_lt ot7
        have HT7 := Lib.hid (ot7.base (B' := w4.heap.size) HG6.out.size)
        have HST := Lib.hid hst
        have HTL := Lib.hid (show ∀ k, (Value.slice (some adt) t.length ct).ownBlock = some k → w6.heap.size ≤ k from fun k e => (hgt k e).1)
        have hz6 : w4.heap.size + 2 ≤ w6.heap.size := by have := HG6.out.size; have := HZ5.out; have := hb6z.out; omega
        clear ot7 hst hgt
        rw [qb2vt] at hq7
        have HG7 := Lib.hid (gr_trans HG6.out hg7 (fun x e => by injection e with e; exact .inl e.symm))
        have HR7 := Lib.hid hr7
        have HL7 := Lib.hid (show OInts w7 (w4.heap.size + 1) (.slice (some ⟨w4.heap.size + 1, 0, none⟩) ([] : List Int).length 0) [] from own_past HL6.out hg7 (by omega))
        clear hr7 hg7 p0 p1 p2 p3
        go_wp2
        go_loopw [11, 12] (fun s11 i wr => ∃ (k : Nat) (Al : Option Addr) (cl : Nat) (vals : List Int) (q : Nat), k ≤ vars.length ∧ i = .int .i64 k ∧ s11 = .slice Al vals.length cl ∧ OInts wr (w4.heap.size + 1) (.slice Al vals.length cl) vals ∧ OInts wr w4.heap.size (.slice (some adt) t.length ct) t ∧ Off (.slice (some adt) t.length ct) (.slice Al vals.length cl) ∧ vals.length = k ∧ w4.grownBy wr (some g) ∧ RRd wr g q ∧ q ≤ q7 + k) (fun _ i _ => vars.length - (intOf i).toNat)
        case atStart => exact ⟨0, _, _, [], q7, Nat.zero_le _, rfl, rfl, HL7.out, HT7.out, (by have h := HTL.out; unfold Off; cases ho : (Value.slice (some adt) t.length ct).ownBlock with | none => exact .inl rfl | some b => exact .inr (by have := h b ho; simp [Value.ownBlock]; omega)), rfl, HG7.out, HR7.out, Nat.le_refl _⟩
        case round =>
          obtain ⟨k, Al, cl, vals, q, hk, rfl, rfl, hlv, htk, hof, hll, hgk, hrk, hqk⟩ := hrel
          have HTK := Lib.hid htk
          have HOF := Lib.hid hof
          clear htk hof
          obtain ⟨wk, hwk⟩ : ∃ x : World, x = wr := ⟨_, rfl⟩
          subst hwk
          have HLV := Lib.hid hlv
          have HVL := Lib.hid hll
          have HGK := Lib.hid hgk
          have HRK := Lib.hid hrk
          have HQ := Lib.hid hqk
          by_cases hlt : k < vars.length
          · have hlt' : (k : Int) < (vars.length : Int) := by omega
            have HPP := Lib.hid (show vals.length + 1 ≤ maxLen ∧ (vals.length + 1) * 8 ≤ 140737488355328 by rw [maxLen_eq]; omega)
            have hq9 : q ≤ 1000000000 := by omega
            obtain ⟨bv, ovv, cvv, e, hx⟩ := (show OInts wk (w.heap.size + 2) (.slice Av vars.length cv) vars from own_past HV4.out hgk (by omega)).reads.at_ hlt
            cases e
            obtain ⟨hi1, hi2⟩ := HVI.out k hlt
            generalize vars[k] = so at hx hi1 hi2
            obtain ⟨sn, rfl⟩ : ∃ n : Nat, so = (n : Int) := ⟨so.toNat, by omega⟩
            have hsn : sn < m.sizes.length := by omega
            obtain ⟨bz, oz, cz, e, hzc⟩ := (OModel.past HM4.out hgk (by omega)).reads.of.1.at_ hsn
            cases e
            generalize m.sizes[sn] = z at hzc
            have e2 := block_cell (gr_at hgk (by omega) HBB.out) 0
            simp at e2
            replace hx : wk.drew.cell? _ = _ := hx
            replace hzc : wk.drew.cell? _ = _ := hzc
            replace e2 : wk.drew.cell? _ = _ := e2
            clear hlv hll hgk hrk hqk
            go_wp2_with fail
            refine wp_region_held_drew (S := (fun _ => True)) (by kernel_rfl) ?_ (fun hHeld => ?_)
            · exact trivial
            refine wpAnyH_take (i := 0) (oi := _) (v := ?_) rfl (by kernel_rfl) (by kernel_rfl) (by kernel_rfl) (fun _ _ _ h => h) (Or.inl ⟨by rfl, ?_⟩) (by assumption) ?_
            rotate_left
            · first | (intro w' hSw; (try dsimp only at hSw); go_simp; done) | (intro w' hSw; (try dsimp only at hSw); go_simp; with_reducible rfl)
            try simp only [Act.put, List.getElem_toArray, List.getElem_cons_zero, List.getElem_cons_succ, List.setIfInBounds_toArray, List.set_cons_zero, List.set_cons_succ]
            refine wpAnyH_take (i := 1) (oi := _) (v := ?_) rfl (by kernel_rfl) (by kernel_rfl) (by kernel_rfl) (fun _ _ _ h => h) (Or.inl ⟨by rfl, ?_⟩) (by assumption) ?_
            rotate_left
            · first | (intro w' hSw; (try dsimp only at hSw); go_simp; done) | (intro w' hSw; (try dsimp only at hSw); go_simp; with_reducible rfl)
            try simp only [Act.put, List.getElem_toArray, List.getElem_cons_zero, List.getElem_cons_succ, List.setIfInBounds_toArray, List.set_cons_zero, List.set_cons_succ]
            refine wpAnyH_take (i := 2) (oi := _) (v := ?_) rfl (by kernel_rfl) (by kernel_rfl) (by kernel_rfl) (fun _ _ _ h => h) (Or.inl ⟨by rfl, ?_⟩) (by assumption) ?_
            rotate_left
            · first | (intro w' hSw; (try dsimp only at hSw); go_simp; done) | (intro w' hSw; (try dsimp only at hSw); go_simp; with_reducible rfl)
            try simp only [Act.put, List.getElem_toArray, List.getElem_cons_zero, List.getElem_cons_succ, List.setIfInBounds_toArray, List.set_cons_zero, List.set_cons_succ]
            refine wpAnyH_take (i := 4) (oi := _) (v := ?_) rfl (by kernel_rfl) (by kernel_rfl) (by kernel_rfl) (fun _ _ _ h => h) (Or.inl ⟨by rfl, ?_⟩) (by assumption) ?_
            rotate_left
            · first | (intro w' hSw; (try dsimp only at hSw); go_simp; done) | (intro w' hSw; (try dsimp only at hSw); go_simp; with_reducible rfl)
            try simp only [Act.put, List.getElem_toArray, List.getElem_cons_zero, List.getElem_cons_succ, List.setIfInBounds_toArray, List.set_cons_zero, List.set_cons_succ]
            refine wpAnyH_take (i := 5) (oi := _) (v := ?_) rfl (by kernel_rfl) (by kernel_rfl) (by kernel_rfl) (fun _ _ _ h => h) (Or.inl ⟨by rfl, ?_⟩) (by assumption) ?_
            rotate_left
            · first | (intro w' hSw; (try dsimp only at hSw); go_simp; done) | (intro w' hSw; (try dsimp only at hSw); go_simp; with_reducible rfl)
            try simp only [Act.put, List.getElem_toArray, List.getElem_cons_zero, List.getElem_cons_succ, List.setIfInBounds_toArray, List.set_cons_zero, List.set_cons_succ]
            refine wpAnyH_take (i := 6) (oi := _) (v := ?_) rfl (by kernel_rfl) (by kernel_rfl) (by kernel_rfl) (fun _ _ _ h => h) (Or.inl ⟨by rfl, ?_⟩) (by assumption) ?_
            rotate_left
            · first | (intro w' hSw; (try dsimp only at hSw); go_simp; done) | (intro w' hSw; (try dsimp only at hSw); go_simp; with_reducible rfl)
            try simp only [Act.put, List.getElem_toArray, List.getElem_cons_zero, List.getElem_cons_succ, List.setIfInBounds_toArray, List.set_cons_zero, List.set_cons_succ]
            refine wpAnyH_ready (rs := [3, 7]) (by kernel_rfl) (by simp) ?_
            refine AllReadyH.cons (o := _) rfl (fun K hK => ?_) ?_
            · go_simp
              refine hK.out _ _ trivial (fun hHeld => ?_)
              clear hK K
              try simp only [Act.put, List.getElem_toArray, List.getElem_cons_zero, List.getElem_cons_succ, List.setIfInBounds_toArray, List.set_cons_zero, List.set_cons_succ]
              refine wpAnyH_ready (rs := [7]) (by kernel_rfl) (by simp) ?_
              refine AllReadyH.cons (o := _) rfl (fun K hK => ?_) ?_
              · go_simp
                refine hK.out _ _ trivial (fun hHeld => ?_)
                clear hK K
                try simp only [Act.put, List.getElem_toArray, List.getElem_cons_zero, List.getElem_cons_succ, List.setIfInBounds_toArray, List.set_cons_zero, List.set_cons_succ]
                refine wpAnyH_ready (rs := [8]) (by kernel_rfl) (by simp) ?_
                refine AllReadyH.cons (o := _) rfl (fun K hK => ?_) ?_
                · go_simp
                  refine hK.out _ _ trivial (fun hHeld => ?_)
                  clear hK K
                  try simp only [Act.put, List.getElem_toArray, List.getElem_cons_zero, List.getElem_cons_succ, List.setIfInBounds_toArray, List.set_cons_zero, List.set_cons_succ]
                  refine wpAnyH_ready (rs := [9]) (by kernel_rfl) (by simp) ?_
                  refine AllReadyH.cons (o := _) rfl (fun K hK => ?_) ?_
                  · go_simp
                    refine hK.out _ _ trivial (fun hHeld => ?_)
                    clear hK K
                    try simp only [Act.put, List.getElem_toArray, List.getElem_cons_zero, List.getElem_cons_succ, List.setIfInBounds_toArray, List.set_cons_zero, List.set_cons_succ]
                    refine wpAnyH_ready (rs := [10]) (by kernel_rfl) (by simp) ?_
                    refine AllReadyH.cons (o := _) rfl (fun K hK => ?_) ?_
                    · go_simp
                      refine (pick_any g q _ wk.drew (show RRd wk.drew g q from HRK.out) (by omega)).mono ?_
                      rintro e wp ⟨y, rfl, hy, hr, hgp⟩
                      have hgp := gr_undrewvt hgp
                      have HRP := Lib.hid hr
                      have HGP := Lib.hid hgp
                      have HTP := Lib.hid (show OInts wp w4.heap.size (.slice (some adt) t.length ct) t from own_past HTK.out hgp (by omega))
                      have HLP := Lib.hid (show OInts wp (w4.heap.size + 1) (.slice Al vals.length cl) vals from own_past HLV.out hgp (by omega))
                      clear hr hgp hy
                      go_wp2_with fail
                      refine hK.out _ _ trivial (fun hHeld => ?_)
                      clear hK K
                      try simp only [Act.put, List.getElem_toArray, List.getElem_cons_zero, List.getElem_cons_succ, List.setIfInBounds_toArray, List.set_cons_zero, List.set_cons_succ]
                      refine wpAnyH_ready (rs := [11]) (by kernel_rfl) (by simp) ?_
                      refine AllReadyH.cons (o := _) rfl (fun K hK => ?_) ?_
                      · go_simp
                        have HTQ := Lib.hid (HTP.out.keep (below_alloc wp (.cells #[.int .i64 y] 3)))
                        have HLQ := Lib.hid (HLP.out.keep (below_alloc wp (.cells #[.int .i64 y] 3)))
                        have HN1 := Lib.hid (led_new wp y)
                        refine hK.out _ _ trivial (fun hHeld => ?_)
                        clear hK K
                        try simp only [Act.put, List.getElem_toArray, List.getElem_cons_zero, List.getElem_cons_succ, List.setIfInBounds_toArray, List.set_cons_zero, List.set_cons_succ]
                        refine wpAnyH_ready (rs := [12]) (by kernel_rfl) (by simp) ?_
                        refine AllReadyH.cons (o := _) rfl (fun K hK => ?_) ?_
                        · refine step_append_own_at rfl (.tmp 41) (.tmp 52) 26 rfl (w4.heap.size + 1) 3 i0 (.int .i64 0) 1 8 Try.underlying26 hi0 hz0 hz1 hz2 rfl (by omega) _ vals.length (vals.map (Value.int .i64)) rfl HLQ.out ⟨wp.heap.size, 0, none⟩ 1 1 ([y].map (Value.int .i64)) rfl (by simp) HN1.out (ints_one _) HPP.out.1 HPP.out.2 (by have := HGK.out.size; have := HGP.out.size; have := HZ5.out; simp; omega) ?_
                          intro v6 w6 hv6 hg6 hat6
                          have HT6n := Lib.hid (show OInts w6 w4.heap.size (.slice (some adt) t.length ct) t from own_grown HTQ.out hg6 HOF.out)
                          have HOF6 := Lib.hid (off_new HOF.out (fun k e => (own_lt HTP.out k e).2) (N := (wp.alloc (.cells #[.int .i64 y] 3)).heap.size) (by simp) hat6)
                          clear hat6
                          have HO6 := Lib.hid (led_app (rs := [y]) rfl hv6)
                          obtain ⟨A6, c6, rfl, -⟩ := own_reads hv6
                          have HG6 := Lib.hid (gr_trans (gr_trans HGK.out (gr_alloc HGP.out (.cells #[.int .i64 y] 3)) (fun k e => by injection e with e; exact .inl e.symm)) hg6 (fun k e => .inr (by have := (own_lt HLV.out k e).1; omega)))
                          have HR6 := Lib.hid ((HRP.out.keep (below_alloc wp (.cells #[.int .i64 y] 3))).grown hg6 (fun k e => by have := (own_lt HLV.out k e).1; omega))
                          clear hv6 hg6
                          refine hK.out _ _ trivial (fun hHeld => ?_)
                          clear hK K
                          try simp only [Act.put, List.getElem_toArray, List.getElem_cons_zero, List.getElem_cons_succ, List.setIfInBounds_toArray, List.set_cons_zero, List.set_cons_succ]
                          refine wpAnyH_ready (rs := [13]) (by kernel_rfl) (by simp) ?_
                          refine AllReadyH.cons (o := _) rfl (fun K hK => ?_) ?_
                          · go_simp
                            refine hK.out _ _ trivial (fun hHeld => ?_)
                            clear hK K
                            try simp only [Act.put, List.getElem_toArray, List.getElem_cons_zero, List.getElem_cons_succ, List.setIfInBounds_toArray, List.set_cons_zero, List.set_cons_succ]
                            refine wpAnyH_done (by kernel_rfl) ?_ _
                            go_wp2
                            go_roundw
                            case rel => exact ⟨k + 1, _, _, vals ++ [y], q + 1, by omega, by go_num, by rw [List.length_append]; rfl, by rw [List.length_append]; exact HO6.out, HT6n.out, by rw [List.length_append]; exact HOF6.out, by have := HVL.out; simp; omega, HG6.out, HR6.out, by have := HQ.out; omega⟩
                            case measure => simp [intOf]; omega
                          exact AllReadyH.nil
                        exact AllReadyH.nil
                      exact AllReadyH.nil
                    exact AllReadyH.nil
                  exact AllReadyH.nil
                exact AllReadyH.nil
              exact AllReadyH.nil
            refine AllReadyH.cons (o := _) rfl (fun K hK => ?_) ?_
            · go_simp
              refine hK.out _ _ trivial (fun hHeld => ?_)
              clear hK K
              try simp only [Act.put, List.getElem_toArray, List.getElem_cons_zero, List.getElem_cons_succ, List.setIfInBounds_toArray, List.set_cons_zero, List.set_cons_succ]
              refine wpAnyH_ready (rs := [3]) (by kernel_rfl) (by simp) ?_
              refine AllReadyH.cons (o := _) rfl (fun K hK => ?_) ?_
              · go_simp
                refine hK.out _ _ trivial (fun hHeld => ?_)
                clear hK K
                try simp only [Act.put, List.getElem_toArray, List.getElem_cons_zero, List.getElem_cons_succ, List.setIfInBounds_toArray, List.set_cons_zero, List.set_cons_succ]
                refine wpAnyH_ready (rs := [8]) (by kernel_rfl) (by simp) ?_
                refine AllReadyH.cons (o := _) rfl (fun K hK => ?_) ?_
                · go_simp
                  refine hK.out _ _ trivial (fun hHeld => ?_)
                  clear hK K
                  try simp only [Act.put, List.getElem_toArray, List.getElem_cons_zero, List.getElem_cons_succ, List.setIfInBounds_toArray, List.set_cons_zero, List.set_cons_succ]
                  refine wpAnyH_ready (rs := [9]) (by kernel_rfl) (by simp) ?_
                  refine AllReadyH.cons (o := _) rfl (fun K hK => ?_) ?_
                  · go_simp
                    refine hK.out _ _ trivial (fun hHeld => ?_)
                    clear hK K
                    try simp only [Act.put, List.getElem_toArray, List.getElem_cons_zero, List.getElem_cons_succ, List.setIfInBounds_toArray, List.set_cons_zero, List.set_cons_succ]
                    refine wpAnyH_ready (rs := [10]) (by kernel_rfl) (by simp) ?_
                    refine AllReadyH.cons (o := _) rfl (fun K hK => ?_) ?_
                    · go_simp
                      refine (pick_any g q _ wk.drew (show RRd wk.drew g q from HRK.out) (by omega)).mono ?_
                      rintro e wp ⟨y, rfl, hy, hr, hgp⟩
                      have hgp := gr_undrewvt hgp
                      have HRP := Lib.hid hr
                      have HGP := Lib.hid hgp
                      have HTP := Lib.hid (show OInts wp w4.heap.size (.slice (some adt) t.length ct) t from own_past HTK.out hgp (by omega))
                      have HLP := Lib.hid (show OInts wp (w4.heap.size + 1) (.slice Al vals.length cl) vals from own_past HLV.out hgp (by omega))
                      clear hr hgp hy
                      go_wp2_with fail
                      refine hK.out _ _ trivial (fun hHeld => ?_)
                      clear hK K
                      try simp only [Act.put, List.getElem_toArray, List.getElem_cons_zero, List.getElem_cons_succ, List.setIfInBounds_toArray, List.set_cons_zero, List.set_cons_succ]
                      refine wpAnyH_ready (rs := [11]) (by kernel_rfl) (by simp) ?_
                      refine AllReadyH.cons (o := _) rfl (fun K hK => ?_) ?_
                      · go_simp
                        have HTQ := Lib.hid (HTP.out.keep (below_alloc wp (.cells #[.int .i64 y] 3)))
                        have HLQ := Lib.hid (HLP.out.keep (below_alloc wp (.cells #[.int .i64 y] 3)))
                        have HN1 := Lib.hid (led_new wp y)
                        refine hK.out _ _ trivial (fun hHeld => ?_)
                        clear hK K
                        try simp only [Act.put, List.getElem_toArray, List.getElem_cons_zero, List.getElem_cons_succ, List.setIfInBounds_toArray, List.set_cons_zero, List.set_cons_succ]
                        refine wpAnyH_ready (rs := [12]) (by kernel_rfl) (by simp) ?_
                        refine AllReadyH.cons (o := _) rfl (fun K hK => ?_) ?_
                        · refine step_append_own_at rfl (.tmp 41) (.tmp 52) 26 rfl (w4.heap.size + 1) 3 i0 (.int .i64 0) 1 8 Try.underlying26 hi0 hz0 hz1 hz2 rfl (by omega) _ vals.length (vals.map (Value.int .i64)) rfl HLQ.out ⟨wp.heap.size, 0, none⟩ 1 1 ([y].map (Value.int .i64)) rfl (by simp) HN1.out (ints_one _) HPP.out.1 HPP.out.2 (by have := HGK.out.size; have := HGP.out.size; have := HZ5.out; simp; omega) ?_
                          intro v6 w6 hv6 hg6 hat6
                          have HT6n := Lib.hid (show OInts w6 w4.heap.size (.slice (some adt) t.length ct) t from own_grown HTQ.out hg6 HOF.out)
                          have HOF6 := Lib.hid (off_new HOF.out (fun k e => (own_lt HTP.out k e).2) (N := (wp.alloc (.cells #[.int .i64 y] 3)).heap.size) (by simp) hat6)
                          clear hat6
                          have HO6 := Lib.hid (led_app (rs := [y]) rfl hv6)
                          obtain ⟨A6, c6, rfl, -⟩ := own_reads hv6
                          have HG6 := Lib.hid (gr_trans (gr_trans HGK.out (gr_alloc HGP.out (.cells #[.int .i64 y] 3)) (fun k e => by injection e with e; exact .inl e.symm)) hg6 (fun k e => .inr (by have := (own_lt HLV.out k e).1; omega)))
                          have HR6 := Lib.hid ((HRP.out.keep (below_alloc wp (.cells #[.int .i64 y] 3))).grown hg6 (fun k e => by have := (own_lt HLV.out k e).1; omega))
                          clear hv6 hg6
                          refine hK.out _ _ trivial (fun hHeld => ?_)
                          clear hK K
                          try simp only [Act.put, List.getElem_toArray, List.getElem_cons_zero, List.getElem_cons_succ, List.setIfInBounds_toArray, List.set_cons_zero, List.set_cons_succ]
                          refine wpAnyH_ready (rs := [13]) (by kernel_rfl) (by simp) ?_
                          refine AllReadyH.cons (o := _) rfl (fun K hK => ?_) ?_
                          · go_simp
                            refine hK.out _ _ trivial (fun hHeld => ?_)
                            clear hK K
                            try simp only [Act.put, List.getElem_toArray, List.getElem_cons_zero, List.getElem_cons_succ, List.setIfInBounds_toArray, List.set_cons_zero, List.set_cons_succ]
                            refine wpAnyH_done (by kernel_rfl) ?_ _
                            go_wp2
                            go_roundw
                            case rel => exact ⟨k + 1, _, _, vals ++ [y], q + 1, by omega, by go_num, by rw [List.length_append]; rfl, by rw [List.length_append]; exact HO6.out, HT6n.out, by rw [List.length_append]; exact HOF6.out, by have := HVL.out; simp; omega, HG6.out, HR6.out, by have := HQ.out; omega⟩
                            case measure => simp [intOf]; omega
                          exact AllReadyH.nil
                        exact AllReadyH.nil
                      exact AllReadyH.nil
                    exact AllReadyH.nil
                  exact AllReadyH.nil
                exact AllReadyH.nil
              exact AllReadyH.nil
            exact AllReadyH.nil
          · have hlt' : ¬ (k : Int) < (vars.length : Int) := by omega
            have hvk : vals.length ≤ 5 := by omega
            have hqk2 : q ≤ p + 90000 := by omega
            clear hlv hgk hrk hll hqk
            go_wp2
            go_meet
            case rel => exact ⟨_, _, t, _, _, vals, q, rfl, HTK.out, HST.out, HOF.out, rfl, HLV.out, hvk, HGK.out, HRK.out, hqk2⟩
    case rest =>
      obtain ⟨At, ct, t, Al, cl, vals, q8, rfl, ht8, hst8, hof8, rfl, hlv, hvl5, hg8, hr8, hq8⟩ := hcut
      have HT8 := Lib.hid ht8
      have HST := Lib.hid hst8
      have HOF := Lib.hid hof8
      clear ht8 hst8 hof8
      obtain ⟨w8, hw8⟩ : ∃ x : World, x = wc := ⟨_, rfl⟩
      subst hw8
      have HLV := Lib.hid hlv
      have HG8 := Lib.hid hg8
      have HR8 := Lib.hid hr8
      clear hlv hg8 hr8
      go_wp2_with fail
      refine (odd_any g q8 16 _ HR8.out (by omega) (by omega) (by omega)).mono ?_
      rintro x w9 ⟨b, q9, rfl, hr9, hq9, hg9⟩
      have HG9 := Lib.hid (gr_trans HG8.out hg9 (fun x e => by injection e with e; exact .inl e.symm))
      have HR9 := Lib.hid hr9
      have HL9 := Lib.hid (show OInts w9 (w4.heap.size + 1) (.slice Al vals.length cl) vals from own_past HLV.out hg9 (by omega))
      have HT9 := Lib.hid (show OInts w9 w4.heap.size (.slice At t.length ct) t from own_past HT8.out hg9 (by omega))
      clear hr9 hg9
      go_upto_if 55 with fail
      go_cut [11] (fun s11 wx => ∃ (Al : Option Addr) (cl : Nat) (vals : List Int) (q' : Nat), s11 = .slice Al vals.length cl ∧ OInts wx (w4.heap.size + 1) (.slice Al vals.length cl) vals ∧ OInts wx w4.heap.size (.slice At t.length ct) t ∧ vals.length ≤ 6 ∧ w4.grownBy wx (some g) ∧ RRd wx g q' ∧ q' ≤ p + 100000)
      case first =>
        cases b with
        | false =>
          go_wp2
          go_meet
          case rel => exact ⟨_, _, vals, q9, rfl, HL9.out, HT9.out, by omega, HG9.out, HR9.out, by omega⟩
        | true =>
          go_wp2_with (at_builtin; refine wpList_append_own _ rfl _ _ 26 rfl (w4.heap.size + 1) 3 i0 (.int .i64 0) 1 8 Try.underlying26 hi0 hz0 hz1 hz2 rfl (by decide) _ vals.length (vals.map (Value.int .i64)) rfl (own_keep HL9.out (below_alloc w9 _)) ⟨w9.heap.size, 0, none⟩ 1 1 ([(0 : Int)].map (Value.int .i64)) rfl (by simp) (led_new w9 (0 : Int)) (ints_one _) (by rw [maxLen_eq]; omega) (by omega) (by have := HG9.out.size; simp; have := (own_lt HL9.out); omega) ?_)
          intro v6 w6' hv6 hg6 _
          have HTA := Lib.hid (show OInts w6' w4.heap.size (.slice At t.length ct) t from own_grown (HT9.out.keep (below_alloc w9 _)) hg6 HOF.out)
          have HOA := Lib.hid (led_app (rs := [(0 : Int)]) rfl hv6)
          obtain ⟨A6, c6, rfl, -⟩ := own_reads hv6
          have HGA := Lib.hid (gr_trans (gr_alloc HG9.out (.cells #[.int .i64 (0 : Int)] 3)) hg6 (fun k e => .inr (by have := (own_lt HL9.out k e).1; omega)))
          have HRA := Lib.hid ((HR9.out.keep (below_alloc w9 (.cells #[.int .i64 (0 : Int)] 3))).grown hg6 (fun k e => by have := (own_lt HL9.out k e).1; omega))
          clear hv6 hg6
          go_wp2
          go_meet
          case rel => exact ⟨_, _, vals ++ [0], q9, by rw [List.length_append]; rfl, by rw [List.length_append]; exact HOA.out, HTA.out, by simp; omega, HGA.out, HRA.out, by omega⟩
      case rest =>
        obtain ⟨Al', cl', vals', qz, rfl, hlv, htz, hvl6, hgz, hrz, hqz⟩ := hcut
        have HTZ := Lib.hid htz
        clear htz
        obtain ⟨wz, hwz⟩ : ∃ x : World, x = wc := ⟨_, rfl⟩
        subst hwz
        have HLZ := Lib.hid hlv
        have HGZ := Lib.hid hgz
        have HRZ := Lib.hid hrz
        clear hlv hgz hrz
        have p0 := block_cell (gr_at HGZ.out (by omega) HBA.out) 0
        have p1 := block_cell (gr_at HGZ.out (by omega) HBA.out) 1
        have p2 := block_cell (gr_at HGZ.out (by omega) HBB.out) 0
        have p3 := block_cell (gr_at HGZ.out (by omega) HBB.out) 1
        simp at p0 p1 p2 p3
        have hra := gr_at HGZ.out (by omega) HRA4.out
        have hrb := gr_at HGZ.out (by omega) HRB4.out
        have r0 := block_cell hra 0
        have rf0 := block_free hra 0
        have r1 := block_cell hra 1
        have rf1 := block_free hra 1
        have r2 := block_cell hrb 0
        have rf2 := block_free hrb 0
        have r3 := block_cell hrb 1
        have rf3 := block_free hrb 1
        simp at r0 r1 r2 r3
        have HGWZ := Lib.hid (gr_trans HGW4.out HGZ.out (fun x e => by injection e with e; exact .inl e.symm))
        go_wp2_with fail
        go_region_held3 (fun w' => w'.cell? ⟨w2.heap.size, 0, none⟩ = some (.int .i64 sorts) ∧ w'.cell? ⟨w2.heap.size, 1, none⟩ = some (.slice Au rows.length cu) ∧ w'.cell? ⟨w2.heap.size + 1, 0, none⟩ = some (.slice A0 m.sizes.length c0) ∧ w'.cell? ⟨w2.heap.size + 1, 1, none⟩ = some (.slice A1 m.tables.length c1)) (first | with_reducible exact ⟨drew_cellm p0, drew_cellm p1, drew_cellm p2, drew_cellm p3⟩ | with_reducible exact ⟨drew_cellm (keep2m p0 (by omega)), drew_cellm (keep2m p1 (by omega)), drew_cellm (keep2m p2 (by omega)), drew_cellm (keep2m p3 (by omega))⟩ | with_reducible exact ⟨drew_cellm (keep2m (keep2m p0 (by omega)) (by omega)), drew_cellm (keep2m (keep2m p1 (by omega)) (by omega)), drew_cellm (keep2m (keep2m p2 (by omega)) (by omega)), drew_cellm (keep2m (keep2m p3 (by omega)) (by omega))⟩) (fail)
        clear p0 p1 p2 p3
        have d0 := ((put2_other (x := (.slice A0 m.sizes.length c0)) (y := (.slice A1 m.tables.length c1)) (show w.heap.size ≠ w.heap.size + 1 by omega)).trans (put2_at (x := (.int .i64 sorts)) (y := (.slice Au rows.length cu)) hra))
        have d1 := (put2_at (x := (.slice A0 m.sizes.length c0)) (y := (.slice A1 m.tables.length c1)) ((put2_other (x := (.int .i64 sorts)) (y := (.slice Au rows.length cu)) (show w.heap.size + 1 ≠ w.heap.size by omega)).trans hrb))
        have HLOW := Lib.hid (fun (k : Nat) (hk : w.heap.size + 2 ≤ k) => ((put2_other (x := (.slice A0 m.sizes.length c0)) (y := (.slice A1 m.tables.length c1)) (show k ≠ w.heap.size + 1 by omega)).trans (put2_other (wz := wz) (x := (.int .i64 sorts)) (y := (.slice Au rows.length cu)) (show k ≠ w.heap.size by omega))))
        have HRDZ := Lib.hid (put2_rd (b := w.heap.size + 1) (x := (.slice A0 m.sizes.length c0)) (y := (.slice A1 m.tables.length c1)) (put2_rd (b := w.heap.size) (x := (.int .i64 sorts)) (y := (.slice Au rows.length cu)) HRZ.out (by omega)) (by omega))
        have HGRZ := Lib.hid (put2_gr (b := w.heap.size + 1) (x := (.slice A0 m.sizes.length c0)) (y := (.slice A1 m.tables.length c1)) (put2_gr (b := w.heap.size) (x := (.int .i64 sorts)) (y := (.slice Au rows.length cu)) HGWZ.out (by omega)) (by omega))
        clear r0 rf0 r1 rf1 r2 rf2 r3 rf3
        generalize (((wz.setCell ⟨w.heap.size, 0, none⟩ (.int .i64 sorts)).setCell ⟨w.heap.size, 1, none⟩ (.slice Au rows.length cu)).setCell ⟨w.heap.size + 1, 0, none⟩ (.slice A0 m.sizes.length c0)).setCell ⟨w.heap.size + 1, 1, none⟩ (.slice A1 m.tables.length c1) = w9z at d0 d1 HLOW HRDZ HGRZ ⊢
        have k0 := drew_cellm (block_cell d0 0)
        have k1 := drew_cellm (block_cell d0 1)
        have k2 := drew_cellm (block_cell d1 0)
        have k3 := drew_cellm (block_cell d1 1)
        simp at k0 k1 k2 k3
        go_wp2
        refine bodyPost_ret (v := .tuple #[.agg #[.int .i64 sorts, .slice Au rows.length cu], .agg #[.slice A0 m.sizes.length c0, .slice A1 m.tables.length c1], .slice Av vars.length cv, .slice At t.length ct, .slice Al' vals'.length cl']) (by simp [results, Try.results63, go_sem, k0, k1, k2, k3]) rfl ?_
        exact ⟨_, _, _, _, _, ⟨sorts, rows⟩, m, vars, vals', qz, w4, rfl, by omega, ⟨_, rfl, HO4.out⟩, HM4.out, HF.out, HV4.out, hvl, (fun k h1 h2 => (HLOW.out k h1).trans (HGZ.out.block k h2 (fun e => by injection e with e; omega))), OInts.base (show OInts w9z.drew (w4.heap.size + 1) (.slice Al' vals'.length cl') vals' from HLZ.out.same (fun k h1 h2 => HLOW.out k (by omega))) (by omega), hvl6, HRDZ.out, hqz, gr_todrewm HGRZ.out, t, (show OInts w9z.drew w4.heap.size (.slice At t.length ct) t from HTZ.out.same (fun k h1 h2 => HLOW.out k (by omega))), HST.out⟩

/-- what DrawValueOf answers -/
def DrawVaPost (w : World) (x : Ending) (w' : World) : Prop :=
  ∃ (sv mv vv tv lv : Value) (s : MSig) (m : MModel) (vars t vals : List Int), x = .returned (.tuple #[sv, mv, vv, tv, lv]) ∧ RSig w' sv s ∧ RModel w' mv m ∧ RInts w' vv vars ∧ vars.length ≤ 5 ∧ RInts w' tv t ∧ Small t ∧ RInts w' lv vals ∧ vals.length ≤ 6 ∧ Below w.heap.size w w'
set_option maxHeartbeats 3200000 in
set_option maxRecDepth 100000 in
theorem drawValueOf_any (v : Value) (bs : List Int) (w : World) (h : RBytes w w.heap.size v bs) :
    Calls Try.prog 9 #[v] w (DrawVaPost w) := by
  obtain ⟨W, hW⟩ : ∃ W : World, W = (w.alloc (.cells #[.int .i64 0, .slice none 0 0] 25)).alloc (.cells #[.slice none 0 0, .slice none 0 0] 28) := ⟨_, rfl⟩
  have hb0 : Below w.heap.size w W := by rw [hW]; exact (below_alloc _ _).alloc (by simp) _
  have HB0 := Lib.hid hb0
  have HZ0 := Lib.hid (show W.heap.size = w.heap.size + 2 by rw [hW]; simp)
  have HZR0 := Lib.hid (show W.heap[w.heap.size]? = some (.cells #[.int .i64 0, .slice none 0 0] 25 (0, 0)) by rw [hW]; exact (heap_alloc_old (w.alloc (.cells #[.int .i64 0, .slice none 0 0] 25)) _ (by simp)).trans (heap_alloc_new (w) _))
  have HZR1 := Lib.hid (show W.heap[w.heap.size + 1]? = some (.cells #[.slice none 0 0, .slice none 0 0] 28 (0, 0)) by rw [hW]; exact (congrArg (fun i => ((w.alloc (.cells #[.int .i64 0, .slice none 0 0] 25)).alloc (.cells #[.slice none 0 0, .slice none 0 0] 28)).heap[i]?) (by simp)).trans (heap_alloc_new (w.alloc (.cells #[.int .i64 0, .slice none 0 0] 25)) _))
  have HW := Lib.hid (bytes_alloc h hb0)
  obtain ⟨A, c, rfl, -⟩ := h
  have hW' := hW.symm
  clear hb0 hW
  go_enter Try.func9, Try.ntmps9
  go_wp2_with fail
  clear hW'
  refine (open_any _ bs _ HW.out).mono ?_
  rintro e w1 ⟨rfl, hr1, hb1⟩
  rw [HZ0.out] at hr1
  have HR1 := Lib.hid hr1
  have HB1 := Lib.hid hb1
  rw [HZ0.out]
  have hzW := HZ0.out
  have hz1 := HB1.out.size
  have hlt1 : w.heap.size + 2 < w1.heap.size := HR1.out.lt
  clear hr1 hb1
  go_wp2_with fail
  refine (valuedT_any (w.heap.size + 2) 0 _ HR1.out (by omega)).mono ?_
  rintro x w2 ⟨sv, mv, vv, tv, lv, ⟨sorts, rows⟩, m, vars, vals, q, wn, rfl, hn1, ⟨u, rfl, ho⟩, ⟨x, y, rfl, o1, C, hC, hub, o2⟩, hf, ov, hvl, hsame, ol, hll, hr2, hq2, hg2, t, ot, hst⟩
  obtain ⟨us, hu1, -⟩ := id ho
  obtain ⟨Au, cu, rfl, -⟩ := own_reads hu1
  obtain ⟨A0, c0, rfl, -⟩ := own_reads o1
  obtain ⟨us2, hu2, -⟩ := id o2
  obtain ⟨A1, c1, rfl, -⟩ := own_reads hu2
  obtain ⟨Av, cv, rfl, -⟩ := own_reads ov
  obtain ⟨At, ct, rfl, -⟩ := own_reads ot
  obtain ⟨Al, cl, rfl, -⟩ := own_reads ol
  have hzz2 : w1.heap.size ≤ w2.heap.size := hg2.size
  have HO := Lib.hid (show OSig w2 (w1.heap.size + 2) (.agg #[.int .i64 sorts, .slice Au rows.length cu]) ⟨sorts, rows⟩ from ⟨_, rfl, ho.same hsame⟩)
  have HMM := Lib.hid (OModel.same (w := wn) (B := w1.heap.size + 2) ⟨_, _, rfl, o1, C, hC, hub, o2⟩ hsame)
  have HVV := Lib.hid (ov.same hsame)
  have HTT := Lib.hid ot
  have HLL := Lib.hid ol
  have hra := gr_at hg2 (by omega) ((HB1.out.block _ (by omega)).trans HZR0.out)
  have hrb := gr_at hg2 (by omega) ((HB1.out.block _ (by omega)).trans HZR1.out)
  have hbel : Below w.heap.size w w2 := (HB0.out.trans (HB1.out.mono (by omega))).trans (below_of_gr' hg2 (by omega) (by omega))
  have HST := Lib.hid hst
  have r0 := block_cell hra 0
  have rf0 := block_free hra 0
  have r1 := block_cell hra 1
  have rf1 := block_free hra 1
  have r2 := block_cell hrb 0
  have rf2 := block_free hrb 0
  have r3 := block_cell hrb 1
  have rf3 := block_free hrb 1
  simp at r0 r1 r2 r3
  clear ho o1 o2 hub ov ot ol hsame hst hf
  go_wp2
  have d0 := ((put2_other (x := (.slice A0 m.sizes.length c0)) (y := (.slice A1 m.tables.length c1)) (show w.heap.size ≠ w.heap.size + 1 by omega)).trans (put2_at (x := (.int .i64 sorts)) (y := (.slice Au rows.length cu)) hra))
  have d1 := (put2_at (x := (.slice A0 m.sizes.length c0)) (y := (.slice A1 m.tables.length c1)) ((put2_other (x := (.int .i64 sorts)) (y := (.slice Au rows.length cu)) (show w.heap.size + 1 ≠ w.heap.size by omega)).trans hrb))
  have HLOW := Lib.hid (fun (k : Nat) (hk : w.heap.size + 2 ≤ k) => ((put2_other (x := (.slice A0 m.sizes.length c0)) (y := (.slice A1 m.tables.length c1)) (show k ≠ w.heap.size + 1 by omega)).trans (put2_other (wz := w2) (x := (.int .i64 sorts)) (y := (.slice Au rows.length cu)) (show k ≠ w.heap.size by omega))))
  have HBEL := Lib.hid (put2_bel (b := w.heap.size + 1) (x := (.slice A0 m.sizes.length c0)) (y := (.slice A1 m.tables.length c1)) (put2_bel (b := w.heap.size) (x := (.int .i64 sorts)) (y := (.slice Au rows.length cu)) hbel (by omega)) (by omega))
  clear r0 rf0 r1 rf1 r2 rf2 r3 rf3
  generalize (((w2.setCell ⟨w.heap.size, 0, none⟩ (.int .i64 sorts)).setCell ⟨w.heap.size, 1, none⟩ (.slice Au rows.length cu)).setCell ⟨w.heap.size + 1, 0, none⟩ (.slice A0 m.sizes.length c0)).setCell ⟨w.heap.size + 1, 1, none⟩ (.slice A1 m.tables.length c1) = w9 at d0 d1 HLOW HBEL ⊢
  have k0 := block_cell d0 0
  have k1 := block_cell d0 1
  have k2 := block_cell d1 0
  have k3 := block_cell d1 1
  simp at k0 k1 k2 k3
  refine bodyPost_ret (v := .tuple #[.agg #[.int .i64 sorts, .slice Au rows.length cu], .agg #[.slice A0 m.sizes.length c0, .slice A1 m.tables.length c1], .slice Av vars.length cv, .slice At t.length ct, .slice Al vals.length cl]) (by simp [results, Try.results9, go_sem, k0, k1, k2, k3]) rfl ?_
  exact ⟨_, _, _, _, _, ⟨sorts, rows⟩, m, vars, t, vals, rfl, (OSig.reads (B := w1.heap.size + 2) (by obtain ⟨u', e, hh⟩ := HO.out; exact ⟨u', e, hh.same (fun k h1 h2 => HLOW.out k (by omega))⟩)), (HMM.out.same (fun k h1 h2 => HLOW.out k (by omega))).reads, (HVV.out.same (fun k h1 h2 => HLOW.out k (by omega))).reads, hvl, (HTT.out.same (fun k h1 h2 => HLOW.out k (by omega))).reads, HST.out, (HLL.out.same (fun k h1 h2 => HLOW.out k (by omega))).reads, hll, HBEL.out⟩
end

section
open Go.RowKit
set_option linter.unusedVariables false

theorem RInts.cut {w : World} {b o c k e : Nat} {A : Option Addr} {t : List Int} (h : RInts w (.slice (some ⟨b, o, none⟩) t.length c) t) (hk : k ≤ e) (he : e ≤ t.length) (hA : A = some ⟨b, o + k, none⟩) :
    RInts w (.slice A (e - k) (c - k)) ((t.drop k).take (e - k)) := by
  subst hA
  have hl : ((t.drop k).take (e - k)).length = e - k := by rw [List.length_take, List.length_drop]; omega
  obtain ⟨A', c', e', h1, h2, h3⟩ := h
  cases e'
  refine ⟨some ⟨b, o + k, none⟩, c - k, by rw [hl], by rw [hl]; omega, by omega, fun j x hj => ?_⟩
  rw [List.getElem?_take] at hj
  split at hj
  · rw [List.getElem?_drop] at hj
    obtain ⟨b', o', e', hc⟩ := h3 _ _ hj
    cases e'
    exact ⟨b, o + k, rfl, by rw [← hc]; congr 2; omega⟩
  · cases hj



theorem atM_nil {s : MSig} {vars t : List Int} {k : Int} (h : ¬ (0 ≤ sortM s vars t ∧ 0 ≤ k ∧ k < t.length)) : atM s vars t k = [] := by unfold atM; rw [if_neg h]
theorem atM_yes {s : MSig} {vars t : List Int} {k : Nat} (h : 0 ≤ sortM s vars t) (hk : k < t.length) : atM s vars t k = partM s vars t k := by unfold atM; rw [if_pos ⟨h, by omega, by omega⟩, Int.toNat_natCast]

theorem at_small {s : MSig} {vars t : List Int} {a : Int} (h : Small t) : Small (atM s vars t a) := fun x hx => by
  by_cases hc : 0 ≤ sortM s vars t ∧ 0 ≤ a ∧ a < (t.length : Int)
  · obtain ⟨k, rfl⟩ := Int.eq_ofNat_of_zero_le hc.2.1
    obtain ⟨pre, sub, post, a1, a2, a3, a4, a5, -⟩ := part_of hc.1 (k := k) (by omega)
    rw [atM_yes hc.1 (by omega), a5] at hx
    exact h x (by rw [a1]; simp [hx])
  · rw [atM_nil hc] at hx; simp at hx
/-- a part that there is -/
theorem at_there {s : MSig} {vars t : List Int} {a : Int} (h : atM s vars t a ≠ []) : ∃ (k : Nat) (pre : List Int) (sub : Tm) (post : List Int), a = (k : Int) ∧ k < t.length ∧ t.length ≤ 30 ∧ 0 ≤ sortM s vars t ∧ varsB s vars = true ∧ t = pre ++ sub.row ++ post ∧ pre.length = k ∧ atM s vars t a = sub.row ∧ sortM s vars sub.row = sub.sort ∧ 0 ≤ sub.sort ∧ wfT s vars sub ∧ 1 ≤ sub.row.length ∧
    ∀ u : Tm, wfT s vars u → u.sort = sub.sort → (pre ++ u.row ++ post).length ≤ 30 → sortM s vars (pre ++ u.row ++ post) = sortM s vars t := by
  by_cases hc : 0 ≤ sortM s vars t ∧ 0 ≤ a ∧ a < (t.length : Int)
  · obtain ⟨k, rfl⟩ := Int.eq_ofNat_of_zero_le hc.2.1
    have hk : k < t.length := by omega
    obtain ⟨pre, sub, post, a1, a2, a3, a4, a5, a6, a7, a8⟩ := part_of hc.1 hk
    obtain ⟨tm0, hvo, hl30, -⟩ := sortM_to hc.1
    exact ⟨k, pre, sub, post, rfl, hk, hl30, hc.1, hvo, a1, a2, by rw [atM_yes hc.1 hk, a5], a6, a7, a3, row_pos sub, a8⟩
  · exact absurd (atM_nil hc) h
set_option maxHeartbeats 800000 in
set_option maxRecDepth 100000 in
theorem termAt_any (s : MSig) (vars t : List Int) (a : Int) (w : World) (v vv tv : Value) (hsm : Small t) (h1 : RSig w v s) (h2 : RInts w vv vars) (h3 : RInts w tv t) :
    Calls Try.prog 14 #[v, vv, tv, .int .i64 a] w fun e w' => ∃ u, e = .returned u ∧ OInts w' w.heap.size u (atM s vars t a) ∧ Below w.heap.size w w' := by
  obtain ⟨u, rfl, hrr⟩ := h1
  obtain ⟨sorts, ops⟩ := s
  obtain ⟨A, c, rfl, -⟩ := hrr.form
  have hb1 := below_alloc w (.cells #[.int .i64 sorts, .slice A ops.length c] 25)
  have hbx := Lib.hid (box_cells w (.int .i64 sorts) (.slice A ops.length c) 25)
  have HS := Lib.hid (show RSig (w.alloc (.cells #[.int .i64 sorts, .slice A ops.length c] 25)) (.agg #[.int .i64 sorts, .slice A ops.length c]) ⟨sorts, ops⟩ from ⟨_, rfl, hrr.keep hb1⟩)
  have HV2 := Lib.hid (h2.keep hb1)
  have HV3 := Lib.hid (h3.keep hb1)
  have hlen := h3.len
  have HSM := Lib.hid hsm
  obtain ⟨A2, c2, rfl, -⟩ := h2.form
  obtain ⟨A3, c3, rfl, hc3, hc3'⟩ := h3.form
  have HB1 := Lib.hid hb1
  obtain ⟨q, hq⟩ : ∃ q, sortM ⟨sorts, ops⟩ vars t = q := ⟨_, rfl⟩
  have HQ := Lib.hid hq
  clear hrr h2 h3 hb1 hsm hq
  by_cases hq0 : q < 0
  · have HN := Lib.hid (atM_nil (s := ⟨sorts, ops⟩) (vars := vars) (t := t) (k := a) (by rw [HQ.out]; omega))
    go_enter Try.func14, Try.ntmps14
    go_wp2_with (go_at_call 15; refine (termSort_any ⟨sorts, ops⟩ vars t _ _ _ _ HSM.out HS.out HV2.out HV3.out).mono ?_; rw [HQ.out]; rintro e w1 ⟨rfl, hb⟩)
    go_ret
    exact ⟨_, rfl, by rw [HN.out]; exact OInts.nil _ _, HB1.out.trans (hb.mono (by simp))⟩
  by_cases ha0 : a < 0
  · have HN := Lib.hid (atM_nil (s := ⟨sorts, ops⟩) (vars := vars) (t := t) (k := a) (by omega))
    go_enter Try.func14, Try.ntmps14
    go_wp2_with (go_at_call 15; refine (termSort_any ⟨sorts, ops⟩ vars t _ _ _ _ HSM.out HS.out HV2.out HV3.out).mono ?_; rw [HQ.out]; rintro e w1 ⟨rfl, hb⟩)
    go_ret
    exact ⟨_, rfl, by rw [HN.out]; exact OInts.nil _ _, HB1.out.trans (hb.mono (by simp))⟩
  by_cases hal : (t.length : Int) ≤ a
  · have HN := Lib.hid (atM_nil (s := ⟨sorts, ops⟩) (vars := vars) (t := t) (k := a) (by omega))
    go_enter Try.func14, Try.ntmps14
    go_wp2_with (go_at_call 15; refine (termSort_any ⟨sorts, ops⟩ vars t _ _ _ _ HSM.out HS.out HV2.out HV3.out).mono ?_; rw [HQ.out]; rintro e w1 ⟨rfl, hb⟩)
    go_ret
    exact ⟨_, rfl, by rw [HN.out]; exact OInts.nil _ _, HB1.out.trans (hb.mono (by simp))⟩
  obtain ⟨k, rfl⟩ := Int.eq_ofNat_of_zero_le (show 0 ≤ a by omega)
  have hkt : k < t.length := by omega
  have hqq : 0 ≤ sortM ⟨sorts, ops⟩ vars t := by rw [HQ.out]; omega
  obtain ⟨pre, sub, post, hd1, hd2, hd3, hd4, hd5, hd6, hd7, -⟩ := part_of hqq hkt
  obtain ⟨tm0, hvo, hl30, -⟩ := sortM_to hqq
  have hN := atM_yes hqq hkt
  rw [hd5] at hN
  have hlr := row_pos sub
  have hll := congrArg List.length hd1
  simp only [List.length_append] at hll
  have hdk : t.drop k = sub.row ++ post := by rw [hd1, List.append_assoc, ← hd2]; simp
  have hsub : (t.drop k).take (t.length - post.length - k) = sub.row := by
    rw [hdk, List.take_append_of_le_length (by omega), List.take_of_length_le (by omega)]
  have HSUB := Lib.hid hsub
  have HN := Lib.hid hN
  have HF := Lib.hid hd4
  have HV := Lib.hid hvo
  have hpl : post.length ≤ t.length := by omega
  have hel : (k : Int) ≤ (t.length : Int) - (post.length : Int) := by omega
  have hk0 : (0 : Int) ≤ (k : Int) := by omega
  have hk1 : (k : Int) ≤ (t.length : Int) := by omega
  have hk2 : (t.length : Int) - (post.length : Int) ≤ (c3 : Int) := by omega
  have hw : IntKind.i64.wrap ((t.length : Int) - (post.length : Int)) = (t.length : Int) - (post.length : Int) := by rw [IntKind.wrap_i64]; omega
  have HLR := Lib.hid hlr
  have HLL := Lib.hid hll
  obtain ⟨b, o, c', e, hx⟩ := HV3.out.at_ hkt
  cases e
  clear hd1 hd2 hd3 hd4 hd5 hd6 hd7 hsub hN hvo hqq hx hlr hll hdk
  go_enter Try.func14, Try.ntmps14
  go_wp2_with (go_at_call 15; refine (termSort_any ⟨sorts, ops⟩ vars t _ _ _ _ HSM.out HS.out HV2.out HV3.out).mono ?_; rw [HQ.out]; rintro e w1 ⟨rfl, hb⟩; have g0 := cell_keep hb hbx.out.1; have g1 := cell_keep hb hbx.out.2; have HB2 := Lib.hid hb; clear hb)
  have hck : ¬ c3 = k := by omega
  have HCUT := Lib.hid (show RInts w1 (.slice (some ⟨b, o + k, none⟩) (t.length - k) (c3 - k)) (t.drop k) by
    have h := (HV3.out.keep HB2.out).cut (k := k) (e := t.length) (A := some ⟨b, o + k, none⟩) (by omega) (Nat.le_refl _) rfl
    rwa [List.take_of_length_le (by rw [List.length_drop]; omega)] at h)
  have ea := World.new_ne w1 _ g0
  go_region_held3 (fun w' => w'.cell? ⟨w.heap.size, 0, none⟩ = some (.int .i64 sorts) ∧ w'.cell? ⟨w.heap.size, 1, none⟩ = some (.slice A ops.length c)) (first | go_keep)
    (first
      | (go_at_call 73; refine (first_any ⟨sorts, ops⟩ vars HV.out 30 (t.drop k) w1.drew _ _ _ (by rw [List.length_drop]; omega) (fun x hx => HSM.out x (List.mem_of_mem_drop hx)) (HS.out.keep (bel_drew HB2.out)) (HV2.out.keep (bel_drew HB2.out)) (HCUT.out)).mono ?_; rw [HF.out]; rintro e w2 ⟨hm, hb2⟩; simp only at hm; obtain ⟨u, bv, rfl, hu, hbv⟩ := hm; obtain ⟨A6, c7, rfl⟩ := hbv.1; obtain ⟨T, y, fid, rfl, -⟩ := hu.sorts; have HB3 := Lib.hid (bel_undrew hb2); have j0 := cell_keep HB3.out g0; have j1 := cell_keep HB3.out g1; clear hu hbv hb2))
  have HB4 := Lib.hid (fit_keep HB2.out HB3.out)
  have HC2 := Lib.hid (show RInts w2 (.slice (some ⟨b, o + k, none⟩) (t.length - post.length - k) (c3 - k)) sub.row by
    have h := (HV3.out.keep HB4.out).cut (k := k) (e := t.length - post.length) (A := some ⟨b, o + k, none⟩) (by omega) (by omega) rfl
    rwa [HSUB.out] at h)
  have hw2 : ((t.length : Int) - (post.length : Int)).toNat = t.length - post.length := by omega
  clear g0 g1 j0 j1 ea
  go_wp2_with fail
  have hs3 : sub.row.length ≤ 1048576 := by have := HLL.out; omega
  refine (clone_any ⟨b, o + k, none⟩ _ _ sub.row _ HC2.out hs3).mono ?_
  rintro e w3 ⟨u3, rfl, ho3, hb3⟩
  have HO3 := Lib.hid ho3
  have HB5 := Lib.hid (fit_keep HB4.out hb3)
  have s4 := HB4.out.size
  simp at s4
  clear ho3 hb3
  go_wp2
  go_ret
  exact ⟨_, rfl, by rw [HN.out]; exact HO3.out.base (by omega), HB1.out.trans (HB5.out.mono (by simp))⟩

set_option maxHeartbeats 800000 in
set_option maxRecDepth 100000 in
theorem specTermAt_any (s : MSig) (vars t : List Int) (a : Int) (w : World) (v vv tv : Value) (h1 : RSig w v s) (h2 : RInts w vv vars) (h3 : RInts w tv t) :
    Calls Try.prog 148 #[v, vv, tv, .int .i64 a] w fun e w' => ∃ u, e = .returned u ∧ OInts w' w.heap.size u (atM s vars t a) ∧ Below w.heap.size w w' := by
  obtain ⟨i0, hi0, hz0, hz1, hz2⟩ := info_parts Try.tinfo_int
  obtain ⟨u, rfl, hrr⟩ := h1
  obtain ⟨sorts, ops⟩ := s
  obtain ⟨A, c, rfl, -⟩ := hrr.form
  have hb1 := below_alloc w (.cells #[.int .i64 sorts, .slice A ops.length c] 25)
  have hbx := Lib.hid (box_cells w (.int .i64 sorts) (.slice A ops.length c) 25)
  have HS := Lib.hid (show RSig (w.alloc (.cells #[.int .i64 sorts, .slice A ops.length c] 25)) (.agg #[.int .i64 sorts, .slice A ops.length c]) ⟨sorts, ops⟩ from ⟨_, rfl, hrr.keep hb1⟩)
  have HV2 := Lib.hid (h2.keep hb1)
  have HV3 := Lib.hid (h3.keep hb1)
  have hlen := h3.len
  obtain ⟨A2, c2, rfl, -⟩ := h2.form
  obtain ⟨A3, c3, rfl, hc3, hc3'⟩ := h3.form
  have HB1 := Lib.hid hb1
  obtain ⟨q, hq⟩ : ∃ q, sortM ⟨sorts, ops⟩ vars t = q := ⟨_, rfl⟩
  have HQ := Lib.hid hq
  clear hrr h2 h3 hb1 hq
  by_cases hq0 : q < 0
  · have HN := Lib.hid (atM_nil (s := ⟨sorts, ops⟩) (vars := vars) (t := t) (k := a) (by rw [HQ.out]; omega))
    go_enter Try.func148, Try.ntmps148
    go_wp2_with (go_at_call 13; refine (specTermSort_any ⟨sorts, ops⟩ vars t _ _ _ _ HS.out HV2.out HV3.out).mono ?_; rw [HQ.out]; rintro e w1 ⟨rfl, hb⟩; have HB2 := Lib.hid hb; clear hb)
    go_ret
    have s1 := HB2.out.size
    simp at s1
    exact ⟨_, rfl, by rw [HN.out]; exact (own_empty w1).base (by omega), (HB1.out.trans (HB2.out.mono (by simp))).trans ((below_alloc _ _).mono (by omega))⟩
  by_cases hin : 0 ≤ a ∧ a < (t.length : Int)
  · obtain ⟨k, rfl⟩ := Int.eq_ofNat_of_zero_le hin.1
    have hkt : k < t.length := by omega
    have hqq : 0 ≤ sortM ⟨sorts, ops⟩ vars t := by rw [HQ.out]; omega
    obtain ⟨pre, sub, post, hd1, hd2, hd3, hd4, hd5, hd6, hd7, -⟩ := part_of hqq hkt
    obtain ⟨tm0, hvo, hl30, -⟩ := sortM_to hqq
    have hN := atM_yes hqq hkt
    rw [hd5] at hN
    have hlr := row_pos sub
    have hll := congrArg List.length hd1
    simp only [List.length_append] at hll
    have hdk : t.drop k = sub.row ++ post := by rw [hd1, List.append_assoc, ← hd2]; simp
    have hsub : (t.drop k).take (t.length - post.length - k) = sub.row := by
      rw [hdk, List.take_append_of_le_length (by omega), List.take_of_length_le (by omega)]
    have HSUB := Lib.hid hsub
    have HN := Lib.hid hN
    have HF := Lib.hid hd4
    have HV := Lib.hid hvo
    have HI := Lib.hid (show inB (k : Int) 0 ((t.length : Int) - 1) = true by unfold inB; simp; omega)
    have hk0 : (0 : Int) ≤ (k : Int) := by omega
    have hk1 : (k : Int) ≤ (t.length : Int) := by omega
    have hck : ¬ c3 = k := by omega
    obtain ⟨en, hen⟩ : ∃ en, en = t.length - post.length := ⟨_, rfl⟩
    have he0 : (k : Int) ≤ (en : Int) := by omega
    have he1 : (en : Int) ≤ (t.length : Int) := by omega
    have he2 : (en : Int) ≤ (c3 : Int) := by omega
    have hs3 : sub.row.length = en - k := by omega
    have hs4 : en ≤ 30 := by omega
    have HEN := Lib.hid hen
    obtain ⟨b, o, c', e, hx⟩ := HV3.out.at_ hkt
    cases e
    clear hd1 hd2 hd3 hd4 hd5 hd6 hd7 hsub hN hvo hqq hx hlr hll hdk hen
    go_enter Try.func148, Try.ntmps148
    go_wp2_with (first
      | (go_at_call 13; refine (specTermSort_any ⟨sorts, ops⟩ vars t _ _ _ _ HS.out HV2.out HV3.out).mono ?_; rw [HQ.out]; rintro e w1 ⟨rfl, hb⟩; have g0 := cell_keep hb hbx.out.1; have g1 := cell_keep hb hbx.out.2; have HB2 := Lib.hid hb; clear hb)
      | (go_at_call 90; refine (l1In_is _ _ _ _ _ HI.out).mono ?_; rintro e w' ⟨rfl, rfl⟩)
      | (go_at_call 72; refine (end_any ⟨sorts, ops⟩ vars HV.out 30 t k _ _ _ _ (by rw [List.length_drop]; omega) (HS.out.keep HB2.out) (HV2.out.keep HB2.out) (HV3.out.keep HB2.out)).mono ?_; rw [HF.out, endV_some, ← HEN.out]; rintro e w2 ⟨rfl, hb2⟩; have HB3 := Lib.hid hb2; clear hb2 g0 g1)
      | (at_builtin; refine wpList_append_own _ rfl _ _ 26 rfl w2.heap.size 3 i0 (.int .i64 0) 1 8 Try.underlying26 hi0 hz0 hz1 hz2 rfl (by decide) _ 0 [] rfl (own_empty w2) ⟨b, o + k, none⟩ (en - k) (c3 - k) (sub.row.map (Value.int .i64)) rfl (by simp [hs3]) (news_any ((show RInts w2 (.slice (some ⟨b, o + k, none⟩) (en - k) (c3 - k)) sub.row by
            have h := (HV3.out.keep (fit_keep HB2.out HB3.out)).cut (k := k) (e := en) (A := some ⟨b, o + k, none⟩) (by omega) (by omega) rfl
            rw [HEN.out, HSUB.out, ← HEN.out] at h
            exact h).keep (below_alloc w2 _))) (ints_one _) (by rw [maxLen_eq]; omega) (by omega) (by simp) ?_))
    intro v' w4 hown4 hgrow4 _
    have HO := Lib.hid hown4
    have HG := Lib.hid (own_cut hgrow4 (fun k e => by injection e with e; exact Nat.le_of_eq e))
    have HB5 := Lib.hid (fit_keep (fit_keep HB2.out HB3.out) HG.out)
    have s2 := (fit_keep HB2.out HB3.out).size
    simp at s2
    clear hown4 hgrow4
    go_wp2
    go_ret
    refine ⟨_, rfl, ?_, HB1.out.trans (HB5.out.mono (by simp))⟩
    have h := HO.out
    rw [HN.out]
    refine OInts.base (B := w2.heap.size) ?_ (by omega)
    unfold OInts
    rw [hs3]
    simpa using h
  · have HN := Lib.hid (atM_nil (s := ⟨sorts, ops⟩) (vars := vars) (t := t) (k := a) (by omega))
    have HI := Lib.hid (show inB a 0 ((t.length : Int) - 1) = false by unfold inB; simp; omega)
    clear hin
    go_enter Try.func148, Try.ntmps148
    go_wp2_with (first
      | (go_at_call 13; refine (specTermSort_any ⟨sorts, ops⟩ vars t _ _ _ _ HS.out HV2.out HV3.out).mono ?_; rw [HQ.out]; rintro e w1 ⟨rfl, hb⟩; have HB2 := Lib.hid hb; clear hb)
      | (go_at_call 90; refine (l1In_is _ _ _ _ _ HI.out).mono ?_; rintro e w' ⟨rfl, rfl⟩))
    go_ret
    have s1 := HB2.out.size
    simp at s1
    exact ⟨_, rfl, by rw [HN.out]; exact (own_empty w1).base (by omega), (HB1.out.trans (HB2.out.mono (by simp))).trans ((below_alloc _ _).mono (by omega))⟩
end

section
open Go.RowKit
set_option linter.unusedVariables false

def putM (s : MSig) (vars t others : List Int) (terms : List (List Int)) : List Int × Bool :=
  if 0 ≤ sortM s vars t ∧ fitsB s others terms vars = true ∧ (putRow terms t).length ≤ 30 then (putRow terms t, true) else ([], false)
def putOne (terms : List (List Int)) (n : Int) : List Int := if 100 ≤ n then terms.getD (n - 100).toNat [] else [n]
theorem putRow_take {terms : List (List Int)} {t : List Int} {k : Nat} (hk : k < t.length) : putRow terms (t.take (k + 1)) = putRow terms (t.take k) ++ putOne terms t[k] := by
  unfold putRow putOne
  rw [List.take_succ_eq_append_getElem hk, List.flatMap_append]; simp
theorem fits_len {s : MSig} {others sorts : List Int} {terms : List (List Int)} (h : fitsB s others terms sorts = true) : terms.length = sorts.length ∧ varsB s others = true ∧ ∀ k (hk : k < terms.length), sortM s others terms[k] = sorts.getD k 0 ∧ 0 ≤ sortM s others terms[k] := by
  rw [fitsB_eq] at h
  simp only [Bool.and_eq_true, decide_eq_true_eq, List.all_eq_true] at h
  refine ⟨h.2.1, h.1, fun k hk => ?_⟩
  have hz : k < (terms.zip sorts).length := by rw [List.length_zip]; omega
  have hp := h.2.2 _ (List.getElem_mem hz)
  rw [List.getElem_zip] at hp
  unfold fitP at hp
  simp only [Bool.and_eq_true, decide_eq_true_eq] at hp
  rw [getD_at _ (by omega)]
  exact ⟨hp.2, by rw [hp.2]; exact hp.1⟩
theorem fits_rows {s : MSig} {others sorts : List Int} {terms : List (List Int)} (h : fitsB s others terms sorts = true) : ∀ k (hk : k < terms.length), 1 ≤ terms[k].length ∧ terms[k].length ≤ 30 := fun k hk => by
  obtain ⟨tm, a, b, c, d, e⟩ := sortM_to ((fits_len h).2.2 k hk).2
  have := row_pos tm
  rw [d] at this
  exact ⟨this, b⟩
theorem sort_nums {s : MSig} {vars t : List Int} (h : 0 ≤ sortM s vars t) : ∀ n ∈ t, n < 100 ∨ (100 ≤ n ∧ n < 100 + (vars.length : Int)) := fun n hn => by
  obtain ⟨tm, a, b, c, d, e⟩ := sortM_to h
  subst d
  have hv := (vars_valid a).1
  rcases nums_t (ops_few hv) tm c n hn with hh | hh
  · have := (valid_sorts hv).2.2; omega
  · exact .inr hh
/-- what the loops of both need: each number an operation or a letter, each row neither empty nor long -/
structure PutOk (t : List Int) (terms : List (List Int)) : Prop where
  few : t.length ≤ 30
  nums : ∀ n ∈ t, n < 100 ∨ (100 ≤ n ∧ n < 100 + (terms.length : Int))
  rows : ∀ k (hk : k < terms.length), 1 ≤ terms[k].length ∧ terms[k].length ≤ 30
theorem putOk_of {s : MSig} {vars t others : List Int} {terms : List (List Int)} (h1 : 0 ≤ sortM s vars t) (h2 : fitsB s others terms vars = true) : PutOk t terms := by
  obtain ⟨tm, a, b, c, d, e⟩ := sortM_to h1
  exact ⟨b, fun n hn => by have := sort_nums h1 n hn; rw [(fits_len h2).1]; exact this, fits_rows h2⟩
theorem PutOk.one {t : List Int} {terms : List (List Int)} (h : PutOk t terms) {n : Int} (hn : n ∈ t) : 1 ≤ (putOne terms n).length ∧ (putOne terms n).length ≤ 30 := by
  unfold putOne
  rcases h.nums n hn with hh | hh
  · rw [if_neg (by omega)]; simp
  · rw [if_pos hh.1, getD_at _ (by omega)]; exact h.rows _ (by omega)
theorem PutOk.short {t : List Int} {terms : List (List Int)} (h : PutOk t terms) : ∀ k, k ≤ t.length → (putRow terms (t.take k)).length ≤ 30 * k := fun k => by
  induction k with
  | zero => intro _; simp [putRow]
  | succ k ih =>
    intro hk
    rw [putRow_take (by omega), List.length_append]
    have := ih (by omega)
    have := (h.one (List.getElem_mem (show k < t.length by omega))).2
    omega
theorem app_ints {w : World} {B m : Nat} {v : Value} {ps rs : List Int} (hm : rs.length = m) (h : w.ownsRow B 3 1 v (ps.length + m) (ps.map (Value.int .i64) ++ rs.map (Value.int .i64))) : OInts w B v (ps ++ rs) := by
  unfold OInts; rw [List.length_append, List.map_append, hm]; exact h
theorem one_new (w : World) (n : Int) : ∀ (j : Nat) (u : Value), ([n].map (Value.int .i64))[j]? = some u → (w.alloc (.cells #[.int .i64 n] 3)).cell? ((⟨w.heap.size, 0, none⟩ : Addr).add j) = some u := by
  intro j u hj
  match j, hj with
  | 0, hj =>
    simp at hj
    subst hj
    rw [show (⟨w.heap.size, 0, none⟩ : Addr).add 0 = ⟨w.heap.size, 0, none⟩ by simp [Addr.add], World.cell?_alloc_at _ _ _ _ rfl]; rfl

set_option maxHeartbeats 800000 in
set_option maxRecDepth 100000 in
theorem l2Put_any (t : List Int) (terms : List (List Int)) (w : World) (v tv : Value) (hok : PutOk t terms) (h1 : RInts w v t) (h2 : RRows w tv terms) :
    Calls Try.prog 105 #[v, tv] w fun e w' => ∃ u, e = .returned u ∧ OInts w' w.heap.size u (putRow terms t) ∧ Below w.heap.size w w' := by
  obtain ⟨i0, hi0, hz0, hz1, hz2⟩ := info_parts Try.tinfo_int
  have H1 := Lib.hid h1
  have H2 := Lib.hid h2
  have HOK := Lib.hid hok
  have hl1 := h1.len
  have hl2 := h2.len
  obtain ⟨A1, c1, rfl, -⟩ := h1.form
  obtain ⟨A2, c2, rfl, -⟩ := h2.form
  clear h1 h2 hok
  go_enter Try.func105, Try.ntmps105
  go_wp2
  go_loopw [5, 6] (fun p i wr => ∃ k : Nat, k ≤ t.length ∧ i = .int .i64 k ∧ OInts wr w.heap.size p (putRow terms (t.take k)) ∧ Below w.heap.size w wr) (fun _ i _ => t.length - (intOf i).toNat)
  case atStart => exact ⟨0, Nat.zero_le _, rfl, own_empty w, below_alloc _ _⟩
  case round =>
    obtain ⟨k, hk, rfl, ho, hb⟩ := hrel
    obtain ⟨A9, c9, rfl, -⟩ := own_reads ho
    have HO := Lib.hid ho
    have HB := Lib.hid hb
    clear ho hb
    by_cases hlt : k < t.length
    · have hlt' : (k : Int) < (t.length : Int) := by omega
      have hk0 : (0 : Int) ≤ (k : Int) := by omega
      obtain ⟨b, o, c', e, hx⟩ := (H1.out.keep HB.out).at_ hlt
      cases e
      have HTK := Lib.hid (putRow_take (terms := terms) hlt)
      have HNUM := Lib.hid (HOK.out.nums _ (List.getElem_mem hlt))
      have hsh := HOK.out.short k hk
      have h30 := HOK.out.few
      have hone := (HOK.out.one (List.getElem_mem hlt)).2
      generalize t[k] = n at hx HTK HNUM hone
      have hs1 := HB.out.size
      generalize hps : putRow terms (t.take k) = ps at HO HTK hsh
      clear hps
      by_cases hn : 100 ≤ n
      · obtain ⟨j, rfl⟩ : ∃ j : Nat, n = 100 + (j : Int) := ⟨(n - 100).toNat, by omega⟩
        have hj : j < terms.length := by have := HNUM.out; omega
        obtain ⟨b2, o2, c3, u2, e, hcell, hri⟩ := (H2.out.keep HB.out).at_ hj
        cases e
        have hrow := HOK.out.rows j hj
        have HP := Lib.hid (show putOne terms (100 + (j : Int)) = terms[j] by unfold putOne; rw [if_pos (by omega), show ((100 : Int) + (j : Int) - 100).toNat = j by omega, getD_at _ hj])
        generalize terms[j] = r at hcell hri hrow HP
        obtain ⟨b3, o3, c5, rfl, hx3⟩ := hri.at_ (k := 0) (by omega)
        have HNEWS := Lib.hid (news_of hri)
        have hj' : (j : Int) < (terms.length : Int) := by omega
        have hj0 : (0 : Int) ≤ (j : Int) := by omega
        have hw : IntKind.i64.wrap (100 + (j : Int) - 100) = (j : Int) := by rw [IntKind.wrap_i64]; omega
        clear hx3 hri
        go_wp2_with (at_builtin; refine wpList_append_own _ rfl _ _ 26 rfl w.heap.size 3 i0 (.int .i64 0) 1 8 Try.underlying26 hi0 hz0 hz1 hz2 rfl (by decide) _ ps.length (ps.map (Value.int .i64)) rfl HO.out ⟨b3, o3, none⟩ r.length c5 (r.map (Value.int .i64)) rfl (by simp) HNEWS.out (ints_one _) (by rw [maxLen_eq]; omega) (by omega) hs1 ?_)
        intro v' w4 hown4 hgrow4 _
        have HO4 := Lib.hid (app_ints rfl hown4)
        have HB4 := Lib.hid (HB.out.grown hgrow4 hs1 (fun k e => (own_lt HO.out k e).1))
        clear hown4 hgrow4
        go_wp2
        go_roundw
        case rel => exact ⟨k + 1, by omega, by go_num, by rw [HTK.out, HP.out]; exact HO4.out, HB4.out⟩
        case measure => simp [intOf]; omega
      · have HP := Lib.hid (show putOne terms n = [n] by unfold putOne; rw [if_neg hn])
        go_wp2_with (at_builtin; refine wpList_append_own _ rfl _ _ 26 rfl w.heap.size 3 i0 (.int .i64 0) 1 8 Try.underlying26 hi0 hz0 hz1 hz2 rfl (by decide) _ ps.length (ps.map (Value.int .i64)) rfl (own_keep HO.out (below_alloc wr _)) ⟨wr.heap.size, 0, none⟩ 1 1 ([n].map (Value.int .i64)) rfl (by simp) (one_new wr n) (ints_one _) (by rw [maxLen_eq]; omega) (by omega) (by simp; omega) ?_)
        intro v' w4 hown4 hgrow4 _
        have HO4 := Lib.hid (app_ints (rs := [n]) rfl hown4)
        have HB4 := Lib.hid ((HB.out.alloc hs1 (.cells #[.int .i64 n] 3)).grown hgrow4 (by simp; omega) (fun k e => (own_lt HO.out k e).1))
        clear hown4 hgrow4
        go_wp2
        go_roundw
        case rel => exact ⟨k + 1, by omega, by go_num, by rw [HTK.out, HP.out]; exact HO4.out, HB4.out⟩
        case measure => simp [intOf]; omega
    · have hlt' : ¬ (k : Int) < (t.length : Int) := by omega
      have HTA := Lib.hid (show t.take k = t from take_all (by omega))
      rw [HTA.out] at HO ⊢
      go_wp2
      go_ret
      exact ⟨_, rfl, HO.out, HB.out⟩

theorem putM_no {s : MSig} {vars t others : List Int} {terms : List (List Int)} (h : ¬ (0 ≤ sortM s vars t ∧ fitsB s others terms vars = true ∧ (putRow terms t).length ≤ 30)) : putM s vars t others terms = ([], false) := by unfold putM; rw [if_neg h]
theorem putM_yes {s : MSig} {vars t others : List Int} {terms : List (List Int)} (h : 0 ≤ sortM s vars t ∧ fitsB s others terms vars = true ∧ (putRow terms t).length ≤ 30) : putM s vars t others terms = (putRow terms t, true) := by unfold putM; rw [if_pos h]

/-- what a function that makes a row and tells whether it could answers -/
def PairPost (R : List Int × Bool) (w : World) (e : Ending) (w' : World) : Prop := ∃ u, e = .returned (.tuple #[u, .bool R.2]) ∧ OInts w' w.heap.size u R.1 ∧ Below w.heap.size w w'

set_option maxHeartbeats 800000 in
set_option maxRecDepth 100000 in
theorem specTermPut_any (s : MSig) (vars t others : List Int) (terms : List (List Int)) (w : World) (v vv tv ov sv : Value) (hsm : ∀ r ∈ terms, Small r) (h1 : RSig w v s) (h2 : RInts w vv vars) (h3 : RInts w tv t) (h4 : RInts w ov others) (h5 : RRows w sv terms) :
    Calls Try.prog 107 #[v, vv, tv, ov, sv] w (PairPost (putM s vars t others terms) w) := by
  obtain ⟨u, rfl, hrr⟩ := h1
  obtain ⟨sorts, ops⟩ := s
  obtain ⟨A, c, rfl, -⟩ := hrr.form
  have hb1 := below_alloc w (.cells #[.int .i64 sorts, .slice A ops.length c] 25)
  have hbx := Lib.hid (box_cells w (.int .i64 sorts) (.slice A ops.length c) 25)
  have HS := Lib.hid (show RSig (w.alloc (.cells #[.int .i64 sorts, .slice A ops.length c] 25)) (.agg #[.int .i64 sorts, .slice A ops.length c]) ⟨sorts, ops⟩ from ⟨_, rfl, hrr.keep hb1⟩)
  have HV2 := Lib.hid (h2.keep hb1)
  have HV3 := Lib.hid (h3.keep hb1)
  have HV4 := Lib.hid (h4.keep hb1)
  have HV5 := Lib.hid (h5.keep hb1)
  have HSM := Lib.hid hsm
  obtain ⟨A2, c2, rfl, -⟩ := h2.form
  obtain ⟨A3, c3, rfl, -⟩ := h3.form
  obtain ⟨A4, c4, rfl, -⟩ := h4.form
  obtain ⟨A5, c5, rfl, -⟩ := h5.form
  have HB1 := Lib.hid hb1
  obtain ⟨q, hq⟩ : ∃ q, sortM ⟨sorts, ops⟩ vars t = q := ⟨_, rfl⟩
  have HQ := Lib.hid hq
  clear hrr h2 h3 h4 h5 hb1 hq hsm
  by_cases hq0 : q < 0
  · have HN := Lib.hid (putM_no (s := ⟨sorts, ops⟩) (vars := vars) (t := t) (others := others) (terms := terms) (by rw [HQ.out]; omega))
    go_enter Try.func107, Try.ntmps107
    go_wp2_with (go_at_call 13; refine (specTermSort_any ⟨sorts, ops⟩ vars t _ _ _ _ HS.out HV2.out HV3.out).mono ?_; rw [HQ.out]; rintro e w1 ⟨rfl, hb⟩; have HB2 := Lib.hid hb; clear hb)
    have s1 := HB2.out.size
    simp at s1
    refine bodyPost_ret (v := .tuple #[.slice (some ⟨w1.heap.size, 0, none⟩) 0 0, .bool false]) (by simp [results, Try.results107, go_sem]) rfl ?_
    rw [HN.out]
    exact ⟨_, rfl, (own_empty w1).base (by omega), (HB1.out.trans (HB2.out.mono (by simp))).trans ((below_alloc _ _).mono (by omega))⟩
  cases hf : fitsB ⟨sorts, ops⟩ others terms vars with
  | false =>
    have HF := Lib.hid hf
    have HN := Lib.hid (putM_no (s := ⟨sorts, ops⟩) (vars := vars) (t := t) (others := others) (terms := terms) (by rw [HF.out]; simp))
    clear hf
    go_enter Try.func107, Try.ntmps107
    go_wp2_with (first
      | (go_at_call 13; refine (specTermSort_any ⟨sorts, ops⟩ vars t _ _ _ _ HS.out HV2.out HV3.out).mono ?_; rw [HQ.out]; rintro e w1 ⟨rfl, hb⟩; have g0 := cell_keep hb hbx.out.1; have g1 := cell_keep hb hbx.out.2; have HB2 := Lib.hid hb; clear hb)
      | (go_at_call 104; refine (specTermsFit_any ⟨sorts, ops⟩ others terms vars _ _ _ _ _ HSM.out (HS.out.keep HB2.out) (HV4.out.keep HB2.out) (HV5.out.keep HB2.out) (HV2.out.keep HB2.out)).mono ?_; rw [HF.out]; rintro e w2 ⟨rfl, hb⟩; have HB3 := Lib.hid (fit_keep HB2.out hb); clear hb))
    have s1 := HB3.out.size
    simp at s1
    refine bodyPost_ret (v := .tuple #[.slice (some ⟨w2.heap.size, 0, none⟩) 0 0, .bool false]) (by simp [results, Try.results107, go_sem]) rfl ?_
    rw [HN.out]
    exact ⟨_, rfl, (own_empty w2).base (by omega), (HB1.out.trans (HB3.out.mono (by simp))).trans ((below_alloc _ _).mono (by omega))⟩
  | true =>
    have HF := Lib.hid hf
    have HOK := Lib.hid (putOk_of (show 0 ≤ sortM ⟨sorts, ops⟩ vars t by rw [HQ.out]; omega) hf)
    clear hf
    by_cases hL : 30 < ((putRow terms t).length : Int)
    · have HN := Lib.hid (putM_no (s := ⟨sorts, ops⟩) (vars := vars) (t := t) (others := others) (terms := terms) (by omega))
      go_enter Try.func107, Try.ntmps107
      go_wp2_with (first
        | (go_at_call 13; refine (specTermSort_any ⟨sorts, ops⟩ vars t _ _ _ _ HS.out HV2.out HV3.out).mono ?_; rw [HQ.out]; rintro e w1 ⟨rfl, hb⟩; have g0 := cell_keep hb hbx.out.1; have g1 := cell_keep hb hbx.out.2; have HB2 := Lib.hid hb; clear hb)
        | (go_at_call 104; refine (specTermsFit_any ⟨sorts, ops⟩ others terms vars _ _ _ _ _ HSM.out (HS.out.keep HB2.out) (HV4.out.keep HB2.out) (HV5.out.keep HB2.out) (HV2.out.keep HB2.out)).mono ?_; rw [HF.out]; rintro e w2 ⟨rfl, hb⟩; have HB3 := Lib.hid (fit_keep HB2.out hb); clear hb g0 g1)
        | (go_at_call 105; refine (l2Put_any t terms _ _ _ HOK.out (HV3.out.keep HB3.out) (HV5.out.keep HB3.out)).mono ?_; rintro e w3 ⟨u3, rfl, ho, hb⟩; obtain ⟨A6, c6, rfl, -⟩ := ho.reads.form; have HO := Lib.hid ho; have HB4 := Lib.hid (fit_keep HB3.out hb); have HZ := Lib.hid (show w.heap.size ≤ w2.heap.size by have := HB3.out.size; simp at this; omega); clear hb ho))
      have s1 := HB4.out.size
      simp at s1
      refine bodyPost_ret (v := .tuple #[.slice (some ⟨w3.heap.size, 0, none⟩) 0 0, .bool false]) (by simp [results, Try.results107, go_sem]) rfl ?_
      rw [HN.out]
      exact ⟨_, rfl, (own_empty w3).base (by omega), (HB1.out.trans (HB4.out.mono (by simp))).trans ((below_alloc _ _).mono (by omega))⟩
    · have HN := Lib.hid (putM_yes (s := ⟨sorts, ops⟩) (vars := vars) (t := t) (others := others) (terms := terms) ⟨by rw [HQ.out]; omega, HF.out, by omega⟩)
      go_enter Try.func107, Try.ntmps107
      go_wp2_with (first
        | (go_at_call 13; refine (specTermSort_any ⟨sorts, ops⟩ vars t _ _ _ _ HS.out HV2.out HV3.out).mono ?_; rw [HQ.out]; rintro e w1 ⟨rfl, hb⟩; have g0 := cell_keep hb hbx.out.1; have g1 := cell_keep hb hbx.out.2; have HB2 := Lib.hid hb; clear hb)
        | (go_at_call 104; refine (specTermsFit_any ⟨sorts, ops⟩ others terms vars _ _ _ _ _ HSM.out (HS.out.keep HB2.out) (HV4.out.keep HB2.out) (HV5.out.keep HB2.out) (HV2.out.keep HB2.out)).mono ?_; rw [HF.out]; rintro e w2 ⟨rfl, hb⟩; have HB3 := Lib.hid (fit_keep HB2.out hb); clear hb g0 g1)
        | (go_at_call 105; refine (l2Put_any t terms _ _ _ HOK.out (HV3.out.keep HB3.out) (HV5.out.keep HB3.out)).mono ?_; rintro e w3 ⟨u3, rfl, ho, hb⟩; obtain ⟨A6, c6, rfl, -⟩ := ho.reads.form; have HO := Lib.hid ho; have HB4 := Lib.hid (fit_keep HB3.out hb); have HZ := Lib.hid (show w.heap.size ≤ w2.heap.size by have := HB3.out.size; simp at this; omega); clear hb ho))
      refine bodyPost_ret (v := .tuple #[.slice A6 (putRow terms t).length c6, .bool true]) (by simp [results, Try.results107, go_sem]) rfl ?_
      rw [HN.out]
      exact ⟨_, rfl, HO.out.base HZ.out, HB1.out.trans (HB4.out.mono (by simp))⟩

set_option maxHeartbeats 1600000 in
set_option maxRecDepth 100000 in
theorem termPut_any (s : MSig) (vars t others : List Int) (terms : List (List Int)) (w : World) (v vv tv ov sv : Value) (hst : Small t) (hsm : ∀ r ∈ terms, Small r) (h1 : RSig w v s) (h2 : RInts w vv vars) (h3 : RInts w tv t) (h4 : RInts w ov others) (h5 : RRows w sv terms) :
    Calls Try.prog 62 #[v, vv, tv, ov, sv] w (PairPost (putM s vars t others terms) w) := by
  obtain ⟨i0, hi0, hz0, hz1, hz2⟩ := info_parts Try.tinfo_int
  obtain ⟨u, rfl, hrr⟩ := h1
  obtain ⟨sorts, ops⟩ := s
  obtain ⟨A, c, rfl, -⟩ := hrr.form
  have hb1 := below_alloc w (.cells #[.int .i64 sorts, .slice A ops.length c] 25)
  have hbx := Lib.hid (box_cells w (.int .i64 sorts) (.slice A ops.length c) 25)
  have HS := Lib.hid (show RSig (w.alloc (.cells #[.int .i64 sorts, .slice A ops.length c] 25)) (.agg #[.int .i64 sorts, .slice A ops.length c]) ⟨sorts, ops⟩ from ⟨_, rfl, hrr.keep hb1⟩)
  have HV2 := Lib.hid (h2.keep hb1)
  have HV3 := Lib.hid (h3.keep hb1)
  have HV4 := Lib.hid (h4.keep hb1)
  have HV5 := Lib.hid (h5.keep hb1)
  have HSM := Lib.hid hsm
  have HST := Lib.hid hst
  have hl3 := h3.len
  have hl5 := h5.len
  obtain ⟨A2, c2, rfl, -⟩ := h2.form
  obtain ⟨A3, c3, rfl, -⟩ := h3.form
  obtain ⟨A4, c4, rfl, -⟩ := h4.form
  obtain ⟨A5, c5, rfl, -⟩ := h5.form
  have HB1 := Lib.hid hb1
  obtain ⟨q, hq⟩ : ∃ q, sortM ⟨sorts, ops⟩ vars t = q := ⟨_, rfl⟩
  have HQ := Lib.hid hq
  clear hrr h2 h3 h4 h5 hb1 hq hsm hst
  by_cases hq0 : q < 0
  · have HN := Lib.hid (putM_no (s := ⟨sorts, ops⟩) (vars := vars) (t := t) (others := others) (terms := terms) (by rw [HQ.out]; omega))
    go_enter Try.func62, Try.ntmps62
    go_wp2_with (go_at_call 15; refine (termSort_any ⟨sorts, ops⟩ vars t _ _ _ _ HST.out HS.out HV2.out HV3.out).mono ?_; rw [HQ.out]; rintro e w1 ⟨rfl, hb⟩; have HB2 := Lib.hid hb; clear hb)
    refine bodyPost_ret (v := .tuple #[.slice none 0 0, .bool false]) (by simp [results, Try.results62, go_sem]) rfl ?_
    rw [HN.out]
    exact ⟨_, rfl, OInts.nil _ _, HB1.out.trans (HB2.out.mono (by simp))⟩
  cases hf : fitsB ⟨sorts, ops⟩ others terms vars with
  | false =>
    have HF := Lib.hid hf
    have HN := Lib.hid (putM_no (s := ⟨sorts, ops⟩) (vars := vars) (t := t) (others := others) (terms := terms) (by rw [HF.out]; simp))
    clear hf
    go_enter Try.func62, Try.ntmps62
    go_wp2_with (first
      | (go_at_call 15; refine (termSort_any ⟨sorts, ops⟩ vars t _ _ _ _ HST.out HS.out HV2.out HV3.out).mono ?_; rw [HQ.out]; rintro e w1 ⟨rfl, hb⟩; have g0 := cell_keep hb hbx.out.1; have g1 := cell_keep hb hbx.out.2; have HB2 := Lib.hid hb; clear hb)
      | (go_at_call 112; refine (termsFit_any ⟨sorts, ops⟩ others terms vars _ _ _ _ _ HSM.out (HS.out.keep HB2.out) (HV4.out.keep HB2.out) (HV5.out.keep HB2.out) (HV2.out.keep HB2.out)).mono ?_; rw [HF.out]; rintro e w2 ⟨rfl, hb⟩; have HB3 := Lib.hid (fit_keep HB2.out hb); clear hb))
    refine bodyPost_ret (v := .tuple #[.slice none 0 0, .bool false]) (by simp [results, Try.results62, go_sem]) rfl ?_
    rw [HN.out]
    exact ⟨_, rfl, OInts.nil _ _, HB1.out.trans (HB3.out.mono (by simp))⟩
  | true =>
    have HF := Lib.hid hf
    have HOK := Lib.hid (putOk_of (show 0 ≤ sortM ⟨sorts, ops⟩ vars t by rw [HQ.out]; omega) hf)
    clear hf
    go_enter Try.func62, Try.ntmps62
    go_wp2_with (first
      | (go_at_call 15; refine (termSort_any ⟨sorts, ops⟩ vars t _ _ _ _ HST.out HS.out HV2.out HV3.out).mono ?_; rw [HQ.out]; rintro e w1 ⟨rfl, hb⟩; have g0 := cell_keep hb hbx.out.1; have g1 := cell_keep hb hbx.out.2; have HB2 := Lib.hid hb; clear hb)
      | (go_at_call 112; refine (termsFit_any ⟨sorts, ops⟩ others terms vars _ _ _ _ _ HSM.out (HS.out.keep HB2.out) (HV4.out.keep HB2.out) (HV5.out.keep HB2.out) (HV2.out.keep HB2.out)).mono ?_; rw [HF.out]; rintro e w2 ⟨rfl, hb⟩; have HB3 := Lib.hid (fit_keep HB2.out hb); clear hb g0 g1))
    obtain ⟨W, hW⟩ : ∃ W : World, W = w.alloc (.cells #[.int .i64 sorts, .slice A ops.length c] 25) := ⟨_, rfl⟩
    rw [← hW] at HB3 HV3 HV5 HB1
    have HWS := Lib.hid (show w.heap.size ≤ W.heap.size from HB1.out.size)
    clear hW
    go_loopw [12, 14, 30] (fun p n i wr => ∃ k : Nat, k ≤ t.length ∧ i = .int .i64 k ∧ OInts wr W.heap.size p (putRow terms (t.take k)) ∧ Below W.heap.size W wr) (fun _ _ i _ => t.length - (intOf i).toNat)
    case atStart => exact ⟨0, Nat.zero_le _, rfl, by simp [putRow]; exact OInts.nil _ _, HB3.out⟩
    case round =>
      obtain ⟨k, hk, rfl, ho, hb⟩ := hrel
      obtain ⟨A9, c9, rfl, -⟩ := own_reads ho
      have HO := Lib.hid ho
      have HB := Lib.hid hb
      clear ho hb
      by_cases hlt : k < t.length
      · have hlt' : (k : Int) < (t.length : Int) := by omega
        have hk0 : (0 : Int) ≤ (k : Int) := by omega
        obtain ⟨b, o, c', e, hx⟩ := (HV3.out.keep HB.out).at_ hlt
        cases e
        have HTK := Lib.hid (putRow_take (terms := terms) hlt)
        have HNUM := Lib.hid (HOK.out.nums _ (List.getElem_mem hlt))
        have hsh := HOK.out.short k hk
        have h30 := HOK.out.few
        have hone := (HOK.out.one (List.getElem_mem hlt)).2
        generalize t[k] = n at hx HTK HNUM hone
        have hs1 := HB.out.size
        generalize hps : putRow terms (t.take k) = ps at HO HTK hsh
        clear hps
        by_cases hn : 100 ≤ n
        · obtain ⟨j, rfl⟩ : ∃ j : Nat, n = 100 + (j : Int) := ⟨(n - 100).toNat, by omega⟩
          have hj : j < terms.length := by have := HNUM.out; omega
          obtain ⟨b2, o2, c8, u2, e, hcell, hri⟩ := (HV5.out.keep HB.out).at_ hj
          cases e
          have hrow := HOK.out.rows j hj
          have HP := Lib.hid (show putOne terms (100 + (j : Int)) = terms[j] by unfold putOne; rw [if_pos (by omega), show ((100 : Int) + (j : Int) - 100).toNat = j by omega, getD_at _ hj])
          generalize terms[j] = r at hcell hri hrow HP
          obtain ⟨b3, o3, c7, rfl, hx3⟩ := hri.at_ (k := 0) (by omega)
          have HNEWS := Lib.hid (news_of hri)
          have hj' : (j : Int) < (terms.length : Int) := by omega
          have hj0 : (0 : Int) ≤ (j : Int) := by omega
          have hw : IntKind.i64.wrap (100 + (j : Int) - 100) = (j : Int) := by rw [IntKind.wrap_i64]; omega
          clear hx3 hri
          go_wp2_with (at_builtin; refine wpList_append_own _ rfl _ _ 26 rfl W.heap.size 3 i0 (.int .i64 0) 1 8 Try.underlying26 hi0 hz0 hz1 hz2 rfl (by decide) _ ps.length (ps.map (Value.int .i64)) rfl HO.out ⟨b3, o3, none⟩ r.length c7 (r.map (Value.int .i64)) rfl (by simp) HNEWS.out (ints_one _) (by rw [maxLen_eq]; omega) (by omega) hs1 ?_)
          intro v' w4 hown4 hgrow4 _
          have HO4 := Lib.hid (app_ints rfl hown4)
          have HB4 := Lib.hid (HB.out.grown hgrow4 hs1 (fun k e => (own_lt HO.out k e).1))
          clear hown4 hgrow4
          go_wp2
          go_roundw
          case rel => exact ⟨k + 1, by omega, by go_num, by rw [HTK.out, HP.out]; exact HO4.out, HB4.out⟩
          case measure => simp [intOf]; omega
        · have HP := Lib.hid (show putOne terms n = [n] by unfold putOne; rw [if_neg hn])
          go_wp2_with (at_builtin; refine wpList_append_own _ rfl _ _ 26 rfl W.heap.size 3 i0 (.int .i64 0) 1 8 Try.underlying26 hi0 hz0 hz1 hz2 rfl (by decide) _ ps.length (ps.map (Value.int .i64)) rfl (own_keep HO.out (below_alloc wr _)) ⟨wr.heap.size, 0, none⟩ 1 1 ([n].map (Value.int .i64)) rfl (by simp) (one_new wr n) (ints_one _) (by rw [maxLen_eq]; omega) (by omega) (by simp; omega) ?_)
          intro v' w4 hown4 hgrow4 _
          have HO4 := Lib.hid (app_ints (rs := [n]) rfl hown4)
          have HB4 := Lib.hid ((HB.out.alloc hs1 (.cells #[.int .i64 n] 3)).grown hgrow4 (by simp; omega) (fun k e => (own_lt HO.out k e).1))
          clear hown4 hgrow4
          go_wp2
          go_roundw
          case rel => exact ⟨k + 1, by omega, by go_num, by rw [HTK.out, HP.out]; exact HO4.out, HB4.out⟩
          case measure => simp [intOf]; omega
      · have hlt' : ¬ (k : Int) < (t.length : Int) := by omega
        have HTA := Lib.hid (show t.take k = t from take_all (by omega))
        rw [HTA.out] at HO ⊢
        by_cases hL : 30 < ((putRow terms t).length : Int)
        · have HN := Lib.hid (putM_no (s := ⟨sorts, ops⟩) (vars := vars) (t := t) (others := others) (terms := terms) (by omega))
          go_wp2
          refine bodyPost_ret (v := .tuple #[.slice none 0 0, .bool false]) (by simp [results, Try.results62, go_sem]) rfl ?_
          rw [HN.out]
          exact ⟨_, rfl, OInts.nil _ _, HB1.out.trans (HB.out.mono HWS.out)⟩
        · have HN := Lib.hid (putM_yes (s := ⟨sorts, ops⟩) (vars := vars) (t := t) (others := others) (terms := terms) ⟨by rw [HQ.out]; omega, HF.out, by omega⟩)
          go_wp2
          refine bodyPost_ret (v := .tuple #[.slice A9 (putRow terms t).length c9, .bool true]) (by simp [results, Try.results62, go_sem]) rfl ?_
          rw [HN.out]
          exact ⟨_, rfl, HO.out.base HWS.out, HB1.out.trans (HB.out.mono HWS.out)⟩
end
end Go.Proofs.Yticldaddbljleaa
