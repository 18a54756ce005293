/- The spec's l2End: where a term ends that begins at a place, and its sort. By induction. · TermSort of both packages. · TermsFit of both packages. · EqOk of both packages. · The draws of equations: l20EqOf. · Boxes of two or three cells that are written. No walk. -/
import Derived.Test.YtkhabmoidpgapaaKe11fbfc1
import Derived.Deep.RegionHeld3
import Derived.Deep.RegionLaw
namespace Go.Proofs.Ytkhabmoidpgapaa
section
open Go.RowKit
set_option linter.unusedVariables false

def endV (t : List Int) : Option (Tm × List Int) → Value
  | some (tm, b) => .tuple #[.int .i64 ((t.length - b.length : Nat) : Int), .int .i64 tm.sort]
  | none => .tuple #[.int .i64 (-1), .int .i64 (-1)]
theorem endV_some (t : List Int) (tm : Tm) (b : List Int) : endV t (some (tm, b)) = .tuple #[.int .i64 ((t.length - b.length : Nat) : Int), .int .i64 tm.sort] := rfl
def EndAt (s : MSig) (vars : List Int) (f : Nat) : Prop := ∀ (t : List Int) (k : Nat) (w : World) (v vv tv : Value), (t.drop k).length ≤ f → RSig w v s → RInts w vv vars → RInts w tv t →
  Calls Try.prog 96 #[v, vv, tv, .int .i64 (k : Int)] w fun e w' => e = .returned (endV t (firstM s vars f (t.drop k))) ∧ Below w.heap.size w w'

theorem drop_rest {t x b : List Int} {e : Nat} (h : t.drop e = x ++ b) : b = t.drop (t.length - b.length) ∧ b.length ≤ t.length := by
  obtain ⟨y, rfl⟩ : ∃ y, t = y ++ b := ⟨t.take e ++ x, by rw [List.append_assoc, ← h, List.take_append_drop]⟩
  simp
theorem inB_letter {n : Int} {l : Nat} (q : Int) (hq : q = 100 + (l : Int) - 1) : inB n 100 q = decide (100 ≤ n ∧ n < 100 + (l : Int)) := by
  unfold inB; rw [← Bool.decide_and, decide_eq_decide]; omega
theorem inB_op {n : Int} {l : Nat} (q : Int) (hq : q = (l : Int) - 1) : inB n 0 q = decide (0 ≤ n ∧ n < (l : Int)) := by
  unfold inB; rw [← Bool.decide_and, decide_eq_decide]; omega

set_option maxRecDepth 100000 in
theorem end_past (s : MSig) (vars : List Int) (f : Nat) (t : List Int) (k : Nat) (w : World) (v vv tv : Value) (hk : t.length ≤ k) (h1 : RSig w v s) (h2 : RInts w vv vars) (h3 : RInts w tv t) :
    Calls Try.prog 96 #[v, vv, tv, .int .i64 (k : Int)] w fun e w' => e = .returned (endV t (firstM s vars f (t.drop k))) ∧ Below w.heap.size w w' := by
  obtain ⟨u, rfl, hrr⟩ := h1
  obtain ⟨sorts, ops⟩ := s
  obtain ⟨A, c, rfl, -⟩ := hrr.form
  obtain ⟨A2, c2, rfl, -⟩ := h2.form
  obtain ⟨A3, c4, rfl, -⟩ := h3.form
  rw [List.drop_of_length_le hk, firstM_nil]
  have HB := Lib.hid (below_alloc w (.cells #[.int .i64 sorts, .slice A ops.length c] 25))
  have hk' : (t.length : Int) ≤ (k : Int) := by omega
  clear hrr h2 h3
  go_enter Try.func96, Try.ntmps96
  go_wp2
  refine bodyPost_ret (v := .tuple #[.int .i64 (-1), .int .i64 (-1)]) (by simp [results, Try.results96, go_sem]) rfl ?_
  exact ⟨rfl, HB.out⟩

set_option maxHeartbeats 1600000 in
set_option maxRecDepth 100000 in
theorem end_step (s : MSig) (vars : List Int) (hv : varsB s vars = true) (f : Nat) (ih : EndAt s vars f) (t : List Int) (k : Nat) (w : World) (v vv tv : Value) (hk : k < t.length) (hr : (t.drop (k + 1)).length ≤ f) (h1 : RSig w v s) (h2 : RInts w vv vars) (h3 : RInts w tv t) :
    Calls Try.prog 96 #[v, vv, tv, .int .i64 (k : Int)] w fun e w' => e = .returned (endV t (firstM s vars (f + 1) (t.drop k))) ∧ Below w.heap.size w w' := by
  obtain ⟨u, rfl, hrr⟩ := h1
  obtain ⟨sorts, ops⟩ := s
  have hvs := valid_sorts (vars_valid hv).1
  have hops := hvs.2.2
  have hvl := (vars_valid hv).2.1
  simp only at hops
  obtain ⟨A, c, rfl, -⟩ := hrr.form
  have hb1 := below_alloc w (.cells #[.int .i64 sorts, .slice A ops.length c] 25)
  have hbx := box_cells w (.int .i64 sorts) (.slice A ops.length c) 25
  have HS := Lib.hid (show RSig (w.alloc (.cells #[.int .i64 sorts, .slice A ops.length c] 25)) (.agg #[.int .i64 sorts, .slice A ops.length c]) ⟨sorts, ops⟩ from ⟨_, rfl, hrr.keep hb1⟩)
  have HO := Lib.hid (hrr.keep hb1)
  have HV2 := Lib.hid (h2.keep hb1)
  have HV3 := Lib.hid (h3.keep hb1)
  have hlen3 := h3.len
  obtain ⟨b, o, c4, rfl, hx⟩ := (h3.keep hb1).at_ hk
  obtain ⟨A2, c2, rfl, -⟩ := h2.form
  rw [List.drop_eq_getElem_cons hk]
  generalize t[k] = n at hx ⊢
  have HB1 := Lib.hid hb1
  have f0 := hbx.1
  have f1 := hbx.2
  have hk' : (k : Int) < (t.length : Int) := by omega
  clear h2 h3 hrr hb1 hbx
  by_cases c1 : 100 ≤ n ∧ n < 100 + (vars.length : Int)
  · have HN := Lib.hid (firstM_letter (s := ⟨sorts, ops⟩) (vars := vars) (f := f) (rest := t.drop (k + 1)) (n := n) (by simp only; omega) c1)
    obtain ⟨m, rfl⟩ : ∃ m : Nat, n = 100 + (m : Int) := ⟨(n - 100).toNat, by omega⟩
    have hm : m < vars.length := by omega
    obtain ⟨b6, o6, c6, e, hy⟩ := HV2.out.at_ hm
    cases e
    rw [show ((100 : Int) + (m : Int) - 100).toNat = m by omega, getD_at _ hm] at HN
    generalize vars[m] = y at hy HN
    have HI := Lib.hid (show inB (100 + (m : Int)) 100 (100 + (vars.length : Int) - 1) = true by rw [inB_letter _ rfl]; simp; omega)
    go_enter Try.func96, Try.ntmps96
    go_wp2_with (go_at_call 50; refine (l1In_is _ _ _ _ _ HI.out).mono ?_; rintro e w' ⟨rfl, rfl⟩)
    have hw1 : IntKind.i64.wrap (100 + (m : Int) - 100) = (m : Int) := by rw [IntKind.wrap_i64]; omega
    have hw2 : IntKind.i64.wrap ((k : Int) + 1) = (k : Int) + 1 := by rw [IntKind.wrap_i64]; omega
    have hm0 : (0 : Int) ≤ (m : Int) := by omega
    have hm1 : (m : Int) < (vars.length : Int) := by omega
    have hk0 : (0 : Int) ≤ (k : Int) := by omega
    go_quiet (fail)
    have HBF := Lib.hid (below_drewN HB1.out nq)
    go_wp2
    refine bodyPost_ret (v := .tuple #[.int .i64 ((k : Int) + 1), .int .i64 y]) (by simp [results, Try.results96, go_sem]) rfl ?_
    rw [HN.out]
    refine ⟨?_, HBF.out⟩
    rw [endV_some, show ((t.length - (t.drop (k + 1)).length : Nat) : Int) = (k : Int) + 1 by rw [List.length_drop]; omega]
    rfl
  · have HI := Lib.hid (show inB n 100 (100 + (vars.length : Int) - 1) = false by rw [inB_letter _ rfl]; simpa using c1)
    have hk0 : (0 : Int) ≤ (k : Int) := by omega
    by_cases c2' : 0 ≤ n ∧ n < (ops.length : Int)
    · obtain ⟨op, rfl⟩ := Int.eq_ofNat_of_zero_le c2'.1
      have HJ := Lib.hid (show inB (op : Int) 0 ((ops.length : Int) - 1) = true by rw [inB_op _ rfl]; simpa using c2')
      have hop : op < ops.length := by omega
      have hrow := opRow_valid (vars_valid hv).1 (k := op) hop
      have hN : firstM ⟨sorts, ops⟩ vars (f + 1) ((op : Int) :: t.drop (k + 1)) = (match argsM (firstM ⟨sorts, ops⟩ vars f) ops[op].dropLast (t.drop (k + 1)) with
          | none => none
          | some (ts, b) => some (.node op (ops[op].getLastD (-1)) ts, b)) := by
        rw [firstM_op (s := ⟨sorts, ops⟩) c2']; unfold nodeM; rw [Int.toNat_natCast, opRow_at (s := ⟨sorts, ops⟩) hop]; try rfl
      rw [opRow_at hop] at hrow
      simp only at hrow
      obtain ⟨b2, o2, c6, u', e, hcell, hri⟩ := HO.out.at_ hop
      cases e
      generalize ops[op] = row at hcell hri hrow hN
      have hr1 := hrow.1
      have hr3 := hrow.2.1
      obtain ⟨n, hnl⟩ : ∃ n, row.length = n + 1 := ⟨row.length - 1, by omega⟩
      rw [last_at (by omega)] at hN
      obtain ⟨b', o', c3, rfl, hl⟩ := hri.at_ (k := row.length - 1) (by omega)
      generalize row[row.length - 1]'(by omega) = lv at hl hN
      rw [show row.length - 1 = n by omega] at hl
      rw [hnl] at hcell
      have HPOS := Lib.hid hrow.2.2
      have HN := Lib.hid hN
      have HRI := Lib.hid hri
      have HIH := Lib.hid ih
      have HC := Lib.hid (And.intro f0 (And.intro f1 hl))
      clear hN hri ih hv hrow
      go_enter Try.func96, Try.ntmps96
      go_wp2_with (go_at_call 50; refine (l1In_is _ _ _ _ _ HI.out).mono ?_; rintro e w' ⟨rfl, rfl⟩)
      have hw3 : IntKind.i64.wrap ((ops.length : Int) - 1) = (ops.length : Int) - 1 := by rw [IntKind.wrap_i64]; omega
      go_quiet ((go_at_call 50; exact quiet_left (l1In_is _ _ _ _ _ HJ.out)))
      go_wp2_with fail
      go_quiet (fail)
      go_wp2
      clear f0 f1 hl hcell hx hw3
      go_loopw [11, 12, 13, 14] (fun e11 j12 x13 s14 wr => ∃ (j e : Nat) (ts : List Tm), j ≤ n ∧ j12 = .int .i64 j ∧ e11 = .int .i64 e ∧ e ≤ t.length ∧ argsM (firstM ⟨sorts, ops⟩ vars f) (row.dropLast.take j) (t.drop (k + 1)) = some (ts, t.drop e) ∧ Below (w.alloc (.cells #[.int .i64 sorts, .slice (some ⟨b2, o2, none⟩) ops.length c] 25)).heap.size (w.alloc (.cells #[.int .i64 sorts, .slice (some ⟨b2, o2, none⟩) ops.length c] 25)) wr) (fun _ j _ _ _ => n - (intOf j).toNat)
      case atStart => exact ⟨0, k + 1, [], Nat.zero_le _, rfl, by go_num, by omega, rfl, by first | exact below_drewN (Below.refl _ _) _ | exact below_drewN (below_drewN (Below.refl _ _) _) _⟩
      case round =>
        obtain ⟨j, e, ts, hj, rfl, rfl, he, harg, hbw⟩ := hrel
        have f0 := cell_keep hbw HC.out.1
        have f1 := cell_keep hbw HC.out.2.1
        have f2 := cell_keep hbw HC.out.2.2
        have HBW := Lib.hid hbw
        have HARG := Lib.hid harg
        clear hbw harg
        by_cases hlt : j < n
        · obtain ⟨b7, o7, c8, e', hx⟩ := (HRI.out.keep HBW.out).at_ (k := j) (by omega)
          cases e'
          have hstep := argsM_step (ss := row.dropLast) (by rw [List.length_dropLast]; omega) HARG.out
          rw [List.getElem_dropLast] at hstep
          have hx0 := (HPOS.out _ (List.getElem_mem (show j < row.length by omega))).1
          generalize row[j]'(by omega) = x at hx hstep hx0
          have HSTEP := Lib.hid hstep
          clear hstep
          have hlt' : (j : Int) + 1 < (n : Int) + 1 := by omega
          go_wp2_with fail
          refine (HIH.out t e _ _ _ _ (Nat.le_trans (args_shorter HARG.out).1 hr) (HS.out.keep HBW.out) (HV2.out.keep HBW.out) (HV3.out.keep HBW.out)).mono ?_
          rintro e' w2 ⟨rfl, hb⟩
          have HB := Lib.hid hb
          have f00 := cell_keep hb f0
          have f01 := cell_keep hb f1
          have f02 := cell_keep hb f2
          have hx2 := cell_keep hb hx
          clear hb f0 f1 f2 hx
          cases hf : firstM ⟨sorts, ops⟩ vars f (t.drop e) with
          | none =>
            have HFN := Lib.hid hf
            clear hf
            have hne : (-1 : Int) ≠ x := by omega
            unfold endV
            go_wp2
            refine bodyPost_ret (v := .tuple #[.int .i64 (-1), .int .i64 (-1)]) (by simp [results, Try.results96, go_sem]) rfl ?_
            have h := HSTEP.out
            rw [HFN.out] at h
            rw [HN.out, argsM_take_none h]
            exact ⟨rfl, HB1.out.trans ((HBW.out.trans (HB.out.mono HBW.out.size)).mono HB1.out.size)⟩
          | some q =>
            obtain ⟨tm, rb⟩ := q
            rw [endV_some]
            obtain ⟨hd1, hd2⟩ := drop_rest (firstM_sound _ _ _ _ hf).1
            have HFS := Lib.hid hf
            clear hf
            by_cases hts : tm.sort = x
            · subst hts
              have h := HSTEP.out
              rw [HFS.out] at h
              simp only [if_true] at h
              rw [hd1] at h
              have HNEXT := Lib.hid h
              have HBN := Lib.hid (HBW.out.trans (HB.out.mono HBW.out.size))
              clear h hd1
              have he2 : t.length - rb.length ≤ t.length := by omega
              generalize t.length - rb.length = e2 at HNEXT he2 ⊢
              go_wp2
              go_roundw
              case rel => exact ⟨j + 1, e2, ts ++ [tm], by omega, by go_num, rfl, he2, HNEXT.out, HBN.out⟩
              case measure => simp [intOf]; omega
            · have h := HSTEP.out
              rw [HFS.out] at h
              simp only [if_neg hts] at h
              have HNONE := Lib.hid (argsM_take_none h)
              clear h hd1 hd2
              generalize tm.sort = q at hts ⊢
              go_wp2
              refine bodyPost_ret (v := .tuple #[.int .i64 (-1), .int .i64 (-1)]) (by simp [results, Try.results96, go_sem]) rfl ?_
              rw [HN.out, HNONE.out]
              exact ⟨rfl, HB1.out.trans ((HBW.out.trans (HB.out.mono HBW.out.size)).mono HB1.out.size)⟩
        · have hjn : ¬ (j : Int) + 1 < (n : Int) + 1 := by omega
          have h := HARG.out
          rw [take_all (by rw [List.length_dropLast]; omega)] at h
          have HARG2 := Lib.hid h
          clear h
          go_wp2_with fail
          have hw4 : IntKind.i64.wrap ((n : Int) + 1 - 1) = (n : Int) := by rw [IntKind.wrap_i64]; omega
          go_quiet (fail)
          go_wp2
          refine bodyPost_ret (v := .tuple #[.int .i64 (e : Int), .int .i64 lv]) (by simp [results, Try.results96, go_sem]) rfl ?_
          rw [HN.out, HARG2.out]
          refine ⟨?_, below_drewN (HB1.out.trans (HBW.out.mono HB1.out.size)) _⟩
          simp only
          rw [endV_some, show ((t.length - (t.drop e).length : Nat) : Int) = (e : Int) by rw [List.length_drop]; omega]
          rfl
    · have HN := Lib.hid (firstM_bad (s := ⟨sorts, ops⟩) (vars := vars) (f := f) (rest := t.drop (k + 1)) (n := n) c2' c1)
      have HJ := Lib.hid (show inB n 0 ((ops.length : Int) - 1) = false by rw [inB_op _ rfl]; simpa using c2')
      go_enter Try.func96, Try.ntmps96
      go_wp2_with (go_at_call 50; refine (l1In_is _ _ _ _ _ HI.out).mono ?_; rintro e w' ⟨rfl, rfl⟩)
      have hw3 : IntKind.i64.wrap ((ops.length : Int) - 1) = (ops.length : Int) - 1 := by rw [IntKind.wrap_i64]; omega
      go_quiet ((go_at_call 50; exact quiet_left (l1In_is _ _ _ _ _ HJ.out)))
      have HBF := Lib.hid (below_drewN HB1.out nq)
      go_wp2
      refine bodyPost_ret (v := .tuple #[.int .i64 (-1), .int .i64 (-1)]) (by simp [results, Try.results96, go_sem]) rfl ?_
      rw [HN.out]
      exact ⟨rfl, HBF.out⟩

theorem end_any (s : MSig) (vars : List Int) (hv : varsB s vars = true) : ∀ f, EndAt s vars f := by
  intro f
  induction f with
  | zero =>
    intro t k w v vv tv hr h1 h2 h3
    rw [List.length_drop] at hr
    exact end_past s vars 0 t k w v vv tv (by omega) h1 h2 h3
  | succ f ih =>
    intro t k w v vv tv hr h1 h2 h3
    by_cases hk : k < t.length
    · exact end_step s vars hv f ih t k w v vv tv hk (by rw [List.length_drop] at hr ⊢; omega) h1 h2 h3
    · exact end_past s vars _ t k w v vv tv (by omega) h1 h2 h3
end

section
open Go.RowKit
set_option linter.unusedVariables false

theorem sortM_none {s : MSig} {vars t : List Int} (h : termM s vars t = none) : sortM s vars t = -1 := by unfold sortM; rw [h]
theorem sortM_some {s : MSig} {vars t : List Int} {tm : Tm} (h : termM s vars t = some tm) : sortM s vars t = tm.sort := by unfold sortM; rw [h]

set_option maxRecDepth 100000 in
theorem termSort_any (s : MSig) (vars t : List Int) (w : World) (v vv tv : Value) (hsm : Small t) (h1 : RSig w v s) (h2 : RInts w vv vars) (h3 : RInts w tv t) :
    Calls Try.prog 67 #[v, vv, tv] w fun e w' => e = .returned (.int .i64 (sortM s vars t)) ∧ Below w.heap.size w w' := by
  obtain ⟨u, rfl, hrr⟩ := h1
  obtain ⟨sorts, ops⟩ := s
  obtain ⟨A, c, rfl, -⟩ := hrr.form
  have hb1 := below_alloc w (.cells #[.int .i64 sorts, .slice A ops.length c] 25)
  have hbx := Lib.hid (box_cells w (.int .i64 sorts) (.slice A ops.length c) 25)
  have HS := Lib.hid (show RSig (w.alloc (.cells #[.int .i64 sorts, .slice A ops.length c] 25)) (.agg #[.int .i64 sorts, .slice A ops.length c]) ⟨sorts, ops⟩ from ⟨_, rfl, hrr.keep hb1⟩)
  have HV2 := Lib.hid (h2.keep hb1)
  have HV3 := Lib.hid (h3.keep hb1)
  obtain ⟨A2, c2, rfl, -⟩ := h2.form
  obtain ⟨A3, c3, rfl, -⟩ := h3.form
  have HB1 := Lib.hid hb1
  clear hrr h2 h3 hb1
  go_enter Try.func67, Try.ntmps67
  go_wp2_with fail
  refine (termOf_any ⟨sorts, ops⟩ vars t _ _ _ _ hsm HS.out HV2.out HV3.out).mono ?_
  rintro e w1 ⟨hm, hb⟩
  have HBF := Lib.hid (HB1.out.trans (hb.mono (by simp)))
  cases ht : termM ⟨sorts, ops⟩ vars t with
  | none =>
    rw [ht] at hm
    simp only at hm
    subst hm
    have HR := Lib.hid (sortM_none ht)
    clear ht hb
    go_wp2
    go_ret
    exact ⟨ret_int HR.out.symm, HBF.out⟩
  | some tm =>
    rw [ht] at hm
    simp only at hm
    obtain ⟨u, rfl, hu⟩ := hm
    have HR := Lib.hid (sortM_some ht)
    obtain ⟨T, y, fid, rfl, hms, hcf, hsc⟩ := hu.sorts
    have HSC := Lib.hid hsc
    clear ht hb hu hsc
    go_wp2_with fail
    refine (HSC.out _).mono ?_
    rintro e w3 ⟨rfl, hb3⟩
    have HB3 := Lib.hid hb3
    clear hb3
    go_wp2
    go_ret
    exact ⟨ret_int HR.out.symm, HBF.out.trans (HB3.out.mono HBF.out.size)⟩

set_option maxRecDepth 100000 in
theorem specTermSort_any (s : MSig) (vars t : List Int) (w : World) (v vv tv : Value) (h1 : RSig w v s) (h2 : RInts w vv vars) (h3 : RInts w tv t) :
    Calls Try.prog 66 #[v, vv, tv] w fun e w' => e = .returned (.int .i64 (sortM s vars t)) ∧ Below w.heap.size w w' := by
  obtain ⟨u, rfl, hrr⟩ := h1
  obtain ⟨sorts, ops⟩ := s
  obtain ⟨A, c, rfl, -⟩ := hrr.form
  have hb1 := below_alloc w (.cells #[.int .i64 sorts, .slice A ops.length c] 25)
  have hbx := Lib.hid (box_cells w (.int .i64 sorts) (.slice A ops.length c) 25)
  have HS := Lib.hid (show RSig (w.alloc (.cells #[.int .i64 sorts, .slice A ops.length c] 25)) (.agg #[.int .i64 sorts, .slice A ops.length c]) ⟨sorts, ops⟩ from ⟨_, rfl, hrr.keep hb1⟩)
  have HV2 := Lib.hid (h2.keep hb1)
  have HV3 := Lib.hid (h3.keep hb1)
  have hlen := h3.len
  obtain ⟨A2, c2, rfl, -⟩ := h2.form
  obtain ⟨A3, c3, rfl, -⟩ := h3.form
  have HB1 := Lib.hid hb1
  clear hrr h2 h3 hb1
  cases hv : varsB ⟨sorts, ops⟩ vars with
  | false =>
    have HR := Lib.hid (sortM_none (termM_no (s := ⟨sorts, ops⟩) (vars := vars) (t := t) (by rw [hv]; simp)))
    have HV := Lib.hid hv
    clear hv
    go_enter Try.func66, Try.ntmps66
    go_wp2_with (go_at_call 56; refine (specVarsOk_any _ _ ⟨sorts, ops⟩ vars _ HS.out HV2.out).mono ?_; rw [HV.out]; rintro e w1 ⟨rfl, hb⟩)
    go_ret
    exact ⟨ret_int HR.out.symm, HB1.out.trans (hb.mono (by simp))⟩
  | true =>
    by_cases hl : 30 < (t.length : Int)
    · have HR := Lib.hid (sortM_none (termM_no (s := ⟨sorts, ops⟩) (vars := vars) (t := t) (by omega)))
      have HV := Lib.hid hv
      clear hv
      go_enter Try.func66, Try.ntmps66
      go_wp2_with (go_at_call 56; refine (specVarsOk_any _ _ ⟨sorts, ops⟩ vars _ HS.out HV2.out).mono ?_; rw [HV.out]; rintro e w1 ⟨rfl, hb⟩)
      go_ret
      exact ⟨ret_int HR.out.symm, HB1.out.trans (hb.mono (by simp))⟩
    · have HN := Lib.hid (termM_yes hv (t := t) (by omega))
      have HV := Lib.hid hv
      have HSO : Hid (∀ tm, wfT ⟨sorts, ops⟩ vars tm → 0 ≤ tm.sort) := fun tm h => (sort_ok hv h).1
      clear hv
      have hl3 : (t.length : Int) ≤ 30 := by omega
      go_enter Try.func66, Try.ntmps66
      go_wp2_with (go_at_call 56; refine (specVarsOk_any _ _ ⟨sorts, ops⟩ vars _ HS.out HV2.out).mono ?_; rw [HV.out]; rintro e w1 ⟨rfl, hb⟩; have f0 := cell_keep hb hbx.out.1; have f1 := cell_keep hb hbx.out.2; have HB := Lib.hid hb; clear hb)
      refine (end_any ⟨sorts, ops⟩ vars HV.out 30 t 0 _ _ _ _ (by simp; omega) (HS.out.keep HB.out) (HV2.out.keep HB.out) (HV3.out.keep HB.out)).mono ?_
      rintro e w2 ⟨rfl, hb2⟩
      rw [List.drop_zero]
      have s1 := HB.out.size
      simp at s1
      have HBF := Lib.hid ((HB1.out.trans (HB.out.mono (by simp))).trans (hb2.mono (by omega)))
      clear hb2 f0 f1
      cases hf : firstM ⟨sorts, ops⟩ vars 30 t with
      | none =>
        have HR := Lib.hid (show sortM ⟨sorts, ops⟩ vars t = -1 from sortM_none (by rw [HN.out, hf]))
        clear hf
        have hne : (-1 : Int) ≠ (t.length : Int) := by omega
        unfold endV
        go_wp2
        go_ret
        exact ⟨ret_int HR.out.symm, HBF.out⟩
      | some q =>
        obtain ⟨tm, rb⟩ := q
        rw [endV_some]
        have hs := firstM_sound _ _ _ _ hf
        by_cases hrb : rb = []
        · subst hrb
          have HR := Lib.hid (show sortM ⟨sorts, ops⟩ vars t = tm.sort from sortM_some (by rw [HN.out, hf]))
          have he : ((t.length - ([] : List Int).length : Nat) : Int) = (t.length : Int) := by simp
          rw [he]
          clear hf hs he
          generalize tm.sort = q at HR ⊢
          go_wp2
          go_ret
          exact ⟨ret_int HR.out.symm, HBF.out⟩
        · have HR := Lib.hid (show sortM ⟨sorts, ops⟩ vars t = -1 from sortM_none (by rw [HN.out, hf]; cases rb with | nil => exact absurd rfl hrb | cons x l => rfl))
          have hne : ((t.length - rb.length : Nat) : Int) ≠ (t.length : Int) := by
            have h1 := congrArg List.length hs.1
            have h2 : 0 < rb.length := List.length_pos_iff.2 hrb
            rw [List.length_append] at h1
            omega
          clear hf hs
          generalize ((t.length - rb.length : Nat) : Int) = e2 at hne ⊢
          generalize tm.sort = q
          go_wp2
          go_ret
          exact ⟨ret_int HR.out.symm, HBF.out⟩
end

section
open Go.RowKit
set_option linter.unusedVariables false

def fitP (s : MSig) (vars : List Int) (q : List Int × Int) : Bool := decide (0 ≤ q.2) && decide (sortM s vars q.1 = q.2)
theorem fitsB_eq (s : MSig) (vars : List Int) (terms : List (List Int)) (sorts : List Int) : fitsB s vars terms sorts = (varsB s vars && (decide (terms.length = sorts.length) && (terms.zip sorts).all (fitP s vars))) := rfl
theorem bel_drew {a w : World} {B : Nat} (h : Below B a w) : Below B a w.drew := ⟨h.os, h.tape, h.output, h.size, h.block⟩
theorem bel_undrew {B : Nat} {w w' : World} (h : Below B w.drew w') : Below B w w' := ⟨h.os, h.tape, h.output, h.size, h.block⟩

/-- of two worlds behind one the later one keeps what the earlier one had -/
theorem fit_keep {w w1 w2 : World} (h : Below w.heap.size w w1) (k : Below w1.heap.size w1 w2) : Below w.heap.size w w2 := h.trans (k.mono h.size)
end

section
open Go.RowKit
set_option linter.unusedVariables false
set_option linter.unusedSimpArgs false

theorem eqOkB_no {s : MSig} {e : MEq} (h : ¬ 0 ≤ sortM s e.vars e.left) : eqOkB s e = false := by unfold eqOkB; simp [h]
theorem eqOkB_cmp {s : MSig} {e : MEq} (h : 0 ≤ sortM s e.vars e.left) : eqOkB s e = (sortM s e.vars e.right == sortM s e.vars e.left) := by
  unfold eqOkB; rw [decide_eq_true h, Bool.true_and]; rfl

set_option maxRecDepth 100000 in
theorem eqOk_any (s : MSig) (e : MEq) (w : World) (v ev : Value) (hsm : SmallE e) (h : RSig w v s) (he : REq w ev e) :
    Calls Try.prog 29 #[v, ev] w fun x w' => x = .returned (.bool (eqOkB s e)) ∧ Below w.heap.size w w' := by
  obtain ⟨A, c, rfl⟩ := h.form
  obtain ⟨A0, c0, A1, c1, A2, c2, rfl⟩ := he.form
  have hb : Below w.heap.size w ((w.alloc (.cells #[.int .i64 s.sorts, .slice A s.ops.length c] 25)).alloc (.cells #[.slice A0 e.vars.length c0, .slice A1 e.left.length c1, .slice A2 e.right.length c2] 41)) := (below_alloc _ _).alloc (by simp) _
  obtain ⟨r0, r1, r2⟩ := (he.keep hb).of
  have HS := Lib.hid (h.keep hb)
  have R0 := Lib.hid r0
  have R1 := Lib.hid r1
  have R2 := Lib.hid r2
  have HB := Lib.hid hb
  have HSM := Lib.hid hsm
  have s0 := cell_keep (below_alloc (w.alloc (.cells #[.int .i64 s.sorts, .slice A s.ops.length c] 25)) (.cells #[.slice A0 e.vars.length c0, .slice A1 e.left.length c1, .slice A2 e.right.length c2] 41)) (bx_at w #[.int .i64 s.sorts, .slice A s.ops.length c] 25 (k := 0) rfl)
  have s1 := cell_keep (below_alloc (w.alloc (.cells #[.int .i64 s.sorts, .slice A s.ops.length c] 25)) (.cells #[.slice A0 e.vars.length c0, .slice A1 e.left.length c1, .slice A2 e.right.length c2] 41)) (bx_at w #[.int .i64 s.sorts, .slice A s.ops.length c] 25 (k := 1) rfl)
  have e0 := bx_at (w.alloc (.cells #[.int .i64 s.sorts, .slice A s.ops.length c] 25)) #[.slice A0 e.vars.length c0, .slice A1 e.left.length c1, .slice A2 e.right.length c2] 41 (k := 0) rfl
  have e1 := bx_at (w.alloc (.cells #[.int .i64 s.sorts, .slice A s.ops.length c] 25)) #[.slice A0 e.vars.length c0, .slice A1 e.left.length c1, .slice A2 e.right.length c2] 41 (k := 1) rfl
  have e2 := bx_at (w.alloc (.cells #[.int .i64 s.sorts, .slice A s.ops.length c] 25)) #[.slice A0 e.vars.length c0, .slice A1 e.left.length c1, .slice A2 e.right.length c2] 41 (k := 2) rfl
  simp only [World.size_alloc] at e0 e1 e2
  generalize hW : (w.alloc (.cells #[.int .i64 s.sorts, .slice A s.ops.length c] 25)).alloc (.cells #[.slice A0 e.vars.length c0, .slice A1 e.left.length c1, .slice A2 e.right.length c2] 41) = W at HS R0 R1 R2 HB s0 s1 e0 e1 e2
  clear h he hb r0 r1 r2 hsm
  go_enter Try.func29, Try.ntmps29
  go_wp2_with fail
  clear hW
  refine (termSort_any s e.vars e.left _ _ _ _ HSM.out.1 HS.out R0.out R1.out).mono ?_
  rintro x w1 ⟨rfl, hb1⟩
  have t0 := cell_keep hb1 s0
  have t1 := cell_keep hb1 s1
  have t2 := cell_keep hb1 e0
  have t3 := cell_keep hb1 e1
  have t4 := cell_keep hb1 e2
  have HB1 := Lib.hid (fit_keep HB.out hb1)
  have HS1 := Lib.hid (HS.out.keep hb1)
  have R01 := Lib.hid (R0.out.keep hb1)
  have R21 := Lib.hid (R2.out.keep hb1)
  clear hb1 s0 s1 e0 e1 e2 HS R0 R1 R2 HB
  by_cases h0 : 0 ≤ sortM s e.vars e.left
  · have HE := Lib.hid (eqOkB_cmp h0)
    generalize hq : sortM s e.vars e.left = q at h0 HE
    clear hq
    go_wp2_with fail
    refine (termSort_any s e.vars e.right _ _ _ _ HSM.out.2 HS1.out R01.out R21.out).mono ?_
    rintro x w2 ⟨rfl, hb2⟩
    have HB2 := Lib.hid (fit_keep HB1.out hb2)
    clear hb2 t0 t1 t2 t3 t4
    go_wp2
    go_ret
    exact ⟨ret_bool HE.out.symm, HB2.out⟩
  · have HE := Lib.hid (eqOkB_no h0)
    generalize hq : sortM s e.vars e.left = q at h0
    clear hq
    go_wp2
    go_ret
    exact ⟨ret_bool HE.out.symm, HB1.out⟩

set_option maxRecDepth 100000 in
set_option maxHeartbeats 1600000 in
theorem specEqOk_any (s : MSig) (e : MEq) (w : World) (v ev : Value) (h : RSig w v s) (he : REq w ev e) :
    Calls Try.prog 23 #[v, ev] w fun x w' => x = .returned (.bool (eqOkB s e)) ∧ Below w.heap.size w w' := by
  obtain ⟨Asa, csa, rfl⟩ := h.form
  obtain ⟨Aea, cea, Aeb, ceb, Aec, cec, rfl⟩ := he.form
  have hb : Below w.heap.size w ((w.alloc (.cells #[.int .i64 s.sorts, .slice Asa s.ops.length csa] 25)).alloc (.cells #[.slice Aea e.vars.length cea, .slice Aeb e.left.length ceb, .slice Aec e.right.length cec] 41)) := (below_alloc _ _).alloc (by simp) _
  have HB := Lib.hid hb
  have hsz : ((w.alloc (.cells #[.int .i64 s.sorts, .slice Asa s.ops.length csa] 25)).alloc (.cells #[.slice Aea e.vars.length cea, .slice Aeb e.left.length ceb, .slice Aec e.right.length cec] 41)).heap.size = w.heap.size + 2 := by simp
  have Hs := Lib.hid (h.keep hb)
  have s0 := cell_keep (below_alloc (w.alloc (.cells #[.int .i64 s.sorts, .slice Asa s.ops.length csa] 25)) (.cells #[.slice Aea e.vars.length cea, .slice Aeb e.left.length ceb, .slice Aec e.right.length cec] 41)) (bx_at (w) #[.int .i64 s.sorts, .slice Asa s.ops.length csa] 25 (k := 0) rfl)
  have s1 := cell_keep (below_alloc (w.alloc (.cells #[.int .i64 s.sorts, .slice Asa s.ops.length csa] 25)) (.cells #[.slice Aea e.vars.length cea, .slice Aeb e.left.length ceb, .slice Aec e.right.length cec] 41)) (bx_at (w) #[.int .i64 s.sorts, .slice Asa s.ops.length csa] 25 (k := 1) rfl)
  have He := Lib.hid (he.keep hb)
  have e0 := bx_at (w.alloc (.cells #[.int .i64 s.sorts, .slice Asa s.ops.length csa] 25)) #[.slice Aea e.vars.length cea, .slice Aeb e.left.length ceb, .slice Aec e.right.length cec] 41 (k := 0) rfl
  have e1 := bx_at (w.alloc (.cells #[.int .i64 s.sorts, .slice Asa s.ops.length csa] 25)) #[.slice Aea e.vars.length cea, .slice Aeb e.left.length ceb, .slice Aec e.right.length cec] 41 (k := 1) rfl
  have e2 := bx_at (w.alloc (.cells #[.int .i64 s.sorts, .slice Asa s.ops.length csa] 25)) #[.slice Aea e.vars.length cea, .slice Aeb e.left.length ceb, .slice Aec e.right.length cec] 41 (k := 2) rfl
  simp only [World.size_alloc] at e0 e1 e2
  generalize hW : (w.alloc (.cells #[.int .i64 s.sorts, .slice Asa s.ops.length csa] 25)).alloc (.cells #[.slice Aea e.vars.length cea, .slice Aeb e.left.length ceb, .slice Aec e.right.length cec] 41) = W at HB hsz Hs s0 s1 He e0 e1 e2
  clear hb h he
  obtain ⟨r0, r1, r2⟩ := He.out.of
  have R0 := Lib.hid r0
  have R1 := Lib.hid r1
  have R2 := Lib.hid r2
  have HC := Lib.hid (And.intro s0 (And.intro s1 (And.intro e0 (And.intro e1 e2))))
  clear r0 r1 r2
  have ea := World.new_ne W _ s0
  have eb := World.new_ne W _ e0
  by_cases h0 : 0 ≤ sortM s e.vars e.left
  · have HE := Lib.hid (eqOkB_cmp h0)
    obtain ⟨q, hq⟩ : ∃ q, sortM s e.vars e.left = q := ⟨_, rfl⟩
    obtain ⟨p, hp⟩ : ∃ p, sortM s e.vars e.right = p := ⟨_, rfl⟩
    rw [hq] at h0 HE
    rw [hp] at HE
    have HQ := Lib.hid hq
    have HP := Lib.hid hp
    clear hq hp
    go_enter Try.func23, Try.ntmps23
    go_wp2_with fail
    clear hW
    refine wp_region_held_drew (S := (fun w' => w'.cell? ⟨w.heap.size, 0, none⟩ = some (.int .i64 s.sorts) ∧ w'.cell? ⟨w.heap.size, 1, none⟩ = some (.slice Asa s.ops.length csa) ∧ w'.cell? ⟨w.heap.size + 1, 0, none⟩ = some (.slice Aea e.vars.length cea) ∧ w'.cell? ⟨w.heap.size + 1, 1, none⟩ = some (.slice Aeb e.left.length ceb) ∧ w'.cell? ⟨w.heap.size + 1, 2, none⟩ = some (.slice Aec e.right.length cec))) (by kernel_rfl) ?_ (fun hHeld => ?_)
    · exact ⟨s0, s1, e0, e1, e2⟩
    refine wpAnyH_take (i := 0) (oi := _) (v := ?_) rfl (by kernel_rfl) (by kernel_rfl) (by kernel_rfl) (fun _ _ _ h => h) (Or.inl ⟨by rfl, ?_⟩) (by assumption) ?_
    rotate_left
    · first | (intro w' hSw; (try dsimp only at hSw); go_simp; done) | (intro w' hSw; (try dsimp only at hSw); go_simp; with_reducible rfl)
    try simp only [Act.put, List.getElem_toArray, List.getElem_cons_zero, List.getElem_cons_succ, List.setIfInBounds_toArray, List.set_cons_zero, List.set_cons_succ]
    refine wpAnyH_take (i := 1) (oi := _) (v := ?_) rfl (by kernel_rfl) (by kernel_rfl) (by kernel_rfl) (fun _ _ _ h => h) (Or.inl ⟨by rfl, ?_⟩) (by assumption) ?_
    rotate_left
    · first | (intro w' hSw; (try dsimp only at hSw); go_simp; done) | (intro w' hSw; (try dsimp only at hSw); go_simp; with_reducible rfl)
    try simp only [Act.put, List.getElem_toArray, List.getElem_cons_zero, List.getElem_cons_succ, List.setIfInBounds_toArray, List.set_cons_zero, List.set_cons_succ]
    refine wpAnyH_take (i := 2) (oi := _) (v := ?_) rfl (by kernel_rfl) (by kernel_rfl) (by kernel_rfl) (fun _ _ _ h => h) (Or.inl ⟨by rfl, ?_⟩) (by assumption) ?_
    rotate_left
    · first | (intro w' hSw; (try dsimp only at hSw); go_simp; done) | (intro w' hSw; (try dsimp only at hSw); go_simp; with_reducible rfl)
    try simp only [Act.put, List.getElem_toArray, List.getElem_cons_zero, List.getElem_cons_succ, List.setIfInBounds_toArray, List.set_cons_zero, List.set_cons_succ]
    refine wpAnyH_take (i := 3) (oi := _) (v := ?_) rfl (by kernel_rfl) (by kernel_rfl) (by kernel_rfl) (fun _ _ _ h => h) (Or.inl ⟨by rfl, ?_⟩) (by assumption) ?_
    rotate_left
    · first | (intro w' hSw; (try dsimp only at hSw); go_simp; done) | (intro w' hSw; (try dsimp only at hSw); go_simp; with_reducible rfl)
    try simp only [Act.put, List.getElem_toArray, List.getElem_cons_zero, List.getElem_cons_succ, List.setIfInBounds_toArray, List.set_cons_zero, List.set_cons_succ]
    refine wpAnyH_take (i := 4) (oi := _) (v := ?_) rfl (by kernel_rfl) (by kernel_rfl) (by kernel_rfl) (fun _ _ _ h => h) (Or.inl ⟨by rfl, ?_⟩) (by assumption) ?_
    rotate_left
    · first | (intro w' hSw; (try dsimp only at hSw); go_simp; done) | (intro w' hSw; (try dsimp only at hSw); go_simp; with_reducible rfl)
    try simp only [Act.put, List.getElem_toArray, List.getElem_cons_zero, List.getElem_cons_succ, List.setIfInBounds_toArray, List.set_cons_zero, List.set_cons_succ]
    refine wpAnyH_ready (rs := [5]) (by kernel_rfl) (by simp) ?_
    refine AllReadyH.cons (o := _) rfl (fun K hK => ?_) AllReadyH.nil
    go_simp
    refine (specTermSort_any s e.vars e.left W.drew _ _ _ (Hs.out.keep (bel_drew (Below.refl _ _))) (R0.out.keep (bel_drew (Below.refl _ _))) (R1.out.keep (bel_drew (Below.refl _ _)))).mono ?_
    rw [HQ.out]
    rintro x w1 ⟨rfl, hb1⟩
    have hx1 := (show Below W.heap.size W w1 from bel_undrew hb1)
    have HX1 := Lib.hid hx1
    have t0 := cell_keep hx1 s0
    have t1 := cell_keep hx1 s1
    have t2 := cell_keep hx1 e0
    have t3 := cell_keep hx1 e1
    have t4 := cell_keep hx1 e2
    clear hb1 hx1
    go_wp2_with fail
    refine hK.out _ _ ?_ (fun hHeld => ?_)
    · exact ⟨t0, t1, t2, t3, t4⟩
    clear hK K
    try simp only [Act.put, List.getElem_toArray, List.getElem_cons_zero, List.getElem_cons_succ, List.setIfInBounds_toArray, List.set_cons_zero, List.set_cons_succ]
    refine wpAnyH_take (i := 6) (oi := _) (v := ?_) rfl (by kernel_rfl) (by kernel_rfl) (by kernel_rfl) (fun _ _ _ h => h) (Or.inl ⟨by rfl, ?_⟩) (by assumption) ?_
    rotate_left
    · first | (intro w' hSw; (try dsimp only at hSw); go_simp; done) | (intro w' hSw; (try dsimp only at hSw); go_simp; with_reducible rfl)
    try simp only [Act.put, List.getElem_toArray, List.getElem_cons_zero, List.getElem_cons_succ, List.setIfInBounds_toArray, List.set_cons_zero, List.set_cons_succ]
    refine wpAnyH_take (i := 7) (oi := _) (v := ?_) rfl (by kernel_rfl) (by kernel_rfl) (by kernel_rfl) (fun _ _ _ h => h) (Or.inl ⟨by rfl, ?_⟩) (by assumption) ?_
    rotate_left
    · first | (intro w' hSw; (try dsimp only at hSw); go_simp; done) | (intro w' hSw; (try dsimp only at hSw); go_simp; with_reducible rfl)
    try simp only [Act.put, List.getElem_toArray, List.getElem_cons_zero, List.getElem_cons_succ, List.setIfInBounds_toArray, List.set_cons_zero, List.set_cons_succ]
    refine wpAnyH_take (i := 8) (oi := _) (v := ?_) rfl (by kernel_rfl) (by kernel_rfl) (by kernel_rfl) (fun _ _ _ h => h) (Or.inl ⟨by rfl, ?_⟩) (by assumption) ?_
    rotate_left
    · first | (intro w' hSw; (try dsimp only at hSw); go_simp; done) | (intro w' hSw; (try dsimp only at hSw); go_simp; with_reducible rfl)
    try simp only [Act.put, List.getElem_toArray, List.getElem_cons_zero, List.getElem_cons_succ, List.setIfInBounds_toArray, List.set_cons_zero, List.set_cons_succ]
    refine wpAnyH_take (i := 9) (oi := _) (v := ?_) rfl (by kernel_rfl) (by kernel_rfl) (by kernel_rfl) (fun _ _ _ h => h) (Or.inl ⟨by rfl, ?_⟩) (by assumption) ?_
    rotate_left
    · first | (intro w' hSw; (try dsimp only at hSw); go_simp; done) | (intro w' hSw; (try dsimp only at hSw); go_simp; with_reducible rfl)
    try simp only [Act.put, List.getElem_toArray, List.getElem_cons_zero, List.getElem_cons_succ, List.setIfInBounds_toArray, List.set_cons_zero, List.set_cons_succ]
    refine wpAnyH_take (i := 10) (oi := _) (v := ?_) rfl (by kernel_rfl) (by kernel_rfl) (by kernel_rfl) (fun _ _ _ h => h) (Or.inl ⟨by rfl, ?_⟩) (by assumption) ?_
    rotate_left
    · first | (intro w' hSw; (try dsimp only at hSw); go_simp; done) | (intro w' hSw; (try dsimp only at hSw); go_simp; with_reducible rfl)
    try simp only [Act.put, List.getElem_toArray, List.getElem_cons_zero, List.getElem_cons_succ, List.setIfInBounds_toArray, List.set_cons_zero, List.set_cons_succ]
    refine wpAnyH_take (i := 11) (oi := _) (v := ?_) rfl (by kernel_rfl) (by kernel_rfl) (by kernel_rfl) (fun _ _ _ h => h) (Or.inl ⟨by rfl, ?_⟩) (by assumption) ?_
    rotate_left
    · first | (intro w' hSw; (try dsimp only at hSw); go_simp; done) | (intro w' hSw; (try dsimp only at hSw); go_simp; with_reducible rfl)
    try simp only [Act.put, List.getElem_toArray, List.getElem_cons_zero, List.getElem_cons_succ, List.setIfInBounds_toArray, List.set_cons_zero, List.set_cons_succ]
    refine wpAnyH_take (i := 12) (oi := _) (v := ?_) rfl (by kernel_rfl) (by kernel_rfl) (by kernel_rfl) (fun _ _ _ h => h) (Or.inl ⟨by rfl, ?_⟩) (by assumption) ?_
    rotate_left
    · first | (intro w' hSw; (try dsimp only at hSw); go_simp; done) | (intro w' hSw; (try dsimp only at hSw); go_simp; with_reducible rfl)
    try simp only [Act.put, List.getElem_toArray, List.getElem_cons_zero, List.getElem_cons_succ, List.setIfInBounds_toArray, List.set_cons_zero, List.set_cons_succ]
    refine wpAnyH_take (i := 14) (oi := _) (v := ?_) rfl (by kernel_rfl) (by kernel_rfl) (by kernel_rfl) (fun _ _ _ h => h) (Or.inl ⟨by rfl, ?_⟩) (by assumption) ?_
    rotate_left
    · first | (intro w' hSw; (try dsimp only at hSw); go_simp; done) | (intro w' hSw; (try dsimp only at hSw); go_simp; with_reducible rfl)
    try simp only [Act.put, List.getElem_toArray, List.getElem_cons_zero, List.getElem_cons_succ, List.setIfInBounds_toArray, List.set_cons_zero, List.set_cons_succ]
    refine wpAnyH_take (i := 15) (oi := _) (v := ?_) rfl (by kernel_rfl) (by kernel_rfl) (by kernel_rfl) (fun _ _ _ h => h) (Or.inl ⟨by rfl, ?_⟩) (by assumption) ?_
    rotate_left
    · first | (intro w' hSw; (try dsimp only at hSw); go_simp; done) | (intro w' hSw; (try dsimp only at hSw); go_simp; with_reducible rfl)
    try simp only [Act.put, List.getElem_toArray, List.getElem_cons_zero, List.getElem_cons_succ, List.setIfInBounds_toArray, List.set_cons_zero, List.set_cons_succ]
    refine wpAnyH_take (i := 16) (oi := _) (v := ?_) rfl (by kernel_rfl) (by kernel_rfl) (by kernel_rfl) (fun _ _ _ h => h) (Or.inl ⟨by rfl, ?_⟩) (by assumption) ?_
    rotate_left
    · first | (intro w' hSw; (try dsimp only at hSw); go_simp; done) | (intro w' hSw; (try dsimp only at hSw); go_simp; with_reducible rfl)
    try simp only [Act.put, List.getElem_toArray, List.getElem_cons_zero, List.getElem_cons_succ, List.setIfInBounds_toArray, List.set_cons_zero, List.set_cons_succ]
    refine wpAnyH_take (i := 17) (oi := _) (v := ?_) rfl (by kernel_rfl) (by kernel_rfl) (by kernel_rfl) (fun _ _ _ h => h) (Or.inl ⟨by rfl, ?_⟩) (by assumption) ?_
    rotate_left
    · first | (intro w' hSw; (try dsimp only at hSw); go_simp; done) | (intro w' hSw; (try dsimp only at hSw); go_simp; with_reducible rfl)
    try simp only [Act.put, List.getElem_toArray, List.getElem_cons_zero, List.getElem_cons_succ, List.setIfInBounds_toArray, List.set_cons_zero, List.set_cons_succ]
    refine wpAnyH_take (i := 18) (oi := _) (v := ?_) rfl (by kernel_rfl) (by kernel_rfl) (by kernel_rfl) (fun _ _ _ h => h) (Or.inl ⟨by rfl, ?_⟩) (by assumption) ?_
    rotate_left
    · first | (intro w' hSw; (try dsimp only at hSw); go_simp; done) | (intro w' hSw; (try dsimp only at hSw); go_simp; with_reducible rfl)
    try simp only [Act.put, List.getElem_toArray, List.getElem_cons_zero, List.getElem_cons_succ, List.setIfInBounds_toArray, List.set_cons_zero, List.set_cons_succ]
    refine wpAnyH_ready (rs := [13]) (by kernel_rfl) (by simp) ?_
    refine AllReadyH.cons (o := _) rfl (fun K hK => ?_) AllReadyH.nil
    go_simp
    refine (specTermSort_any s e.vars e.left w1 _ _ _ (Hs.out.keep HX1.out) (R0.out.keep HX1.out) (R1.out.keep HX1.out)).mono ?_
    rw [HQ.out]
    rintro x w2 ⟨rfl, hb2⟩
    have HX2 := Lib.hid (fit_keep HX1.out hb2)
    have u0 := cell_keep hb2 t0
    have u1 := cell_keep hb2 t1
    have u2 := cell_keep hb2 t2
    have u3 := cell_keep hb2 t3
    have u4 := cell_keep hb2 t4
    clear hb2
    go_wp2_with fail
    refine hK.out _ _ ?_ (fun hHeld => ?_)
    · exact ⟨u0, u1, u2, u3, u4⟩
    clear hK K
    try simp only [Act.put, List.getElem_toArray, List.getElem_cons_zero, List.getElem_cons_succ, List.setIfInBounds_toArray, List.set_cons_zero, List.set_cons_succ]
    refine wpAnyH_ready (rs := [19]) (by kernel_rfl) (by simp) ?_
    refine AllReadyH.cons (o := _) rfl (fun K hK => ?_) AllReadyH.nil
    go_simp
    refine (specTermSort_any s e.vars e.right w2 _ _ _ (Hs.out.keep HX2.out) (R0.out.keep HX2.out) (R2.out.keep HX2.out)).mono ?_
    rw [HP.out]
    rintro x w3 ⟨rfl, hb3⟩
    have HX3 := Lib.hid (fit_keep HX2.out hb3)
    have v0 := cell_keep hb3 u0
    have v1 := cell_keep hb3 u1
    have v2 := cell_keep hb3 u2
    have v3 := cell_keep hb3 u3
    have v4 := cell_keep hb3 u4
    clear hb3
    go_wp2_with fail
    refine hK.out _ _ ?_ (fun hHeld => ?_)
    · exact ⟨v0, v1, v2, v3, v4⟩
    clear hK K
    try simp only [Act.put, List.getElem_toArray, List.getElem_cons_zero, List.getElem_cons_succ, List.setIfInBounds_toArray, List.set_cons_zero, List.set_cons_succ]
    refine wpAnyH_take (i := 20) (oi := _) (v := ?_) rfl (by kernel_rfl) (by kernel_rfl) (by kernel_rfl) (fun _ _ _ h => h) (Or.inl ⟨by rfl, ?_⟩) (by assumption) ?_
    rotate_left
    · first | (intro w' hSw; (try dsimp only at hSw); go_simp; done) | (intro w' hSw; (try dsimp only at hSw); go_simp; with_reducible rfl)
    try simp only [Act.put, List.getElem_toArray, List.getElem_cons_zero, List.getElem_cons_succ, List.setIfInBounds_toArray, List.set_cons_zero, List.set_cons_succ]
    refine wpAnyH_take (i := 21) (oi := _) (v := ?_) rfl (by kernel_rfl) (by kernel_rfl) (by kernel_rfl) (fun _ _ _ h => h) (Or.inl ⟨by rfl, ?_⟩) (by assumption) ?_
    rotate_left
    · first | (intro w' hSw; (try dsimp only at hSw); go_simp; done) | (intro w' hSw; (try dsimp only at hSw); go_simp; with_reducible rfl)
    try simp only [Act.put, List.getElem_toArray, List.getElem_cons_zero, List.getElem_cons_succ, List.setIfInBounds_toArray, List.set_cons_zero, List.set_cons_succ]
    refine wpAnyH_take (i := 22) (oi := _) (v := ?_) rfl (by kernel_rfl) (by kernel_rfl) (by kernel_rfl) (fun _ _ _ h => h) (Or.inl ⟨by rfl, ?_⟩) (by assumption) ?_
    rotate_left
    · first | (intro w' hSw; (try dsimp only at hSw); go_simp; done) | (intro w' hSw; (try dsimp only at hSw); go_simp; with_reducible rfl)
    try simp only [Act.put, List.getElem_toArray, List.getElem_cons_zero, List.getElem_cons_succ, List.setIfInBounds_toArray, List.set_cons_zero, List.set_cons_succ]
    refine wpAnyH_done (by kernel_rfl) ?_ _
    clear s0 s1 e0 e1 e2 t0 t1 t2 t3 t4 u0 u1 u2 u3 u4 v0 v1 v2 v3 v4 ea eb
    go_wp2
    go_ret
    exact ⟨ret_bool (by rw [HE.out]; exact Bool.beq_comm), fit_keep HB.out HX3.out⟩
  · have HE := Lib.hid (eqOkB_no h0)
    obtain ⟨q, hq⟩ : ∃ q, sortM s e.vars e.left = q := ⟨_, rfl⟩
    rw [hq] at h0
    have h0' : q < 0 := by omega
    have h1' : decide (0 ≤ q) = false := by simp; omega
    have HQ := Lib.hid hq
    clear hq
    go_enter Try.func23, Try.ntmps23
    go_wp2_with fail
    clear hW
    refine wp_region_held_drew (S := (fun w' => w'.cell? ⟨w.heap.size, 0, none⟩ = some (.int .i64 s.sorts) ∧ w'.cell? ⟨w.heap.size, 1, none⟩ = some (.slice Asa s.ops.length csa) ∧ w'.cell? ⟨w.heap.size + 1, 0, none⟩ = some (.slice Aea e.vars.length cea) ∧ w'.cell? ⟨w.heap.size + 1, 1, none⟩ = some (.slice Aeb e.left.length ceb) ∧ w'.cell? ⟨w.heap.size + 1, 2, none⟩ = some (.slice Aec e.right.length cec))) (by kernel_rfl) ?_ (fun hHeld => ?_)
    · exact ⟨s0, s1, e0, e1, e2⟩
    refine wpAnyH_take (i := 0) (oi := _) (v := ?_) rfl (by kernel_rfl) (by kernel_rfl) (by kernel_rfl) (fun _ _ _ h => h) (Or.inl ⟨by rfl, ?_⟩) (by assumption) ?_
    rotate_left
    · first | (intro w' hSw; (try dsimp only at hSw); go_simp; done) | (intro w' hSw; (try dsimp only at hSw); go_simp; with_reducible rfl)
    try simp only [Act.put, List.getElem_toArray, List.getElem_cons_zero, List.getElem_cons_succ, List.setIfInBounds_toArray, List.set_cons_zero, List.set_cons_succ]
    refine wpAnyH_take (i := 1) (oi := _) (v := ?_) rfl (by kernel_rfl) (by kernel_rfl) (by kernel_rfl) (fun _ _ _ h => h) (Or.inl ⟨by rfl, ?_⟩) (by assumption) ?_
    rotate_left
    · first | (intro w' hSw; (try dsimp only at hSw); go_simp; done) | (intro w' hSw; (try dsimp only at hSw); go_simp; with_reducible rfl)
    try simp only [Act.put, List.getElem_toArray, List.getElem_cons_zero, List.getElem_cons_succ, List.setIfInBounds_toArray, List.set_cons_zero, List.set_cons_succ]
    refine wpAnyH_take (i := 2) (oi := _) (v := ?_) rfl (by kernel_rfl) (by kernel_rfl) (by kernel_rfl) (fun _ _ _ h => h) (Or.inl ⟨by rfl, ?_⟩) (by assumption) ?_
    rotate_left
    · first | (intro w' hSw; (try dsimp only at hSw); go_simp; done) | (intro w' hSw; (try dsimp only at hSw); go_simp; with_reducible rfl)
    try simp only [Act.put, List.getElem_toArray, List.getElem_cons_zero, List.getElem_cons_succ, List.setIfInBounds_toArray, List.set_cons_zero, List.set_cons_succ]
    refine wpAnyH_take (i := 3) (oi := _) (v := ?_) rfl (by kernel_rfl) (by kernel_rfl) (by kernel_rfl) (fun _ _ _ h => h) (Or.inl ⟨by rfl, ?_⟩) (by assumption) ?_
    rotate_left
    · first | (intro w' hSw; (try dsimp only at hSw); go_simp; done) | (intro w' hSw; (try dsimp only at hSw); go_simp; with_reducible rfl)
    try simp only [Act.put, List.getElem_toArray, List.getElem_cons_zero, List.getElem_cons_succ, List.setIfInBounds_toArray, List.set_cons_zero, List.set_cons_succ]
    refine wpAnyH_take (i := 4) (oi := _) (v := ?_) rfl (by kernel_rfl) (by kernel_rfl) (by kernel_rfl) (fun _ _ _ h => h) (Or.inl ⟨by rfl, ?_⟩) (by assumption) ?_
    rotate_left
    · first | (intro w' hSw; (try dsimp only at hSw); go_simp; done) | (intro w' hSw; (try dsimp only at hSw); go_simp; with_reducible rfl)
    try simp only [Act.put, List.getElem_toArray, List.getElem_cons_zero, List.getElem_cons_succ, List.setIfInBounds_toArray, List.set_cons_zero, List.set_cons_succ]
    refine wpAnyH_ready (rs := [5]) (by kernel_rfl) (by simp) ?_
    refine AllReadyH.cons (o := _) rfl (fun K hK => ?_) AllReadyH.nil
    go_simp
    refine (specTermSort_any s e.vars e.left W.drew _ _ _ (Hs.out.keep (bel_drew (Below.refl _ _))) (R0.out.keep (bel_drew (Below.refl _ _))) (R1.out.keep (bel_drew (Below.refl _ _)))).mono ?_
    rw [HQ.out]
    rintro x w1 ⟨rfl, hb1⟩
    have hx1 := (show Below W.heap.size W w1 from bel_undrew hb1)
    have HX1 := Lib.hid hx1
    have t0 := cell_keep hx1 s0
    have t1 := cell_keep hx1 s1
    have t2 := cell_keep hx1 e0
    have t3 := cell_keep hx1 e1
    have t4 := cell_keep hx1 e2
    clear hb1 hx1
    go_wp2_with fail
    refine hK.out _ _ ?_ (fun hHeld => ?_)
    · exact ⟨t0, t1, t2, t3, t4⟩
    clear hK K
    try simp only [Act.put, List.getElem_toArray, List.getElem_cons_zero, List.getElem_cons_succ, List.setIfInBounds_toArray, List.set_cons_zero, List.set_cons_succ]
    refine wpAnyH_take (i := 6) (oi := _) (v := ?_) rfl (by kernel_rfl) (by kernel_rfl) (by kernel_rfl) (fun _ _ _ h => h) (Or.inl ⟨by rfl, ?_⟩) (by assumption) ?_
    rotate_left
    · first | (intro w' hSw; (try dsimp only at hSw); go_simp; done) | (intro w' hSw; (try dsimp only at hSw); go_simp; with_reducible rfl)
    try simp only [Act.put, List.getElem_toArray, List.getElem_cons_zero, List.getElem_cons_succ, List.setIfInBounds_toArray, List.set_cons_zero, List.set_cons_succ]
    refine wpAnyH_take (i := 7) (oi := _) (v := ?_) rfl (by kernel_rfl) (by kernel_rfl) (by kernel_rfl) (fun _ _ _ h => h) (Or.inl ⟨by rfl, ?_⟩) (by assumption) ?_
    rotate_left
    · first | (intro w' hSw; (try dsimp only at hSw); go_simp; done) | (intro w' hSw; (try dsimp only at hSw); go_simp; with_reducible rfl)
    try simp only [Act.put, List.getElem_toArray, List.getElem_cons_zero, List.getElem_cons_succ, List.setIfInBounds_toArray, List.set_cons_zero, List.set_cons_succ]
    refine wpAnyH_take (i := 8) (oi := _) (v := _) rfl (by kernel_rfl) (by kernel_rfl) (by kernel_rfl) (fun _ _ _ h => h) (Or.inr ⟨by rfl, rfl⟩) (by assumption) ?_
    try simp only [Act.put, List.getElem_toArray, List.getElem_cons_zero, List.getElem_cons_succ, List.setIfInBounds_toArray, List.set_cons_zero, List.set_cons_succ]
    refine wpAnyH_take (i := 9) (oi := _) (v := _) rfl (by kernel_rfl) (by kernel_rfl) (by kernel_rfl) (fun _ _ _ h => h) (Or.inr ⟨by rfl, rfl⟩) (by assumption) ?_
    try simp only [Act.put, List.getElem_toArray, List.getElem_cons_zero, List.getElem_cons_succ, List.setIfInBounds_toArray, List.set_cons_zero, List.set_cons_succ]
    refine wpAnyH_take (i := 10) (oi := _) (v := _) rfl (by kernel_rfl) (by kernel_rfl) (by kernel_rfl) (fun _ _ _ h => h) (Or.inr ⟨by rfl, rfl⟩) (by assumption) ?_
    try simp only [Act.put, List.getElem_toArray, List.getElem_cons_zero, List.getElem_cons_succ, List.setIfInBounds_toArray, List.set_cons_zero, List.set_cons_succ]
    refine wpAnyH_take (i := 11) (oi := _) (v := _) rfl (by kernel_rfl) (by kernel_rfl) (by kernel_rfl) (fun _ _ _ h => h) (Or.inr ⟨by rfl, rfl⟩) (by assumption) ?_
    try simp only [Act.put, List.getElem_toArray, List.getElem_cons_zero, List.getElem_cons_succ, List.setIfInBounds_toArray, List.set_cons_zero, List.set_cons_succ]
    refine wpAnyH_take (i := 12) (oi := _) (v := _) rfl (by kernel_rfl) (by kernel_rfl) (by kernel_rfl) (fun _ _ _ h => h) (Or.inr ⟨by rfl, rfl⟩) (by assumption) ?_
    try simp only [Act.put, List.getElem_toArray, List.getElem_cons_zero, List.getElem_cons_succ, List.setIfInBounds_toArray, List.set_cons_zero, List.set_cons_succ]
    refine wpAnyH_take (i := 14) (oi := _) (v := _) rfl (by kernel_rfl) (by kernel_rfl) (by kernel_rfl) (fun _ _ _ h => h) (Or.inr ⟨by rfl, rfl⟩) (by assumption) ?_
    try simp only [Act.put, List.getElem_toArray, List.getElem_cons_zero, List.getElem_cons_succ, List.setIfInBounds_toArray, List.set_cons_zero, List.set_cons_succ]
    refine wpAnyH_take (i := 15) (oi := _) (v := _) rfl (by kernel_rfl) (by kernel_rfl) (by kernel_rfl) (fun _ _ _ h => h) (Or.inr ⟨by rfl, rfl⟩) (by assumption) ?_
    try simp only [Act.put, List.getElem_toArray, List.getElem_cons_zero, List.getElem_cons_succ, List.setIfInBounds_toArray, List.set_cons_zero, List.set_cons_succ]
    refine wpAnyH_take (i := 16) (oi := _) (v := _) rfl (by kernel_rfl) (by kernel_rfl) (by kernel_rfl) (fun _ _ _ h => h) (Or.inr ⟨by rfl, rfl⟩) (by assumption) ?_
    try simp only [Act.put, List.getElem_toArray, List.getElem_cons_zero, List.getElem_cons_succ, List.setIfInBounds_toArray, List.set_cons_zero, List.set_cons_succ]
    refine wpAnyH_take (i := 17) (oi := _) (v := _) rfl (by kernel_rfl) (by kernel_rfl) (by kernel_rfl) (fun _ _ _ h => h) (Or.inr ⟨by rfl, rfl⟩) (by assumption) ?_
    try simp only [Act.put, List.getElem_toArray, List.getElem_cons_zero, List.getElem_cons_succ, List.setIfInBounds_toArray, List.set_cons_zero, List.set_cons_succ]
    refine wpAnyH_take (i := 18) (oi := _) (v := _) rfl (by kernel_rfl) (by kernel_rfl) (by kernel_rfl) (fun _ _ _ h => h) (Or.inr ⟨by rfl, rfl⟩) (by assumption) ?_
    try simp only [Act.put, List.getElem_toArray, List.getElem_cons_zero, List.getElem_cons_succ, List.setIfInBounds_toArray, List.set_cons_zero, List.set_cons_succ]
    refine wpAnyH_ready (rs := [13]) (by kernel_rfl) (by simp) ?_
    refine AllReadyH.cons (o := _) rfl (fun K hK => ?_) AllReadyH.nil
    refine ite_off (by rfl) ?_
    refine hK.out _ _ (by assumption) (fun hHeld => ?_)
    clear hK K
    try simp only [Act.put, List.getElem_toArray, List.getElem_cons_zero, List.getElem_cons_succ, List.setIfInBounds_toArray, List.set_cons_zero, List.set_cons_succ]
    refine wpAnyH_ready (rs := [19]) (by kernel_rfl) (by simp) ?_
    refine AllReadyH.cons (o := _) rfl (fun K hK => ?_) AllReadyH.nil
    refine ite_off (by rfl) ?_
    refine hK.out _ _ (by assumption) (fun hHeld => ?_)
    clear hK K
    try simp only [Act.put, List.getElem_toArray, List.getElem_cons_zero, List.getElem_cons_succ, List.setIfInBounds_toArray, List.set_cons_zero, List.set_cons_succ]
    refine wpAnyH_take (i := 20) (oi := _) (v := _) rfl (by kernel_rfl) (by kernel_rfl) (by kernel_rfl) (fun _ _ _ h => h) (Or.inr ⟨by rfl, rfl⟩) (by assumption) ?_
    try simp only [Act.put, List.getElem_toArray, List.getElem_cons_zero, List.getElem_cons_succ, List.setIfInBounds_toArray, List.set_cons_zero, List.set_cons_succ]
    refine wpAnyH_take (i := 21) (oi := _) (v := ?_) rfl (by kernel_rfl) (by kernel_rfl) (by kernel_rfl) (fun _ _ _ h => h) (Or.inl ⟨by rfl, ?_⟩) (by assumption) ?_
    rotate_left
    · first | (intro w' hSw; (try dsimp only at hSw); go_simp; done) | (intro w' hSw; (try dsimp only at hSw); go_simp; with_reducible rfl)
    try simp only [Act.put, List.getElem_toArray, List.getElem_cons_zero, List.getElem_cons_succ, List.setIfInBounds_toArray, List.set_cons_zero, List.set_cons_succ]
    refine wpAnyH_take (i := 22) (oi := _) (v := ?_) rfl (by kernel_rfl) (by kernel_rfl) (by kernel_rfl) (fun _ _ _ h => h) (Or.inl ⟨by rfl, ?_⟩) (by assumption) ?_
    rotate_left
    · first | (intro w' hSw; (try dsimp only at hSw); go_simp; done) | (intro w' hSw; (try dsimp only at hSw); go_simp; with_reducible rfl)
    try simp only [Act.put, List.getElem_toArray, List.getElem_cons_zero, List.getElem_cons_succ, List.setIfInBounds_toArray, List.set_cons_zero, List.set_cons_succ]
    refine wpAnyH_done (by kernel_rfl) ?_ _
    clear s0 s1 e0 e1 e2 t0 t1 t2 t3 t4 ea eb
    go_wp2
    go_ret
    exact ⟨ret_bool HE.out.symm, fit_keep HB.out HX1.out⟩
end

section
open Go.RowKit
set_option linter.unusedVariables false
set_option linter.unusedSimpArgs false

def OEqD (w : World) (B : Nat) (v : Value) (e : MEq) : Prop := ∃ a b c, v = .agg #[a, b, c] ∧ OInts w B a e.vars ∧ OInts w B b e.left ∧ OInts w B c e.right
theorem OEqD.keep {w w' : World} {B : Nat} {v : Value} {e : MEq} (h : OEqD w B v e) (hb : Below w.heap.size w w') : OEqD w' B v e := by
  obtain ⟨a, b, c, rfl, h1, h2, h3⟩ := h; exact ⟨a, b, c, rfl, h1.keep hb, h2.keep hb, h3.keep hb⟩
theorem OEqD.base {w : World} {B B' : Nat} {v : Value} {e : MEq} (h : OEqD w B v e) (hB : B' ≤ B) : OEqD w B' v e := by
  obtain ⟨a, b, c, rfl, h1, h2, h3⟩ := h; exact ⟨a, b, c, rfl, h1.base hB, h2.base hB, h3.base hB⟩
theorem OEqD.past {w w' : World} {B g : Nat} {v : Value} {e : MEq} (h : OEqD w B v e) (hg : w.grownBy w' (some g)) (hB : g < B) : OEqD w' B v e := by
  obtain ⟨a, b, c, rfl, h1, h2, h3⟩ := h; exact ⟨a, b, c, rfl, h1.past hg hB, h2.past hg hB, h3.past hg hB⟩
theorem OEqD.reads {w : World} {B : Nat} {v : Value} {e : MEq} (h : OEqD w B v e) : REq w v e := by
  obtain ⟨a, b, c, rfl, h1, h2, h3⟩ := h; exact ⟨a, b, c, rfl, h1.reads, h2.reads, h3.reads⟩
theorem OInts.low {w : World} {B b : Nat} {v x : Value} {xs : List Int} (h : OInts w B v xs) (hb : b < B) (i : Nat) : OInts (w.setCell ⟨b, i, none⟩ x) B v xs := ownsRow_setCell_below h hb _
/-- three cells of a box are written -/
theorem box3_set {w : World} {b : Nat} {x y z a c d : Value} {t : TypeId} (h : w.heap[b]? = some (.cells #[x, y, z] t (0, 0))) :
    (((w.setCell ⟨b, 0, none⟩ a).setCell ⟨b, 1, none⟩ c).setCell ⟨b, 2, none⟩ d).heap[b]? = some (.cells #[a, c, d] t (0, 0)) := block_set (block_set (block_set h 0 a) 1 c) 2 d
theorem keep3 {w : World} {b c i : Nat} {x y z u : Value} (h : w.cell? ⟨c, i, none⟩ = some u) (hne : c ≠ b) : (((w.setCell ⟨b, 0, none⟩ x).setCell ⟨b, 1, none⟩ y).setCell ⟨b, 2, none⟩ z).cell? ⟨c, i, none⟩ = some u :=
  (World.cell?_of_block (((Below.heap_setCell _ ⟨b, 2, none⟩ z c hne).trans (Below.heap_setCell _ ⟨b, 1, none⟩ y c hne)).trans (Below.heap_setCell w ⟨b, 0, none⟩ x c hne))).trans h
theorem gr_box3 {W w : World} {g b : Nat} (h : W.grownBy w (some g)) (hb : W.heap.size ≤ b) (x y z : Value) : W.grownBy (((w.setCell ⟨b, 0, none⟩ x).setCell ⟨b, 1, none⟩ y).setCell ⟨b, 2, none⟩ z) (some g) :=
  gr_setCell (gr_setCell (gr_setCell h (.inr hb) x) (.inr hb) y) (.inr hb) z
def EqSt (W wy : World) (g b q : Nat) (vv lv rv : Value) (e : MEq) : Prop :=
  wy.heap[b]? = some (.cells #[vv, lv, rv] 41 (0, 0)) ∧ W.heap.size ≤ b ∧ TermSt W wy g q ∧ OInts wy W.heap.size vv e.vars ∧ OInts wy W.heap.size lv e.left ∧ OInts wy W.heap.size rv e.right
/-- the terms are drawn and the box stands: its cells are written -/
theorem EqSt.stored {W w : World} {g b q : Nat} {vv lv rv x y z : Value} {e : MEq} (hz : w.heap[b]? = some (.cells #[x, y, z] 41 (0, 0))) (hst : TermSt W w g q) (hb : W.heap.size ≤ b) (hg : g < W.heap.size)
    (h1 : OInts w W.heap.size vv e.vars) (h1n : vv.ownBlock ≠ some b) (h2 : OInts w W.heap.size lv e.left) (h2n : lv.ownBlock ≠ some b) (h3 : OInts w W.heap.size rv e.right) (h3n : rv.ownBlock ≠ some b) :
    EqSt W (((w.setCell ⟨b, 0, none⟩ vv).setCell ⟨b, 1, none⟩ lv).setCell ⟨b, 2, none⟩ rv) g b q vv lv rv e := by
  have hgr : w.grownBy (((w.setCell ⟨b, 0, none⟩ vv).setCell ⟨b, 1, none⟩ lv).setCell ⟨b, 2, none⟩ rv) (some b) :=
    gr_setCell (gr_setCell (gr_setCell (gr_refl w b) (.inl rfl) vv) (.inl rfl) lv) (.inl rfl) rv
  refine ⟨box3_set hz, hb, ⟨((hst.rd.setCell (by omega) vv).setCell (by omega) lv).setCell (by omega) rv, gr_box3 hst.gr hb _ _ _⟩, own_grown h1 hgr (.inr h1n), own_grown h2 hgr (.inr h2n), own_grown h3 hgr (.inr h3n)⟩
def EqPost (g p : Nat) (w : World) (e : Ending) (w' : World) : Prop :=
  ∃ (v : Value) (eq : MEq) (q : Nat), e = .returned v ∧ OEqD w' w.heap.size v eq ∧ SmallE eq ∧ eq.vars.length ≤ 5 ∧ eq.left.length ≤ 7 ∧ eq.right.length ≤ 7 ∧ (∃ a b ad c, v = .agg #[a, b, .slice (some ad) eq.right.length c]) ∧ RRd w' g q ∧ q ≤ p + 500000 ∧ w.grownBy w' (some g)
/-- the result is written -/
theorem eq_done {w W wz : World} {g q : Nat} {vv lv rv : Value} {e : MEq} (hres : wz.heap[w.heap.size + 1]? = some (.cells #[.slice none 0 0, .slice none 0 0, .slice none 0 0] 41 (0, 0))) (ht : TermSt W wz g q) (hW : W.heap.size = w.heap.size + 2) (hgw : w.grownBy W (some g)) (hg : g < w.heap.size)
    (h1 : OInts wz W.heap.size vv e.vars) (h2 : OInts wz W.heap.size lv e.left) (h3 : OInts wz W.heap.size rv e.right) :
    let w9 := ((wz.setCell ⟨w.heap.size + 1, 0, none⟩ vv).setCell ⟨w.heap.size + 1, 1, none⟩ lv).setCell ⟨w.heap.size + 1, 2, none⟩ rv
    w9.heap[w.heap.size + 1]? = some (.cells #[vv, lv, rv] 41 (0, 0)) ∧ OEqD w9 w.heap.size (.agg #[vv, lv, rv]) e ∧ RRd w9 g q ∧ w.grownBy w9 (some g) := by
  intro w9
  have low : ∀ {v : Value} {xs : List Int}, OInts wz W.heap.size v xs → OInts w9 w.heap.size v xs := fun {v xs} ho => OInts.base (((ho.low (by omega) 0).low (by omega) 1).low (by omega) 2) (by omega)
  have hgr := gr_more hgw ht.gr
  refine ⟨box3_set hres, ⟨_, _, _, rfl, low h1, low h2, low h3⟩, ((ht.rd.setCell (by omega) vv).setCell (by omega) lv).setCell (by omega) rv, ?_⟩
  exact gr_setCell (gr_setCell (gr_setCell hgr (.inr (by show w.heap.size ≤ w.heap.size + 1; omega)) vv) (.inr (by show w.heap.size ≤ w.heap.size + 1; omega)) lv) (.inr (by show w.heap.size ≤ w.heap.size + 1; omega)) rv
theorem qb1 : Qb 1 = 900 := by decide
theorem qb2 : Qb 2 = 21636 := by decide
theorem lb1' : Lb 1 = 3 := by decide
theorem lb2' : Lb 2 = 7 := by decide

set_option maxHeartbeats 1600000 in
set_option maxRecDepth 100000 in
theorem eqOf_draw (s : MSig) (hv : validB s = true) (g p : Nat) (sv : Value) (w : World) (h : RRd w g p) (hp : p ≤ 1000000) (hs : OSig w (g + 1) sv s) :
    Calls Try.prog 91 #[.pointer (some ⟨g, 0, none⟩), sv] w (EqPost g p w) := by
  obtain ⟨u0, rfl, hoo⟩ := hs
  obtain ⟨sorts, ops⟩ := s
  simp only at hoo
  obtain ⟨A, c, rfl, -⟩ := hoo.reads.form
  have hgl := h.lt
  have hvs := valid_sorts hv
  simp only at hvs
  obtain ⟨W, hW⟩ : ∃ W : World, W = (w.alloc (.cells #[.int .i64 sorts, .slice A ops.length c] 25)).alloc (.cells #[.slice none 0 0, .slice none 0 0, .slice none 0 0] 41) := ⟨_, rfl⟩
  have hbW : Below w.heap.size w W := by rw [hW]; exact (below_alloc _ _).alloc (by simp) _
  have HGW := Lib.hid (show w.grownBy W (some g) by rw [hW]; exact gr_alloc (gr_alloc (gr_refl w g) _) _)
  have HBOX := Lib.hid (show W.heap[w.heap.size]? = some (.cells #[.int .i64 sorts, .slice A ops.length c] 25 (0, 0)) by rw [hW]; exact (heap_alloc_old _ _ (by simp)).trans (heap_alloc_new w _))
  have HRES := Lib.hid (show W.heap[w.heap.size + 1]? = some (.cells #[.slice none 0 0, .slice none 0 0, .slice none 0 0] 41 (0, 0)) by rw [hW]; exact (congrArg (fun i => ((w.alloc (.cells #[.int .i64 sorts, .slice A ops.length c] 25)).alloc (.cells #[.slice none 0 0, .slice none 0 0, .slice none 0 0] 41)).heap[i]?) (by simp)).trans (heap_alloc_new (w.alloc (.cells #[.int .i64 sorts, .slice A ops.length c] 25)) _))
  have HRW := Lib.hid (h.keep hbW)
  have HZW := Lib.hid (show W.heap.size = w.heap.size + 2 by rw [hW]; simp)
  have hzw : W.heap.size = w.heap.size + 2 := HZW.out
  have HSW := Lib.hid (show OSig W (g + 1) (.agg #[.int .i64 sorts, .slice A ops.length c]) ⟨sorts, ops⟩ from (show OSig w (g + 1) (.agg #[.int .i64 sorts, .slice A ops.length c]) ⟨sorts, ops⟩ from ⟨_, rfl, hoo⟩).keep hbW)
  have hW' := hW.symm
  have HV := Lib.hid hv
  have f0 := block_cell HBOX.out 0
  have f1 := block_cell HBOX.out 1
  simp at f0 f1
  clear hbW h hoo hv hW hvs
  go_enter Try.func91, Try.ntmps91
  go_wp2_with fail
  clear hW'
  refine (drawVars_any g p 0 ⟨sorts, ops⟩ _ W HRW.out (by omega) (by omega) (by omega) HSW.out.reads).mono ?_
  rintro e wv ⟨vv, vars, q0, rfl, hov, hvl, hr, hq0, hg⟩
  have HST0 := Lib.hid (show TermSt W wv g q0 from ⟨hr, hg⟩)
  have HOV0 := Lib.hid hov
  clear hov hr hg f0 f1
  go_wp2_with fail
  go_loopw [5, 6, 7, 8] (fun v5 i t7 t8 wr => ∃ (k q : Nat) (vars : List Int), k ≤ 6 ∧ i = .int .i64 k ∧ q ≤ p + 10 + k * 70000 ∧ TermSt W wr g q ∧ OInts wr W.heap.size v5 vars ∧ vars.length ≤ 5) (fun _ i _ _ _ => 6 - (intOf i).toNat)
  case atStart => exact ⟨0, q0, vars, by omega, rfl, by omega, HST0.out, HOV0.out, hvl⟩
  case round =>
    clear HST0 HOV0 hvl hq0
    obtain ⟨k, q, vars, hk, rfl, hq, hst, hov, hvl⟩ := hrel
    obtain ⟨Av, cv, rfl, -⟩ := own_reads hov
    have HST := Lib.hid hst
    have HOV := Lib.hid hov
    have HQ := Lib.hid hq
    have hq' : q ≤ 1500000 := by omega
    have hwr := hst.gr.size
    have hbx := box_after HBOX.out hst.gr (by omega)
    have g0 := block_cell hbx 0
    have g1 := block_cell hbx 1
    simp at g0 g1
    clear hst hov hbx hq
    by_cases hlt : k < 6
    · have hlt' : (k : Int) < 6 := by omega
      go_upto_region 6 with (go_at_call 88; refine (pick_any g q sorts wr HST.out.rd (by omega)).mono ?_; rintro e w3 ⟨x, rfl, hx, hr, hg⟩; have HG3 := Lib.hid hg; have HST3 := Lib.hid (HST.out.later hr hg); clear hr hg hx g0 g1)
      have hz3 := HST3.out.gr.size
      have HOV3 := Lib.hid (HOV.out.past HG3.out (by omega))
      have HS3 := Lib.hid (HSW.out.past HST3.out.gr (by omega))
      have hbx := box_after HBOX.out HST3.out.gr (by omega)
      have g0 := block_cell hbx 0
      have g1 := block_cell hbx 1
      simp at g0 g1
      clear hbx
      go_cut [8] (fun t8 wy => ∃ (b qB : Nat) (lv rv : Value) (ls rs : List Int), t8 = .pointer (some ⟨b, 0, none⟩) ∧ EqSt W wy g b qB (.slice Av vars.length cv) lv rv ⟨vars, ls, rs⟩ ∧ qB ≤ q + 22537 ∧ Small ls ∧ Small rs ∧ ls.length ≤ 7 ∧ rs.length ≤ 7 ∧ (∃ ad c, rv = .slice (some ad) rs.length c))
      case first =>
        go_wp2_with fail
        have ea := World.new_ne w3 _ g0
        have HST3D := Lib.hid (show TermSt W w3.drew g (q + 1) from ⟨HST3.out.rd, ⟨HST3.out.gr.os, HST3.out.gr.tape, HST3.out.gr.output, HST3.out.gr.size, HST3.out.gr.block⟩⟩)
        have HS3D := Lib.hid (show OSig w3.drew (g + 1) (.agg #[.int .i64 sorts, .slice A ops.length c]) ⟨sorts, ops⟩ from HS3.out)
        have HOV3D := Lib.hid (show OInts w3.drew W.heap.size (.slice Av vars.length cv) vars from HOV3.out)
        go_region_held3 (fun w' => w'.cell? ⟨w.heap.size, 0, none⟩ = some (.int .i64 sorts) ∧ w'.cell? ⟨w.heap.size, 1, none⟩ = some (.slice A ops.length c)) (first | go_keep | exact ⟨j0, j1⟩ | exact ⟨i0, i1⟩ | exact ⟨keep3 i0 (by omega), keep3 i1 (by omega)⟩ | exact ⟨keep3 (cell_keep (below_alloc _ _) i0) (by omega), keep3 (cell_keep (below_alloc _ _) i1) (by omega)⟩)
          (first
            | (go_at_call_of 102 (Value.int .i64 1); refine (dterm_any ⟨sorts, ops⟩ vars HV.out (by omega) 1 (by omega) g qA _ _ _ _ (by first | exact HSTA.out.rd | exact (HSTA.out.below (below_alloc wA (.cells #[.slice none 0 0, .slice none 0 0, .slice none 0 0] 41))).rd) (by have := HSL.out.2.2; rw [qb2] at this; rw [qb1]; omega) (by first | exact HSA.out | exact HSA.out.keep (below_alloc wA (.cells #[.slice none 0 0, .slice none 0 0, .slice none 0 0] 41))) (by first | exact HOVA.out.base (by omega) | exact (HOVA.out.keep (below_alloc wA (.cells #[.slice none 0 0, .slice none 0 0, .slice none 0 0] 41))).base (by omega))).mono ?_; rintro e wB ⟨rv, rs, qB, rfl, ⟨adr, cr, rfl⟩, hor, hlr, hsr, hrB, hqB, hgB⟩; have HGB := Lib.hid (show wA.grownBy wB (some g) from by first | exact hgB | exact gr_box hgB); have HSTB := Lib.hid (HSTA.out.later hrB HGB.out); have HOR := Lib.hid (show OInts wB wA.heap.size (.slice (some adr) rs.length cr) rs from hor.base (by first | exact Nat.le_refl _ | simp)); (try have HORN := Lib.hid (show OInts wB (wA.heap.size + 1) (.slice (some adr) rs.length cr) rs from hor.base (by show wA.heap.size + 1 ≤ (wA.alloc (.cells #[.slice none 0 0, .slice none 0 0, .slice none 0 0] 41)).heap.size; simp))); have HSR := Lib.hid (And.intro hsr (And.intro hlr hqB)); (first | have HZB := Lib.hid (gr_at (k := w3.heap.size) hgB (by omega) HZA.out) | have HZB := Lib.hid (gr_at (k := wA.heap.size) hgB (by omega) (heap_alloc_new wA (.cells #[.slice none 0 0, .slice none 0 0, .slice none 0 0] 41))) | skip); have hzB : wA.heap.size ≤ wB.heap.size := HGB.out.size; have i0 := block_cell (box_after HBOX.out HSTB.out.gr (by omega)) 0; have i1 := block_cell (box_after HBOX.out HSTB.out.gr (by omega)) 1; (try (have z0 := block_cell HZB.out 0; have z1 := block_cell HZB.out 1; have z2 := block_cell HZB.out 2; have zf0 := block_free HZB.out 0; have zf1 := block_free HZB.out 1; have zf2 := block_free HZB.out 2; simp at z0 z1 z2)); clear hor hlr hsr hrB hqB hgB)
            | (go_at_call_of 102 (Value.int .i64 2); refine (dterm_any ⟨sorts, ops⟩ vars HV.out (by omega) 2 (by omega) g (q + 1) _ _ _ _ (by first | exact HST3.out.rd | exact (HST3D.out.below (below_alloc _ _)).rd) (by rw [qb2]; omega) (by first | exact HS3.out | exact HS3D.out.keep (below_alloc _ _)) (by first | exact HOV3.out.base (by omega) | exact (HOV3D.out.keep (below_alloc _ _)).base (by omega))).mono ?_; rintro e wA ⟨lv, ls, qA, rfl, ⟨adl, cl, rfl⟩, hol, hll, hsl, hrA, hqA, hgA⟩; have HGA := Lib.hid (show w3.grownBy wA (some g) from by first | exact gr_drew hgA | exact gr_drew (gr_box hgA)); have HSTA := Lib.hid (HST3.out.later hrA HGA.out); have HOL := Lib.hid (show OInts wA W.heap.size (.slice (some adl) ls.length cl) ls from hol.base (by first | exact hz3 | exact Nat.le_trans hz3 (by show w3.heap.size ≤ (w3.alloc (.cells #[.slice none 0 0, .slice none 0 0, .slice none 0 0] 41)).heap.size; simp))); (try have HOLN := Lib.hid (show OInts wA (w3.heap.size + 1) (.slice (some adl) ls.length cl) ls from hol.base (by show w3.heap.size + 1 ≤ (w3.alloc (.cells #[.slice none 0 0, .slice none 0 0, .slice none 0 0] 41)).heap.size; simp))); have HSL := Lib.hid (And.intro hsl (And.intro hll hqA)); have HOVA := Lib.hid (HOV3.out.past HGA.out (by omega)); have HSA := Lib.hid (HS3.out.past HGA.out (by omega)); (try have HZA := Lib.hid (gr_at (k := w3.heap.size) hgA (by omega) (heap_alloc_new w3.drew (.cells #[.slice none 0 0, .slice none 0 0, .slice none 0 0] 41)))); have hzA : w3.heap.size ≤ wA.heap.size := HGA.out.size; have j0 := block_cell (box_after HBOX.out HSTA.out.gr (by omega)) 0; have j1 := block_cell (box_after HBOX.out HSTA.out.gr (by omega)) 1; clear hol hll hsl hrA hqA hgA))
        all_goals
          have hqB := HSR.out.2.2
          have hqA := HSL.out.2.2
          have hlr := HSR.out.2.1
          have hll := HSL.out.2.1
          rw [qb1] at hqB
          rw [qb2] at hqA
          rw [lb1'] at hlr
          rw [lb2'] at hll
          have HOVB := Lib.hid (HOVA.out.past HGB.out (by omega))
          have HOLB := Lib.hid (HOL.out.past HGB.out (by omega))
          have HORB := Lib.hid (HOR.out.base (B' := W.heap.size) (by omega))
          clear j0 j1 i0 i1 g0 g1 ea
          go_wp2
          go_meet
          case rel => first
            | exact ⟨w3.heap.size, qB, _, _, ls, rs, rfl, EqSt.stored HZB.out HSTB.out hz3 (by omega) HOVB.out (fun e => by have := own_lt HOV3.out _ e; omega) HOLB.out (fun e => by have := own_lt HOLN.out _ e; omega) HORB.out (fun e => by have := own_lt HOR.out _ e; have := (Array.getElem?_eq_some_iff.1 HZA.out).1; omega), by omega, HSL.out.1, HSR.out.1, hll, by omega, ⟨_, _, rfl⟩⟩
            | exact ⟨wA.heap.size, qB, _, _, ls, rs, rfl, EqSt.stored HZB.out HSTB.out (by omega) (by omega) HOVB.out (fun e => by have := own_lt HOV3.out _ e; omega) HOLB.out (fun e => by have := own_lt HOL.out _ e; omega) HORB.out (fun e => by have := own_lt HORN.out _ e; omega), by omega, HSL.out.1, HSR.out.1, hll, by omega, ⟨_, _, rfl⟩⟩
            | exact ⟨wB.heap.size, qB, _, _, ls, rs, rfl, ⟨heap_alloc_new wB _, by omega, HSTB.out.below (below_alloc wB _), HOVB.out.keep (below_alloc wB _), HOLB.out.keep (below_alloc wB _), HORB.out.keep (below_alloc wB _)⟩, by omega, HSL.out.1, HSR.out.1, hll, by omega, ⟨_, _, rfl⟩⟩
      case rest =>
        obtain ⟨b, qB, lv, rv, ls, rs, rfl, hst, hqB, hsl, hsr, hll, hlr, ⟨adr, cr, rfl⟩⟩ := hcut
        obtain ⟨wy, rfl⟩ : ∃ wy : World, wy = wc := ⟨_, rfl⟩
        obtain ⟨hbx, hbW, htm, hov, hol, hor⟩ := hst
        simp only at hov hol hor
        obtain ⟨Al, cl, rfl, -⟩ := own_reads hol
        have HTM := Lib.hid htm
        have HOW := Lib.hid (And.intro hov (And.intro hol hor))
        have HSM := Lib.hid (And.intro hsl hsr)
        have HRE := Lib.hid (show REq wy (.agg #[.slice Av vars.length cv, .slice Al ls.length cl, .slice (some adr) rs.length cr]) ⟨vars, ls, rs⟩ from ⟨_, _, _, rfl, hov.reads, hol.reads, hor.reads⟩)
        have HRS := Lib.hid (HSW.out.past htm.gr (by omega)).reads
        have hbs := box_after HBOX.out htm.gr (by omega)
        clear g0 g1
        have g0 := block_cell hbs 0
        have g1 := block_cell hbs 1
        have e0 := block_cell hbx 0
        have e1 := block_cell hbx 1
        have e2 := block_cell hbx 2
        simp at g0 g1 e0 e1 e2
        clear hbx hbs htm hov hol hor hsl hsr
        cases heq : eqOkB ⟨sorts, ops⟩ ⟨vars, ls, rs⟩ with
        | true =>
          have HEQ := Lib.hid heq
          clear heq
          go_wp2_with fail
          refine (specEqOk_any ⟨sorts, ops⟩ ⟨vars, ls, rs⟩ wy _ _ HRS.out HRE.out).mono ?_
          rw [HEQ.out]
          rintro e wz ⟨rfl, hb⟩
          have HTZ := Lib.hid (HTM.out.below hb)
          have hrz := box_after HRES.out HTZ.out.gr (by omega)
          have HOZ := Lib.hid (And.intro (HOW.out.1.keep hb) (And.intro (HOW.out.2.1.keep hb) (HOW.out.2.2.keep hb)))
          replace e0 := cell_keep hb e0
          replace e1 := cell_keep hb e1
          replace e2 := cell_keep hb e2
          have D := Lib.hid (eq_done (e := ⟨vars, ls, rs⟩) hrz HTZ.out HZW.out HGW.out hgl HOZ.out.1 HOZ.out.2.1 HOZ.out.2.2)
          have r0 := block_cell hrz 0
          have r1 := block_cell hrz 1
          have r2 := block_cell hrz 2
          have rf0 := block_free hrz 0
          have rf1 := block_free hrz 1
          have rf2 := block_free hrz 2
          simp at r0 r1 r2
          clear hb hrz g0 g1
          go_wp2
          obtain ⟨d1, d2, d3, d4⟩ := D.out
          generalize ((wz.setCell ⟨w.heap.size + 1, 0, none⟩ (.slice Av vars.length cv)).setCell ⟨w.heap.size + 1, 1, none⟩ (.slice Al ls.length cl)).setCell ⟨w.heap.size + 1, 2, none⟩ (.slice (some adr) rs.length cr) = w9 at d1 d2 d3 d4 ⊢
          have k0 := block_cell d1 0
          have k1 := block_cell d1 1
          have k2 := block_cell d1 2
          simp at k0 k1 k2
          clear r0 r1 r2 rf0 rf1 rf2 e0 e1 e2
          refine bodyPost_ret (v := .agg #[.slice Av vars.length cv, .slice Al ls.length cl, .slice (some adr) rs.length cr]) (by simp [results, Try.results91, go_sem, k0, k1, k2]) rfl ?_
          exact ⟨_, ⟨vars, ls, rs⟩, qB, rfl, d2, HSM.out, hvl, hll, hlr, ⟨_, _, _, _, rfl⟩, d3, by have := HQ.out; omega, d4⟩
        | false =>
          have HEQ := Lib.hid heq
          clear heq
          go_wp2_with fail
          refine (specEqOk_any ⟨sorts, ops⟩ ⟨vars, ls, rs⟩ wy _ _ HRS.out HRE.out).mono ?_
          rw [HEQ.out]
          rintro e wz ⟨rfl, hb⟩
          have HTZ := Lib.hid (HTM.out.below hb)
          have HRSZ := Lib.hid (HRS.out.keep hb)
          replace g0 := cell_keep hb g0
          replace g1 := cell_keep hb g1
          clear hb e0 e1 e2
          go_wp2_with fail
          refine (drawVars_any g qB 0 ⟨sorts, ops⟩ _ wz HTZ.out.rd (by omega) (by omega) (by omega) HRSZ.out).mono ?_
          rintro e wv ⟨vw, vars', q', rfl, hov, hvl', hr, hq', hg⟩
          have HTV := Lib.hid (HTZ.out.later hr hg)
          have HOX := Lib.hid (hov.base (B' := W.heap.size) HTZ.out.gr.size)
          clear hov hr hg g0 g1
          go_wp2
          go_roundw
          case rel => exact ⟨k + 1, q', vars', by omega, by go_num, by have := HQ.out; omega, HTV.out, HOX.out, hvl'⟩
          case measure => simp [intOf]; omega
    · have hlt' : ¬ (k : Int) < 6 := by omega
      have O1 := (lit1 wr 0 hwr).keep ((below_alloc (wr.alloc (.cells #[.int .i64 0] 3)) (.cells #[.int .i64 100] 3)).trans ((below_alloc _ (.cells #[.int .i64 100] 3)).mono (by simp)))
      have O2 := (lit1 (wr.alloc (.cells #[.int .i64 0] 3)) 100 (B := W.heap.size) (by simp; omega)).keep (below_alloc _ (.cells #[.int .i64 100] 3))
      have O3 := lit1 ((wr.alloc (.cells #[.int .i64 0] 3)).alloc (.cells #[.int .i64 100] 3)) 100 (B := W.heap.size) (by simp; omega)
      simp only [World.size_alloc] at O2 O3
      have hb3 := (below_alloc wr (.cells #[.int .i64 0] 3)).trans (((below_alloc (wr.alloc (.cells #[.int .i64 0] 3)) (.cells #[.int .i64 100] 3)).trans ((below_alloc _ (.cells #[.int .i64 100] 3)).mono (by simp))).mono (by simp))
      have HTZ := Lib.hid (HST.out.below hb3)
      have hrz := box_after HRES.out HTZ.out.gr (by omega)
      generalize hW3 : ((wr.alloc (.cells #[.int .i64 0] 3)).alloc (.cells #[.int .i64 100] 3)).alloc (.cells #[.int .i64 100] 3) = wz at O1 O2 O3 hb3 HTZ hrz
      have D := Lib.hid (eq_done (e := ⟨[0], [100], [100]⟩) hrz HTZ.out HZW.out HGW.out hgl O1 O2 O3)
      have r0 := block_cell hrz 0
      have r1 := block_cell hrz 1
      have r2 := block_cell hrz 2
      have rf0 := block_free hrz 0
      have rf1 := block_free hrz 1
      have rf2 := block_free hrz 2
      simp at r0 r1 r2
      clear hb3 hrz g0 g1 O1 O2 O3
      go_wp2
      clear hW3
      obtain ⟨d1, d2, d3, d4⟩ := D.out
      generalize ((wz.setCell ⟨w.heap.size + 1, 0, none⟩ (.slice (some ⟨wr.heap.size, 0, none⟩) 1 1)).setCell ⟨w.heap.size + 1, 1, none⟩ (.slice (some ⟨wr.heap.size + 1, 0, none⟩) 1 1)).setCell ⟨w.heap.size + 1, 2, none⟩ (.slice (some ⟨wr.heap.size + 1 + 1, 0, none⟩) 1 1) = w9 at d1 d2 d3 d4 ⊢
      have k0 := block_cell d1 0
      have k1 := block_cell d1 1
      have k2 := block_cell d1 2
      simp at k0 k1 k2
      clear r0 r1 r2 rf0 rf1 rf2
      refine bodyPost_ret (v := .agg #[.slice (some ⟨wr.heap.size, 0, none⟩) 1 1, .slice (some ⟨wr.heap.size + 1, 0, none⟩) 1 1, .slice (some ⟨wr.heap.size + 1 + 1, 0, none⟩) 1 1]) (by simp [results, Try.results91, go_sem, k0, k1, k2]) rfl ?_
      exact ⟨_, ⟨[0], [100], [100]⟩, q, rfl, d2, ⟨by intro x hx; simp at hx; subst hx; decide, by intro x hx; simp at hx; subst hx; decide⟩, by simp, by simp, by simp, ⟨_, _, _, _, rfl⟩, d3, by have := HQ.out; omega, d4⟩
end

section
open Go.RowKit
set_option linter.unusedVariables false
set_option linter.unusedSimpArgs false

theorem put2_at {wz : World} {b : Nat} {t : TypeId} {c0 c1 x y : Value} (h : wz.heap[b]? = some (.cells #[c0, c1] t (0, 0))) : ((wz.setCell ⟨b, 0, none⟩ x).setCell ⟨b, 1, none⟩ y).heap[b]? = some (.cells #[x, y] t (0, 0)) := blk_set (blk_set h 0 x) 1 y
theorem put2_other {wz : World} {b k : Nat} {x y : Value} (hk : k ≠ b) : ((wz.setCell ⟨b, 0, none⟩ x).setCell ⟨b, 1, none⟩ y).heap[k]? = wz.heap[k]? :=
  (Below.heap_setCell _ ⟨b, 1, none⟩ y k hk).trans (Below.heap_setCell _ ⟨b, 0, none⟩ x k hk)
theorem put2_rd {wz : World} {b g q : Nat} {x y : Value} (h : RRd wz g q) (hg : g < b) : RRd ((wz.setCell ⟨b, 0, none⟩ x).setCell ⟨b, 1, none⟩ y) g q := (h.setCell hg x).setCell hg y
theorem put2_gr {w wz : World} {b g : Nat} {x y : Value} (h : w.grownBy wz (some g)) (hb : w.heap.size ≤ b) : w.grownBy ((wz.setCell ⟨b, 0, none⟩ x).setCell ⟨b, 1, none⟩ y) (some g) := gr_setCell (gr_setCell h (.inr hb) x) (.inr hb) y
theorem put2_bel {w wz : World} {b B : Nat} {x y : Value} (h : Below B w wz) (hb : B ≤ b) : Below B w ((wz.setCell ⟨b, 0, none⟩ x).setCell ⟨b, 1, none⟩ y) := (h.setCell (p := ⟨b, 0, none⟩) hb x).setCell (p := ⟨b, 1, none⟩) hb y
theorem put3_at {wz : World} {b : Nat} {t : TypeId} {c0 c1 c2 x y z : Value} (h : wz.heap[b]? = some (.cells #[c0, c1, c2] t (0, 0))) : (((wz.setCell ⟨b, 0, none⟩ x).setCell ⟨b, 1, none⟩ y).setCell ⟨b, 2, none⟩ z).heap[b]? = some (.cells #[x, y, z] t (0, 0)) := blk_set (blk_set (blk_set h 0 x) 1 y) 2 z
theorem put3_other {wz : World} {b k : Nat} {x y z : Value} (hk : k ≠ b) : (((wz.setCell ⟨b, 0, none⟩ x).setCell ⟨b, 1, none⟩ y).setCell ⟨b, 2, none⟩ z).heap[k]? = wz.heap[k]? :=
  (Below.heap_setCell _ ⟨b, 2, none⟩ z k hk).trans (put2_other hk)
theorem put3_rd {wz : World} {b g q : Nat} {x y z : Value} (h : RRd wz g q) (hg : g < b) : RRd (((wz.setCell ⟨b, 0, none⟩ x).setCell ⟨b, 1, none⟩ y).setCell ⟨b, 2, none⟩ z) g q := (put2_rd h hg).setCell hg z
theorem put3_gr {w wz : World} {b g : Nat} {x y z : Value} (h : w.grownBy wz (some g)) (hb : w.heap.size ≤ b) : w.grownBy (((wz.setCell ⟨b, 0, none⟩ x).setCell ⟨b, 1, none⟩ y).setCell ⟨b, 2, none⟩ z) (some g) := gr_setCell (put2_gr h hb) (.inr hb) z
theorem put3_bel {w wz : World} {b B : Nat} {x y z : Value} (h : Below B w wz) (hb : B ≤ b) : Below B w (((wz.setCell ⟨b, 0, none⟩ x).setCell ⟨b, 1, none⟩ y).setCell ⟨b, 2, none⟩ z) := (put2_bel h hb).setCell (p := ⟨b, 2, none⟩) hb z
theorem keep2m {w : World} {b c i : Nat} {x y u : Value} (h : w.cell? ⟨c, i, none⟩ = some u) (hne : c ≠ b) : ((w.setCell ⟨b, 0, none⟩ x).setCell ⟨b, 1, none⟩ y).cell? ⟨c, i, none⟩ = some u := (World.cell?_of_block (put2_other hne)).trans h
theorem keep3m {w : World} {b c i : Nat} {x y z u : Value} (h : w.cell? ⟨c, i, none⟩ = some u) (hne : c ≠ b) : (((w.setCell ⟨b, 0, none⟩ x).setCell ⟨b, 1, none⟩ y).setCell ⟨b, 2, none⟩ z).cell? ⟨c, i, none⟩ = some u := (World.cell?_of_block (put3_other hne)).trans h
theorem drew_cellm {w : World} {p : Addr} {v : Value} (h : w.cell? p = some v) : w.drew.cell? p = some v := h
theorem gr_todrewm {x w : World} {r : Option Nat} (h : w.grownBy x r) : w.grownBy x.drew r := ⟨h.os, h.tape, h.output, h.size, h.block⟩
theorem osig_drewm {x : World} {b : Nat} {v : Value} {s : MSig} (h : OSig x b v s) : OSig x.drew b v s := h
theorem osig_past {w w' : World} {B g : Nat} {v : Value} {s : MSig} (h : OSig w B v s) (hg : w.grownBy w' (some g)) (hB : g < B) : OSig w' B v s := by
  obtain ⟨u, e, h⟩ := h
  exact ⟨u, e, h.grown hg (fun k e => by injection e with e; omega)⟩
end
end Go.Proofs.Ytkhabmoidpgapaa
