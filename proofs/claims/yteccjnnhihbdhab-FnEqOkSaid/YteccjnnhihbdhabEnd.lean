/- The spec's l2End: where a term ends that begins at a place, and its sort. By induction. -/
import Derived.Test.YteccjnnhihbdhabRead2
namespace Go.Proofs.Yteccjnnhihbdhab
open Go.RowKit
set_option linter.unusedVariables false

def endV (t : List Int) : Option (Tm × List Int) → Value
  | some (tm, b) => .tuple #[.int .i64 ((t.length - b.length : Nat) : Int), .int .i64 tm.sort]
  | none => .tuple #[.int .i64 (-1), .int .i64 (-1)]
theorem endV_some (t : List Int) (tm : Tm) (b : List Int) : endV t (some (tm, b)) = .tuple #[.int .i64 ((t.length - b.length : Nat) : Int), .int .i64 tm.sort] := rfl
def EndAt (s : MSig) (vars : List Int) (f : Nat) : Prop := ∀ (t : List Int) (k : Nat) (w : World) (v vv tv : Value), (t.drop k).length ≤ f → RSig w v s → RInts w vv vars → RInts w tv t →
  Calls Try.prog 92 #[v, vv, tv, .int .i64 (k : Int)] w fun e w' => e = .returned (endV t (firstM s vars f (t.drop k))) ∧ Below w.heap.size w w'

theorem drop_rest {t x b : List Int} {e : Nat} (h : t.drop e = x ++ b) : b = t.drop (t.length - b.length) ∧ b.length ≤ t.length := by
  obtain ⟨y, rfl⟩ : ∃ y, t = y ++ b := ⟨t.take e ++ x, by rw [List.append_assoc, ← h, List.take_append_drop]⟩
  simp
theorem inB_letter {n : Int} {l : Nat} (q : Int) (hq : q = 100 + (l : Int) - 1) : inB n 100 q = decide (100 ≤ n ∧ n < 100 + (l : Int)) := by
  unfold inB; rw [← Bool.decide_and, decide_eq_decide]; omega
theorem inB_op {n : Int} {l : Nat} (q : Int) (hq : q = (l : Int) - 1) : inB n 0 q = decide (0 ≤ n ∧ n < (l : Int)) := by
  unfold inB; rw [← Bool.decide_and, decide_eq_decide]; omega

set_option maxRecDepth 100000 in
theorem end_past (s : MSig) (vars : List Int) (f : Nat) (t : List Int) (k : Nat) (w : World) (v vv tv : Value) (hk : t.length ≤ k) (h1 : RSig w v s) (h2 : RInts w vv vars) (h3 : RInts w tv t) :
    Calls Try.prog 92 #[v, vv, tv, .int .i64 (k : Int)] w fun e w' => e = .returned (endV t (firstM s vars f (t.drop k))) ∧ Below w.heap.size w w' := by
  obtain ⟨u, rfl, hrr⟩ := h1
  obtain ⟨sorts, ops⟩ := s
  obtain ⟨A, c, rfl, -⟩ := hrr.form
  obtain ⟨A2, c2, rfl, -⟩ := h2.form
  obtain ⟨A3, c4, rfl, -⟩ := h3.form
  rw [List.drop_of_length_le hk, firstM_nil]
  have HB := Lib.hid (below_alloc w (.cells #[.int .i64 sorts, .slice A ops.length c] 35))
  have hk' : (t.length : Int) ≤ (k : Int) := by omega
  clear hrr h2 h3
  go_enter Try.func92, Try.ntmps92
  go_wp2
  refine bodyPost_ret (v := .tuple #[.int .i64 (-1), .int .i64 (-1)]) (by simp [results, Try.results92, go_sem]) rfl ?_
  exact ⟨rfl, HB.out⟩

set_option maxHeartbeats 1600000 in
set_option maxRecDepth 100000 in
theorem end_step (s : MSig) (vars : List Int) (hv : varsB s vars = true) (f : Nat) (ih : EndAt s vars f) (t : List Int) (k : Nat) (w : World) (v vv tv : Value) (hk : k < t.length) (hr : (t.drop (k + 1)).length ≤ f) (h1 : RSig w v s) (h2 : RInts w vv vars) (h3 : RInts w tv t) :
    Calls Try.prog 92 #[v, vv, tv, .int .i64 (k : Int)] w fun e w' => e = .returned (endV t (firstM s vars (f + 1) (t.drop k))) ∧ Below w.heap.size w w' := by
  obtain ⟨u, rfl, hrr⟩ := h1
  obtain ⟨sorts, ops⟩ := s
  have hvs := valid_sorts (vars_valid hv).1
  have hops := hvs.2.2
  have hvl := (vars_valid hv).2.1
  simp only at hops
  obtain ⟨A, c, rfl, -⟩ := hrr.form
  have hb1 := below_alloc w (.cells #[.int .i64 sorts, .slice A ops.length c] 35)
  have hbx := box_cells w (.int .i64 sorts) (.slice A ops.length c) 35
  have HS := Lib.hid (show RSig (w.alloc (.cells #[.int .i64 sorts, .slice A ops.length c] 35)) (.agg #[.int .i64 sorts, .slice A ops.length c]) ⟨sorts, ops⟩ from ⟨_, rfl, hrr.keep hb1⟩)
  have HO := Lib.hid (hrr.keep hb1)
  have HV2 := Lib.hid (h2.keep hb1)
  have HV3 := Lib.hid (h3.keep hb1)
  have hlen3 := h3.len
  obtain ⟨b, o, c4, rfl, hx⟩ := (h3.keep hb1).at_ hk
  obtain ⟨A2, c2, rfl, -⟩ := h2.form
  rw [List.drop_eq_getElem_cons hk]
  generalize t[k] = n at hx ⊢
  have HB1 := Lib.hid hb1
  have f0 := hbx.1
  have f1 := hbx.2
  have hk' : (k : Int) < (t.length : Int) := by omega
  clear h2 h3 hrr hb1 hbx
  by_cases c1 : 100 ≤ n ∧ n < 100 + (vars.length : Int)
  · have HN := Lib.hid (firstM_letter (s := ⟨sorts, ops⟩) (vars := vars) (f := f) (rest := t.drop (k + 1)) (n := n) (by simp only; omega) c1)
    obtain ⟨m, rfl⟩ : ∃ m : Nat, n = 100 + (m : Int) := ⟨(n - 100).toNat, by omega⟩
    have hm : m < vars.length := by omega
    obtain ⟨b6, o6, c6, e, hy⟩ := HV2.out.at_ hm
    cases e
    rw [show ((100 : Int) + (m : Int) - 100).toNat = m by omega, getD_at _ hm] at HN
    generalize vars[m] = y at hy HN
    have HI := Lib.hid (show inB (100 + (m : Int)) 100 (100 + (vars.length : Int) - 1) = true by rw [inB_letter _ rfl]; simp; omega)
    go_enter Try.func92, Try.ntmps92
    go_wp2_with (go_at_call 69; refine (l1In_is _ _ _ _ _ HI.out).mono ?_; rintro e w' ⟨rfl, rfl⟩)
    have hw1 : IntKind.i64.wrap (100 + (m : Int) - 100) = (m : Int) := by rw [IntKind.wrap_i64]; omega
    have hw2 : IntKind.i64.wrap ((k : Int) + 1) = (k : Int) + 1 := by rw [IntKind.wrap_i64]; omega
    have hm0 : (0 : Int) ≤ (m : Int) := by omega
    have hm1 : (m : Int) < (vars.length : Int) := by omega
    have hk0 : (0 : Int) ≤ (k : Int) := by omega
    go_quiet (fail)
    have HBF := Lib.hid (below_drewN HB1.out nq)
    go_wp2
    refine bodyPost_ret (v := .tuple #[.int .i64 ((k : Int) + 1), .int .i64 y]) (by simp [results, Try.results92, go_sem]) rfl ?_
    rw [HN.out]
    refine ⟨?_, HBF.out⟩
    rw [endV_some, show ((t.length - (t.drop (k + 1)).length : Nat) : Int) = (k : Int) + 1 by rw [List.length_drop]; omega]
    rfl
  · have HI := Lib.hid (show inB n 100 (100 + (vars.length : Int) - 1) = false by rw [inB_letter _ rfl]; simpa using c1)
    have hk0 : (0 : Int) ≤ (k : Int) := by omega
    by_cases c2' : 0 ≤ n ∧ n < (ops.length : Int)
    · obtain ⟨op, rfl⟩ := Int.eq_ofNat_of_zero_le c2'.1
      have HJ := Lib.hid (show inB (op : Int) 0 ((ops.length : Int) - 1) = true by rw [inB_op _ rfl]; simpa using c2')
      have hop : op < ops.length := by omega
      have hrow := opRow_valid (vars_valid hv).1 (k := op) hop
      have hN : firstM ⟨sorts, ops⟩ vars (f + 1) ((op : Int) :: t.drop (k + 1)) = (match argsM (firstM ⟨sorts, ops⟩ vars f) ops[op].dropLast (t.drop (k + 1)) with
          | none => none
          | some (ts, b) => some (.node op (ops[op].getLastD (-1)) ts, b)) := by
        rw [firstM_op (s := ⟨sorts, ops⟩) c2']; unfold nodeM; rw [Int.toNat_natCast, opRow_at (s := ⟨sorts, ops⟩) hop]; rfl
      rw [opRow_at hop] at hrow
      simp only at hrow
      obtain ⟨b2, o2, c6, u', e, hcell, hri⟩ := HO.out.at_ hop
      cases e
      generalize ops[op] = row at hcell hri hrow hN
      have hr1 := hrow.1
      have hr3 := hrow.2.1
      obtain ⟨n, hnl⟩ : ∃ n, row.length = n + 1 := ⟨row.length - 1, by omega⟩
      rw [last_at (by omega)] at hN
      obtain ⟨b', o', c3, rfl, hl⟩ := hri.at_ (k := row.length - 1) (by omega)
      generalize row[row.length - 1]'(by omega) = lv at hl hN
      rw [show row.length - 1 = n by omega] at hl
      rw [hnl] at hcell
      have HPOS := Lib.hid hrow.2.2
      have HN := Lib.hid hN
      have HRI := Lib.hid hri
      have HIH := Lib.hid ih
      have HC := Lib.hid (And.intro f0 (And.intro f1 hl))
      clear hN hri ih hv hrow
      go_enter Try.func92, Try.ntmps92
      go_wp2_with (go_at_call 69; refine (l1In_is _ _ _ _ _ HI.out).mono ?_; rintro e w' ⟨rfl, rfl⟩)
      have hw3 : IntKind.i64.wrap ((ops.length : Int) - 1) = (ops.length : Int) - 1 := by rw [IntKind.wrap_i64]; omega
      go_quiet ((go_at_call 69; exact quiet_left (l1In_is _ _ _ _ _ HJ.out)))
      go_wp2_with fail
      go_quiet (fail)
      go_wp2
      clear f0 f1 hl hcell hx hw3
      go_loopw [11, 12, 13, 14] (fun e11 j12 x13 s14 wr => ∃ (j e : Nat) (ts : List Tm), j ≤ n ∧ j12 = .int .i64 j ∧ e11 = .int .i64 e ∧ e ≤ t.length ∧ argsM (firstM ⟨sorts, ops⟩ vars f) (row.dropLast.take j) (t.drop (k + 1)) = some (ts, t.drop e) ∧ Below (w.alloc (.cells #[.int .i64 sorts, .slice (some ⟨b2, o2, none⟩) ops.length c] 35)).heap.size (w.alloc (.cells #[.int .i64 sorts, .slice (some ⟨b2, o2, none⟩) ops.length c] 35)) wr) (fun _ j _ _ _ => n - (intOf j).toNat)
      case atStart => exact ⟨0, k + 1, [], Nat.zero_le _, rfl, by go_num, by omega, rfl, by first | exact below_drewN (Below.refl _ _) _ | exact below_drewN (below_drewN (Below.refl _ _) _) _⟩
      case round =>
        obtain ⟨j, e, ts, hj, rfl, rfl, he, harg, hbw⟩ := hrel
        have f0 := cell_keep hbw HC.out.1
        have f1 := cell_keep hbw HC.out.2.1
        have f2 := cell_keep hbw HC.out.2.2
        have HBW := Lib.hid hbw
        have HARG := Lib.hid harg
        clear hbw harg
        by_cases hlt : j < n
        · obtain ⟨b7, o7, c8, e', hx⟩ := (HRI.out.keep HBW.out).at_ (k := j) (by omega)
          cases e'
          have hstep := argsM_step (ss := row.dropLast) (by rw [List.length_dropLast]; omega) HARG.out
          rw [List.getElem_dropLast] at hstep
          have hx0 := (HPOS.out _ (List.getElem_mem (show j < row.length by omega))).1
          generalize row[j]'(by omega) = x at hx hstep hx0
          have HSTEP := Lib.hid hstep
          clear hstep
          have hlt' : (j : Int) + 1 < (n : Int) + 1 := by omega
          go_wp2_with fail
          refine (HIH.out t e _ _ _ _ (Nat.le_trans (args_shorter HARG.out).1 hr) (HS.out.keep HBW.out) (HV2.out.keep HBW.out) (HV3.out.keep HBW.out)).mono ?_
          rintro e' w2 ⟨rfl, hb⟩
          have HB := Lib.hid hb
          have f00 := cell_keep hb f0
          have f01 := cell_keep hb f1
          have f02 := cell_keep hb f2
          have hx2 := cell_keep hb hx
          clear hb f0 f1 f2 hx
          cases hf : firstM ⟨sorts, ops⟩ vars f (t.drop e) with
          | none =>
            have HFN := Lib.hid hf
            clear hf
            have hne : (-1 : Int) ≠ x := by omega
            unfold endV
            go_wp2
            refine bodyPost_ret (v := .tuple #[.int .i64 (-1), .int .i64 (-1)]) (by simp [results, Try.results92, go_sem]) rfl ?_
            have h := HSTEP.out
            rw [HFN.out] at h
            rw [HN.out, argsM_take_none h]
            exact ⟨rfl, HB1.out.trans ((HBW.out.trans (HB.out.mono HBW.out.size)).mono HB1.out.size)⟩
          | some q =>
            obtain ⟨tm, rb⟩ := q
            rw [endV_some]
            obtain ⟨hd1, hd2⟩ := drop_rest (firstM_sound _ _ _ _ hf).1
            have HFS := Lib.hid hf
            clear hf
            by_cases hts : tm.sort = x
            · subst hts
              have h := HSTEP.out
              rw [HFS.out] at h
              simp only [if_true] at h
              rw [hd1] at h
              have HNEXT := Lib.hid h
              have HBN := Lib.hid (HBW.out.trans (HB.out.mono HBW.out.size))
              clear h hd1
              have he2 : t.length - rb.length ≤ t.length := by omega
              generalize t.length - rb.length = e2 at HNEXT he2 ⊢
              go_wp2
              go_roundw
              case rel => exact ⟨j + 1, e2, ts ++ [tm], by omega, by go_num, rfl, he2, HNEXT.out, HBN.out⟩
              case measure => simp [intOf]; omega
            · have h := HSTEP.out
              rw [HFS.out] at h
              simp only [if_neg hts] at h
              have HNONE := Lib.hid (argsM_take_none h)
              clear h hd1 hd2
              generalize tm.sort = q at hts ⊢
              go_wp2
              refine bodyPost_ret (v := .tuple #[.int .i64 (-1), .int .i64 (-1)]) (by simp [results, Try.results92, go_sem]) rfl ?_
              rw [HN.out, HNONE.out]
              exact ⟨rfl, HB1.out.trans ((HBW.out.trans (HB.out.mono HBW.out.size)).mono HB1.out.size)⟩
        · have hjn : ¬ (j : Int) + 1 < (n : Int) + 1 := by omega
          have h := HARG.out
          rw [take_all (by rw [List.length_dropLast]; omega)] at h
          have HARG2 := Lib.hid h
          clear h
          go_wp2_with fail
          have hw4 : IntKind.i64.wrap ((n : Int) + 1 - 1) = (n : Int) := by rw [IntKind.wrap_i64]; omega
          go_quiet (fail)
          go_wp2
          refine bodyPost_ret (v := .tuple #[.int .i64 (e : Int), .int .i64 lv]) (by simp [results, Try.results92, go_sem]) rfl ?_
          rw [HN.out, HARG2.out]
          refine ⟨?_, below_drewN (HB1.out.trans (HBW.out.mono HB1.out.size)) _⟩
          simp only
          rw [endV_some, show ((t.length - (t.drop e).length : Nat) : Int) = (e : Int) by rw [List.length_drop]; omega]
          rfl
    · have HN := Lib.hid (firstM_bad (s := ⟨sorts, ops⟩) (vars := vars) (f := f) (rest := t.drop (k + 1)) (n := n) c2' c1)
      have HJ := Lib.hid (show inB n 0 ((ops.length : Int) - 1) = false by rw [inB_op _ rfl]; simpa using c2')
      go_enter Try.func92, Try.ntmps92
      go_wp2_with (go_at_call 69; refine (l1In_is _ _ _ _ _ HI.out).mono ?_; rintro e w' ⟨rfl, rfl⟩)
      have hw3 : IntKind.i64.wrap ((ops.length : Int) - 1) = (ops.length : Int) - 1 := by rw [IntKind.wrap_i64]; omega
      go_quiet ((go_at_call 69; exact quiet_left (l1In_is _ _ _ _ _ HJ.out)))
      have HBF := Lib.hid (below_drewN HB1.out nq)
      go_wp2
      refine bodyPost_ret (v := .tuple #[.int .i64 (-1), .int .i64 (-1)]) (by simp [results, Try.results92, go_sem]) rfl ?_
      rw [HN.out]
      exact ⟨rfl, HBF.out⟩

theorem end_any (s : MSig) (vars : List Int) (hv : varsB s vars = true) : ∀ f, EndAt s vars f := by
  intro f
  induction f with
  | zero =>
    intro t k w v vv tv hr h1 h2 h3
    rw [List.length_drop] at hr
    exact end_past s vars 0 t k w v vv tv (by omega) h1 h2 h3
  | succ f ih =>
    intro t k w v vv tv hr h1 h2 h3
    by_cases hk : k < t.length
    · exact end_step s vars hv f ih t k w v vv tv hk (by rw [List.length_drop] at hr ⊢; omega) h1 h2 h3
    · exact end_past s vars _ t k w v vv tv (by omega) h1 h2 h3
end Go.Proofs.Yteccjnnhihbdhab
