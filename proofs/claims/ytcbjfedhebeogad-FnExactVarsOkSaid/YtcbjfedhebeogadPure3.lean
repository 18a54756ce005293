/- Operations of a signature; equality of rows and signatures. -/
import Derived.Test.YtcbjfedhebeogadPure2
namespace Go.Proofs.Ytcbjfedhebeogad
open Go.RowKit
set_option linter.unusedVariables false

theorem box_cells (w : World) (a b : Value) (t : TypeId) : (w.alloc (.cells #[a, b] t)).cell? ⟨w.heap.size, 0, none⟩ = some a ∧ (w.alloc (.cells #[a, b] t)).cell? ⟨w.heap.size, 1, none⟩ = some b := by
  constructor <;> (rw [World.cell?_alloc_at _ _ _ _ rfl]; rfl)


theorem hasOp_any (v : Value) (s : MSig) (op : Int) (w : World) (h : RSig w v s) :
    Calls Try.prog 29 #[v, .int .i64 op] w fun e w' => e = .returned (.bool (hasOpB s op)) ∧ Below w.heap.size w w' := by
  obtain ⟨u, rfl, hr⟩ := h
  obtain ⟨sorts, ops⟩ := s
  have hn := hr.len
  obtain ⟨A, c, rfl, -⟩ := hr.form
  have H := Lib.hid (hr.keep (below_alloc w (.cells #[.int .i64 sorts, .slice A ops.length c] 27)))
  clear hr
  have hbW := Lib.hid (below_alloc w (.cells #[.int .i64 sorts, .slice A ops.length c] 27))
  have hbx := Lib.hid (box_cells w (.int .i64 sorts) (.slice A ops.length c) 27)
  have HV : Hid (hasOpB ⟨sorts, ops⟩ op = (validB ⟨sorts, ops⟩ && (decide (0 ≤ op) && decide (op < ops.length)))) := rfl
  cases hv : validB ⟨sorts, ops⟩ with
  | false =>
    have Hv := Lib.hid hv
    clear hv
    go_enter Try.func29, Try.ntmps29
    go_wp2_with (go_at_call 32; refine (sigValid_any _ ⟨sorts, ops⟩ _ ⟨_, rfl, H.out⟩).mono ?_; rw [Hv.out]; rintro e w1 ⟨rfl, hb⟩)
    go_ret
    exact ⟨ret_bool (by rw [HV.out, Hv.out]; rfl), hbW.out.trans (hb.mono (by simp))⟩
  | true =>
    have Hv := Lib.hid hv
    clear hv
    by_cases h0 : 0 ≤ op
    · go_enter Try.func29, Try.ntmps29
      go_wp2_with (go_at_call 32; refine (sigValid_any _ ⟨sorts, ops⟩ _ ⟨_, rfl, H.out⟩).mono ?_; rw [Hv.out]; rintro e w1 ⟨rfl, hb⟩; have f1 := cell_keep hb hbx.out.2)
      go_ret
      exact ⟨ret_bool (by rw [HV.out, Hv.out]; simp; omega), hbW.out.trans (hb.mono (by simp))⟩
    · go_enter Try.func29, Try.ntmps29
      go_wp2_with (go_at_call 32; refine (sigValid_any _ ⟨sorts, ops⟩ _ ⟨_, rfl, H.out⟩).mono ?_; rw [Hv.out]; rintro e w1 ⟨rfl, hb⟩; have f1 := cell_keep hb hbx.out.2)
      go_ret
      exact ⟨ret_bool (by rw [HV.out, Hv.out]; simp; omega), hbW.out.trans (hb.mono (by simp))⟩

theorem opLeaves_any (v : Value) (s : MSig) (op : Int) (w : World) (h : RSig w v s) :
    Calls Try.prog 11 #[v, .int .i64 op] w fun e w' => e = .returned (.int .i64 (leavesM s op)) ∧ Below w.heap.size w w' := by
  obtain ⟨u, rfl, hr⟩ := h
  obtain ⟨sorts, ops⟩ := s
  have hn := hr.len
  obtain ⟨A, c, rfl, -⟩ := hr.form
  have H := Lib.hid (hr.keep (below_alloc w (.cells #[.int .i64 sorts, .slice A ops.length c] 27)))
  clear hr
  have hbW := Lib.hid (below_alloc w (.cells #[.int .i64 sorts, .slice A ops.length c] 27))
  have hbx := Lib.hid (box_cells w (.int .i64 sorts) (.slice A ops.length c) 27)
  cases hv : hasOpB ⟨sorts, ops⟩ op with
  | false =>
    have HL : Hid (leavesM ⟨sorts, ops⟩ op = -1) := by unfold Hid leavesM; rw [hv]; rfl
    have Hv := Lib.hid hv
    clear hv
    go_enter Try.func11, Try.ntmps11
    go_wp2_with (go_at_call 29; refine (hasOp_any _ ⟨sorts, ops⟩ _ _ ⟨_, rfl, H.out⟩).mono ?_; rw [Hv.out]; rintro e w1 ⟨rfl, hb⟩)
    go_ret
    exact ⟨ret_int HL.out.symm, hbW.out.trans (hb.mono (by simp))⟩
  | true =>
    obtain ⟨k, rfl, hk, hval⟩ := hasOp_nat hv
    simp only at hk
    have hvr := valid_row hval hk
    have HL0 := leaves_nat hv hk
    obtain ⟨b, o, c', u', e, hcell, hri⟩ := H.out.at_ hk
    cases e
    simp only at HL0 hvr
    generalize ops[k] = row at hcell hri HL0 hvr
    have hr1 := hvr.1
    have hrn := hri.len
    obtain ⟨b', o', c3, rfl, hx⟩ := hri.at_ (k := row.length - 1) (by omega)
    rw [last_at (by omega)] at HL0
    generalize row[row.length - 1]'(by omega) = x at hx HL0
    have HX := Lib.hid hx
    have HL := Lib.hid HL0
    have HCell := Lib.hid hcell
    have Hv := Lib.hid hv
    clear hv HL0 hx hcell hri hval hvr
    go_enter Try.func11, Try.ntmps11
    go_wp2_with (go_at_call 29; refine (hasOp_any _ ⟨sorts, ops⟩ _ _ ⟨_, rfl, H.out⟩).mono ?_; rw [Hv.out]; rintro e w1 ⟨rfl, hb⟩; have f1 := cell_keep hb hbx.out.2; have f2 := cell_keep hb HCell.out; have f3 := cell_keep hb HX.out)
    go_ret
    exact ⟨ret_int HL.out.symm, hbW.out.trans (hb.mono (by simp))⟩

theorem specOpLeaves_any (v : Value) (s : MSig) (op : Int) (w : World) (h : RSig w v s) :
    Calls Try.prog 9 #[v, .int .i64 op] w fun e w' => e = .returned (.int .i64 (leavesM s op)) ∧ Below w.heap.size w w' := by
  obtain ⟨u, rfl, hr⟩ := h
  obtain ⟨sorts, ops⟩ := s
  have hn := hr.len
  obtain ⟨A, c, rfl, -⟩ := hr.form
  have H := Lib.hid (hr.keep (below_alloc w (.cells #[.int .i64 sorts, .slice A ops.length c] 27)))
  clear hr
  have hbW := Lib.hid (below_alloc w (.cells #[.int .i64 sorts, .slice A ops.length c] 27))
  have hbx := Lib.hid (box_cells w (.int .i64 sorts) (.slice A ops.length c) 27)
  cases hv : validB ⟨sorts, ops⟩ with
  | false =>
    have HL : Hid (leavesM ⟨sorts, ops⟩ op = -1) := by unfold Hid leavesM hasOpB; rw [hv]; rfl
    have Hv := Lib.hid hv
    clear hv
    go_enter Try.func9, Try.ntmps9
    go_wp2_with (go_at_call 26; refine (specSigValid_any _ ⟨sorts, ops⟩ _ ⟨_, rfl, H.out⟩).mono ?_; rw [Hv.out]; rintro e w1 ⟨rfl, hb⟩)
    go_ret
    exact ⟨ret_int HL.out.symm, hbW.out.trans (hb.mono (by simp))⟩
  | true =>
    cases hi : inB op 0 ((ops.length : Int) - 1) with
    | false =>
      have HL : Hid (leavesM ⟨sorts, ops⟩ op = -1) := by
        unfold Hid leavesM hasOpB
        rw [if_neg]
        unfold inB at hi
        simp at hi ⊢
        omega
      have Hv := Lib.hid hv
      have Hi := Lib.hid hi
      clear hv hi
      go_enter Try.func9, Try.ntmps9
      go_wp2_with (first
        | (go_at_call 26; refine (specSigValid_any _ ⟨sorts, ops⟩ _ ⟨_, rfl, H.out⟩).mono ?_; rw [Hv.out]; rintro e w1 ⟨rfl, hb⟩; have f1 := cell_keep hb hbx.out.2)
        | (go_at_call 27; refine (l1In_is _ _ _ _ _ Hi.out).mono ?_; rintro e w' ⟨rfl, rfl⟩))
      go_ret
      exact ⟨ret_int HL.out.symm, hbW.out.trans (hb.mono (by simp))⟩
    | true =>
      have hv' : hasOpB ⟨sorts, ops⟩ op = true := by
        unfold hasOpB inB at *
        simp [hv] at hi ⊢
        omega
      obtain ⟨k, rfl, hk, hval⟩ := hasOp_nat hv'
      simp only at hk
      have hvr := valid_row hval hk
      have HL0 := leaves_nat hv' hk
      obtain ⟨b, o, c', u', e, hcell, hri⟩ := H.out.at_ hk
      cases e
      simp only at HL0 hvr
      generalize ops[k] = row at hcell hri HL0 hvr
      have hr1 := hvr.1
      have hrn := hri.len
      obtain ⟨b', o', c3, rfl, hx⟩ := hri.at_ (k := row.length - 1) (by omega)
      rw [last_at (by omega)] at HL0
      generalize row[row.length - 1]'(by omega) = x at hx HL0
      have HX := Lib.hid hx
      have HL := Lib.hid HL0
      have HCell := Lib.hid hcell
      have Hv := Lib.hid hv
      have Hi := Lib.hid hi
      have hk' : (k : Int) < (ops.length : Int) := by omega
      clear hv hi HL0 hv' hx hcell hri hval hvr
      go_enter Try.func9, Try.ntmps9
      go_wp2_with (first
        | (go_at_call 26; refine (specSigValid_any _ ⟨sorts, ops⟩ _ ⟨_, rfl, H.out⟩).mono ?_; rw [Hv.out]; rintro e w1 ⟨rfl, hb⟩; have f1 := cell_keep hb hbx.out.2; have f2 := cell_keep hb HCell.out; have f3 := cell_keep hb HX.out)
        | (go_at_call 27; refine (l1In_is _ _ _ _ _ Hi.out).mono ?_; rintro e w' ⟨rfl, rfl⟩))
      have hs1 : IntKind.i64.wrap ((row.length : Int) - 1) = (row.length : Int) - 1 := by rw [IntKind.wrap_i64]; omega
      have hs2 : 0 ≤ (row.length : Int) - 1 := by omega
      have hs3 : ((row.length : Int) - 1).toNat = row.length - 1 := by omega
      have hs4 : (row.length : Int) - 1 < (row.length : Int) := by omega
      go_quiet (fail)
      clear hs1 hs2 hs3 hs4
      go_wp2
      go_ret
      exact ⟨ret_int HL.out.symm, below_drewN (hbW.out.trans (hb.mono (by simp))) _⟩
end Go.Proofs.Ytcbjfedhebeogad
