/- Operations of a signature; equality of rows and signatures. -/
import Derived.Test.YtcbjfedhebeogacPure2
namespace Go.Proofs.Ytcbjfedhebeogac
open Go.RowKit
set_option linter.unusedVariables false

theorem box_cells (w : World) (a b : Value) (t : TypeId) : (w.alloc (.cells #[a, b] t)).cell? ⟨w.heap.size, 0, none⟩ = some a ∧ (w.alloc (.cells #[a, b] t)).cell? ⟨w.heap.size, 1, none⟩ = some b := by
  constructor <;> (rw [World.cell?_alloc_at _ _ _ _ rfl]; rfl)

theorem alive_any (w : World) : Calls Try.prog 13 #[] w fun e w' => e = .returned (.bool true) ∧ Below w.heap.size w w' := by
  go_enter Try.func13, Try.ntmps13
  go_wp2_with fail
  refine (sigValid_any _ ⟨1, []⟩ _ ⟨_, rfl, RRows.nil _⟩).mono ?_
  rw [show validB ⟨1, []⟩ = true from rfl]
  rintro e w1 ⟨rfl, hb1⟩
  go_wp2_with fail
  refine (sigValid_any _ ⟨0, []⟩ _ ⟨_, rfl, RRows.nil _⟩).mono ?_
  rw [show validB ⟨0, []⟩ = false from rfl]
  rintro e w2 ⟨rfl, hb2⟩
  go_wp2
  go_ret
  exact ⟨rfl, hb1.trans (hb2.mono hb1.size)⟩

theorem hasOp_any (v : Value) (s : MSig) (op : Int) (w : World) (h : RSig w v s) :
    Calls Try.prog 61 #[v, .int .i64 op] w fun e w' => e = .returned (.bool (hasOpB s op)) ∧ Below w.heap.size w w' := by
  obtain ⟨u, rfl, hr⟩ := h
  obtain ⟨sorts, ops⟩ := s
  have hn := hr.len
  obtain ⟨A, c, rfl, -⟩ := hr.form
  have H := Lib.hid (hr.keep (below_alloc w (.cells #[.int .i64 sorts, .slice A ops.length c] 25)))
  clear hr
  have hbW := Lib.hid (below_alloc w (.cells #[.int .i64 sorts, .slice A ops.length c] 25))
  have hbx := Lib.hid (box_cells w (.int .i64 sorts) (.slice A ops.length c) 25)
  have HV : Hid (hasOpB ⟨sorts, ops⟩ op = (validB ⟨sorts, ops⟩ && (decide (0 ≤ op) && decide (op < ops.length)))) := rfl
  cases hv : validB ⟨sorts, ops⟩ with
  | false =>
    have Hv := Lib.hid hv
    clear hv
    go_enter Try.func61, Try.ntmps61
    go_wp2_with (go_at_call 30; refine (sigValid_any _ ⟨sorts, ops⟩ _ ⟨_, rfl, H.out⟩).mono ?_; rw [Hv.out]; rintro e w1 ⟨rfl, hb⟩)
    go_ret
    exact ⟨ret_bool (by rw [HV.out, Hv.out]; rfl), hbW.out.trans (hb.mono (by simp))⟩
  | true =>
    have Hv := Lib.hid hv
    clear hv
    by_cases h0 : 0 ≤ op
    · go_enter Try.func61, Try.ntmps61
      go_wp2_with (go_at_call 30; refine (sigValid_any _ ⟨sorts, ops⟩ _ ⟨_, rfl, H.out⟩).mono ?_; rw [Hv.out]; rintro e w1 ⟨rfl, hb⟩; have f1 := cell_keep hb hbx.out.2)
      go_ret
      exact ⟨ret_bool (by rw [HV.out, Hv.out]; simp; omega), hbW.out.trans (hb.mono (by simp))⟩
    · go_enter Try.func61, Try.ntmps61
      go_wp2_with (go_at_call 30; refine (sigValid_any _ ⟨sorts, ops⟩ _ ⟨_, rfl, H.out⟩).mono ?_; rw [Hv.out]; rintro e w1 ⟨rfl, hb⟩; have f1 := cell_keep hb hbx.out.2)
      go_ret
      exact ⟨ret_bool (by rw [HV.out, Hv.out]; simp; omega), hbW.out.trans (hb.mono (by simp))⟩

end Go.Proofs.Ytcbjfedhebeogac
