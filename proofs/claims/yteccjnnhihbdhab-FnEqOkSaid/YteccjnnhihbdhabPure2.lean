/- The spec's SigValid: two loops, a region that draws in the inner one. -/
import Derived.Test.YteccjnnhihbdhabPure1
namespace Go.Proofs.Yteccjnnhihbdhab
open Go.RowKit
set_option linter.unusedVariables false

theorem l1In_is (a lo hi : Int) (w : World) (b : Bool) (hb : inB a lo hi = b) :
    Calls Try.prog 69 #[.int .i64 a, .int .i64 lo, .int .i64 hi] w fun e w' => e = .returned (.bool b) ∧ w = w' := by
  subst hb
  unfold inB
  by_cases h : lo ≤ a
  · go_enter Try.func69, Try.ntmps69
    go_wp2
    go_ret
    exact ⟨ret_bool (by simp; omega), rfl⟩
  · go_enter Try.func69, Try.ntmps69
    go_wp2
    go_ret
    exact ⟨ret_bool (by simp; omega), rfl⟩

theorem inB_row (x sorts : Int) (q : Int) (hq : 1 ≤ sorts → sorts ≤ 3 → q = sorts - 1) (h1 : 1 ≤ sorts) (h3 : sorts ≤ 3) : inB x 0 q = (decide (0 ≤ x) && decide (x < sorts)) := by
  rw [hq h1 h3]; unfold inB; congr 1; rw [decide_eq_decide]; omega
def inRow (q : Int) (row : List Int) : Bool := inB row.length 1 3 && row.all fun x => inB x 0 q
theorem inRow_rowB {sorts q : Int} (hq : 1 ≤ sorts → sorts ≤ 3 → q = sorts - 1) (h1 : 1 ≤ sorts) (h3 : sorts ≤ 3) : inRow q = rowB sorts := by
  funext row
  unfold inRow rowB belowB
  congr 1
  · unfold inB; congr 1 <;> (rw [decide_eq_decide]; omega)
  · congr 1; funext x; exact inB_row x sorts q hq h1 h3
theorem validB_in {sorts q : Int} {ops : List (List Int)} (hq : 1 ≤ sorts → sorts ≤ 3 → q = sorts - 1) : validB ⟨sorts, ops⟩ = (ops.all (inRow q) && (inB sorts 1 3 && decide (ops.length ≤ 6))) := by
  unfold validB
  by_cases h1 : 1 ≤ sorts
  · by_cases h3 : sorts ≤ 3
    · rw [inRow_rowB hq h1 h3]; simp [inB, h1, h3, Bool.and_comm]
    · simp [inB, h3]
  · simp [inB, h1]

theorem specSigValid_any (v : Value) (s : MSig) (w : World) (h : RSig w v s) :
    Calls Try.prog 68 #[v] w fun e w' => e = .returned (.bool (validB s)) ∧ Below w.heap.size w w' := by
  obtain ⟨u, rfl, hr⟩ := h
  obtain ⟨sorts, ops⟩ := s
  have hn := hr.len
  obtain ⟨A, c, rfl, -⟩ := hr.form
  have H := Lib.hid (hr.keep (below_alloc w (.cells #[.int .i64 sorts, .slice A ops.length c] 35)))
  have hc0 : (w.alloc (.cells #[.int .i64 sorts, .slice A ops.length c] 35)).cell? ⟨w.heap.size, 0, none⟩ = some (.int .i64 sorts) := by
    rw [World.cell?_alloc_at _ _ _ _ rfl]; rfl
  have hc1 : (w.alloc (.cells #[.int .i64 sorts, .slice A ops.length c] 35)).cell? ⟨w.heap.size, 1, none⟩ = some (.slice A ops.length c) := by
    rw [World.cell?_alloc_at _ _ _ _ rfl]; rfl
  have hbW : Below w.heap.size w (w.alloc (.cells #[.int .i64 sorts, .slice A ops.length c] 35)) := below_alloc _ _
  clear hr
  have HV : Hid (validB ⟨sorts, ops⟩ = (ops.all (inRow (IntKind.i64.wrap (sorts - 1))) && (inB sorts 1 3 && decide (ops.length ≤ 6)))) :=
    validB_in (fun h1 h3 => by rw [IntKind.wrap_i64]; omega)
  have HC0 := Lib.hid hc0
  have HC1 := Lib.hid hc1
  have HBW := Lib.hid hbW
  clear hc0 hc1 hbW
  go_enter Try.func68, Try.ntmps68
  go_wp2
  go_loopw [3] (fun i wr => ∃ k : Nat, k ≤ ops.length ∧ i = .int .i64 k ∧ (ops.take k).all (inRow (IntKind.i64.wrap (sorts - 1))) = true ∧ Drawn (w.alloc (.cells #[.int .i64 sorts, .slice A ops.length c] 35)) wr) (fun i _ => ops.length - (intOf i).toNat)
  case atStart => exact ⟨0, Nat.zero_le _, rfl, rfl, Drawn.refl _⟩
  case round =>
    obtain ⟨k, hk, rfl, hb0, hd⟩ := hrel
    have hb := Lib.hid hb0
    have HD := Lib.hid hd
    clear hb0 hd
    have f0 := (HD.out.cell _).trans HC0.out
    have f1 := (HD.out.cell _).trans HC1.out
    by_cases hlt : k < ops.length
    · obtain ⟨b, o, c', u, e, hcell, hri⟩ := (H.out.keep HD.out.below).at_ hlt
      cases e
      have HB := Lib.hid (all_take (p := inRow (IntKind.i64.wrap (sorts - 1))) hlt)
      have HN := Lib.hid (all_bad (p := inRow (IntKind.i64.wrap (sorts - 1))) hlt)
      generalize ops[k] = row at hri HB HN
      have HR : Hid (inRow (IntKind.i64.wrap (sorts - 1)) row = (inB row.length 1 3 && row.all fun x => inB x 0 (IntKind.i64.wrap (sorts - 1)))) := rfl
      have hrn := hri.len
      obtain ⟨A', c'', rfl, -⟩ := hri.form
      have HI := Lib.hid hri
      clear hri
      cases hbb : inB row.length 1 3 with
      | false =>
        have Hbb := Lib.hid hbb
        clear hbb
        go_wp2_with (go_at_call 69; refine (l1In_is _ _ _ _ _ Hbb.out).mono ?_; rintro e w' ⟨rfl, rfl⟩)
        go_ret
        refine ⟨ret_bool ?_, HBW.out.trans (HD.out.below.mono (by simp))⟩
        rw [HV.out, HN.out (by rw [HR.out, Hbb.out]; simp)]; simp
      | true =>
        have Hbb := Lib.hid hbb
        clear hbb
        go_wp2_with (go_at_call 69; refine (l1In_is _ _ _ _ _ Hbb.out).mono ?_; rintro e w' ⟨rfl, rfl⟩)
        have hlt' : (k : Int) < (ops.length : Int) := by omega
        obtain ⟨wo, rfl⟩ : ∃ wo : World, wo = wr := ⟨_, rfl⟩
        go_loopw [4] (fun j wj => ∃ l : Nat, l ≤ row.length ∧ j = .int .i64 l ∧ (row.take l).all (fun x => inB x 0 (IntKind.i64.wrap (sorts - 1))) = true ∧ Drawn wo wj) (fun j _ => row.length - (intOf j).toNat)
        case atStart => exact ⟨0, Nat.zero_le _, rfl, rfl, Drawn.refl _⟩
        case round =>
          obtain ⟨l, hl, rfl, hbl0, hdj⟩ := hrel
          have hbl := Lib.hid hbl0
          have HDJ := Lib.hid hdj
          clear hbl0 hdj
          have g0 := (HDJ.out.cell _).trans f0
          have g1 := (HDJ.out.cell _).trans f1
          have g2 := (HDJ.out.cell _).trans hcell
          by_cases hll : l < row.length
          · obtain ⟨b', o', c3, e, hx⟩ := (HI.out.keep HDJ.out.below).at_ hll
            cases e
            have HBL := Lib.hid (all_take (p := fun x => inB x 0 (IntKind.i64.wrap (sorts - 1))) hll)
            have HNL := Lib.hid (all_bad (p := fun x => inB x 0 (IntKind.i64.wrap (sorts - 1))) hll)
            generalize row[l] = x at hx HBL HNL
            have hll' : (l : Int) < (row.length : Int) := by omega
            go_wp2_with fail
            cases hbx : inB x 0 (IntKind.i64.wrap (sorts - 1)) with
            | false =>
              have Hbx := Lib.hid hbx
              clear hbx
              go_quiet ((go_at_call 69; exact quiet_left (l1In_is _ _ _ _ _ Hbx.out)))
              go_wp2
              go_ret
              refine ⟨ret_bool ?_, ?_⟩
              · rw [HV.out, HN.out (by rw [HR.out, HNL.out Hbx.out]; simp)]; simp
              · exact below_drewN (HBW.out.trans ((HD.out.below.mono (by simp)).trans (HDJ.out.below.mono (by have := HD.out.below.size; simp at this; omega)))) _
            | true =>
              have Hbx := Lib.hid hbx
              clear hbx
              go_quiet ((go_at_call 69; exact quiet_left (l1In_is _ _ _ _ _ Hbx.out)))
              go_wp2
              go_roundw
              case rel => exact ⟨l + 1, by omega, by go_num, by rw [HBL.out, hbl.out, Hbx.out]; rfl, HDJ.out.more _⟩
              case measure => simp [intOf]; omega
          · go_wp2
            have hbl' := hbl.out
            rw [take_all (by omega)] at hbl'
            go_roundw
            case rel => exact ⟨k + 1, by omega, by go_num, by rw [HB.out, hb.out, HR.out, Hbb.out, hbl']; rfl, by obtain ⟨m, hm⟩ := HD.out; obtain ⟨m', hm'⟩ := HDJ.out; exact ⟨m + m', by rw [hm', hm, World.drewN_drewN]⟩⟩
            case measure => simp [intOf]; omega
    · have HE0 := hb.out
      rw [take_all (by omega)] at HE0
      have HE := Lib.hid HE0
      clear HE0
      cases hbs : inB sorts 1 3 with
      | false =>
        have Hbs := Lib.hid hbs
        clear hbs
        go_wp2_with (go_at_call 69; refine (l1In_is _ _ _ _ _ Hbs.out).mono ?_; rintro e w' ⟨rfl, rfl⟩)
        go_ret
        refine ⟨ret_bool ?_, HBW.out.trans (HD.out.below.mono (by simp))⟩
        rw [HV.out, Hbs.out]; simp
      | true =>
        have Hbs := Lib.hid hbs
        clear hbs
        go_wp2_with (go_at_call 69; refine (l1In_is _ _ _ _ _ Hbs.out).mono ?_; rintro e w' ⟨rfl, rfl⟩)
        go_ret
        refine ⟨ret_bool ?_, HBW.out.trans (HD.out.below.mono (by simp))⟩
        rw [HV.out, HE.out, Hbs.out]; simp; omega
end Go.Proofs.Yteccjnnhihbdhab
