/- Contracts of the functions on signatures that only read. -/
import Derived.Test.YteccjnnhihbdhabBase
import Derived.Deep.QuietTactic
import Derived.BigQuiet
namespace Go.Proofs.Yteccjnnhihbdhab
open Go.RowKit
set_option linter.unusedVariables false

theorem sortsBelow_any (v : Value) (xs : List Int) (m : Int) (w : World) (h : RInts w v xs) :
    Calls Try.prog 65 #[v, .int .i64 m] w fun e w' => e = .returned (.bool (belowB xs m)) ∧ w = w' := by
  have H := Lib.hid h
  have hn := h.len
  obtain ⟨A, c, rfl, -⟩ := h.form
  clear h
  go_enter Try.func65, Try.ntmps65
  go_wp2
  go_loop [4, 6, 9] (fun r s i => ∃ k : Nat, k ≤ xs.length ∧ i = .int .i64 k ∧ belowB (xs.take k) m = true) (fun _ _ i => xs.length - (intOf i).toNat)
  case atStart => exact ⟨0, Nat.zero_le _, rfl, rfl⟩
  case round =>
    obtain ⟨k, hk, rfl, hb0⟩ := hrel
    have hb := Lib.hid hb0
    clear hb0
    by_cases hlt : k < xs.length
    · obtain ⟨b, o, c', e, hcell⟩ := H.out.at_ hlt
      cases e
      have HB := Lib.hid (belowB_take (m := m) hlt)
      have HN := Lib.hid (belowB_bad (m := m) hlt)
      generalize xs[k] = x at hcell HB HN
      by_cases h0 : x < 0
      · go_wp2
        go_ret
        exact ⟨ret_bool (HN.out (by omega)).symm, rfl⟩
      · by_cases h1 : x < m
        · go_wp2
          go_round
          case rel => exact ⟨k + 1, by omega, by go_num, by rw [HB.out, hb.out]; simp; omega⟩
          case measure => simp [intOf]; omega
        · go_wp2
          go_ret
          exact ⟨ret_bool (HN.out (by omega)).symm, rfl⟩
    · go_wp2
      go_ret
      refine ⟨ret_bool ?_, rfl⟩
      have h := hb.out
      rwa [take_all (by omega), eq_comm] at h

theorem sigValid_any (v : Value) (s : MSig) (w : World) (h : RSig w v s) :
    Calls Try.prog 29 #[v] w fun e w' => e = .returned (.bool (validB s)) ∧ Below w.heap.size w w' := by
  obtain ⟨u, rfl, hr⟩ := h
  obtain ⟨sorts, ops⟩ := s
  have hn := hr.len
  obtain ⟨A, c, rfl, -⟩ := hr.form
  have H := Lib.hid (hr.keep (below_alloc w (.cells #[.int .i64 sorts, .slice A ops.length c] 35)))
  clear hr
  have HV : Hid (validB ⟨sorts, ops⟩ = ((decide (1 ≤ sorts) && decide (sorts ≤ 3)) && decide (ops.length ≤ 6) && ops.all (rowB sorts))) := rfl
  by_cases c1 : sorts < 1
  · go_enter Try.func29, Try.ntmps29
    go_wp2
    go_ret
    refine ⟨ret_bool ?_, below_alloc _ _⟩
    rw [HV.out]; simp; omega
  by_cases c2 : 3 < sorts
  · go_enter Try.func29, Try.ntmps29
    go_wp2
    go_ret
    refine ⟨ret_bool ?_, below_alloc _ _⟩
    rw [HV.out]; simp; omega
  by_cases c3 : 6 < ops.length
  · go_enter Try.func29, Try.ntmps29
    go_wp2
    go_ret
    refine ⟨ret_bool ?_, below_alloc _ _⟩
    rw [HV.out]; simp; omega
  go_enter Try.func29, Try.ntmps29
  go_wp2
  go_loop [4, 22] (fun s i => ∃ k : Nat, k ≤ ops.length ∧ i = .int .i64 k ∧ (ops.take k).all (rowB sorts) = true) (fun _ i => ops.length - (intOf i).toNat)
  case atStart => exact ⟨0, Nat.zero_le _, rfl, rfl⟩
  case round =>
    obtain ⟨k, hk, rfl, hb0⟩ := hrel
    have hb := Lib.hid hb0
    clear hb0
    by_cases hlt : k < ops.length
    · obtain ⟨b, o, c', u, e, hcell, hri⟩ := H.out.at_ hlt
      cases e
      have HB := Lib.hid (all_take (p := rowB sorts) hlt)
      have HN := Lib.hid (all_bad (p := rowB sorts) hlt)
      generalize ops[k] = row at hri HB HN
      have HR : Hid (rowB sorts row = ((decide (1 ≤ row.length) && decide (row.length ≤ 3)) && belowB row sorts)) := rfl
      have hrn := hri.len
      obtain ⟨A', c'', rfl, -⟩ := hri.form
      have HI := Lib.hid hri
      clear hri
      by_cases d1 : row.length < 1
      · go_wp2
        go_ret
        refine ⟨ret_bool ?_, below_alloc _ _⟩
        rw [HV.out, HN.out (by rw [HR.out]; simp; omega)]; simp
      by_cases d2 : 3 < row.length
      · go_wp2
        go_ret
        refine ⟨ret_bool ?_, below_alloc _ _⟩
        rw [HV.out, HN.out (by rw [HR.out]; simp; omega)]; simp
      cases hbb : belowB row sorts with
      | true =>
        have Hbb := Lib.hid hbb
        clear hbb
        go_wp2_with (go_at_call 65; refine (sortsBelow_any _ _ _ _ HI.out).mono ?_; rw [Hbb.out]; rintro e w' ⟨rfl, rfl⟩)
        go_round
        case rel => exact ⟨k + 1, by omega, by go_num, by rw [HB.out, hb.out, HR.out, Hbb.out]; simp; omega⟩
        case measure => simp [intOf]; omega
      | false =>
        have Hbb := Lib.hid hbb
        clear hbb
        go_wp2_with (go_at_call 65; refine (sortsBelow_any _ _ _ _ HI.out).mono ?_; rw [Hbb.out]; rintro e w' ⟨rfl, rfl⟩)
        go_ret
        refine ⟨ret_bool ?_, below_alloc _ _⟩
        rw [HV.out, HN.out (by rw [HR.out, Hbb.out]; simp)]; simp
    · go_wp2
      go_ret
      refine ⟨ret_bool ?_, below_alloc _ _⟩
      have h := hb.out
      rw [take_all (by omega)] at h
      rw [HV.out, h]; simp; omega
end Go.Proofs.Yteccjnnhihbdhab
