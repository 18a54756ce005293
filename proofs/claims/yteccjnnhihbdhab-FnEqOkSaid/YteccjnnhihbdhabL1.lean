/- l1Same: rows compared (package spec). -/
import Derived.Test.YteccjnnhihbdhabPure3
namespace Go.Proofs.Yteccjnnhihbdhab
open Go.RowKit
set_option linter.unusedVariables false

theorem l1Same_any (v v' : Value) (xs ys : List Int) (w : World) (h : RInts w v xs) (h' : RInts w v' ys) :
    Calls Try.prog 70 #[v, v'] w fun e w' => e = .returned (.bool (decide (xs = ys))) ∧ Drawn w w' := by
  have H := Lib.hid h
  have H' := Lib.hid h'
  have hn := h.len
  have hn' := h'.len
  obtain ⟨A, c, rfl, -⟩ := h.form
  obtain ⟨A', c', rfl, -⟩ := h'.form
  clear h h'
  go_enter Try.func70, Try.ntmps70
  go_wp2
  go_loopw [5] (fun i wr => ∃ k : Nat, k ≤ xs.length ∧ k ≤ ys.length ∧ i = .int .i64 k ∧ xs.take k = ys.take k ∧ Drawn w wr) (fun i _ => xs.length - (intOf i).toNat)
  case atStart => exact ⟨0, Nat.zero_le _, Nat.zero_le _, rfl, rfl, Drawn.refl _⟩
  case round =>
    obtain ⟨k, hk, hk2, rfl, hb0, hd⟩ := hrel
    have hb := Lib.hid hb0
    have HD := Lib.hid hd
    clear hb0 hd
    by_cases hlt : k < xs.length
    · have hs1 : (k : Int) < (xs.length : Int) := by omega
      by_cases hlt2 : k < ys.length
      · have hs2 : (k : Int) < (ys.length : Int) := by omega
        obtain ⟨b, o, c3, e, hx⟩ := (H.out.keep HD.out.below).at_ hlt
        cases e
        obtain ⟨b', o', c4, e, hy⟩ := (H'.out.keep HD.out.below).at_ hlt2
        cases e
        have HT := Lib.hid (take_succ_eq hlt hlt2 hb.out)
        have HN := Lib.hid (ne_of_at hlt hlt2)
        generalize xs[k] = x at hx HT HN
        generalize ys[k] = y at hy HT HN
        by_cases hxy : x = y
        · subst hxy
          have e1 : (x != x) = false := by simp
          have e2 : (x == x) = true := by simp
          go_wp2_with fail
          go_quiet (fail)
          go_wp2
          go_roundw
          case rel => exact ⟨k + 1, by omega, by omega, by go_num, HT.out (by simp), HD.out.more _⟩
          case measure => simp [intOf]; omega
        · have e1 : (x != y) = true := by simpa using hxy
          have e2 : (x == y) = false := by simpa using hxy
          have HXY := Lib.hid hxy
          clear hxy
          go_wp2_with fail
          go_quiet (fail)
          go_wp2
          go_ret
          exact ⟨ret_bool (by simpa using (HN.out HXY.out)), HD.out.more _⟩
      · have hs2 : ¬ (k : Int) < (ys.length : Int) := by omega
        have e3 : ((xs.length : Int) == (ys.length : Int)) = false := by rw [beq_eq_false_iff_ne]; omega
        have HNE := Lib.hid (show decide (xs = ys) = false by simp; rintro rfl; omega)
        go_wp2
        go_ret
        exact ⟨ret_bool HNE.out.symm, HD.out⟩
    · have hs1 : ¬ (k : Int) < (xs.length : Int) := by omega
      by_cases hle : xs.length = ys.length
      · have e3 : ((xs.length : Int) == (ys.length : Int)) = true := by rw [beq_iff_eq]; omega
        have HEQ := Lib.hid (show decide (xs = ys) = true by
          have h := hb.out
          rw [take_all (by omega), take_all (by omega)] at h
          simpa using h)
        clear hle
        go_wp2
        go_ret
        exact ⟨ret_bool HEQ.out.symm, HD.out⟩
      · have e3 : ((xs.length : Int) == (ys.length : Int)) = false := by rw [beq_eq_false_iff_ne]; omega
        have HNE := Lib.hid (show decide (xs = ys) = false by simp; rintro rfl; omega)
        clear hle
        go_wp2
        go_ret
        exact ⟨ret_bool HNE.out.symm, HD.out⟩
end Go.Proofs.Yteccjnnhihbdhab
