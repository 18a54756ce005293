/- Equality of rows, of lists of rows, of signatures (package laws). -/
import Derived.Test.YticldaddbljleaaK0123702c
namespace Go.Proofs.Yticldaddbljleaa
section
open Go.RowKit
set_option linter.unusedVariables false

theorem sameInts_any (v v' : Value) (xs ys : List Int) (w : World) (h : RInts w v xs) (h' : RInts w v' ys) :
    Calls Try.prog 61 #[v, v'] w fun e w' => e = .returned (.bool (sameI xs ys)) ∧ Drawn w w' := by
  have H := Lib.hid h
  have H' := Lib.hid h'
  have hn := h.len
  have hn' := h'.len
  obtain ⟨A, c, rfl, -⟩ := h.form
  obtain ⟨A', c', rfl, -⟩ := h'.form
  clear h h'
  by_cases hl : xs.length = ys.length
  · have hl' : ((xs.length : Int) != (ys.length : Int)) = false := by simp [hl]
    have HL := Lib.hid hl
    have hle : xs.length ≤ ys.length := by omega
    have hge : ys.length ≤ xs.length := by omega
    clear hl
    go_enter Try.func61, Try.ntmps61
    go_wp2
    go_loopw [5] (fun i wr => ∃ k : Nat, k ≤ xs.length ∧ i = .int .i64 k ∧ xs.take k = ys.take k ∧ Drawn w wr) (fun i _ => xs.length - (intOf i).toNat)
    case atStart => exact ⟨0, Nat.zero_le _, rfl, rfl, Drawn.refl _⟩
    case round =>
      obtain ⟨k, hk, rfl, hb0, hd⟩ := hrel
      have hb := Lib.hid hb0
      have HD := Lib.hid hd
      clear hb0 hd
      by_cases hlt : k < xs.length
      · obtain ⟨b, o, c3, e, hx⟩ := (H.out.keep HD.out.below).at_ hlt
        cases e
        obtain ⟨b', o', c4, e, hy⟩ := (H'.out.keep HD.out.below).at_ (show k < ys.length by omega)
        cases e
        have hs1 : (k : Int) < (xs.length : Int) := by omega
        have hs2 : (k : Int) < (ys.length : Int) := by omega
        have HT := Lib.hid (take_succ_eq hlt (show k < ys.length by omega) hb.out)
        have HN := Lib.hid (ne_of_at hlt (show k < ys.length by omega))
        generalize xs[k] = x at hx HT HN
        generalize ys[k]'(by omega) = y at hy HT HN
        by_cases hxy : x = y
        · subst hxy
          have e1 : (x != x) = false := by simp
          have e2 : (x == x) = true := by simp
          go_wp2_with fail
          go_quiet (fail)
          go_wp2
          go_roundw
          case rel => exact ⟨k + 1, by omega, by go_num, HT.out (by simp), HD.out.more _⟩
          case measure => simp [intOf]; omega
        · have e1 : (x != y) = true := by simpa using hxy
          have e2 : (x == y) = false := by simpa using hxy
          have HXY := Lib.hid hxy
          clear hxy
          go_wp2_with fail
          go_quiet (fail)
          go_wp2
          go_ret
          exact ⟨ret_bool (by unfold sameI; simpa using (HN.out HXY.out)), HD.out.more _⟩
      · go_wp2
        go_ret
        have h := hb.out
        rw [take_all (by omega), take_all (by omega)] at h
        exact ⟨ret_bool (by unfold sameI; simpa using h), HD.out⟩
  · have hl' : ((xs.length : Int) != (ys.length : Int)) = true := by simp; omega
    have HL := Lib.hid hl
    clear hl
    go_enter Try.func61, Try.ntmps61
    go_wp2
    go_ret
    exact ⟨ret_bool (by unfold sameI; simp; rintro rfl; exact HL.out rfl), Drawn.refl _⟩

theorem sameInts_is (v v' : Value) (xs ys : List Int) (w : World) (b : Bool) (hb : sameI xs ys = b) (h : RInts w v xs) (h' : RInts w v' ys) :
    Calls Try.prog 61 #[v, v'] w fun e w' => e = .returned (.bool b) ∧ Drawn w w' := by
  subst hb; exact sameInts_any v v' xs ys w h h'

theorem sameRows_any (v v' : Value) (xs ys : List (List Int)) (w : World) (h : RRows w v xs) (h' : RRows w v' ys) :
    Calls Try.prog 60 #[v, v'] w fun e w' => e = .returned (.bool (sameR xs ys)) ∧ Drawn w w' := by
  have H := Lib.hid h
  have H' := Lib.hid h'
  have hn := h.len
  have hn' := h'.len
  obtain ⟨A, c, rfl, -⟩ := h.form
  obtain ⟨A', c', rfl, -⟩ := h'.form
  clear h h'
  by_cases hl : xs.length = ys.length
  · have hl' : ((xs.length : Int) != (ys.length : Int)) = false := by simp [hl]
    have HL := Lib.hid hl
    have hle : xs.length ≤ ys.length := by omega
    have hge : ys.length ≤ xs.length := by omega
    clear hl
    go_enter Try.func60, Try.ntmps60
    go_wp2
    go_loopw [5] (fun i wr => ∃ k : Nat, k ≤ xs.length ∧ i = .int .i64 k ∧ xs.take k = ys.take k ∧ Drawn w wr) (fun i _ => xs.length - (intOf i).toNat)
    case atStart => exact ⟨0, Nat.zero_le _, rfl, rfl, Drawn.refl _⟩
    case round =>
      obtain ⟨k, hk, rfl, hb0, hd⟩ := hrel
      have hb := Lib.hid hb0
      have HD := Lib.hid hd
      clear hb0 hd
      by_cases hlt : k < xs.length
      · obtain ⟨b, o, c3, u, e, hx, hr⟩ := (H.out.keep HD.out.below).at_ hlt
        cases e
        obtain ⟨b', o', c4, u', e, hy, hr'⟩ := (H'.out.keep HD.out.below).at_ (show k < ys.length by omega)
        cases e
        have hs1 : (k : Int) < (xs.length : Int) := by omega
        have hs2 : (k : Int) < (ys.length : Int) := by omega
        have HT := Lib.hid (take_succ_eq hlt (show k < ys.length by omega) hb.out)
        have HN := Lib.hid (ne_of_at hlt (show k < ys.length by omega))
        generalize xs[k] = x at hr HT HN
        generalize ys[k]'(by omega) = y at hr' HT HN
        have HR := Lib.hid hr
        have HR' := Lib.hid hr'
        obtain ⟨A1, c1, rfl, -⟩ := hr.form
        obtain ⟨A2, c2, rfl, -⟩ := hr'.form
        clear hr hr'
        cases hxy : sameI x y with
        | true =>
          have HXY := Lib.hid hxy
          clear hxy
          go_wp2_with fail
          go_quiet ((go_at_call 61; exact quiet_drawn (sameInts_is _ _ _ _ _ _ HXY.out (HR.out.keep (below_drewN (Below.refl _ _) _)) (HR'.out.keep (below_drewN (Below.refl _ _) _)))))
          go_wp2
          go_roundw
          case rel => exact ⟨k + 1, by omega, by go_num, HT.out (by simpa [sameI] using HXY.out), HD.out.more _⟩
          case measure => simp [intOf]; omega
        | false =>
          have HXY := Lib.hid hxy
          clear hxy
          go_wp2_with fail
          go_quiet ((go_at_call 61; exact quiet_drawn (sameInts_is _ _ _ _ _ _ HXY.out (HR.out.keep (below_drewN (Below.refl _ _) _)) (HR'.out.keep (below_drewN (Below.refl _ _) _)))))
          go_wp2
          go_ret
          exact ⟨ret_bool (by unfold sameR; simpa using (HN.out (by simpa [sameI] using HXY.out))), HD.out.more _⟩
      · go_wp2
        go_ret
        have h := hb.out
        rw [take_all (by omega), take_all (by omega)] at h
        exact ⟨ret_bool (by unfold sameR; simpa using h), HD.out⟩
  · have hl' : ((xs.length : Int) != (ys.length : Int)) = true := by simp; omega
    have HL := Lib.hid hl
    clear hl
    go_enter Try.func60, Try.ntmps60
    go_wp2
    go_ret
    exact ⟨ret_bool (by unfold sameR; simp; rintro rfl; exact HL.out rfl), Drawn.refl _⟩
end
end Go.Proofs.Yticldaddbljleaa
