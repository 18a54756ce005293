/- Equality of rows, of lists of rows, of signatures (the exact laws' own). -/
import Derived.Test.YteccjnnhihbdhabPure3
namespace Go.Proofs.Yteccjnnhihbdhab
open Go.RowKit
set_option linter.unusedVariables false

theorem eqIntS_any (v v' : Value) (xs ys : List Int) (w : World) (h : RInts w v xs) (h' : RInts w v' ys) :
    Calls Try.prog 53 #[v, v'] w fun e w' => e = .returned (.bool (sameI xs ys)) ∧ Drawn w w' := by
  have H := Lib.hid h
  have H' := Lib.hid h'
  have hn := h.len
  have hn' := h'.len
  obtain ⟨A, c, rfl, -⟩ := h.form
  obtain ⟨A', c', rfl, -⟩ := h'.form
  clear h h'
  by_cases hl : xs.length = ys.length
  · have hl' : ((xs.length : Int) != (ys.length : Int)) = false := by simp [hl]
    have HL := Lib.hid hl
    have hle : xs.length ≤ ys.length := by omega
    have hge : ys.length ≤ xs.length := by omega
    clear hl
    go_enter Try.func53, Try.ntmps53
    go_wp2
    go_loopw [5] (fun i wr => ∃ k : Nat, k ≤ xs.length ∧ i = .int .i64 k ∧ xs.take k = ys.take k ∧ Drawn w wr) (fun i _ => xs.length - (intOf i).toNat)
    case atStart => exact ⟨0, Nat.zero_le _, rfl, rfl, Drawn.refl _⟩
    case round =>
      obtain ⟨k, hk, rfl, hb0, hd⟩ := hrel
      have hb := Lib.hid hb0
      have HD := Lib.hid hd
      clear hb0 hd
      by_cases hlt : k < xs.length
      · obtain ⟨b, o, c3, e, hx⟩ := (H.out.keep HD.out.below).at_ hlt
        cases e
        obtain ⟨b', o', c4, e, hy⟩ := (H'.out.keep HD.out.below).at_ (show k < ys.length by omega)
        cases e
        have hs1 : (k : Int) < (xs.length : Int) := by omega
        have hs2 : (k : Int) < (ys.length : Int) := by omega
        have HT := Lib.hid (take_succ_eq hlt (show k < ys.length by omega) hb.out)
        have HN := Lib.hid (ne_of_at hlt (show k < ys.length by omega))
        generalize xs[k] = x at hx HT HN
        generalize ys[k]'(by omega) = y at hy HT HN
        by_cases hxy : x = y
        · subst hxy
          have e1 : (x != x) = false := by simp
          have e2 : (x == x) = true := by simp
          go_wp2_with fail
          go_quiet (fail)
          go_wp2
          go_roundw
          case rel => exact ⟨k + 1, by omega, by go_num, HT.out (by simp), HD.out.more _⟩
          case measure => simp [intOf]; omega
        · have e1 : (x != y) = true := by simpa using hxy
          have e2 : (x == y) = false := by simpa using hxy
          have HXY := Lib.hid hxy
          clear hxy
          go_wp2_with fail
          go_quiet (fail)
          go_wp2
          go_ret
          exact ⟨ret_bool (by unfold sameI; simpa using (HN.out HXY.out)), HD.out.more _⟩
      · go_wp2
        go_ret
        have h := hb.out
        rw [take_all (by omega), take_all (by omega)] at h
        exact ⟨ret_bool (by unfold sameI; simpa using h), HD.out⟩
  · have hl' : ((xs.length : Int) != (ys.length : Int)) = true := by simp; omega
    have HL := Lib.hid hl
    clear hl
    go_enter Try.func53, Try.ntmps53
    go_wp2
    go_ret
    exact ⟨ret_bool (by unfold sameI; simp; rintro rfl; exact HL.out rfl), Drawn.refl _⟩

theorem eqIntS_is (v v' : Value) (xs ys : List Int) (w : World) (b : Bool) (hb : sameI xs ys = b) (h : RInts w v xs) (h' : RInts w v' ys) :
    Calls Try.prog 53 #[v, v'] w fun e w' => e = .returned (.bool b) ∧ Drawn w w' := by
  subst hb; exact eqIntS_any v v' xs ys w h h'

theorem eqIntSS_any (v v' : Value) (xs ys : List (List Int)) (w : World) (h : RRows w v xs) (h' : RRows w v' ys) :
    Calls Try.prog 54 #[v, v'] w fun e w' => e = .returned (.bool (sameR xs ys)) ∧ Drawn w w' := by
  have H := Lib.hid h
  have H' := Lib.hid h'
  have hn := h.len
  have hn' := h'.len
  obtain ⟨A, c, rfl, -⟩ := h.form
  obtain ⟨A', c', rfl, -⟩ := h'.form
  clear h h'
  by_cases hl : xs.length = ys.length
  · have hl' : ((xs.length : Int) != (ys.length : Int)) = false := by simp [hl]
    have HL := Lib.hid hl
    have hle : xs.length ≤ ys.length := by omega
    have hge : ys.length ≤ xs.length := by omega
    clear hl
    go_enter Try.func54, Try.ntmps54
    go_wp2
    go_loopw [5] (fun i wr => ∃ k : Nat, k ≤ xs.length ∧ i = .int .i64 k ∧ xs.take k = ys.take k ∧ Drawn w wr) (fun i _ => xs.length - (intOf i).toNat)
    case atStart => exact ⟨0, Nat.zero_le _, rfl, rfl, Drawn.refl _⟩
    case round =>
      obtain ⟨k, hk, rfl, hb0, hd⟩ := hrel
      have hb := Lib.hid hb0
      have HD := Lib.hid hd
      clear hb0 hd
      by_cases hlt : k < xs.length
      · obtain ⟨b, o, c3, u, e, hx, hr⟩ := (H.out.keep HD.out.below).at_ hlt
        cases e
        obtain ⟨b', o', c4, u', e, hy, hr'⟩ := (H'.out.keep HD.out.below).at_ (show k < ys.length by omega)
        cases e
        have hs1 : (k : Int) < (xs.length : Int) := by omega
        have hs2 : (k : Int) < (ys.length : Int) := by omega
        have HT := Lib.hid (take_succ_eq hlt (show k < ys.length by omega) hb.out)
        have HN := Lib.hid (ne_of_at hlt (show k < ys.length by omega))
        generalize xs[k] = x at hr HT HN
        generalize ys[k]'(by omega) = y at hr' HT HN
        have HR := Lib.hid hr
        have HR' := Lib.hid hr'
        obtain ⟨A1, c1, rfl, -⟩ := hr.form
        obtain ⟨A2, c2, rfl, -⟩ := hr'.form
        clear hr hr'
        cases hxy : sameI x y with
        | true =>
          have HXY := Lib.hid hxy
          clear hxy
          go_wp2_with fail
          go_quiet ((go_at_call 53; exact quiet_drawn (eqIntS_is _ _ _ _ _ _ HXY.out (HR.out.keep (below_drewN (Below.refl _ _) _)) (HR'.out.keep (below_drewN (Below.refl _ _) _)))))
          go_wp2
          go_roundw
          case rel => exact ⟨k + 1, by omega, by go_num, HT.out (by simpa [sameI] using HXY.out), HD.out.more _⟩
          case measure => simp [intOf]; omega
        | false =>
          have HXY := Lib.hid hxy
          clear hxy
          go_wp2_with fail
          go_quiet ((go_at_call 53; exact quiet_drawn (eqIntS_is _ _ _ _ _ _ HXY.out (HR.out.keep (below_drewN (Below.refl _ _) _)) (HR'.out.keep (below_drewN (Below.refl _ _) _)))))
          go_wp2
          go_ret
          exact ⟨ret_bool (by unfold sameR; simpa using (HN.out (by simpa [sameI] using HXY.out))), HD.out.more _⟩
      · go_wp2
        go_ret
        have h := hb.out
        rw [take_all (by omega), take_all (by omega)] at h
        exact ⟨ret_bool (by unfold sameR; simpa using h), HD.out⟩
  · have hl' : ((xs.length : Int) != (ys.length : Int)) = true := by simp; omega
    have HL := Lib.hid hl
    clear hl
    go_enter Try.func54, Try.ntmps54
    go_wp2
    go_ret
    exact ⟨ret_bool (by unfold sameR; simp; rintro rfl; exact HL.out rfl), Drawn.refl _⟩

def sameS (a b : MSig) : Bool := decide (a.sorts = b.sorts) && sameR a.ops b.ops
theorem sameS_self (a : MSig) : sameS a a = true := by unfold sameS sameR; simp
theorem eqIntSS_is (v v' : Value) (xs ys : List (List Int)) (w : World) (b : Bool) (hb : sameR xs ys = b) (h : RRows w v xs) (h' : RRows w v' ys) :
    Calls Try.prog 54 #[v, v'] w fun e w' => e = .returned (.bool b) ∧ Drawn w w' := by
  subst hb; exact eqIntSS_any v v' xs ys w h h'

theorem eqSig_any (v v' : Value) (a b : MSig) (w : World) (h : RSig w v a) (h' : RSig w v' b) :
    Calls Try.prog 18 #[v, v'] w fun e w' => e = .returned (.bool (sameS a b)) ∧ Below w.heap.size w w' := by
  obtain ⟨u, rfl, hr⟩ := h
  obtain ⟨u', rfl, hr'⟩ := h'
  have hb2 : Below w.heap.size w ((w.alloc (.cells #[.int .i64 a.sorts, u] 35)).alloc (.cells #[.int .i64 b.sorts, u'] 35)) := (below_alloc _ _).alloc (by simp) _
  have HB := Lib.hid hb2
  have H := Lib.hid (hr.keep hb2)
  have H' := Lib.hid (hr'.keep hb2)
  clear hb2
  obtain ⟨A, c, rfl, -⟩ := hr.form
  obtain ⟨A', c', rfl, -⟩ := hr'.form
  clear hr hr'
  obtain ⟨s1, xs⟩ := a
  obtain ⟨s2, ys⟩ := b
  by_cases hs : s1 = s2
  · subst hs
    have e1 : (s1 != s1) = false := by simp
    have e2 : (s1 == s1) = true := by simp
    cases hxy : sameR xs ys with
    | true =>
      have HXY := Lib.hid hxy
      clear hxy
      go_enter Try.func18, Try.ntmps18
      go_wp2_with (go_at_call 54; refine (eqIntSS_is _ _ _ _ _ _ HXY.out H.out H'.out).mono ?_; rintro e w1 ⟨rfl, hd⟩)
      go_ret
      exact ⟨ret_bool (by unfold sameS; rw [HXY.out]; simp), HB.out.trans (hd.below.mono (by simp; omega))⟩
    | false =>
      have HXY := Lib.hid hxy
      clear hxy
      go_enter Try.func18, Try.ntmps18
      go_wp2_with (go_at_call 54; refine (eqIntSS_is _ _ _ _ _ _ HXY.out H.out H'.out).mono ?_; rintro e w1 ⟨rfl, hd⟩)
      go_ret
      exact ⟨ret_bool (by unfold sameS; rw [HXY.out]; simp), HB.out.trans (hd.below.mono (by simp; omega))⟩
  · have e1 : (s1 != s2) = true := by simpa using hs
    have e2 : (s1 == s2) = false := by simpa using hs
    have HS := Lib.hid hs
    clear hs
    go_enter Try.func18, Try.ntmps18
    go_wp2
    go_ret
    exact ⟨ret_bool (by unfold sameS; simp [HS.out]), HB.out⟩
theorem eqSig_is (v v' : Value) (a b : MSig) (w : World) (r : Bool) (hr : sameS a b = r) (h : RSig w v a) (h' : RSig w v' b) :
    Calls Try.prog 18 #[v, v'] w fun e w' => e = .returned (.bool r) ∧ Below w.heap.size w w' := by
  subst hr; exact eqSig_any v v' a b w h h'
end Go.Proofs.Yteccjnnhihbdhab
