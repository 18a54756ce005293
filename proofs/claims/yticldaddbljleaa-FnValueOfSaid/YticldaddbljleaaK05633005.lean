/- The spec's SigValid: two loops, a region that draws in the inner one. · Operations of a signature; equality of rows and signatures. · Equality of rows, of lists of rows, of signatures (the exact laws' own). · The exact laws' measure and copy: szSig, toSig. · A row that is being filled, place by place. No walk. · The exact laws' copies: toIntS, toIntSS, toSig. · toSig. · How equations, lists of them and theories read in memory. No walk. · Terms as trees, and how rows of numbers read as terms. No walk. · The plain functions on rows that read as terms: sorts, parts, what is put there; and what holds of them. No walk. · The plain functions of equations, theories and steps; small numbers. No walk. · The exact laws' measure, copy and comparison of an equation: szEq, toEq, eqEq. -/
import Derived.Test.YticldaddbljleaaKe4449690
import Derived.Deep.RegionHeld3
import Derived.Deep.OwnRows
namespace Go.Proofs.Yticldaddbljleaa
section
open Go.RowKit
set_option linter.unusedVariables false

theorem l1In_is (a lo hi : Int) (w : World) (b : Bool) (hb : inB a lo hi = b) :
    Calls Try.prog 90 #[.int .i64 a, .int .i64 lo, .int .i64 hi] w fun e w' => e = .returned (.bool b) ∧ w = w' := by
  subst hb
  unfold inB
  by_cases h : lo ≤ a
  · go_enter Try.func90, Try.ntmps90
    go_wp2
    go_ret
    exact ⟨ret_bool (by simp; omega), rfl⟩
  · go_enter Try.func90, Try.ntmps90
    go_wp2
    go_ret
    exact ⟨ret_bool (by simp; omega), rfl⟩

theorem inB_row (x sorts : Int) (q : Int) (hq : 1 ≤ sorts → sorts ≤ 3 → q = sorts - 1) (h1 : 1 ≤ sorts) (h3 : sorts ≤ 3) : inB x 0 q = (decide (0 ≤ x) && decide (x < sorts)) := by
  rw [hq h1 h3]; unfold inB; congr 1; rw [decide_eq_decide]; omega
def inRow (q : Int) (row : List Int) : Bool := inB row.length 1 3 && row.all fun x => inB x 0 q
theorem inRow_rowB {sorts q : Int} (hq : 1 ≤ sorts → sorts ≤ 3 → q = sorts - 1) (h1 : 1 ≤ sorts) (h3 : sorts ≤ 3) : inRow q = rowB sorts := by
  funext row
  unfold inRow rowB belowB
  congr 1
  · unfold inB; congr 1 <;> (rw [decide_eq_decide]; omega)
  · congr 1; funext x; exact inB_row x sorts q hq h1 h3
theorem validB_in {sorts q : Int} {ops : List (List Int)} (hq : 1 ≤ sorts → sorts ≤ 3 → q = sorts - 1) : validB ⟨sorts, ops⟩ = (ops.all (inRow q) && (inB sorts 1 3 && decide (ops.length ≤ 6))) := by
  unfold validB
  by_cases h1 : 1 ≤ sorts
  · by_cases h3 : sorts ≤ 3
    · rw [inRow_rowB hq h1 h3]; simp [inB, h1, h3, Bool.and_comm]
    · simp [inB, h3]
  · simp [inB, h1]

theorem specSigValid_any (v : Value) (s : MSig) (w : World) (h : RSig w v s) :
    Calls Try.prog 77 #[v] w fun e w' => e = .returned (.bool (validB s)) ∧ Below w.heap.size w w' := by
  obtain ⟨u, rfl, hr⟩ := h
  obtain ⟨sorts, ops⟩ := s
  have hn := hr.len
  obtain ⟨A, c, rfl, -⟩ := hr.form
  have H := Lib.hid (hr.keep (below_alloc w (.cells #[.int .i64 sorts, .slice A ops.length c] 25)))
  have hc0 : (w.alloc (.cells #[.int .i64 sorts, .slice A ops.length c] 25)).cell? ⟨w.heap.size, 0, none⟩ = some (.int .i64 sorts) := by
    rw [World.cell?_alloc_at _ _ _ _ rfl]; rfl
  have hc1 : (w.alloc (.cells #[.int .i64 sorts, .slice A ops.length c] 25)).cell? ⟨w.heap.size, 1, none⟩ = some (.slice A ops.length c) := by
    rw [World.cell?_alloc_at _ _ _ _ rfl]; rfl
  have hbW : Below w.heap.size w (w.alloc (.cells #[.int .i64 sorts, .slice A ops.length c] 25)) := below_alloc _ _
  clear hr
  have HV : Hid (validB ⟨sorts, ops⟩ = (ops.all (inRow (IntKind.i64.wrap (sorts - 1))) && (inB sorts 1 3 && decide (ops.length ≤ 6)))) :=
    validB_in (fun h1 h3 => by rw [IntKind.wrap_i64]; omega)
  have HC0 := Lib.hid hc0
  have HC1 := Lib.hid hc1
  have HBW := Lib.hid hbW
  clear hc0 hc1 hbW
  go_enter Try.func77, Try.ntmps77
  go_wp2
  go_loopw [3] (fun i wr => ∃ k : Nat, k ≤ ops.length ∧ i = .int .i64 k ∧ (ops.take k).all (inRow (IntKind.i64.wrap (sorts - 1))) = true ∧ Drawn (w.alloc (.cells #[.int .i64 sorts, .slice A ops.length c] 25)) wr) (fun i _ => ops.length - (intOf i).toNat)
  case atStart => exact ⟨0, Nat.zero_le _, rfl, rfl, Drawn.refl _⟩
  case round =>
    obtain ⟨k, hk, rfl, hb0, hd⟩ := hrel
    have hb := Lib.hid hb0
    have HD := Lib.hid hd
    clear hb0 hd
    have f0 := (HD.out.cell _).trans HC0.out
    have f1 := (HD.out.cell _).trans HC1.out
    by_cases hlt : k < ops.length
    · obtain ⟨b, o, c', u, e, hcell, hri⟩ := (H.out.keep HD.out.below).at_ hlt
      cases e
      have HB := Lib.hid (all_take (p := inRow (IntKind.i64.wrap (sorts - 1))) hlt)
      have HN := Lib.hid (all_bad (p := inRow (IntKind.i64.wrap (sorts - 1))) hlt)
      generalize ops[k] = row at hri HB HN
      have HR : Hid (inRow (IntKind.i64.wrap (sorts - 1)) row = (inB row.length 1 3 && row.all fun x => inB x 0 (IntKind.i64.wrap (sorts - 1)))) := rfl
      have hrn := hri.len
      obtain ⟨A', c'', rfl, -⟩ := hri.form
      have HI := Lib.hid hri
      clear hri
      cases hbb : inB row.length 1 3 with
      | false =>
        have Hbb := Lib.hid hbb
        clear hbb
        go_wp2_with (go_at_call 90; refine (l1In_is _ _ _ _ _ Hbb.out).mono ?_; rintro e w' ⟨rfl, rfl⟩)
        go_ret
        refine ⟨ret_bool ?_, HBW.out.trans (HD.out.below.mono (by simp))⟩
        rw [HV.out, HN.out (by rw [HR.out, Hbb.out]; simp)]; simp
      | true =>
        have Hbb := Lib.hid hbb
        clear hbb
        go_wp2_with (go_at_call 90; refine (l1In_is _ _ _ _ _ Hbb.out).mono ?_; rintro e w' ⟨rfl, rfl⟩)
        have hlt' : (k : Int) < (ops.length : Int) := by omega
        obtain ⟨wo, rfl⟩ : ∃ wo : World, wo = wr := ⟨_, rfl⟩
        go_loopw [4] (fun j wj => ∃ l : Nat, l ≤ row.length ∧ j = .int .i64 l ∧ (row.take l).all (fun x => inB x 0 (IntKind.i64.wrap (sorts - 1))) = true ∧ Drawn wo wj) (fun j _ => row.length - (intOf j).toNat)
        case atStart => exact ⟨0, Nat.zero_le _, rfl, rfl, Drawn.refl _⟩
        case round =>
          obtain ⟨l, hl, rfl, hbl0, hdj⟩ := hrel
          have hbl := Lib.hid hbl0
          have HDJ := Lib.hid hdj
          clear hbl0 hdj
          have g0 := (HDJ.out.cell _).trans f0
          have g1 := (HDJ.out.cell _).trans f1
          have g2 := (HDJ.out.cell _).trans hcell
          by_cases hll : l < row.length
          · obtain ⟨b', o', c3, e, hx⟩ := (HI.out.keep HDJ.out.below).at_ hll
            cases e
            have HBL := Lib.hid (all_take (p := fun x => inB x 0 (IntKind.i64.wrap (sorts - 1))) hll)
            have HNL := Lib.hid (all_bad (p := fun x => inB x 0 (IntKind.i64.wrap (sorts - 1))) hll)
            generalize row[l] = x at hx HBL HNL
            have hll' : (l : Int) < (row.length : Int) := by omega
            go_wp2_with fail
            cases hbx : inB x 0 (IntKind.i64.wrap (sorts - 1)) with
            | false =>
              have Hbx := Lib.hid hbx
              clear hbx
              go_quiet ((go_at_call 90; exact quiet_left (l1In_is _ _ _ _ _ Hbx.out)))
              go_wp2
              go_ret
              refine ⟨ret_bool ?_, ?_⟩
              · rw [HV.out, HN.out (by rw [HR.out, HNL.out Hbx.out]; simp)]; simp
              · exact below_drewN (HBW.out.trans ((HD.out.below.mono (by simp)).trans (HDJ.out.below.mono (by have := HD.out.below.size; simp at this; omega)))) _
            | true =>
              have Hbx := Lib.hid hbx
              clear hbx
              go_quiet ((go_at_call 90; exact quiet_left (l1In_is _ _ _ _ _ Hbx.out)))
              go_wp2
              go_roundw
              case rel => exact ⟨l + 1, by omega, by go_num, by rw [HBL.out, hbl.out, Hbx.out]; rfl, HDJ.out.more _⟩
              case measure => simp [intOf]; omega
          · go_wp2
            have hbl' := hbl.out
            rw [take_all (by omega)] at hbl'
            go_roundw
            case rel => exact ⟨k + 1, by omega, by go_num, by rw [HB.out, hb.out, HR.out, Hbb.out, hbl']; rfl, by obtain ⟨m, hm⟩ := HD.out; obtain ⟨m', hm'⟩ := HDJ.out; exact ⟨m + m', by rw [hm', hm, World.drewN_drewN]⟩⟩
            case measure => simp [intOf]; omega
    · have HE0 := hb.out
      rw [take_all (by omega)] at HE0
      have HE := Lib.hid HE0
      clear HE0
      cases hbs : inB sorts 1 3 with
      | false =>
        have Hbs := Lib.hid hbs
        clear hbs
        go_wp2_with (go_at_call 90; refine (l1In_is _ _ _ _ _ Hbs.out).mono ?_; rintro e w' ⟨rfl, rfl⟩)
        go_ret
        refine ⟨ret_bool ?_, HBW.out.trans (HD.out.below.mono (by simp))⟩
        rw [HV.out, Hbs.out]; simp
      | true =>
        have Hbs := Lib.hid hbs
        clear hbs
        go_wp2_with (go_at_call 90; refine (l1In_is _ _ _ _ _ Hbs.out).mono ?_; rintro e w' ⟨rfl, rfl⟩)
        go_ret
        refine ⟨ret_bool ?_, HBW.out.trans (HD.out.below.mono (by simp))⟩
        rw [HV.out, HE.out, Hbs.out]; simp; omega
end

section
open Go.RowKit
set_option linter.unusedVariables false

theorem box_cells (w : World) (a b : Value) (t : TypeId) : (w.alloc (.cells #[a, b] t)).cell? ⟨w.heap.size, 0, none⟩ = some a ∧ (w.alloc (.cells #[a, b] t)).cell? ⟨w.heap.size, 1, none⟩ = some b := by
  constructor <;> (rw [World.cell?_alloc_at _ _ _ _ rfl]; rfl)

theorem alive_any (w : World) : Calls Try.prog 12 #[] w fun e w' => e = .returned (.bool true) ∧ Below w.heap.size w w' := by
  go_enter Try.func12, Try.ntmps12
  go_wp2_with fail
  refine (sigValid_any _ ⟨1, []⟩ _ ⟨_, rfl, RRows.nil _⟩).mono ?_
  rw [show validB ⟨1, []⟩ = true from rfl]
  rintro e w1 ⟨rfl, hb1⟩
  go_wp2_with fail
  refine (sigValid_any _ ⟨0, []⟩ _ ⟨_, rfl, RRows.nil _⟩).mono ?_
  rw [show validB ⟨0, []⟩ = false from rfl]
  rintro e w2 ⟨rfl, hb2⟩
  go_wp2
  go_ret
  exact ⟨rfl, hb1.trans (hb2.mono hb1.size)⟩
end

section
open Go.RowKit
set_option linter.unusedVariables false

theorem eqIntS_any (v v' : Value) (xs ys : List Int) (w : World) (h : RInts w v xs) (h' : RInts w v' ys) :
    Calls Try.prog 51 #[v, v'] w fun e w' => e = .returned (.bool (sameI xs ys)) ∧ Drawn w w' := by
  have H := Lib.hid h
  have H' := Lib.hid h'
  have hn := h.len
  have hn' := h'.len
  obtain ⟨A, c, rfl, -⟩ := h.form
  obtain ⟨A', c', rfl, -⟩ := h'.form
  clear h h'
  by_cases hl : xs.length = ys.length
  · have hl' : ((xs.length : Int) != (ys.length : Int)) = false := by simp [hl]
    have HL := Lib.hid hl
    have hle : xs.length ≤ ys.length := by omega
    have hge : ys.length ≤ xs.length := by omega
    clear hl
    go_enter Try.func51, Try.ntmps51
    go_wp2
    go_loopw [5] (fun i wr => ∃ k : Nat, k ≤ xs.length ∧ i = .int .i64 k ∧ xs.take k = ys.take k ∧ Drawn w wr) (fun i _ => xs.length - (intOf i).toNat)
    case atStart => exact ⟨0, Nat.zero_le _, rfl, rfl, Drawn.refl _⟩
    case round =>
      obtain ⟨k, hk, rfl, hb0, hd⟩ := hrel
      have hb := Lib.hid hb0
      have HD := Lib.hid hd
      clear hb0 hd
      by_cases hlt : k < xs.length
      · obtain ⟨b, o, c3, e, hx⟩ := (H.out.keep HD.out.below).at_ hlt
        cases e
        obtain ⟨b', o', c4, e, hy⟩ := (H'.out.keep HD.out.below).at_ (show k < ys.length by omega)
        cases e
        have hs1 : (k : Int) < (xs.length : Int) := by omega
        have hs2 : (k : Int) < (ys.length : Int) := by omega
        have HT := Lib.hid (take_succ_eq hlt (show k < ys.length by omega) hb.out)
        have HN := Lib.hid (ne_of_at hlt (show k < ys.length by omega))
        generalize xs[k] = x at hx HT HN
        generalize ys[k]'(by omega) = y at hy HT HN
        by_cases hxy : x = y
        · subst hxy
          have e1 : (x != x) = false := by simp
          have e2 : (x == x) = true := by simp
          go_wp2_with fail
          go_quiet (fail)
          go_wp2
          go_roundw
          case rel => exact ⟨k + 1, by omega, by go_num, HT.out (by simp), HD.out.more _⟩
          case measure => simp [intOf]; omega
        · have e1 : (x != y) = true := by simpa using hxy
          have e2 : (x == y) = false := by simpa using hxy
          have HXY := Lib.hid hxy
          clear hxy
          go_wp2_with fail
          go_quiet (fail)
          go_wp2
          go_ret
          exact ⟨ret_bool (by unfold sameI; simpa using (HN.out HXY.out)), HD.out.more _⟩
      · go_wp2
        go_ret
        have h := hb.out
        rw [take_all (by omega), take_all (by omega)] at h
        exact ⟨ret_bool (by unfold sameI; simpa using h), HD.out⟩
  · have hl' : ((xs.length : Int) != (ys.length : Int)) = true := by simp; omega
    have HL := Lib.hid hl
    clear hl
    go_enter Try.func51, Try.ntmps51
    go_wp2
    go_ret
    exact ⟨ret_bool (by unfold sameI; simp; rintro rfl; exact HL.out rfl), Drawn.refl _⟩

theorem eqIntS_is (v v' : Value) (xs ys : List Int) (w : World) (b : Bool) (hb : sameI xs ys = b) (h : RInts w v xs) (h' : RInts w v' ys) :
    Calls Try.prog 51 #[v, v'] w fun e w' => e = .returned (.bool b) ∧ Drawn w w' := by
  subst hb; exact eqIntS_any v v' xs ys w h h'

theorem eqIntSS_any (v v' : Value) (xs ys : List (List Int)) (w : World) (h : RRows w v xs) (h' : RRows w v' ys) :
    Calls Try.prog 30 #[v, v'] w fun e w' => e = .returned (.bool (sameR xs ys)) ∧ Drawn w w' := by
  have H := Lib.hid h
  have H' := Lib.hid h'
  have hn := h.len
  have hn' := h'.len
  obtain ⟨A, c, rfl, -⟩ := h.form
  obtain ⟨A', c', rfl, -⟩ := h'.form
  clear h h'
  by_cases hl : xs.length = ys.length
  · have hl' : ((xs.length : Int) != (ys.length : Int)) = false := by simp [hl]
    have HL := Lib.hid hl
    have hle : xs.length ≤ ys.length := by omega
    have hge : ys.length ≤ xs.length := by omega
    clear hl
    go_enter Try.func30, Try.ntmps30
    go_wp2
    go_loopw [5] (fun i wr => ∃ k : Nat, k ≤ xs.length ∧ i = .int .i64 k ∧ xs.take k = ys.take k ∧ Drawn w wr) (fun i _ => xs.length - (intOf i).toNat)
    case atStart => exact ⟨0, Nat.zero_le _, rfl, rfl, Drawn.refl _⟩
    case round =>
      obtain ⟨k, hk, rfl, hb0, hd⟩ := hrel
      have hb := Lib.hid hb0
      have HD := Lib.hid hd
      clear hb0 hd
      by_cases hlt : k < xs.length
      · obtain ⟨b, o, c3, u, e, hx, hr⟩ := (H.out.keep HD.out.below).at_ hlt
        cases e
        obtain ⟨b', o', c4, u', e, hy, hr'⟩ := (H'.out.keep HD.out.below).at_ (show k < ys.length by omega)
        cases e
        have hs1 : (k : Int) < (xs.length : Int) := by omega
        have hs2 : (k : Int) < (ys.length : Int) := by omega
        have HT := Lib.hid (take_succ_eq hlt (show k < ys.length by omega) hb.out)
        have HN := Lib.hid (ne_of_at hlt (show k < ys.length by omega))
        generalize xs[k] = x at hr HT HN
        generalize ys[k]'(by omega) = y at hr' HT HN
        have HR := Lib.hid hr
        have HR' := Lib.hid hr'
        obtain ⟨A1, c1, rfl, -⟩ := hr.form
        obtain ⟨A2, c2, rfl, -⟩ := hr'.form
        clear hr hr'
        cases hxy : sameI x y with
        | true =>
          have HXY := Lib.hid hxy
          clear hxy
          go_wp2_with fail
          go_quiet ((go_at_call 51; exact quiet_drawn (eqIntS_is _ _ _ _ _ _ HXY.out (HR.out.keep (below_drewN (Below.refl _ _) _)) (HR'.out.keep (below_drewN (Below.refl _ _) _)))))
          go_wp2
          go_roundw
          case rel => exact ⟨k + 1, by omega, by go_num, HT.out (by simpa [sameI] using HXY.out), HD.out.more _⟩
          case measure => simp [intOf]; omega
        | false =>
          have HXY := Lib.hid hxy
          clear hxy
          go_wp2_with fail
          go_quiet ((go_at_call 51; exact quiet_drawn (eqIntS_is _ _ _ _ _ _ HXY.out (HR.out.keep (below_drewN (Below.refl _ _) _)) (HR'.out.keep (below_drewN (Below.refl _ _) _)))))
          go_wp2
          go_ret
          exact ⟨ret_bool (by unfold sameR; simpa using (HN.out (by simpa [sameI] using HXY.out))), HD.out.more _⟩
      · go_wp2
        go_ret
        have h := hb.out
        rw [take_all (by omega), take_all (by omega)] at h
        exact ⟨ret_bool (by unfold sameR; simpa using h), HD.out⟩
  · have hl' : ((xs.length : Int) != (ys.length : Int)) = true := by simp; omega
    have HL := Lib.hid hl
    clear hl
    go_enter Try.func30, Try.ntmps30
    go_wp2
    go_ret
    exact ⟨ret_bool (by unfold sameR; simp; rintro rfl; exact HL.out rfl), Drawn.refl _⟩

def sameS (a b : MSig) : Bool := decide (a.sorts = b.sorts) && sameR a.ops b.ops
theorem sameS_self (a : MSig) : sameS a a = true := by unfold sameS sameR; simp
theorem eqIntSS_is (v v' : Value) (xs ys : List (List Int)) (w : World) (b : Bool) (hb : sameR xs ys = b) (h : RRows w v xs) (h' : RRows w v' ys) :
    Calls Try.prog 30 #[v, v'] w fun e w' => e = .returned (.bool b) ∧ Drawn w w' := by
  subst hb; exact eqIntSS_any v v' xs ys w h h'

theorem eqSig_any (v v' : Value) (a b : MSig) (w : World) (h : RSig w v a) (h' : RSig w v' b) :
    Calls Try.prog 31 #[v, v'] w fun e w' => e = .returned (.bool (sameS a b)) ∧ Below w.heap.size w w' := by
  obtain ⟨u, rfl, hr⟩ := h
  obtain ⟨u', rfl, hr'⟩ := h'
  have hb2 : Below w.heap.size w ((w.alloc (.cells #[.int .i64 a.sorts, u] 25)).alloc (.cells #[.int .i64 b.sorts, u'] 25)) := (below_alloc _ _).alloc (by simp) _
  have HB := Lib.hid hb2
  have H := Lib.hid (hr.keep hb2)
  have H' := Lib.hid (hr'.keep hb2)
  clear hb2
  obtain ⟨A, c, rfl, -⟩ := hr.form
  obtain ⟨A', c', rfl, -⟩ := hr'.form
  clear hr hr'
  obtain ⟨s1, xs⟩ := a
  obtain ⟨s2, ys⟩ := b
  by_cases hs : s1 = s2
  · subst hs
    have e1 : (s1 != s1) = false := by simp
    have e2 : (s1 == s1) = true := by simp
    cases hxy : sameR xs ys with
    | true =>
      have HXY := Lib.hid hxy
      clear hxy
      go_enter Try.func31, Try.ntmps31
      go_wp2_with (go_at_call 30; refine (eqIntSS_is _ _ _ _ _ _ HXY.out H.out H'.out).mono ?_; rintro e w1 ⟨rfl, hd⟩)
      go_ret
      exact ⟨ret_bool (by unfold sameS; rw [HXY.out]; simp), HB.out.trans (hd.below.mono (by simp; omega))⟩
    | false =>
      have HXY := Lib.hid hxy
      clear hxy
      go_enter Try.func31, Try.ntmps31
      go_wp2_with (go_at_call 30; refine (eqIntSS_is _ _ _ _ _ _ HXY.out H.out H'.out).mono ?_; rintro e w1 ⟨rfl, hd⟩)
      go_ret
      exact ⟨ret_bool (by unfold sameS; rw [HXY.out]; simp), HB.out.trans (hd.below.mono (by simp; omega))⟩
  · have e1 : (s1 != s2) = true := by simpa using hs
    have e2 : (s1 == s2) = false := by simpa using hs
    have HS := Lib.hid hs
    clear hs
    go_enter Try.func31, Try.ntmps31
    go_wp2
    go_ret
    exact ⟨ret_bool (by unfold sameS; simp [HS.out]), HB.out⟩
theorem eqSig_is (v v' : Value) (a b : MSig) (w : World) (r : Bool) (hr : sameS a b = r) (h : RSig w v a) (h' : RSig w v' b) :
    Calls Try.prog 31 #[v, v'] w fun e w' => e = .returned (.bool r) ∧ Below w.heap.size w w' := by
  subst hr; exact eqSig_any v v' a b w h h'
end

section
open Go.RowKit
set_option linter.unusedVariables false

theorem szIntS_any (v : Value) (xs : List Int) (left : Int) (w : World) (h : RInts w v xs) (h0 : 0 ≤ left) (h1 : left ≤ 1048576) :
    Calls Try.prog 88 #[v, .int .i64 left] w fun e w' => ∃ r : Int, e = .returned (.int .i64 r) ∧ (r < 0 ∨ (0 ≤ r ∧ r + xs.length = left)) ∧ w = w' := by
  have hn := h.len
  obtain ⟨A, c, rfl, -⟩ := h.form
  by_cases hl : left - (xs.length : Int) < 0
  · go_enter Try.func88, Try.ntmps88
    go_wp2
    go_ret
    exact ⟨-1, rfl, .inl (by omega), rfl⟩
  · go_enter Try.func88, Try.ntmps88
    go_wp2
    go_ret
    exact ⟨_, rfl, .inr ⟨by omega, by omega⟩, rfl⟩

/-- rows that are not too many and not too long -/
def Fits (rows : List (List Int)) : Prop := rows.length ≤ 1048576 ∧ ∀ row ∈ rows, row.length ≤ 1048576

theorem szIntSS_any (v : Value) (rows : List (List Int)) (left : Int) (w : World) (h : RRows w v rows) (h0 : 0 ≤ left) (h1 : left ≤ 1048576) :
    Calls Try.prog 40 #[v, .int .i64 left] w fun e w' => ∃ r : Int, e = .returned (.int .i64 r) ∧ (r < 0 ∨ (0 ≤ r ∧ r ≤ left ∧ Fits rows)) ∧ w = w' := by
  have H := Lib.hid h
  have hn := h.len
  obtain ⟨A, c, rfl, -⟩ := h.form
  clear h
  by_cases hl : left - (rows.length : Int) < 0
  · go_enter Try.func40, Try.ntmps40
    go_wp2
    go_ret
    exact ⟨-1, rfl, .inl (by omega), rfl⟩
  · go_enter Try.func40, Try.ntmps40
    go_wp2
    go_loop [1, 5] (fun l i => ∃ k : Nat, ∃ r : Int, k ≤ rows.length ∧ i = .int .i64 k ∧ l = .int .i64 r ∧ 0 ≤ r ∧ r ≤ left ∧ (∀ row ∈ rows.take k, row.length ≤ 1048576)) (fun _ i => rows.length - (intOf i).toNat)
    case atStart => exact ⟨0, _, Nat.zero_le _, rfl, rfl, by omega, by omega, by simp⟩
    case round =>
      obtain ⟨k, r, hk, rfl, rfl, hr0, hr1, hb0⟩ := hrel
      have hb := Lib.hid hb0
      clear hb0
      by_cases hlt : k < rows.length
      · obtain ⟨b, o, c', u, e, hcell, hri⟩ := H.out.at_ hlt
        cases e
        have HT := Lib.hid (List.take_succ_eq_append_getElem hlt)
        generalize rows[k] = row at hri HT
        have HI := Lib.hid hri
        obtain ⟨A', c'', rfl, -⟩ := hri.form
        clear hri
        go_wp2_with fail
        refine (szIntS_any _ row _ _ HI.out hr0 (by omega)).mono ?_
        rintro e w1 ⟨r', rfl, hr', rfl⟩
        by_cases hneg : r' < 0
        · clear hr'
          go_wp2
          go_ret
          exact ⟨-1, rfl, .inl (by omega), rfl⟩
        · obtain ⟨h2, h3⟩ := hr'.resolve_left hneg
          have HR := Lib.hid h3
          clear h3 hr'
          go_wp2
          go_round
          case rel =>
            refine ⟨k + 1, r', by omega, by go_num, rfl, h2, by have := HR.out; omega, ?_⟩
            rw [HT.out]
            intro x hx
            rcases List.mem_append.1 hx with hx | hx
            · exact hb.out x hx
            · simp at hx; subst hx; have := HR.out; omega
          case measure => simp [intOf]; omega
      · go_wp2
        go_ret
        have h := hb.out
        rw [take_all (by omega)] at h
        exact ⟨r, rfl, .inr ⟨hr0, hr1, by omega, h⟩, rfl⟩

theorem szSig_any (v : Value) (s : MSig) (left : Int) (w : World) (h : RSig w v s) (h0 : 0 ≤ left) (h1 : left ≤ 1048576) :
    Calls Try.prog 24 #[v, .int .i64 left] w fun e w' => ∃ r : Int, e = .returned (.int .i64 r) ∧ (r < 0 ∨ (0 ≤ r ∧ r ≤ left ∧ Fits s.ops)) ∧ Below w.heap.size w w' := by
  obtain ⟨u, rfl, hr⟩ := h
  obtain ⟨sorts, ops⟩ := s
  have H := Lib.hid (hr.keep (below_alloc w (.cells #[.int .i64 sorts, u] 53)))
  have HB := Lib.hid (below_alloc w (.cells #[.int .i64 sorts, u] 53))
  obtain ⟨A, c, rfl, -⟩ := hr.form
  clear hr
  go_enter Try.func24, Try.ntmps24
  go_wp2_with fail
  refine (szIntSS_any _ ops _ _ H.out h0 h1).mono ?_
  rintro e w1 ⟨r, rfl, hr, rfl⟩
  by_cases hneg : r < 0
  · clear hr
    go_wp2
    go_ret
    exact ⟨-1, rfl, .inl (by omega), HB.out⟩
  · have HR := Lib.hid (hr.resolve_left hneg)
    clear hr
    go_wp2
    go_ret
    exact ⟨r, rfl, .inr HR.out, HB.out⟩
end

section
open Go.RowKit
set_option linter.unusedVariables false

theorem Try.tinfo_int : (Try.prog.info? 3).map (fun i => (i.zero, i.size, i.bytes)) = some (some (.int .i64 0), 1, 8) := by kernel_rfl

theorem blk_cell {w : World} {b : Nat} {cs : Array Value} {t : TypeId} (h : w.heap[b]? = some (.cells cs t (0, 0))) (i : Nat) : w.cell? ⟨b, i, none⟩ = cs[i]? := by simp [World.cell?, h]
theorem blk_free {w : World} {b : Nat} {cs : Array Value} {t : TypeId} (h : w.heap[b]? = some (.cells cs t (0, 0))) (i : Nat) : w.frozen? ⟨b, i, none⟩ = false := by simp [World.frozen?, h]
theorem blk_set {w : World} {b : Nat} {cs : Array Value} {t : TypeId} (h : w.heap[b]? = some (.cells cs t (0, 0))) (i : Nat) (u : Value) : (w.setCell ⟨b, i, none⟩ u).heap[b]? = some (.cells (cs.setIfInBounds i u) t (0, 0)) := by
  simp [World.setCell, Array.getElem?_modify, h]

theorem block_cell' {w : World} {b : Nat} {cs : Array Value} {t : TypeId} (h : w.heap[b]? = some (.cells cs t (0, 0))) (i : Nat) : w.cell? ⟨b, i, none⟩ = cs[i]? := blk_cell h i
theorem block_free' {w : World} {b : Nat} {cs : Array Value} {t : TypeId} (h : w.heap[b]? = some (.cells cs t (0, 0))) (i : Nat) : w.frozen? ⟨b, i, none⟩ = false := blk_free h i
theorem ORows.setLow' {w : World} {B b : Nat} {v : Value} {rows : List (List Int)} (h : ORows w B v rows) (hb : b < B) (i : Nat) (x : Value) : ORows (w.setCell ⟨b, i, none⟩ x) B v rows := by
  obtain ⟨us, a1, a2, a3, a4⟩ := h
  exact ⟨us, ownsRow_setCell_below a1 hb _, a2, fun j u r a b => ownsRow_setCell_below (a3 j u r a b) hb _, a4⟩

/-- a row that is being filled: k of its places are done -/
def Filling (w wr : World) (zs : List Int) (k : Nat) : Prop :=
  ∃ cur : Array Value, wr.heap[w.heap.size]? = some (.cells cur 3 (0, 0)) ∧ cur.size = zs.length ∧ (∀ j, j < k → cur[j]? = (zs[j]?).map (Value.int .i64)) ∧ Below w.heap.size w wr

theorem Filling.start (w : World) (zs : List Int) (cur : Array Value) (h : cur.size = zs.length) : Filling w (w.alloc (.cells cur 3)) zs 0 :=
  ⟨cur, heap_alloc_new w _, h, fun j hj => by omega, below_alloc _ _⟩
theorem Filling.step {w wr : World} {zs : List Int} {k : Nat} (h : Filling w wr zs k) (hk : k < zs.length) {x : Int} (hx : zs[k] = x) : Filling w (wr.setCell ⟨w.heap.size, k, none⟩ (.int .i64 x)) zs (k + 1) := by
  obtain ⟨cur, h1, h2, h3, h4⟩ := h
  refine ⟨_, blk_set h1 k _, by simpa using h2, fun j hj => ?_, h4.setCell (Nat.le_refl _) _⟩
  rw [Array.getElem?_setIfInBounds]
  by_cases hjk : k = j
  · subst hjk
    rw [if_pos rfl, if_pos (by omega), List.getElem?_eq_getElem hk, hx]
    rfl
  · rw [if_neg hjk]
    exact h3 j (by omega)
theorem Filling.cell {w wr : World} {zs : List Int} {k : Nat} (h : Filling w wr zs k) (hk : k < zs.length) : ∃ u, wr.cell? ⟨w.heap.size, k, none⟩ = some u ∧ wr.frozen? ⟨w.heap.size, k, none⟩ = false := by
  obtain ⟨cur, h1, h2, h3, h4⟩ := h
  exact ⟨cur[k]'(by omega), (blk_cell h1 k).trans (Array.getElem?_eq_getElem (by omega)), blk_free h1 k⟩
theorem Filling.done {w wr : World} {zs : List Int} {n : Nat} (h : Filling w wr zs n) (hn : n = zs.length) (hm : n ≤ 9223372036854775807) : OInts wr w.heap.size (.slice (some ⟨w.heap.size, 0, none⟩) n n) zs ∧ Below w.heap.size w wr := by
  obtain ⟨cur, h1, h2, h3, h4⟩ := h
  subst hn
  refine ⟨⟨by simp, .inr ⟨w.heap.size, _, cur, rfl, Nat.le_refl _, h1, Nat.le_refl _, by rw [maxLen_eq]; exact hm, by simpa using h2, ?_⟩⟩, h4⟩
  apply List.ext_getElem?
  intro j
  rw [List.getElem?_take, List.getElem?_map]
  split
  · rw [Array.getElem?_toList]
    exact h3 j (by omega)
  · rw [List.getElem?_eq_none (by omega)]
    rfl

theorem Try.tinfo_ints : (Try.prog.info? 26).map (fun i => (i.zero, i.size, i.bytes)) = some (some (.slice none 0 0), 1, 24) := by kernel_rfl

/-- a list of rows that is being filled: k of its rows are done -/
def FillingR (w wr : World) (rows : List (List Int)) (k : Nat) : Prop :=
  ∃ cur : Array Value, wr.heap[w.heap.size]? = some (.cells cur 26 (0, 0)) ∧ cur.size = rows.length ∧ (∀ (j : Nat) (row : List Int), j < k → rows[j]? = some row → ∃ u, cur[j]? = some u ∧ OInts wr (w.heap.size + 1) u row) ∧
    (∀ (i j : Nat) (u u' : Value), i < j → j < k → cur[i]? = some u → cur[j]? = some u' → u.ownBlock = none ∨ u.ownBlock ≠ u'.ownBlock) ∧ Below w.heap.size w wr
theorem FillingR.start (w : World) (rows : List (List Int)) (cur : Array Value) (h : cur.size = rows.length) : FillingR w (w.alloc (.cells cur 26)) rows 0 :=
  ⟨cur, heap_alloc_new w _, h, fun j row hj => by omega, fun i j u u' _ hj => by omega, below_alloc _ _⟩
theorem FillingR.cell {w wr : World} {rows : List (List Int)} {k : Nat} (h : FillingR w wr rows k) (hk : k < rows.length) {w1 : World} (hb : Below wr.heap.size wr w1) : ∃ u, w1.cell? ⟨w.heap.size, k, none⟩ = some u ∧ w1.frozen? ⟨w.heap.size, k, none⟩ = false := by
  obtain ⟨cur, h1, h2, h3, h4, h5⟩ := h
  have h1' := (hb.block _ (Array.getElem?_eq_some_iff.1 h1).1).trans h1
  exact ⟨cur[k]'(by omega), (blk_cell h1' k).trans (Array.getElem?_eq_getElem (by omega)), blk_free h1' k⟩
theorem FillingR.step {w wr w1 : World} {rows : List (List Int)} {k : Nat} {u : Value} (h : FillingR w wr rows k) (hk : k < rows.length) (hb : Below wr.heap.size wr w1) (hu : OInts w1 wr.heap.size u rows[k]) : FillingR w (w1.setCell ⟨w.heap.size, k, none⟩ u) rows (k + 1) := by
  obtain ⟨cur, h1, h2, h3, h4, h5⟩ := h
  have hlt := (Array.getElem?_eq_some_iff.1 h1).1
  have h1' := (hb.block _ hlt).trans h1
  refine ⟨_, blk_set h1' k _, by simpa using h2, fun j row hj hrow => ?_, fun i j x x' hij hjk hi hj => ?_, ((h5.trans (hb.mono (by omega))).setCell (Nat.le_refl _) _)⟩
  · by_cases hjk : k = j
    · subst hjk
      rw [List.getElem?_eq_getElem hk] at hrow
      cases hrow
      exact ⟨u, by rw [Array.getElem?_setIfInBounds, if_pos rfl, if_pos (by omega)], ownsRow_setCell_below (hu.base (by omega)) (by show w.heap.size < w.heap.size + 1; omega) _⟩
    · obtain ⟨x, hx, hxo⟩ := h3 j row (by omega) hrow
      exact ⟨x, by rw [Array.getElem?_setIfInBounds, if_neg hjk]; exact hx, ownsRow_setCell_below (hxo.keep hb) (by show w.heap.size < w.heap.size + 1; omega) _⟩
  · rw [Array.getElem?_setIfInBounds, if_neg (by omega)] at hi
    by_cases hjk' : k = j
    · subst hjk'
      rw [Array.getElem?_setIfInBounds, if_pos rfl, if_pos (by omega)] at hj
      cases hj
      obtain ⟨y, hy, hyo⟩ := h3 i _ hij (List.getElem?_eq_getElem (show i < rows.length by omega))
      rw [hy] at hi
      cases hi
      cases hbx : x.ownBlock with
      | none => exact .inl rfl
      | some b =>
        right
        intro e
        have a := (own_lt hyo b hbx).2
        have c := (own_lt hu b e.symm).1
        omega
    · rw [Array.getElem?_setIfInBounds, if_neg hjk'] at hj
      exact h4 i j x x' hij (by omega) hi hj
theorem FillingR.done {w wr : World} {rows : List (List Int)} {n : Nat} (h : FillingR w wr rows n) (hn : n = rows.length) (hm : n ≤ 9223372036854775807) : ORows wr w.heap.size (.slice (some ⟨w.heap.size, 0, none⟩) n n) rows ∧ Below w.heap.size w wr := by
  obtain ⟨cur, h1, h2, h3, h4, h5⟩ := h
  subst hn
  refine ⟨⟨cur.toList, ?_, by simpa using h2, fun j u row hu hrow => ?_, fun i j u u' hij hi hj => ?_⟩, h5⟩
  · refine ⟨by simp [h2], .inr ⟨w.heap.size, _, cur, rfl, Nat.le_refl _, h1, Nat.le_refl _, by rw [maxLen_eq]; exact hm, by simpa using h2, List.take_of_length_le (by simp [h2])⟩⟩
  · obtain ⟨x, hx, hxo⟩ := h3 j row (List.getElem?_eq_some_iff.1 hrow).1 hrow
    rw [Array.getElem?_toList, hx] at hu
    cases hu
    exact hxo.base (by omega)
  · rw [Array.getElem?_toList] at hi hj
    exact h4 i j u u' hij (by have := (Array.getElem?_eq_some_iff.1 hj).1; omega) hi hj
end

section
open Go.RowKit
set_option linter.unusedVariables false

theorem toIntS_any (v : Value) (xs : List Int) (w : World) (h : RInts w v xs) (hs : xs.length ≤ 1048576) :
    Calls Try.prog 45 #[v] w fun e w' => ∃ u, e = .returned u ∧ OInts w' w.heap.size u xs ∧ Below w.heap.size w w' := by
  have H := Lib.hid h
  obtain ⟨A, c, rfl, -⟩ := h.form
  clear h
  have hmk := run_make_row' (P := Try.prog) 26 3 (.int .i64 0) 8 Try.underlying26 Try.tinfo_int rfl .i64 .i64 xs.length (by omega) (by omega)
  go_enter Try.func45, Try.ntmps45
  go_wp2
  go_loopw [4] (fun i wr => ∃ k : Nat, k ≤ xs.length ∧ i = .int .i64 k ∧ Filling w wr xs k) (fun i _ => xs.length - (intOf i).toNat)
  case atStart => exact ⟨0, Nat.zero_le _, rfl, Filling.start w _ _ (by simp [madeCells])⟩
  case round =>
    obtain ⟨k, hk, rfl, hf⟩ := hrel
    have HF := Lib.hid hf
    clear hf hmk
    by_cases hlt : k < xs.length
    · obtain ⟨b, o, c', e, hx⟩ := (H.out.keep (by obtain ⟨_, _, _, _, hb⟩ := HF.out; exact hb)).at_ hlt
      cases e
      obtain ⟨u, g1, g2⟩ := HF.out.cell hlt
      have HX := Lib.hid (rfl : xs[k] = xs[k])
      obtain ⟨x, hxe⟩ : ∃ x, x = xs[k] := ⟨_, rfl⟩
      rw [← hxe] at hx
      have HX := Lib.hid hxe
      clear hxe
      go_wp2
      go_roundw
      case rel => exact ⟨k + 1, by omega, by go_num, HF.out.step hlt HX.out.symm⟩
      case measure => simp [intOf]; omega
    · go_wp2
      go_ret
      obtain ⟨r1, r2⟩ := HF.out.done (by omega) (by omega)
      have hkn : k = xs.length := by omega
      subst hkn
      exact ⟨_, rfl, r1, r2⟩

theorem toIntSS_any (v : Value) (rows : List (List Int)) (w : World) (h : RRows w v rows) (hs : Fits rows) :
    Calls Try.prog 46 #[v] w fun e w' => ∃ u, e = .returned u ∧ ORows w' w.heap.size u rows ∧ Below w.heap.size w w' := by
  have H := Lib.hid h
  have HS := Lib.hid hs
  obtain ⟨A, c, rfl, -⟩ := h.form
  have hlen := hs.1
  clear h hs
  have hmk := run_make_row' (P := Try.prog) 23 26 (.slice none 0 0) 24 Try.underlying23 Try.tinfo_ints rfl .i64 .i64 rows.length (by omega) (by omega)
  go_enter Try.func46, Try.ntmps46
  go_wp2
  go_loopw [4] (fun i wr => ∃ k : Nat, k ≤ rows.length ∧ i = .int .i64 k ∧ FillingR w wr rows k) (fun i _ => rows.length - (intOf i).toNat)
  case atStart => exact ⟨0, Nat.zero_le _, rfl, FillingR.start w _ _ (by simp [madeCells])⟩
  case round =>
    obtain ⟨k, hk, rfl, hf⟩ := hrel
    have HF := Lib.hid hf
    clear hf hmk
    by_cases hlt : k < rows.length
    · obtain ⟨b, o, c', u, e, hx, hri⟩ := (H.out.keep (by obtain ⟨_, _, _, _, _, hb⟩ := HF.out; exact hb)).at_ hlt
      cases e
      have hrl := HS.out.2 _ (List.getElem_mem hlt)
      have HI := Lib.hid hri
      have HRL := Lib.hid hrl
      obtain ⟨A', c'', rfl, -⟩ := hri.form
      clear hri hrl
      go_wp2_with fail
      refine (toIntS_any _ rows[k] _ HI.out HRL.out).mono ?_
      rintro e w1 ⟨u, rfl, ho, hb⟩
      obtain ⟨u0, g1, g2⟩ := HF.out.cell hlt hb
      have HN := Lib.hid (HF.out.step hlt hb ho)
      obtain ⟨A1, c1, rfl, -⟩ := ho.reads.form
      clear ho hb
      go_wp2
      go_roundw
      case rel => exact ⟨k + 1, by omega, by go_num, HN.out⟩
      case measure => simp [intOf]; omega
    · go_wp2
      go_ret
      obtain ⟨r1, r2⟩ := HF.out.done (by omega) (by omega)
      have hkn : k = rows.length := by omega
      subst hkn
      exact ⟨_, rfl, r1, r2⟩
end

section
open Go.RowKit
set_option linter.unusedVariables false

set_option maxRecDepth 100000 in
theorem toSig_any (v : Value) (s : MSig) (w : World) (h : RSig w v s) (hs : Fits s.ops) :
    Calls Try.prog 27 #[v] w fun e w' => ∃ u, e = .returned u ∧ OSig w' w.heap.size u s ∧ Below w.heap.size w w' := by
  obtain ⟨u, rfl, hr⟩ := h
  obtain ⟨sorts, ops⟩ := s
  obtain ⟨W3, hW3⟩ : ∃ W3, W3 = ((w.alloc (.cells #[.int .i64 sorts, u] 53)).alloc (.cells #[.int .i64 0, .slice none 0 0] 25)).alloc (.cells #[.int .i64 sorts, .slice none 0 0] 25) := ⟨_, rfl⟩
  have hb3 : Below w.heap.size w W3 := by rw [hW3]; exact ((below_alloc _ _).alloc (by simp) _).alloc (by simp; omega) _
  have hz3 : W3.heap.size = w.heap.size + 3 := by rw [hW3]; simp
  have e1 : W3.heap[w.heap.size + 1]? = some (.cells #[.int .i64 0, .slice none 0 0] 25 (0, 0)) := by
    rw [hW3, heap_alloc_old _ _ (by simp)]
    exact (congrArg (fun i => ((w.alloc (.cells #[.int .i64 sorts, u] 53)).alloc (.cells #[.int .i64 0, .slice none 0 0] 25)).heap[i]?) (by simp)).trans (heap_alloc_new (w.alloc (.cells #[.int .i64 sorts, u] 53)) _)
  have e2 : W3.heap[w.heap.size + 2]? = some (.cells #[.int .i64 sorts, .slice none 0 0] 25 (0, 0)) := by
    rw [hW3]
    exact (congrArg (fun i => (((w.alloc (.cells #[.int .i64 sorts, u] 53)).alloc (.cells #[.int .i64 0, .slice none 0 0] 25)).alloc (.cells #[.int .i64 sorts, .slice none 0 0] 25)).heap[i]?) (by simp)).trans (heap_alloc_new ((w.alloc (.cells #[.int .i64 sorts, u] 53)).alloc (.cells #[.int .i64 0, .slice none 0 0] 25)) _)
  have H := Lib.hid (show RRows (((w.alloc (.cells #[.int .i64 sorts, u] 53)).alloc (.cells #[.int .i64 0, .slice none 0 0] 25)).alloc (.cells #[.int .i64 sorts, .slice none 0 0] 25)) u ops by rw [← hW3]; exact hr.keep hb3)
  have HW3 := Lib.hid (And.intro hW3 (And.intro hb3 (And.intro hz3 (And.intro e1 e2))))
  have HS := Lib.hid hs
  obtain ⟨A, c, rfl, -⟩ := hr.form
  clear hr hW3 hb3 hz3 e1 e2 hs
  go_enter Try.func27, Try.ntmps27
  go_wp2_with fail
  refine (toIntSS_any _ ops _ H.out HS.out).mono ?_
  rintro e w4 ⟨v, rfl, ho, hb⟩
  obtain ⟨hW3, hb3, hz3, e1, e2⟩ := HW3.out
  rw [← hW3] at ho hb
  have f1 := (hb.block _ (by omega)).trans e1
  have f2 := (hb.block _ (by omega)).trans e2
  rw [hz3] at ho
  have hsz := hb.size
  rw [hz3] at hsz
  have HO := Lib.hid ho
  have HB := Lib.hid (hb3.trans (hb.mono (by omega)))
  obtain ⟨A4, c4, rfl, -⟩ := ho.reads.form
  have j0 := block_cell' f1 0
  have j1 := block_cell' f1 1
  have j2 := block_free' f1 0
  have j3 := block_free' f1 1
  have j4 := block_cell' f2 0
  have j5 := block_cell' f2 1
  have j6 := block_free' f2 1
  simp at j0 j1 j4 j5
  have HF := Lib.hid (And.intro f1 f2)
  clear ho hb hb3 hz3 e1 e2 f1 f2 hW3 HW3
  go_wp2
  obtain ⟨f1, f2⟩ := HF.out
  have d1 := blk_set (blk_set ((Below.heap_setCell w4 ⟨w.heap.size + 2, 1, none⟩ (.slice A4 ops.length c4) (w.heap.size + 1) (by show w.heap.size + 1 ≠ w.heap.size + 2; omega)).trans f1) 0 (.int .i64 sorts)) 1 (.slice A4 ops.length c4)
  have d2 := ((HO.out.setLow' (b := w.heap.size + 2) (by omega) 1 (.slice A4 ops.length c4)).setLow' (b := w.heap.size + 1) (by omega) 0 (.int .i64 sorts)).setLow' (b := w.heap.size + 1) (by omega) 1 (.slice A4 ops.length c4)
  have d3 := ((HB.out.setCell (p := ⟨w.heap.size + 2, 1, none⟩) (by show w.heap.size ≤ w.heap.size + 2; omega) (.slice A4 ops.length c4)).setCell (p := ⟨w.heap.size + 1, 0, none⟩) (by show w.heap.size ≤ w.heap.size + 1; omega) (.int .i64 sorts)).setCell (p := ⟨w.heap.size + 1, 1, none⟩) (by show w.heap.size ≤ w.heap.size + 1; omega) (.slice A4 ops.length c4)
  generalize ((w4.setCell ⟨w.heap.size + 2, 1, none⟩ (.slice A4 ops.length c4)).setCell ⟨w.heap.size + 1, 0, none⟩ (.int .i64 sorts)).setCell ⟨w.heap.size + 1, 1, none⟩ (.slice A4 ops.length c4) = w9 at d1 d2 d3 ⊢
  have k0 := blk_cell d1 0
  have k1 := blk_cell d1 1
  simp at k0 k1
  clear j0 j1 j2 j3 j4 j5 j6 f1 f2
  refine bodyPost_ret (v := .agg #[.int .i64 sorts, .slice A4 ops.length c4]) (by simp [results, Try.results27, go_sem, k0, k1]) rfl ?_
  exact ⟨_, rfl, ⟨_, rfl, d2.base (by omega)⟩, d3⟩
end

section
open Go.RowKit
set_option linter.unusedVariables false

structure MEq where
  vars : List Int
  left : List Int
  right : List Int
structure MThy where
  over : MSig
  eqs : List MEq

def REq (w : World) (v : Value) (e : MEq) : Prop := ∃ a b c, v = .agg #[a, b, c] ∧ RInts w a e.vars ∧ RInts w b e.left ∧ RInts w c e.right
/-- a list of equations: three cells an element -/
def REqs (w : World) (v : Value) (es : List MEq) : Prop :=
  ∃ A c, v = .slice A es.length c ∧ es.length ≤ c ∧ c ≤ maxLen ∧ ∀ j e, es[j]? = some e → ∃ b o x y z, A = some ⟨b, o, none⟩ ∧
    w.cell? ⟨b, o + j * 3, none⟩ = some x ∧ w.cell? ⟨b, o + j * 3 + 1, none⟩ = some y ∧ w.cell? ⟨b, o + j * 3 + 2, none⟩ = some z ∧ RInts w x e.vars ∧ RInts w y e.left ∧ RInts w z e.right
def RThy (w : World) (v : Value) (t : MThy) : Prop := ∃ u x, v = .agg #[.int .i64 t.over.sorts, u, x] ∧ RRows w u t.over.ops ∧ REqs w x t.eqs

section
variable {w w' : World} {v : Value} {e : MEq} {es : List MEq} {t : MThy}
theorem REq.keep (h : REq w v e) (hb : Below w.heap.size w w') : REq w' v e := by
  obtain ⟨a, b, c, rfl, h1, h2, h3⟩ := h; exact ⟨a, b, c, rfl, h1.keep hb, h2.keep hb, h3.keep hb⟩
theorem REqs.keep (h : REqs w v es) (hb : Below w.heap.size w w') : REqs w' v es := by
  obtain ⟨A, c, e, h1, h2, h3⟩ := h
  refine ⟨A, c, e, h1, h2, fun j x hj => ?_⟩
  obtain ⟨b, o, x, y, z, e, c1, c2, c3, r1, r2, r3⟩ := h3 j x hj
  exact ⟨b, o, x, y, z, e, cell_keep hb c1, cell_keep hb c2, cell_keep hb c3, r1.keep hb, r2.keep hb, r3.keep hb⟩
theorem RThy.keep (h : RThy w v t) (hb : Below w.heap.size w w') : RThy w' v t := by
  obtain ⟨u, x, rfl, h1, h2⟩ := h; exact ⟨u, x, rfl, h1.keep hb, h2.keep hb⟩
theorem REqs.len (h : REqs w v es) : es.length ≤ 9223372036854775807 := by
  obtain ⟨A, c, e, h1, h2, h3⟩ := h; rw [maxLen_eq] at h2; omega
theorem REqs.nil (w : World) : REqs w (.slice none 0 0) [] := ⟨none, 0, rfl, Nat.le_refl _, Nat.zero_le _, fun j x h => by simp at h⟩
theorem REqs.form (h : REqs w v es) : ∃ A c, v = .slice A es.length c ∧ es.length ≤ c ∧ c ≤ 9223372036854775807 := by
  obtain ⟨A, c, e, h1, h2, h3⟩ := h; exact ⟨A, c, e, h1, h2⟩
theorem REqs.at_ (h : REqs w v es) {k : Nat} (hk : k < es.length) : ∃ b o c x y z, v = .slice (some ⟨b, o, none⟩) es.length c ∧
    w.cell? ⟨b, o + k * 3, none⟩ = some x ∧ w.cell? ⟨b, o + k * 3 + 1, none⟩ = some y ∧ w.cell? ⟨b, o + k * 3 + 2, none⟩ = some z ∧ RInts w x es[k].vars ∧ RInts w y es[k].left ∧ RInts w z es[k].right := by
  obtain ⟨A, c, e, h1, h2, h3⟩ := h
  obtain ⟨b, o, x, y, z, rfl, r⟩ := h3 k es[k] (List.getElem?_eq_getElem hk)
  exact ⟨b, o, c, x, y, z, e, r⟩
theorem REq.form (h : REq w v e) : ∃ A a B b C c, v = .agg #[.slice A e.vars.length a, .slice B e.left.length b, .slice C e.right.length c] := by
  obtain ⟨a, b, c, rfl, h1, h2, h3⟩ := h
  obtain ⟨A, a, rfl, -⟩ := h1.form
  obtain ⟨B, b, rfl, -⟩ := h2.form
  obtain ⟨C, c, rfl, -⟩ := h3.form
  exact ⟨_, _, _, _, _, _, rfl⟩
theorem RThy.form (h : RThy w v t) : ∃ A a B b, v = .agg #[.int .i64 t.over.sorts, .slice A t.over.ops.length a, .slice B t.eqs.length b] := by
  obtain ⟨a, b, rfl, h1, h2⟩ := h
  obtain ⟨A, a, rfl, -⟩ := h1.form
  obtain ⟨B, b, rfl, -⟩ := h2.form
  exact ⟨_, _, _, _, rfl⟩
theorem RSig.form {s : MSig} (h : RSig w v s) : ∃ A a, v = .agg #[.int .i64 s.sorts, .slice A s.ops.length a] := by
  obtain ⟨a, rfl, h1⟩ := h
  obtain ⟨A, a, rfl, -⟩ := h1.form
  exact ⟨_, _, rfl⟩
theorem REq.of {a b c : Value} (h : REq w (.agg #[a, b, c]) e) : RInts w a e.vars ∧ RInts w b e.left ∧ RInts w c e.right := by
  obtain ⟨a', b', c', he, h1, h2, h3⟩ := h
  injection he with he
  simp at he
  obtain ⟨rfl, rfl, rfl⟩ := he
  exact ⟨h1, h2, h3⟩
theorem RThy.of {n a b : Value} (h : RThy w (.agg #[n, a, b]) t) : n = .int .i64 t.over.sorts ∧ RRows w a t.over.ops ∧ REqs w b t.eqs := by
  obtain ⟨a', b', he, h1, h2⟩ := h
  injection he with he
  simp at he
  obtain ⟨rfl, rfl, rfl⟩ := he
  exact ⟨rfl, h1, h2⟩
theorem RSig.of {n a : Value} {s : MSig} (h : RSig w (.agg #[n, a]) s) : n = .int .i64 s.sorts ∧ RRows w a s.ops := by
  obtain ⟨a', he, h1⟩ := h
  injection he with he
  simp at he
  obtain ⟨rfl, rfl⟩ := he
  exact ⟨rfl, h1⟩
end

/-- an operation that its guard leaves out -/
theorem ite_off {c : Bool} {A B : Prop} (h : c = false) (hb : B) : if c = true then A else B := by rw [h]; simpa using hb
/-- the cells of a box, the newest block -/
theorem bx_at (w : World) (cs : Array Value) (t : TypeId) {k : Nat} {u : Value} (h : cs[k]? = some u) : (w.alloc (.cells cs t)).cell? ⟨w.heap.size, k, none⟩ = some u := by
  rw [World.cell?_alloc_at _ _ _ _ rfl]; exact h
theorem bx3 (w : World) (a b c : Value) (t : TypeId) : (w.alloc (.cells #[a, b, c] t)).cell? ⟨w.heap.size, 0, none⟩ = some a ∧ (w.alloc (.cells #[a, b, c] t)).cell? ⟨w.heap.size, 1, none⟩ = some b ∧ (w.alloc (.cells #[a, b, c] t)).cell? ⟨w.heap.size, 2, none⟩ = some c :=
  ⟨bx_at w _ _ rfl, bx_at w _ _ rfl, bx_at w _ _ rfl⟩
theorem bx4 (w : World) (a b c d : Value) (t : TypeId) : (w.alloc (.cells #[a, b, c, d] t)).cell? ⟨w.heap.size, 0, none⟩ = some a ∧ (w.alloc (.cells #[a, b, c, d] t)).cell? ⟨w.heap.size, 1, none⟩ = some b ∧ (w.alloc (.cells #[a, b, c, d] t)).cell? ⟨w.heap.size, 2, none⟩ = some c ∧ (w.alloc (.cells #[a, b, c, d] t)).cell? ⟨w.heap.size, 3, none⟩ = some d :=
  ⟨bx_at w _ _ rfl, bx_at w _ _ rfl, bx_at w _ _ rfl, bx_at w _ _ rfl⟩

/-- lists of rows that a call has made, in whatever cells of a block -/
def ORowsT (T : TypeId) (size n : Nat) (w : World) (B : Nat) (v : Value) (rows : List (List Int)) : Prop :=
  ∃ us : List Value, w.ownsRow B T size v n us ∧ us.length = rows.length ∧
    (∀ (j : Nat) (u : Value) (row : List Int), us[j]? = some u → rows[j]? = some row → OInts w B u row) ∧
    (∀ (i j : Nat) (u u' : Value), i < j → us[i]? = some u → us[j]? = some u' → u.ownBlock = none ∨ u.ownBlock ≠ u'.ownBlock)
end

section
open Go.RowKit
set_option linter.unusedVariables false

inductive Tm where
  | leaf (k : Nat) (of : Int)
  | node (op : Nat) (lv : Int) (ts : List Tm)

def Tm.sort : Tm → Int
  | .leaf _ of => of
  | .node _ lv _ => lv

mutual
def Tm.row : Tm → List Int
  | .leaf k _ => [100 + (k : Int)]
  | .node op _ ts => (op : Int) :: rowsOf ts
def rowsOf : List Tm → List Int
  | [] => []
  | t :: ts => t.row ++ rowsOf ts
end

def opRow (s : MSig) (n : Nat) : List Int := s.ops.getD n []

mutual
def wfT (s : MSig) (vars : List Int) : Tm → Prop
  | .leaf k of => k < vars.length ∧ of = vars.getD k 0
  | .node op lv ts => op < s.ops.length ∧ lv = (opRow s op).getLastD (-1) ∧ wfTs s vars (opRow s op).dropLast ts
def wfTs (s : MSig) (vars : List Int) : List Int → List Tm → Prop
  | ss, [] => ss = []
  | ss, t :: ts => ∃ x ss', ss = x :: ss' ∧ t.sort = x ∧ wfT s vars t ∧ wfTs s vars ss' ts
end

def argsM (p : List Int → Option (Tm × List Int)) : List Int → List Int → Option (List Tm × List Int)
  | [], r => some ([], r)
  | x :: ss, r =>
    match p r with
    | none => none
    | some (t, b) =>
      if t.sort = x then
        match argsM p ss b with
        | none => none
        | some (ts, b') => some (t :: ts, b')
      else none

def firstM (s : MSig) (vars : List Int) : Nat → List Int → Option (Tm × List Int)
  | 0, _ => none
  | _ + 1, [] => none
  | f + 1, n :: rest =>
    if 0 ≤ n ∧ n < s.ops.length then
      match argsM (firstM s vars f) (opRow s n.toNat).dropLast rest with
      | none => none
      | some (ts, b) => some (.node n.toNat ((opRow s n.toNat).getLastD (-1)) ts, b)
    else if 100 ≤ n ∧ n < 100 + vars.length then some (.leaf (n - 100).toNat (vars.getD (n - 100).toNat 0), rest)
    else none

/-- one more argument, at the end -/
theorem argsM_snoc (p : List Int → Option (Tm × List Int)) (ss : List Int) (x : Int) (r : List Int) :
    argsM p (ss ++ [x]) r = match argsM p ss r with
      | none => none
      | some (ts, b) => match p b with
        | none => none
        | some (t, b') => if t.sort = x then some (ts ++ [t], b') else none := by
  induction ss generalizing r with
  | nil =>
    simp only [List.nil_append, argsM]
  | cons y ss ih =>
    simp only [List.cons_append, argsM]
    cases hp : p r with
    | none => rfl
    | some q =>
      obtain ⟨t, b⟩ := q
      simp only
      by_cases h : t.sort = y
      · rw [if_pos h, if_pos h, ih]
        cases ha : argsM p ss b with
        | none => rfl
        | some q =>
          obtain ⟨ts, b1⟩ := q
          simp only
          cases hq : p b1 with
          | none => rfl
          | some q =>
            obtain ⟨t', b2⟩ := q
            simp only
            by_cases h' : t'.sort = x
            · rw [if_pos h', if_pos h']; rfl
            · rw [if_neg h', if_neg h']
      · rw [if_neg h, if_neg h]
theorem argsM_none (p : List Int → Option (Tm × List Int)) (ss ss' : List Int) (r : List Int) (h : argsM p ss r = none) : argsM p (ss ++ ss') r = none := by
  induction ss generalizing r with
  | nil => cases h
  | cons y ss ih =>
    simp only [List.cons_append, argsM] at h ⊢
    cases hp : p r with
    | none => rfl
    | some q =>
      obtain ⟨t, b⟩ := q
      rw [hp] at h
      simp only at h ⊢
      by_cases ht : t.sort = y
      · rw [if_pos ht] at h ⊢
        cases ha : argsM p ss b with
        | none => rw [ih b ha]
        | some q => obtain ⟨ts, b'⟩ := q; rw [ha] at h; cases h
      · rw [if_neg ht]
theorem argsM_take_none {p : List Int → Option (Tm × List Int)} {ss r : List Int} {k : Nat} (h : argsM p (ss.take k) r = none) : argsM p ss r = none := by
  have := argsM_none p (ss.take k) (ss.drop k) r h
  rwa [List.take_append_drop] at this
theorem argsM_step {p : List Int → Option (Tm × List Int)} {ss r : List Int} {k : Nat} (hk : k < ss.length) {ts : List Tm} {b : List Int} (h : argsM p (ss.take k) r = some (ts, b)) :
    argsM p (ss.take (k + 1)) r = match p b with
        | none => none
        | some (t, b') => if t.sort = ss[k] then some (ts ++ [t], b') else none := by
  rw [List.take_succ_eq_append_getElem hk, argsM_snoc, h]

/-! what is read is the row of the tree, and the tree is one of the signature -/
theorem argsM_sound {s : MSig} {vars : List Int} {p : List Int → Option (Tm × List Int)} (hp : ∀ r tm b, p r = some (tm, b) → r = tm.row ++ b ∧ wfT s vars tm) :
    ∀ (ss r : List Int) (ts : List Tm) (b : List Int), argsM p ss r = some (ts, b) → r = rowsOf ts ++ b ∧ wfTs s vars ss ts := by
  intro ss
  induction ss with
  | nil =>
    intro r ts b h
    simp only [argsM] at h
    cases h
    exact ⟨by simp [rowsOf], by unfold wfTs; rfl⟩
  | cons x ss ih =>
    intro r ts b h
    simp only [argsM] at h
    cases hpr : p r with
    | none => rw [hpr] at h; cases h
    | some q =>
      obtain ⟨t, b1⟩ := q
      rw [hpr] at h
      simp only at h
      by_cases ht : t.sort = x
      · rw [if_pos ht] at h
        cases ha : argsM p ss b1 with
        | none => rw [ha] at h; cases h
        | some q =>
          obtain ⟨ts1, b2⟩ := q
          rw [ha] at h
          simp only at h
          cases h
          obtain ⟨h1, h2⟩ := hp r t b1 hpr
          obtain ⟨h3, h4⟩ := ih b1 ts1 _ ha
          refine ⟨by rw [h1, h3]; simp [rowsOf], ?_⟩
          unfold wfTs
          exact ⟨x, ss, rfl, ht, h2, h4⟩
      · rw [if_neg ht] at h; cases h
theorem firstM_sound {s : MSig} {vars : List Int} : ∀ (f : Nat) (r : List Int) (tm : Tm) (b : List Int), firstM s vars f r = some (tm, b) → r = tm.row ++ b ∧ wfT s vars tm := by
  intro f
  induction f with
  | zero => intro r tm b h; simp [firstM] at h
  | succ f ih =>
    intro r tm b h
    cases r with
    | nil => simp [firstM] at h
    | cons n rest =>
      simp only [firstM] at h
      by_cases h1 : 0 ≤ n ∧ n < s.ops.length
      · rw [if_pos h1] at h
        cases ha : argsM (firstM s vars f) (opRow s n.toNat).dropLast rest with
        | none => rw [ha] at h; cases h
        | some q =>
          obtain ⟨ts, b1⟩ := q
          rw [ha] at h
          simp only at h
          cases h
          obtain ⟨h3, h4⟩ := argsM_sound ih _ _ _ _ ha
          refine ⟨?_, ?_⟩
          · unfold Tm.row
            rw [h3, Int.toNat_of_nonneg h1.1]; rfl
          · unfold wfT
            exact ⟨by omega, rfl, h4⟩
      · rw [if_neg h1] at h
        by_cases h2 : 100 ≤ n ∧ n < 100 + vars.length
        · rw [if_pos h2] at h
          cases h
          refine ⟨?_, ?_⟩
          · unfold Tm.row
            rw [show (100 : Int) + ((n - 100).toNat : Int) = n by omega]; rfl
          · unfold wfT
            exact ⟨by omega, rfl⟩
        · rw [if_neg h2] at h; cases h

theorem row_pos : ∀ t : Tm, 1 ≤ t.row.length
  | .leaf k of => by simp [Tm.row]
  | .node op lv ts => by simp [Tm.row]

mutual
theorem firstM_full {s : MSig} {vars : List Int} (hs : s.ops.length ≤ 100) : ∀ (tm : Tm) (f : Nat) (b : List Int), wfT s vars tm → tm.row.length ≤ f → firstM s vars f (tm.row ++ b) = some (tm, b)
  | .leaf k of, f, b, hw, hf => by
    unfold wfT at hw
    obtain ⟨f, rfl⟩ : ∃ g, f = g + 1 := ⟨f - 1, by simp [Tm.row] at hf; omega⟩
    simp only [Tm.row, List.cons_append, List.nil_append, firstM]
    rw [if_neg (by omega), if_pos (by omega), show ((100 : Int) + (k : Int) - 100).toNat = k by omega, hw.2]
  | .node op lv ts, f, b, hw, hf => by
    unfold wfT at hw
    obtain ⟨f, rfl⟩ : ∃ g, f = g + 1 := ⟨f - 1, by simp [Tm.row] at hf; omega⟩
    simp only [Tm.row, List.length_cons] at hf
    simp only [Tm.row, List.cons_append, firstM]
    rw [if_pos (by omega), Int.toNat_natCast, argsM_full hs ts f b _ hw.2.2 (by omega)]
    rw [hw.2.1]
theorem argsM_full {s : MSig} {vars : List Int} (hs : s.ops.length ≤ 100) : ∀ (ts : List Tm) (f : Nat) (b ss : List Int), wfTs s vars ss ts → (rowsOf ts).length ≤ f → argsM (firstM s vars f) ss (rowsOf ts ++ b) = some (ts, b)
  | [], f, b, ss, hw, hf => by
    unfold wfTs at hw
    subst hw
    simp [argsM, rowsOf]
  | t :: ts, f, b, ss, hw, hf => by
    unfold wfTs at hw
    obtain ⟨x, ss', rfl, h1, h2, h3⟩ := hw
    simp only [rowsOf, List.length_append] at hf
    simp only [rowsOf, List.append_assoc, argsM]
    rw [firstM_full hs t f _ h2 (by omega)]
    simp only
    rw [if_pos h1, argsM_full hs ts f b ss' h3 (by omega)]
end
end

section
open Go.RowKit
set_option linter.unusedVariables false

/-- numbers that an int holds -/
def Small (r : List Int) : Prop := ∀ x ∈ r, x ≤ 9223372036854775807
def varsB (s : MSig) (vars : List Int) : Bool := validB s && decide (vars.length ≤ 4) && belowB vars s.sorts
def termM (s : MSig) (vars t : List Int) : Option Tm :=
  if varsB s vars = true ∧ t.length ≤ 30 then
    match firstM s vars 30 t with
    | some (tm, []) => some tm
    | _ => none
  else none
def sortM (s : MSig) (vars t : List Int) : Int :=
  match termM s vars t with
  | some tm => tm.sort
  | none => -1
def fitM (s : MSig) (vars : List Int) (terms : List (List Int)) (sorts : List Int) : Bool :=
  decide (terms.length = sorts.length) && (terms.zip sorts).all fun q => decide (0 ≤ q.2) && decide (sortM s vars q.1 = q.2)
def fitsB (s : MSig) (vars : List Int) (terms : List (List Int)) (sorts : List Int) : Bool := varsB s vars && fitM s vars terms sorts
def putRow (terms : List (List Int)) (t : List Int) : List Int := t.flatMap fun n => if 100 ≤ n then terms.getD (n - 100).toNat [] else [n]
def partM (s : MSig) (vars t : List Int) (k : Nat) : List Int :=
  match firstM s vars 30 (t.drop k) with
  | some (tm, _) => tm.row
  | none => []
def atM (s : MSig) (vars t : List Int) (at_ : Int) : List Int :=
  if 0 ≤ sortM s vars t ∧ 0 ≤ at_ ∧ at_ < t.length then partM s vars t at_.toNat else []

theorem vars_valid {s : MSig} {vars : List Int} (h : varsB s vars = true) : validB s = true ∧ vars.length ≤ 4 ∧ ∀ k (hk : k < vars.length), 0 ≤ vars[k] ∧ vars[k] < s.sorts := by
  unfold varsB belowB at h
  simp only [Bool.and_eq_true, decide_eq_true_eq, List.all_eq_true] at h
  exact ⟨h.1.1, h.1.2, fun k hk => h.2 _ (List.getElem_mem hk)⟩
theorem opRow_at {s : MSig} {k : Nat} (hk : k < s.ops.length) : opRow s k = s.ops[k] := getD_at _ hk
theorem opRow_valid {s : MSig} (h : validB s = true) {k : Nat} (hk : k < s.ops.length) : 1 ≤ (opRow s k).length ∧ (opRow s k).length ≤ 3 ∧ ∀ x ∈ opRow s k, 0 ≤ x ∧ x < s.sorts := by
  rw [opRow_at hk]; exact valid_row h hk
theorem ops_few {s : MSig} (h : validB s = true) : s.ops.length ≤ 100 := by have := valid_sorts h; omega
/-- the sort of a tree is one of the signature -/
theorem sort_ok {s : MSig} {vars : List Int} (h : varsB s vars = true) {tm : Tm} (hw : wfT s vars tm) : 0 ≤ tm.sort ∧ tm.sort < s.sorts := by
  obtain ⟨h1, h2, h3⟩ := vars_valid h
  cases tm with
  | leaf k of =>
    unfold wfT at hw
    obtain ⟨hk, rfl⟩ := hw
    simp only [Tm.sort]
    rw [getD_at _ hk]; exact h3 k hk
  | node op lv ts =>
    unfold wfT at hw
    obtain ⟨hk, rfl, -⟩ := hw
    simp only [Tm.sort]
    obtain ⟨a, b, c⟩ := opRow_valid h1 hk
    rw [last_at (by omega)]
    exact c _ (List.getElem_mem _)

theorem termM_to {s : MSig} {vars t : List Int} {tm : Tm} (h : termM s vars t = some tm) : varsB s vars = true ∧ t.length ≤ 30 ∧ wfT s vars tm ∧ tm.row = t := by
  unfold termM at h
  by_cases h1 : varsB s vars = true ∧ t.length ≤ 30
  · rw [if_pos h1] at h
    cases hf : firstM s vars 30 t with
    | none => rw [hf] at h; cases h
    | some q =>
      obtain ⟨tm', b⟩ := q
      rw [hf] at h
      cases b with
      | nil =>
        simp only at h
        cases h
        obtain ⟨h2, h3⟩ := firstM_sound _ _ _ _ hf
        exact ⟨h1.1, h1.2, h3, by rw [h2]; simp⟩
      | cons a b => cases h
  · rw [if_neg h1] at h; cases h
theorem termM_of {s : MSig} {vars : List Int} {tm : Tm} (h1 : varsB s vars = true) (h2 : tm.row.length ≤ 30) (h3 : wfT s vars tm) : termM s vars tm.row = some tm := by
  unfold termM
  rw [if_pos ⟨h1, h2⟩]
  have := firstM_full (ops_few (vars_valid h1).1) tm 30 [] h3 h2
  rw [List.append_nil] at this
  rw [this]
theorem sortM_to {s : MSig} {vars t : List Int} (h : 0 ≤ sortM s vars t) : ∃ tm, varsB s vars = true ∧ t.length ≤ 30 ∧ wfT s vars tm ∧ tm.row = t ∧ sortM s vars t = tm.sort := by
  unfold sortM at h ⊢
  cases ht : termM s vars t with
  | none => rw [ht] at h; simp at h
  | some tm =>
    obtain ⟨a, b, c, d⟩ := termM_to ht
    exact ⟨tm, a, b, c, d, rfl⟩
theorem sortM_of {s : MSig} {vars : List Int} {tm : Tm} (h1 : varsB s vars = true) (h2 : tm.row.length ≤ 30) (h3 : wfT s vars tm) : sortM s vars tm.row = tm.sort := by
  unfold sortM; rw [termM_of h1 h2 h3]
theorem sortM_neg {s : MSig} {vars t : List Int} (h : sortM s vars t < 0) : sortM s vars t = -1 := by
  unfold sortM at h ⊢
  cases ht : termM s vars t with
  | none => rfl
  | some tm =>
    obtain ⟨a, b, c, d⟩ := termM_to ht
    rw [ht] at h
    have := sort_ok a c
    simp only at h
    omega
theorem sortM_lt {s : MSig} {vars t : List Int} (h : validB s = true) : sortM s vars t < s.sorts ∧ -1 ≤ sortM s vars t := by
  have hv := valid_sorts h
  unfold sortM
  cases ht : termM s vars t with
  | none => simp only; omega
  | some tm =>
    obtain ⟨a, b, c, d⟩ := termM_to ht
    have := sort_ok a c
    simp only
    omega

/-! a part, and what is put there -/
mutual
theorem hole_t {s : MSig} {vars : List Int} : ∀ (tm : Tm) (at_ : Nat), wfT s vars tm → at_ < tm.row.length →
    ∃ (pre : List Int) (sub : Tm) (post : List Int), tm.row = pre ++ sub.row ++ post ∧ pre.length = at_ ∧ wfT s vars sub ∧ ∀ u : Tm, wfT s vars u → u.sort = sub.sort → ∃ tm' : Tm, wfT s vars tm' ∧ tm'.sort = tm.sort ∧ tm'.row = pre ++ u.row ++ post
  | .leaf k of, at_, hw, ha => by
    simp only [Tm.row, List.length_singleton] at ha
    refine ⟨[], .leaf k of, [], by simp, by simp; omega, hw, fun u hu hs => ⟨u, hu, hs, by simp⟩⟩
  | .node op lv ts, 0, hw, ha => ⟨[], .node op lv ts, [], by simp, rfl, hw, fun u hu hs => ⟨u, hu, hs, by simp⟩⟩
  | .node op lv ts, n + 1, hw, ha => by
    unfold wfT at hw
    simp only [Tm.row, List.length_cons] at ha
    obtain ⟨pre, sub, post, h1, h2, h3, h4⟩ := hole_ts ts n _ hw.2.2 (by omega)
    refine ⟨(op : Int) :: pre, sub, post, by simp only [Tm.row]; rw [h1]; simp, by simp [h2], h3, fun u hu hs => ?_⟩
    obtain ⟨ts', a, b⟩ := h4 u hu hs
    refine ⟨.node op lv ts', ?_, rfl, by simp only [Tm.row]; rw [b]; simp⟩
    unfold wfT
    exact ⟨hw.1, hw.2.1, a⟩
theorem hole_ts {s : MSig} {vars : List Int} : ∀ (ts : List Tm) (at_ : Nat) (ss : List Int), wfTs s vars ss ts → at_ < (rowsOf ts).length →
    ∃ (pre : List Int) (sub : Tm) (post : List Int), rowsOf ts = pre ++ sub.row ++ post ∧ pre.length = at_ ∧ wfT s vars sub ∧ ∀ u : Tm, wfT s vars u → u.sort = sub.sort → ∃ ts' : List Tm, wfTs s vars ss ts' ∧ rowsOf ts' = pre ++ u.row ++ post
  | [], at_, ss, hw, ha => by simp [rowsOf] at ha
  | t :: ts, at_, ss, hw, ha => by
    unfold wfTs at hw
    obtain ⟨x, ss', rfl, h1, h2, h3⟩ := hw
    by_cases hlt : at_ < t.row.length
    · obtain ⟨pre, sub, post, a, b, c, d⟩ := hole_t t at_ h2 hlt
      refine ⟨pre, sub, post ++ rowsOf ts, by simp only [rowsOf]; rw [a]; simp, b, c, fun u hu hs => ?_⟩
      obtain ⟨t', e1, e2, e3⟩ := d u hu hs
      refine ⟨t' :: ts, ?_, by simp only [rowsOf]; rw [e3]; simp⟩
      unfold wfTs
      exact ⟨x, ss', rfl, by rw [e2, h1], e1, h3⟩
    · simp only [rowsOf, List.length_append] at ha
      obtain ⟨pre, sub, post, a, b, c, d⟩ := hole_ts ts (at_ - t.row.length) ss' h3 (by omega)
      refine ⟨t.row ++ pre, sub, post, by simp only [rowsOf]; rw [a]; simp, by simp [b]; omega, c, fun u hu hs => ?_⟩
      obtain ⟨ts', e1, e2⟩ := d u hu hs
      refine ⟨t :: ts', ?_, by simp only [rowsOf]; rw [e2]; simp⟩
      unfold wfTs
      exact ⟨x, ss', rfl, h1, h2, e1⟩
end

/-- of a term: the part at k, what lies ahead of it and behind, and what comes of another part -/
theorem part_of {s : MSig} {vars t : List Int} {k : Nat} (h : 0 ≤ sortM s vars t) (hk : k < t.length) :
    ∃ (pre : List Int) (sub : Tm) (post : List Int), t = pre ++ sub.row ++ post ∧ pre.length = k ∧ wfT s vars sub ∧ firstM s vars 30 (t.drop k) = some (sub, post) ∧ partM s vars t k = sub.row ∧ sortM s vars sub.row = sub.sort ∧ 0 ≤ sub.sort ∧
      ∀ u : Tm, wfT s vars u → u.sort = sub.sort → (pre ++ u.row ++ post).length ≤ 30 → sortM s vars (pre ++ u.row ++ post) = sortM s vars t := by
  obtain ⟨tm, h1, h2, h3, h4, h5⟩ := sortM_to h
  subst h4
  obtain ⟨pre, sub, post, a, b, c, d⟩ := hole_t tm k h3 hk
  have hl : pre.length + sub.row.length + post.length = tm.row.length := by rw [a]; simp; omega
  have hd : tm.row.drop k = sub.row ++ post := by rw [a, List.append_assoc, ← b]; simp
  have hf : firstM s vars 30 (tm.row.drop k) = some (sub, post) := by
    rw [hd]; exact firstM_full (ops_few (vars_valid h1).1) sub 30 post c (by omega)
  refine ⟨pre, sub, post, a, b, c, hf, by unfold partM; rw [hf], sortM_of h1 (by omega) c, (sort_ok h1 c).1, fun u hu hs hlen => ?_⟩
  obtain ⟨tm', e1, e2, e3⟩ := d u hu hs
  rw [← e3, sortM_of h1 (by rw [e3]; exact hlen) e1, h5, e2]

/-! letters replaced -/
mutual
theorem put_t {s : MSig} {vars others : List Int} {terms : List (List Int)} (hop : s.ops.length ≤ 100)
    (hσ : ∀ k, k < vars.length → ∃ u : Tm, wfT s others u ∧ u.sort = vars.getD k 0 ∧ u.row = terms.getD k []) : ∀ tm : Tm, wfT s vars tm → ∃ tm' : Tm, wfT s others tm' ∧ tm'.sort = tm.sort ∧ tm'.row = putRow terms tm.row
  | .leaf k of, hw => by
    unfold wfT at hw
    obtain ⟨u, a, b, c⟩ := hσ k hw.1
    refine ⟨u, a, by rw [b]; exact hw.2.symm, ?_⟩
    rw [c]
    simp only [Tm.row, putRow, List.flatMap_cons, List.flatMap_nil, List.append_nil]
    rw [if_pos (by omega), show ((100 : Int) + (k : Int) - 100).toNat = k by omega]
  | .node op lv ts, hw => by
    unfold wfT at hw
    obtain ⟨ts', a, b⟩ := put_ts hop hσ ts _ hw.2.2
    refine ⟨.node op lv ts', ?_, rfl, ?_⟩
    · unfold wfT; exact ⟨hw.1, hw.2.1, a⟩
    · simp only [Tm.row]
      rw [b]
      simp only [putRow, List.flatMap_cons]
      rw [if_neg (by omega)]
      rfl
theorem put_ts {s : MSig} {vars others : List Int} {terms : List (List Int)} (hop : s.ops.length ≤ 100)
    (hσ : ∀ k, k < vars.length → ∃ u : Tm, wfT s others u ∧ u.sort = vars.getD k 0 ∧ u.row = terms.getD k []) : ∀ (ts : List Tm) (ss : List Int), wfTs s vars ss ts → ∃ ts' : List Tm, wfTs s others ss ts' ∧ rowsOf ts' = putRow terms (rowsOf ts)
  | [], ss, hw => by
    unfold wfTs at hw
    subst hw
    exact ⟨[], by unfold wfTs; rfl, by simp [rowsOf, putRow]⟩
  | t :: ts, ss, hw => by
    unfold wfTs at hw
    obtain ⟨x, ss', rfl, h1, h2, h3⟩ := hw
    obtain ⟨t', a, b, c⟩ := put_t hop hσ t h2
    obtain ⟨ts', d, e⟩ := put_ts hop hσ ts ss' h3
    refine ⟨t' :: ts', ?_, by simp only [rowsOf]; rw [c, e]; simp [putRow]⟩
    unfold wfTs
    exact ⟨x, ss', rfl, by rw [b, h1], a, d⟩
end

/-! the numbers of a term: operations, and letters that there are -/
mutual
theorem nums_t {s : MSig} {vars : List Int} (hop : s.ops.length ≤ 100) : ∀ tm : Tm, wfT s vars tm → ∀ n ∈ tm.row, (0 ≤ n ∧ n < s.ops.length) ∨ (100 ≤ n ∧ n < 100 + vars.length)
  | .leaf k of, hw, n, hn => by
    unfold wfT at hw
    simp only [Tm.row, List.mem_singleton] at hn
    omega
  | .node op lv ts, hw, n, hn => by
    unfold wfT at hw
    simp only [Tm.row, List.mem_cons] at hn
    rcases hn with rfl | hn
    · omega
    · exact nums_ts hop ts _ hw.2.2 n hn
theorem nums_ts {s : MSig} {vars : List Int} (hop : s.ops.length ≤ 100) : ∀ (ts : List Tm) (ss : List Int), wfTs s vars ss ts → ∀ n ∈ rowsOf ts, (0 ≤ n ∧ n < s.ops.length) ∨ (100 ≤ n ∧ n < 100 + vars.length)
  | [], ss, hw, n, hn => by simp [rowsOf] at hn
  | t :: ts, ss, hw, n, hn => by
    unfold wfTs at hw
    obtain ⟨x, ss', rfl, h1, h2, h3⟩ := hw
    simp only [rowsOf, List.mem_append] at hn
    rcases hn with hn | hn
    · exact nums_t hop t h2 n hn
    · exact nums_ts hop ts ss' h3 n hn
end
end

section
open Go.RowKit
set_option linter.unusedVariables false

def eqOkB (s : MSig) (e : MEq) : Bool := decide (0 ≤ sortM s e.vars e.left) && decide (sortM s e.vars e.right = sortM s e.vars e.left)
def thyB (t : MThy) : Bool := (validB t.over && decide (t.eqs.length ≤ 6)) && t.eqs.all (eqOkB t.over)
def SmallE (e : MEq) : Prop := Small e.left ∧ Small e.right
def SmallT (t : MThy) : Prop := ∀ e ∈ t.eqs, SmallE e
/-- rows of an equation that are not too long -/
def FitsE (e : MEq) : Prop := e.vars.length ≤ 1048576 ∧ e.left.length ≤ 1048576 ∧ e.right.length ≤ 1048576
def FitsEs (es : List MEq) : Prop := es.length ≤ 1048576 ∧ ∀ e ∈ es, FitsE e
def sameE (a b : MEq) : Bool := (sameI a.vars b.vars && sameI a.left b.left) && sameI a.right b.right
theorem sameE_self (a : MEq) : sameE a a = true := by unfold sameE sameI; simp
theorem sameE_eq {a b : MEq} : sameE a b = true ↔ a = b := by
  obtain ⟨a1, a2, a3⟩ := a
  obtain ⟨b1, b2, b3⟩ := b
  unfold sameE sameI
  simp [and_assoc]
def sameEs : List MEq → List MEq → Bool
  | [], [] => true
  | a :: xs, b :: ys => sameE a b && sameEs xs ys
  | _, _ => false
theorem sameEs_eq {xs bs : List MEq} : sameEs xs bs = true ↔ xs = bs := by
  induction xs generalizing bs with
  | nil => cases bs <;> simp [sameEs]
  | cons a xs ih => cases bs with
    | nil => simp [sameEs]
    | cons b bs => simp [sameEs, sameE_eq, ih]
theorem sameEs_self (xs : List MEq) : sameEs xs xs = true := sameEs_eq.2 rfl
theorem eqOkB_bad {s : MSig} {e : MEq} (h : validB s = false) : eqOkB s e = false := by
  unfold eqOkB
  have : ¬ 0 ≤ sortM s e.vars e.left := fun hh => by
    obtain ⟨tm, hv, -⟩ := sortM_to hh
    rw [(vars_valid hv).1] at h
    cases h
  simp [this]
end

section
open Go.RowKit
set_option linter.unusedVariables false

def Apart (a b : Value) : Prop := a.ownBlock = none ∨ a.ownBlock ≠ b.ownBlock
def OEq (w : World) (B : Nat) (v : Value) (e : MEq) : Prop := ∃ a b c, v = .agg #[a, b, c] ∧ OInts w B a e.vars ∧ OInts w B b e.left ∧ OInts w B c e.right ∧ Apart a b ∧ Apart a c ∧ Apart b c
theorem OEq.keep {w w' : World} {B : Nat} {v : Value} {e : MEq} (h : OEq w B v e) (hb : Below w.heap.size w w') : OEq w' B v e := by
  obtain ⟨a, b, c, rfl, h1, h2, h3, h4⟩ := h; exact ⟨a, b, c, rfl, h1.keep hb, h2.keep hb, h3.keep hb, h4⟩
theorem OEq.base {w : World} {B B' : Nat} {v : Value} {e : MEq} (h : OEq w B v e) (hB : B' ≤ B) : OEq w B' v e := by
  obtain ⟨a, b, c, rfl, h1, h2, h3, h4⟩ := h; exact ⟨a, b, c, rfl, h1.base hB, h2.base hB, h3.base hB, h4⟩
theorem OEq.reads {w : World} {B : Nat} {v : Value} {e : MEq} (h : OEq w B v e) : REq w v e := by
  obtain ⟨a, b, c, rfl, h1, h2, h3, h4⟩ := h; exact ⟨a, b, c, rfl, h1.reads, h2.reads, h3.reads⟩
/-- what was made later lies in another block -/
theorem apart_later {w w' : World} {B : Nat} {a b : Value} {xs ys : List Int} (h : OInts w B a xs) (k : OInts w' w.heap.size b ys) : Apart a b := by
  unfold Apart
  cases ha : a.ownBlock with
  | none => exact .inl rfl
  | some x =>
    right
    intro e
    have p := (own_lt h x ha).2
    have q := (own_lt k x e.symm).1
    omega
theorem sz_keep {w w1 w2 : World} (h : Below w.heap.size w w1) (k : Below w1.heap.size w1 w2) : Below w.heap.size w w2 := h.trans (k.mono h.size)

theorem szEq_any (v : Value) (e : MEq) (left : Int) (w : World) (h : REq w v e) (h0 : 0 ≤ left) (h1 : left ≤ 1048576) :
    Calls Try.prog 38 #[v, .int .i64 left] w fun e' w' => ∃ r : Int, e' = .returned (.int .i64 r) ∧ (r < 0 ∨ (0 ≤ r ∧ r ≤ left ∧ FitsE e)) ∧ Below w.heap.size w w' := by
  obtain ⟨a, b, c, rfl, k0, k1, k2⟩ := h
  obtain ⟨xs, ys, zs⟩ := e
  simp only at k0 k1 k2
  have hb := below_alloc w (.cells #[a, b, c] 70)
  have HB := Lib.hid hb
  have K0 := Lib.hid (k0.keep hb)
  have K1 := Lib.hid (k1.keep hb)
  have K2 := Lib.hid (k2.keep hb)
  obtain ⟨A0, c0, rfl, -⟩ := k0.form
  obtain ⟨A1, c1, rfl, -⟩ := k1.form
  obtain ⟨A2, c2, rfl, -⟩ := k2.form
  clear k0 k1 k2 hb
  go_enter Try.func38, Try.ntmps38
  go_wp2_with fail
  refine (szIntS_any _ xs _ _ K0.out h0 h1).mono ?_
  rintro e w1 ⟨r, rfl, hr, rfl⟩
  by_cases hneg : r < 0
  · clear hr
    go_wp2
    go_ret
    exact ⟨-1, rfl, .inl (by omega), HB.out⟩
  have hr1 := hr.resolve_left hneg
  clear hr
  obtain ⟨hr2, hr3⟩ := hr1
  have HR := Lib.hid hr3
  have hr4 : r ≤ 1048576 := by omega
  clear hr3
  go_wp2_with fail
  refine (szIntS_any _ ys _ _ K1.out hr2 hr4).mono ?_
  rintro e w1 ⟨q, rfl, hr, rfl⟩
  by_cases hneg2 : q < 0
  · clear hr
    go_wp2
    go_ret
    exact ⟨-1, rfl, .inl (by omega), HB.out⟩
  have hr5 := hr.resolve_left hneg2
  clear hr
  obtain ⟨hr6, hr7⟩ := hr5
  have HQ := Lib.hid hr7
  have hr8 : q ≤ 1048576 := by omega
  clear hr7
  go_wp2_with fail
  refine (szIntS_any _ zs _ _ K2.out hr6 hr8).mono ?_
  rintro e w1 ⟨p, rfl, hr, rfl⟩
  by_cases hneg3 : p < 0
  · clear hr
    go_wp2
    go_ret
    exact ⟨-1, rfl, .inl (by omega), HB.out⟩
  have hr9 := hr.resolve_left hneg3
  clear hr
  obtain ⟨hr10, hr11⟩ := hr9
  have HP := Lib.hid hr11
  clear hr11
  go_wp2
  go_ret
  have a1 := HR.out
  have a2 := HQ.out
  have a3 := HP.out
  refine ⟨p, rfl, .inr ⟨hr10, by omega, ⟨?_, ?_, ?_⟩⟩, HB.out⟩ <;> simp only <;> omega

/-- a copy under way: the argument's box (a), the result's (r), and 'out' (cur), the first three new blocks -/
structure Mk (w wr : World) (Ta T : TypeId) (a r cur : Array Value) : Prop where
  ba : wr.heap[w.heap.size]? = some (.cells a Ta (0, 0))
  br : wr.heap[w.heap.size + 1]? = some (.cells r T (0, 0))
  bo : wr.heap[w.heap.size + 2]? = some (.cells cur T (0, 0))
  b : Below w.heap.size w wr
  z : w.heap.size + 3 ≤ wr.heap.size
theorem Mk.start (w : World) (Ta T : TypeId) (a r cur : Array Value) : Mk w (((w.alloc (.cells a Ta)).alloc (.cells r T)).alloc (.cells cur T)) Ta T a r cur := by
  refine ⟨?_, ?_, ?_, ((below_alloc _ _).alloc (by simp) _).alloc (by simp; omega) _, by simp⟩
  · rw [heap_alloc_old _ _ (by simp; omega), heap_alloc_old _ _ (by simp)]
    exact heap_alloc_new w _
  · rw [heap_alloc_old _ _ (by simp)]
    exact (congrArg (fun i => ((w.alloc (.cells a Ta)).alloc (.cells r T)).heap[i]?) (by simp)).trans (heap_alloc_new (w.alloc (.cells a Ta)) _)
  · exact (congrArg (fun i => (((w.alloc (.cells a Ta)).alloc (.cells r T)).alloc (.cells cur T)).heap[i]?) (by simp)).trans (heap_alloc_new ((w.alloc (.cells a Ta)).alloc (.cells r T)) _)
section
variable {w wr w2 : World} {Ta T : TypeId} {a r cur : Array Value}
theorem Mk.below (h : Mk w wr Ta T a r cur) (hb : Below wr.heap.size wr w2) : Mk w w2 Ta T a r cur :=
  ⟨(hb.block _ (by have := h.z; omega)).trans h.ba, (hb.block _ (by have := h.z; omega)).trans h.br, (hb.block _ (by have := h.z; omega)).trans h.bo, h.b.trans (hb.mono (by have := h.z; omega)), Nat.le_trans h.z hb.size⟩
theorem Mk.setO (h : Mk w wr Ta T a r cur) (i : Nat) (u : Value) : Mk w (wr.setCell ⟨w.heap.size + 2, i, none⟩ u) Ta T a r (cur.setIfInBounds i u) :=
  ⟨(Below.heap_setCell wr ⟨w.heap.size + 2, i, none⟩ u w.heap.size (by show w.heap.size ≠ w.heap.size + 2; omega)).trans h.ba, (Below.heap_setCell wr ⟨w.heap.size + 2, i, none⟩ u (w.heap.size + 1) (by show w.heap.size + 1 ≠ w.heap.size + 2; omega)).trans h.br, blk_set h.bo i u,
    h.b.setCell (p := ⟨w.heap.size + 2, i, none⟩) (by show w.heap.size ≤ w.heap.size + 2; omega) u, by have := h.z; simpa [World.setCell] using this⟩
theorem Mk.setR (h : Mk w wr Ta T a r cur) (i : Nat) (u : Value) : Mk w (wr.setCell ⟨w.heap.size + 1, i, none⟩ u) Ta T a (r.setIfInBounds i u) cur :=
  ⟨(Below.heap_setCell wr ⟨w.heap.size + 1, i, none⟩ u w.heap.size (by show w.heap.size ≠ w.heap.size + 1; omega)).trans h.ba, blk_set h.br i u, (Below.heap_setCell wr ⟨w.heap.size + 1, i, none⟩ u (w.heap.size + 2) (by show w.heap.size + 2 ≠ w.heap.size + 1; omega)).trans h.bo,
    h.b.setCell (p := ⟨w.heap.size + 1, i, none⟩) (by show w.heap.size ≤ w.heap.size + 1; omega) u, by have := h.z; simpa [World.setCell] using this⟩
theorem Mk.ca (h : Mk w wr Ta T a r cur) (i : Nat) : wr.cell? ⟨w.heap.size, i, none⟩ = a[i]? := blk_cell h.ba i
theorem Mk.co (h : Mk w wr Ta T a r cur) (i : Nat) : wr.cell? ⟨w.heap.size + 2, i, none⟩ = cur[i]? := blk_cell h.bo i
theorem Mk.fo (h : Mk w wr Ta T a r cur) (i : Nat) : wr.frozen? ⟨w.heap.size + 2, i, none⟩ = false := blk_free h.bo i
theorem Mk.cr (h : Mk w wr Ta T a r cur) (i : Nat) : wr.cell? ⟨w.heap.size + 1, i, none⟩ = r[i]? := blk_cell h.br i
theorem Mk.fr (h : Mk w wr Ta T a r cur) (i : Nat) : wr.frozen? ⟨w.heap.size + 1, i, none⟩ = false := blk_free h.br i
theorem OInts.setLow {B b : Nat} {v : Value} {xs : List Int} (h : OInts wr B v xs) (hb : b < B) (i : Nat) (x : Value) : OInts (wr.setCell ⟨b, i, none⟩ x) B v xs := ownsRow_setCell_below h hb _
end

set_option maxRecDepth 100000 in
theorem toEq_any (v : Value) (e : MEq) (w : World) (h : REq w v e) (hs : FitsE e) :
    Calls Try.prog 43 #[v] w fun e' w' => ∃ u, e' = .returned u ∧ OEq w' w.heap.size u e ∧ Below w.heap.size w w' := by
  obtain ⟨x0, x1, x2, rfl, h0, h1, h2⟩ := h
  obtain ⟨xs, ys, zs⟩ := e
  obtain ⟨hs0, hs1, hs2⟩ := hs
  simp only at h0 h1 h2 hs0 hs1 hs2
  obtain ⟨A0, c0, rfl, -⟩ := h0.form
  obtain ⟨A1, c1, rfl, -⟩ := h1.form
  obtain ⟨A2, c2, rfl, -⟩ := h2.form
  have hm := Mk.start w 70 41 #[.slice A0 xs.length c0, .slice A1 ys.length c1, .slice A2 zs.length c2] #[.slice none 0 0, .slice none 0 0, .slice none 0 0] #[.slice none 0 0, .slice none 0 0, .slice none 0 0]
  generalize hW : ((w.alloc (.cells #[.slice A0 xs.length c0, .slice A1 ys.length c1, .slice A2 zs.length c2] 70)).alloc (.cells #[.slice none 0 0, .slice none 0 0, .slice none 0 0] 41)).alloc (.cells #[.slice none 0 0, .slice none 0 0, .slice none 0 0] 41) = W at hm
  have H0 := Lib.hid (h0.keep hm.b)
  have H1 := Lib.hid h1
  have H2 := Lib.hid h2
  have p0 : W.cell? ⟨w.heap.size, 0, none⟩ = some (.slice A0 xs.length c0) := hm.ca 0
  have HM := Lib.hid hm
  clear h0 h1 h2 hm
  go_enter Try.func43, Try.ntmps43
  go_wp2_with fail
  clear hW
  refine (toIntS_any _ xs _ H0.out hs0).mono ?_
  rintro e w4 ⟨u0, rfl, ho, hb⟩
  have hz := HM.out.z
  have hm := HM.out.below hb
  obtain ⟨B0, d0, rfl, -⟩ := ho.reads.form
  have q0 : w4.cell? ⟨w.heap.size + 2, 0, none⟩ = some (.slice none 0 0) := hm.co 0
  have q1 := hm.fo 0
  have hm5 := hm.setO 0 (.slice B0 xs.length d0)
  have ho5 := ho.setLow (b := w.heap.size + 2) (by omega) 0 (.slice B0 xs.length d0)
  generalize hW5 : w4.setCell ⟨w.heap.size + 2, 0, none⟩ (.slice B0 xs.length d0) = w5 at hm5 ho5
  have p1 : w5.cell? ⟨w.heap.size, 1, none⟩ = some (.slice A1 ys.length c1) := hm5.ca 1
  have HO5 := Lib.hid ho5
  have HM5 := Lib.hid hm5
  have H1 := Lib.hid (H1.out.keep hm5.b)
  clear ho hb hm p0 hm5 ho5 H0
  go_wp2_with fail
  clear hW5 q0 q1
  refine (toIntS_any _ ys _ H1.out hs1).mono ?_
  rintro e w6 ⟨u1, rfl, ho, hb⟩
  have hz5 := HM5.out.z
  have hm := HM5.out.below hb
  obtain ⟨B1, d1, rfl, -⟩ := ho.reads.form
  have q0 : w6.cell? ⟨w.heap.size + 2, 1, none⟩ = some (.slice none 0 0) := hm.co 1
  have q1 := hm.fo 1
  have ha1 := apart_later HO5.out ho
  have hm7 := hm.setO 1 (.slice B1 ys.length d1)
  have ho7 := ho.setLow (b := w.heap.size + 2) (by omega) 1 (.slice B1 ys.length d1)
  have hn7 := (HO5.out.keep hb).setLow (b := w.heap.size + 2) (by omega) 1 (.slice B1 ys.length d1)
  generalize hW7 : w6.setCell ⟨w.heap.size + 2, 1, none⟩ (.slice B1 ys.length d1) = w7 at hm7 ho7 hn7
  have p2 : w7.cell? ⟨w.heap.size, 2, none⟩ = some (.slice A2 zs.length c2) := hm7.ca 2
  have HO7 := Lib.hid ho7
  have HN7 := Lib.hid hn7
  have HA1 := Lib.hid ha1
  have HM7 := Lib.hid hm7
  have H2 := Lib.hid (H2.out.keep hm7.b)
  clear ho hb hm p1 hm7 ho7 hn7 ha1 H1 HO5
  go_wp2_with fail
  clear hW7 q0 q1
  refine (toIntS_any _ zs _ H2.out hs2).mono ?_
  rintro e w8 ⟨u2, rfl, ho, hb⟩
  have hz7 := HM7.out.z
  have hm := HM7.out.below hb
  obtain ⟨B2, d2, rfl, -⟩ := ho.reads.form
  have ha2 := apart_later HN7.out ho
  have ha3 := apart_later HO7.out ho
  have hm9 := (((hm.setO 2 (.slice B2 zs.length d2)).setR 0 (.slice B0 xs.length d0)).setR 1 (.slice B1 ys.length d1)).setR 2 (.slice B2 zs.length d2)
  have o0 := ((((HN7.out.keep hb).setLow (b := w.heap.size + 2) (by omega) 2 (.slice B2 zs.length d2)).setLow (b := w.heap.size + 1) (by omega) 0 (.slice B0 xs.length d0)).setLow (b := w.heap.size + 1) (by omega) 1 (.slice B1 ys.length d1)).setLow (b := w.heap.size + 1) (by omega) 2 (.slice B2 zs.length d2)
  have o1 := ((((HO7.out.keep hb).setLow (b := w.heap.size + 2) (by omega) 2 (.slice B2 zs.length d2)).setLow (b := w.heap.size + 1) (by omega) 0 (.slice B0 xs.length d0)).setLow (b := w.heap.size + 1) (by omega) 1 (.slice B1 ys.length d1)).setLow (b := w.heap.size + 1) (by omega) 2 (.slice B2 zs.length d2)
  have o2 := (((ho.setLow (b := w.heap.size + 2) (by omega) 2 (.slice B2 zs.length d2)).setLow (b := w.heap.size + 1) (by omega) 0 (.slice B0 xs.length d0)).setLow (b := w.heap.size + 1) (by omega) 1 (.slice B1 ys.length d1)).setLow (b := w.heap.size + 1) (by omega) 2 (.slice B2 zs.length d2)
  have HF := Lib.hid (And.intro o0 (And.intro o1 (And.intro o2 (And.intro HA1.out (And.intro ha2 ha3)))))
  have HM9 := Lib.hid hm9
  have q0 : w8.cell? ⟨w.heap.size + 2, 0, none⟩ = some (.slice B0 xs.length d0) := hm.co 0
  have q1 : w8.cell? ⟨w.heap.size + 2, 1, none⟩ = some (.slice B1 ys.length d1) := hm.co 1
  have q2 : w8.cell? ⟨w.heap.size + 2, 2, none⟩ = some (.slice none 0 0) := hm.co 2
  have q3 := hm.fo 2
  have q4 : w8.cell? ⟨w.heap.size + 1, 0, none⟩ = some (.slice none 0 0) := hm.cr 0
  have q5 : w8.cell? ⟨w.heap.size + 1, 1, none⟩ = some (.slice none 0 0) := hm.cr 1
  have q6 : w8.cell? ⟨w.heap.size + 1, 2, none⟩ = some (.slice none 0 0) := hm.cr 2
  have q7 := hm.fr 0
  have q8 := hm.fr 1
  have q9 := hm.fr 2
  clear ho hb hm hm9 o0 o1 o2 ha2 ha3 HO7 HN7 HA1 H2 p2
  go_wp2
  obtain ⟨o0, o1, o2, a1, a2, a3⟩ := HF.out
  have hm9 := HM9.out
  generalize (((w8.setCell ⟨w.heap.size + 2, 2, none⟩ (.slice B2 zs.length d2)).setCell ⟨w.heap.size + 1, 0, none⟩ (.slice B0 xs.length d0)).setCell ⟨w.heap.size + 1, 1, none⟩ (.slice B1 ys.length d1)).setCell ⟨w.heap.size + 1, 2, none⟩ (.slice B2 zs.length d2) = w9 at o0 o1 o2 hm9 ⊢
  have k0 : w9.cell? ⟨w.heap.size + 1, 0, none⟩ = some (.slice B0 xs.length d0) := hm9.cr 0
  have k1 : w9.cell? ⟨w.heap.size + 1, 1, none⟩ = some (.slice B1 ys.length d1) := hm9.cr 1
  have k2 : w9.cell? ⟨w.heap.size + 1, 2, none⟩ = some (.slice B2 zs.length d2) := hm9.cr 2
  clear q0 q1 q2 q3 q4 q5 q6 q7 q8 q9
  refine bodyPost_ret (v := .agg #[.slice B0 xs.length d0, .slice B1 ys.length d1, .slice B2 zs.length d2]) (by simp [results, Try.results43, go_sem, k0, k1, k2]) rfl ?_
  exact ⟨_, rfl, ⟨_, _, _, rfl, o0.base (by omega), o1.base (by omega), o2.base (by omega), a1, a2, a3⟩, hm9.b⟩

theorem eqEq_any (v v' : Value) (a b : MEq) (w : World) (h : REq w v a) (h' : REq w v' b) :
    Calls Try.prog 50 #[v, v'] w fun e w' => e = .returned (.bool (sameE a b)) ∧ Below w.heap.size w w' := by
  obtain ⟨x0, x1, x2, rfl, h0, h1, h2⟩ := h
  obtain ⟨y0, y1, y2, rfl, k0, k1, k2⟩ := h'
  have hb2 : Below w.heap.size w ((w.alloc (.cells #[x0, x1, x2] 41)).alloc (.cells #[y0, y1, y2] 41)) := (below_alloc _ _).alloc (by simp) _
  have HB := Lib.hid hb2
  have H0 := Lib.hid (h0.keep hb2)
  have H1 := Lib.hid (h1.keep hb2)
  have H2 := Lib.hid (h2.keep hb2)
  have K0 := Lib.hid (k0.keep hb2)
  have K1 := Lib.hid (k1.keep hb2)
  have K2 := Lib.hid (k2.keep hb2)
  obtain ⟨a0, a1, a2⟩ := a
  obtain ⟨b0, b1, b2⟩ := b
  simp only at h0 h1 h2 k0 k1 k2 H0 H1 H2 K0 K1 K2
  obtain ⟨A0, c0, rfl, -⟩ := h0.form
  obtain ⟨A1, c1, rfl, -⟩ := h1.form
  obtain ⟨A2, c2, rfl, -⟩ := h2.form
  obtain ⟨D0, d0, rfl, -⟩ := k0.form
  obtain ⟨D1, d1, rfl, -⟩ := k1.form
  obtain ⟨D2, d2, rfl, -⟩ := k2.form
  clear h0 h1 h2 k0 k1 k2 hb2
  have c0' := cell_keep (below_alloc (w.alloc (.cells #[.slice A0 a0.length c0, .slice A1 a1.length c1, .slice A2 a2.length c2] 41)) (.cells #[.slice D0 b0.length d0, .slice D1 b1.length d1, .slice D2 b2.length d2] 41)) (bx_at w #[.slice A0 a0.length c0, .slice A1 a1.length c1, .slice A2 a2.length c2] 41 (k := 0) rfl)
  have c1' := cell_keep (below_alloc (w.alloc (.cells #[.slice A0 a0.length c0, .slice A1 a1.length c1, .slice A2 a2.length c2] 41)) (.cells #[.slice D0 b0.length d0, .slice D1 b1.length d1, .slice D2 b2.length d2] 41)) (bx_at w #[.slice A0 a0.length c0, .slice A1 a1.length c1, .slice A2 a2.length c2] 41 (k := 1) rfl)
  have c2' := cell_keep (below_alloc (w.alloc (.cells #[.slice A0 a0.length c0, .slice A1 a1.length c1, .slice A2 a2.length c2] 41)) (.cells #[.slice D0 b0.length d0, .slice D1 b1.length d1, .slice D2 b2.length d2] 41)) (bx_at w #[.slice A0 a0.length c0, .slice A1 a1.length c1, .slice A2 a2.length c2] 41 (k := 2) rfl)
  have d0' := bx_at (w.alloc (.cells #[.slice A0 a0.length c0, .slice A1 a1.length c1, .slice A2 a2.length c2] 41)) #[.slice D0 b0.length d0, .slice D1 b1.length d1, .slice D2 b2.length d2] 41 (k := 0) rfl
  have d1' := bx_at (w.alloc (.cells #[.slice A0 a0.length c0, .slice A1 a1.length c1, .slice A2 a2.length c2] 41)) #[.slice D0 b0.length d0, .slice D1 b1.length d1, .slice D2 b2.length d2] 41 (k := 1) rfl
  have d2' := bx_at (w.alloc (.cells #[.slice A0 a0.length c0, .slice A1 a1.length c1, .slice A2 a2.length c2] 41)) #[.slice D0 b0.length d0, .slice D1 b1.length d1, .slice D2 b2.length d2] 41 (k := 2) rfl
  simp only [World.size_alloc] at d0' d1' d2'
  generalize hW : (w.alloc (.cells #[.slice A0 a0.length c0, .slice A1 a1.length c1, .slice A2 a2.length c2] 41)).alloc (.cells #[.slice D0 b0.length d0, .slice D1 b1.length d1, .slice D2 b2.length d2] 41) = W at HB H0 H1 H2 K0 K1 K2 c0' c1' c2' d0' d1' d2'
  have HE : Hid (sameE ⟨a0, a1, a2⟩ ⟨b0, b1, b2⟩ = ((sameI a0 b0 && sameI a1 b1) && sameI a2 b2)) := rfl
  cases x0 : sameI a0 b0 with
  | false =>
    rw [x0] at HE
    have X0 := Lib.hid x0
    clear x0
    go_enter Try.func50, Try.ntmps50
    go_wp2_with (go_at_call 51; refine (eqIntS_is _ _ _ _ _ _ X0.out H0.out K0.out).mono ?_; rintro e w1 ⟨rfl, hd⟩)
    go_ret
    exact ⟨ret_bool HE.out.symm, sz_keep HB.out hd.below⟩
  | true =>
    rw [x0] at HE
    have X0 := Lib.hid x0
    clear x0
    cases x1 : sameI a1 b1 with
    | false =>
      rw [x1] at HE
      have X1 := Lib.hid x1
      clear x1
      go_enter Try.func50, Try.ntmps50
      go_wp2_with fail
      clear hW
      refine (eqIntS_is _ _ _ _ _ _ X0.out H0.out K0.out).mono ?_
      rintro e w1 ⟨rfl, hd⟩
      have hb := hd.below
      have HB1 := Lib.hid (sz_keep HB.out hb)
      have m1 := cell_keep hb c1'
      have m2 := cell_keep hb d1'
      have H1' := Lib.hid (H1.out.keep hb)
      have K1' := Lib.hid (K1.out.keep hb)
      clear hd hb c0' c1' c2' d0' d1' d2' H0 H1 H2 K0 K1 K2
      go_wp2_with fail
      refine (eqIntS_is _ _ _ _ _ _ X1.out H1'.out K1'.out).mono ?_
      rintro e w2 ⟨rfl, hd⟩
      go_wp2
      go_ret
      exact ⟨ret_bool HE.out.symm, sz_keep HB1.out hd.below⟩
    | true =>
      rw [x1] at HE
      have X1 := Lib.hid x1
      clear x1
      cases x2 : sameI a2 b2 with
      | false =>
        rw [x2] at HE
        have X2 := Lib.hid x2
        clear x2
        go_enter Try.func50, Try.ntmps50
        go_wp2_with fail
        clear hW
        refine (eqIntS_is _ _ _ _ _ _ X0.out H0.out K0.out).mono ?_
        rintro e w1 ⟨rfl, hd⟩
        have hb := hd.below
        have HB1 := Lib.hid (sz_keep HB.out hb)
        have m1 := cell_keep hb c1'
        have m2 := cell_keep hb d1'
        have m3 := cell_keep hb c2'
        have m4 := cell_keep hb d2'
        have H1' := Lib.hid (H1.out.keep hb)
        have K1' := Lib.hid (K1.out.keep hb)
        have H2' := Lib.hid (H2.out.keep hb)
        have K2' := Lib.hid (K2.out.keep hb)
        clear hd hb c0' c1' c2' d0' d1' d2' H0 H1 H2 K0 K1 K2
        go_wp2_with fail
        refine (eqIntS_is _ _ _ _ _ _ X1.out H1'.out K1'.out).mono ?_
        rintro e w2 ⟨rfl, hd⟩
        have hb := hd.below
        have HB2 := Lib.hid (sz_keep HB1.out hb)
        have n3 := cell_keep hb m3
        have n4 := cell_keep hb m4
        have H2'' := Lib.hid (H2'.out.keep hb)
        have K2'' := Lib.hid (K2'.out.keep hb)
        clear hd hb m1 m2 m3 m4 H1' K1' H2' K2'
        go_wp2_with fail
        refine (eqIntS_is _ _ _ _ _ _ X2.out H2''.out K2''.out).mono ?_
        rintro e w3 ⟨rfl, hd⟩
        go_wp2
        go_ret
        exact ⟨ret_bool HE.out.symm, sz_keep HB2.out hd.below⟩
      | true =>
        rw [x2] at HE
        have X2 := Lib.hid x2
        clear x2
        go_enter Try.func50, Try.ntmps50
        go_wp2_with fail
        clear hW
        refine (eqIntS_is _ _ _ _ _ _ X0.out H0.out K0.out).mono ?_
        rintro e w1 ⟨rfl, hd⟩
        have hb := hd.below
        have HB1 := Lib.hid (sz_keep HB.out hb)
        have m1 := cell_keep hb c1'
        have m2 := cell_keep hb d1'
        have m3 := cell_keep hb c2'
        have m4 := cell_keep hb d2'
        have H1' := Lib.hid (H1.out.keep hb)
        have K1' := Lib.hid (K1.out.keep hb)
        have H2' := Lib.hid (H2.out.keep hb)
        have K2' := Lib.hid (K2.out.keep hb)
        clear hd hb c0' c1' c2' d0' d1' d2' H0 H1 H2 K0 K1 K2
        go_wp2_with fail
        refine (eqIntS_is _ _ _ _ _ _ X1.out H1'.out K1'.out).mono ?_
        rintro e w2 ⟨rfl, hd⟩
        have hb := hd.below
        have HB2 := Lib.hid (sz_keep HB1.out hb)
        have n3 := cell_keep hb m3
        have n4 := cell_keep hb m4
        have H2'' := Lib.hid (H2'.out.keep hb)
        have K2'' := Lib.hid (K2'.out.keep hb)
        clear hd hb m1 m2 m3 m4 H1' K1' H2' K2'
        go_wp2_with fail
        refine (eqIntS_is _ _ _ _ _ _ X2.out H2''.out K2''.out).mono ?_
        rintro e w3 ⟨rfl, hd⟩
        go_wp2
        go_ret
        exact ⟨ret_bool HE.out.symm, sz_keep HB2.out hd.below⟩
theorem eqEq_is (v v' : Value) (a b : MEq) (w : World) (r : Bool) (hr : sameE a b = r) (h : REq w v a) (h' : REq w v' b) :
    Calls Try.prog 50 #[v, v'] w fun e w' => e = .returned (.bool r) ∧ Below w.heap.size w w' := by
  subst hr; exact eqEq_any v v' a b w h h'
end
end Go.Proofs.Yticldaddbljleaa
