/- TheoryOk of both packages. -/
import Derived.Test.YteccjnnhihbdhaaEqOk
namespace Go.Proofs.Yteccjnnhihbdhaa
open Go.RowKit
set_option linter.unusedVariables false

theorem thyB_no1 {t : MThy} (h : validB t.over = false) : thyB t = false := by unfold thyB; rw [h]; rfl
theorem thyB_no2 {t : MThy} (h : 6 < (t.eqs.length : Int)) : thyB t = false := by
  unfold thyB
  rw [decide_eq_false (by omega)]; simp
theorem thyB_bad {t : MThy} {k : Nat} (hk : k < t.eqs.length) (h : eqOkB t.over t.eqs[k] = false) : thyB t = false := by
  unfold thyB; rw [all_bad hk h]; simp
theorem thyB_yes {t : MThy} (h1 : validB t.over = true) (h2 : (t.eqs.length : Int) ≤ 6) (h3 : (t.eqs.take t.eqs.length).all (eqOkB t.over) = true) : thyB t = true := by
  rw [take_all (Nat.le_refl _)] at h3
  unfold thyB
  rw [h1, h3, decide_eq_true (by omega)]; rfl

set_option maxHeartbeats 800000 in
set_option maxRecDepth 100000 in
theorem theoryOk_any (t : MThy) (w : World) (v : Value) (hsm : SmallT t) (h : RThy w v t) :
    Calls Try.prog 67 #[v] w fun x w' => x = .returned (.bool (thyB t)) ∧ Below w.heap.size w w' := by
  obtain ⟨Ata, cta, Atb, ctb, rfl⟩ := h.form
  have hb : Below w.heap.size w (w.alloc (.cells #[.int .i64 t.over.sorts, .slice Ata t.over.ops.length cta, .slice Atb t.eqs.length ctb] 65)) := below_alloc _ _
  have HB := Lib.hid hb
  have hsz : (w.alloc (.cells #[.int .i64 t.over.sorts, .slice Ata t.over.ops.length cta, .slice Atb t.eqs.length ctb] 65)).heap.size = w.heap.size + 1 := by simp
  have Ht := Lib.hid (h.keep hb)
  have t0 := bx_at (w) #[.int .i64 t.over.sorts, .slice Ata t.over.ops.length cta, .slice Atb t.eqs.length ctb] 65 (k := 0) rfl
  have t1 := bx_at (w) #[.int .i64 t.over.sorts, .slice Ata t.over.ops.length cta, .slice Atb t.eqs.length ctb] 65 (k := 1) rfl
  have t2 := bx_at (w) #[.int .i64 t.over.sorts, .slice Ata t.over.ops.length cta, .slice Atb t.eqs.length ctb] 65 (k := 2) rfl
  generalize hW : w.alloc (.cells #[.int .i64 t.over.sorts, .slice Ata t.over.ops.length cta, .slice Atb t.eqs.length ctb] 65) = W at HB hsz Ht t0 t1 t2
  clear hb h
  obtain ⟨-, r1, r2⟩ := Ht.out.of
  have R1 := Lib.hid (show RSig W (.agg #[.int .i64 t.over.sorts, .slice Ata t.over.ops.length cta]) t.over from ⟨_, rfl, r1⟩)
  have R2 := Lib.hid r2
  have HSM := Lib.hid hsm
  have hlen := r2.len
  clear r1 r2 hsm
  cases hv : validB t.over with
  | false =>
    have HV := Lib.hid hv
    have HE := Lib.hid (thyB_no1 hv)
    clear hv
    go_enter Try.func67, Try.ntmps67
    go_wp2_with fail
    clear hW
    refine (sigValid_any _ t.over _ R1.out).mono ?_
    rw [HV.out]
    rintro e w1 ⟨rfl, hb⟩
    go_wp2
    go_ret
    exact ⟨ret_bool HE.out.symm, fit_keep HB.out hb⟩
  | true =>
    have HV := Lib.hid hv
    clear hv
    by_cases h6 : 6 < (t.eqs.length : Int)
    · have HE := Lib.hid (thyB_no2 h6)
      go_enter Try.func67, Try.ntmps67
      go_wp2_with fail
      clear hW
      refine (sigValid_any _ t.over _ R1.out).mono ?_
      rw [HV.out]
      rintro e w1 ⟨rfl, hb⟩
      have m2 := cell_keep hb t2
      have HB1 := Lib.hid (fit_keep HB.out hb)
      clear hb t0 t1 t2
      go_wp2
      go_ret
      exact ⟨ret_bool HE.out.symm, HB1.out⟩
    · have h6' : (t.eqs.length : Int) ≤ 6 := by omega
      go_enter Try.func67, Try.ntmps67
      go_wp2_with fail
      clear hW
      refine (sigValid_any _ t.over _ R1.out).mono ?_
      rw [HV.out]
      rintro e w1 ⟨rfl, hb⟩
      have m0 := cell_keep hb t0
      have m1 := cell_keep hb t1
      have m2 := cell_keep hb t2
      have HB1 := Lib.hid (fit_keep HB.out hb)
      have HC := Lib.hid (And.intro m0 m1)
      have R1' := Lib.hid (R1.out.keep hb)
      have R2' := Lib.hid (R2.out.keep hb)
      have hs1 := hb.size
      clear hb t0 t1 t2 R1 R2
      go_wp2
      clear m0 m1 m2
      go_loopw [4, 18] (fun e4 i wr => ∃ k : Nat, k ≤ t.eqs.length ∧ i = .int .i64 k ∧ (t.eqs.take k).all (eqOkB t.over) = true ∧ Below w1.heap.size w1 wr) (fun _ i _ => t.eqs.length - (intOf i).toNat)
      case atStart => exact ⟨0, Nat.zero_le _, rfl, rfl, Below.refl _ _⟩
      case round =>
        obtain ⟨k, hk, rfl, hb0, hd⟩ := hrel
        have hb := Lib.hid hb0
        have HD := Lib.hid hd
        have hsd := hd.size
        clear hb0 hd
        by_cases hlt : k < t.eqs.length
        · obtain ⟨b, o, c3, x0, x1, x2, e, c00, c01, c02, q0, q1, q2⟩ := (R2'.out.keep HD.out).at_ hlt
          cases e
          have hlt' : (k : Int) < (t.eqs.length : Int) := by omega
          have HT := Lib.hid (all_take (p := eqOkB t.over) hlt)
          have HN := Lib.hid (fun h => thyB_bad hlt h)
          have HSE := Lib.hid (HSM.out _ (List.getElem_mem hlt))
          generalize t.eqs[k] = e at q0 q1 q2 HT HN HSE
          have HX := Lib.hid (show REq wr (.agg #[x0, x1, x2]) e from ⟨x0, x1, x2, rfl, q0, q1, q2⟩)
          obtain ⟨A0, g0, rfl, -⟩ := q0.form
          obtain ⟨A1, g1, rfl, -⟩ := q1.form
          obtain ⟨A2, g2, rfl, -⟩ := q2.form
          have hba := below_alloc wr (.cells #[.slice A0 e.vars.length g0, .slice A1 e.left.length g1, .slice A2 e.right.length g2] 49)
          have n0 := bx_at wr #[.slice A0 e.vars.length g0, .slice A1 e.left.length g1, .slice A2 e.right.length g2] 49 (k := 0) rfl
          have n1 := bx_at wr #[.slice A0 e.vars.length g0, .slice A1 e.left.length g1, .slice A2 e.right.length g2] 49 (k := 1) rfl
          have n2 := bx_at wr #[.slice A0 e.vars.length g0, .slice A1 e.left.length g1, .slice A2 e.right.length g2] 49 (k := 2) rfl
          have m0 := cell_keep hba (cell_keep HD.out HC.out.1)
          have m1 := cell_keep hba (cell_keep HD.out HC.out.2)
          have HX' := Lib.hid (HX.out.keep hba)
          have HS' := Lib.hid ((R1'.out.keep HD.out).keep hba)
          have HDA := Lib.hid (fit_keep HD.out hba)
          generalize hW2 : wr.alloc (.cells #[.slice A0 e.vars.length g0, .slice A1 e.left.length g1, .slice A2 e.right.length g2] 49) = W2 at n0 n1 n2 m0 m1 HX' HS' HDA
          obtain ⟨r, hr⟩ : ∃ r, eqOkB t.over e = r := ⟨_, rfl⟩
          have HR := Lib.hid hr
          clear q0 q1 q2 hba hr
          go_wp2_with fail
          clear hW2
          refine (eqOk_any t.over e _ _ _ HSE.out HS'.out HX'.out).mono ?_
          rw [HR.out]
          rintro x w3 ⟨rfl, hb3⟩
          have HB3 := Lib.hid (fit_keep HDA.out hb3)
          clear hb3 n0 n1 n2 m0 m1 c00 c01 c02
          cases r with
          | true =>
            go_wp2
            go_roundw
            case rel => exact ⟨k + 1, by omega, by go_num, by rw [HT.out, hb.out, HR.out]; rfl, HB3.out⟩
            case measure => simp [intOf]; omega
          | false =>
            go_wp2
            go_ret
            exact ⟨ret_bool (HN.out HR.out).symm, fit_keep HB1.out HB3.out⟩
        · have hkn : k = t.eqs.length := by omega
          subst hkn
          have hlt' : ¬ (t.eqs.length : Int) < (t.eqs.length : Int) := by omega
          go_wp2
          go_ret
          exact ⟨ret_bool (thyB_yes HV.out h6' hb.out).symm, fit_keep HB1.out HD.out⟩

set_option maxHeartbeats 800000 in
set_option maxRecDepth 100000 in
theorem specTheoryOk_any (t : MThy) (w : World) (v : Value) (h : RThy w v t) :
    Calls Try.prog 65 #[v] w fun x w' => x = .returned (.bool (thyB t)) ∧ Below w.heap.size w w' := by
  obtain ⟨Ata, cta, Atb, ctb, rfl⟩ := h.form
  have hb : Below w.heap.size w (w.alloc (.cells #[.int .i64 t.over.sorts, .slice Ata t.over.ops.length cta, .slice Atb t.eqs.length ctb] 65)) := below_alloc _ _
  have HB := Lib.hid hb
  have hsz : (w.alloc (.cells #[.int .i64 t.over.sorts, .slice Ata t.over.ops.length cta, .slice Atb t.eqs.length ctb] 65)).heap.size = w.heap.size + 1 := by simp
  have Ht := Lib.hid (h.keep hb)
  have t0 := bx_at (w) #[.int .i64 t.over.sorts, .slice Ata t.over.ops.length cta, .slice Atb t.eqs.length ctb] 65 (k := 0) rfl
  have t1 := bx_at (w) #[.int .i64 t.over.sorts, .slice Ata t.over.ops.length cta, .slice Atb t.eqs.length ctb] 65 (k := 1) rfl
  have t2 := bx_at (w) #[.int .i64 t.over.sorts, .slice Ata t.over.ops.length cta, .slice Atb t.eqs.length ctb] 65 (k := 2) rfl
  generalize hW : w.alloc (.cells #[.int .i64 t.over.sorts, .slice Ata t.over.ops.length cta, .slice Atb t.eqs.length ctb] 65) = W at HB hsz Ht t0 t1 t2
  clear hb h
  obtain ⟨-, r1, r2⟩ := Ht.out.of
  have R1 := Lib.hid (show RSig W (.agg #[.int .i64 t.over.sorts, .slice Ata t.over.ops.length cta]) t.over from ⟨_, rfl, r1⟩)
  have R2 := Lib.hid r2
  have hlen := r2.len
  have HC := Lib.hid (And.intro t0 (And.intro t1 t2))
  clear r1 r2 t0 t1 t2
  go_enter Try.func65, Try.ntmps65
  go_wp2
  clear hW
  go_loopw [3] (fun i wr => ∃ k : Nat, k ≤ t.eqs.length ∧ i = .int .i64 k ∧ (t.eqs.take k).all (eqOkB t.over) = true ∧ Below W.heap.size W wr) (fun i _ => t.eqs.length - (intOf i).toNat)
  case atStart => exact ⟨0, Nat.zero_le _, rfl, rfl, Below.refl _ _⟩
  case round =>
    obtain ⟨k, hk, rfl, hb0, hd⟩ := hrel
    have hb := Lib.hid hb0
    have HD := Lib.hid hd
    have hsd := hd.size
    have m0 := cell_keep hd HC.out.1
    have m1 := cell_keep hd HC.out.2.1
    have m2 := cell_keep hd HC.out.2.2
    clear hb0 hd
    by_cases hlt : k < t.eqs.length
    · obtain ⟨b, o, c3, x0, x1, x2, e, c00, c01, c02, q0, q1, q2⟩ := (R2.out.keep HD.out).at_ hlt
      cases e
      have hlt' : (k : Int) < (t.eqs.length : Int) := by omega
      have HT := Lib.hid (all_take (p := eqOkB t.over) hlt)
      have HN := Lib.hid (fun h => thyB_bad hlt h)
      generalize t.eqs[k] = e at q0 q1 q2 HT HN
      have HX := Lib.hid (show REq wr (.agg #[x0, x1, x2]) e from ⟨x0, x1, x2, rfl, q0, q1, q2⟩)
      obtain ⟨A0, g0, rfl, -⟩ := q0.form
      obtain ⟨A1, g1, rfl, -⟩ := q1.form
      obtain ⟨A2, g2, rfl, -⟩ := q2.form
      obtain ⟨r, hr⟩ : ∃ r, eqOkB t.over e = r := ⟨_, rfl⟩
      have HR := Lib.hid hr
      clear q0 q1 q2 hr
      have ea := World.new_ne wr _ m0
      have eb := World.new_ne wr _ c00
      go_wp2_with fail
      go_region_held3 (fun w' => w'.cell? ⟨w.heap.size, 0, none⟩ = some (.int .i64 t.over.sorts) ∧ w'.cell? ⟨w.heap.size, 1, none⟩ = some (.slice Ata t.over.ops.length cta) ∧ w'.cell? ⟨w.heap.size, 2, none⟩ = some (.slice (some ⟨b, o, none⟩) t.eqs.length ctb) ∧ w'.cell? ⟨b, o + k * 3, none⟩ = some (.slice A0 e.vars.length g0) ∧ w'.cell? ⟨b, o + k * 3 + 1, none⟩ = some (.slice A1 e.left.length g1) ∧ w'.cell? ⟨b, o + k * 3 + 2, none⟩ = some (.slice A2 e.right.length g2)) (first | go_keep)
        (first
          | (go_at_call 56; refine (specEqOk_any t.over e wr.drew _ _ (R1.out.keep (bel_drew HD.out)) (HX.out.keep (bel_drew (Below.refl _ _)))).mono ?_; rw [HR.out]; rintro e w2 ⟨rfl, hb2⟩; have HB2 := Lib.hid (show Below wr.heap.size wr w2 from bel_undrew hb2); have j0 := cell_keep HB2.out m0; have j1 := cell_keep HB2.out m1; have j2 := cell_keep HB2.out m2; have j3 := cell_keep HB2.out c00; have j4 := cell_keep HB2.out c01; have j5 := cell_keep HB2.out c02; clear hb2))
      have HBN := Lib.hid (fit_keep HD.out HB2.out)
      clear m0 m1 m2 c00 c01 c02 j0 j1 j2 j3 j4 j5 ea eb
      cases r with
      | true =>
        go_wp2
        go_roundw
        case rel => exact ⟨k + 1, by omega, by go_num, by rw [HT.out, hb.out, HR.out]; rfl, HBN.out⟩
        case measure => simp [intOf]; omega
      | false =>
        go_wp2
        go_ret
        exact ⟨ret_bool (HN.out HR.out).symm, fit_keep HB.out HBN.out⟩
    · have hkn : k = t.eqs.length := by omega
      subst hkn
      have hlt' : ¬ (t.eqs.length : Int) < (t.eqs.length : Int) := by omega
      cases hv : validB t.over with
      | false =>
        have HV := Lib.hid hv
        have HE := Lib.hid (thyB_no1 hv)
        clear hv
        go_wp2_with fail
        refine (specSigValid_any _ t.over _ (R1.out.keep HD.out)).mono ?_
        rw [HV.out]
        rintro e w1 ⟨rfl, hb1⟩
        have HB1 := Lib.hid (fit_keep HD.out hb1)
        clear hb1 m0 m1 m2
        go_wp2
        go_ret
        exact ⟨ret_bool HE.out.symm, fit_keep HB.out HB1.out⟩
      | true =>
        have HV := Lib.hid hv
        clear hv
        go_wp2_with fail
        refine (specSigValid_any _ t.over _ (R1.out.keep HD.out)).mono ?_
        rw [HV.out]
        rintro e w1 ⟨rfl, hb1⟩
        have HB1 := Lib.hid (fit_keep HD.out hb1)
        have n2 := cell_keep hb1 m2
        clear hb1 m0 m1 m2
        by_cases h6 : (t.eqs.length : Int) ≤ 6
        · have HE := Lib.hid (thyB_yes HV.out h6 hb.out)
          go_wp2
          go_ret
          exact ⟨ret_bool HE.out.symm, fit_keep HB.out HB1.out⟩
        · have HE := Lib.hid (thyB_no2 (t := t) (by omega))
          have h6' : 6 < (t.eqs.length : Int) := by omega
          go_wp2
          go_ret
          exact ⟨ret_bool (by rw [HE.out]; simp; omega), fit_keep HB.out HB1.out⟩
end Go.Proofs.Yteccjnnhihbdhaa
