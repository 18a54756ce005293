/- TermsFit of both packages. -/
import Derived.Test.YtonainidjkcoeacSort
import Derived.Deep.RegionHeld3
import Derived.Deep.RegionLaw
namespace Go.Proofs.Ytonainidjkcoeac
open Go.RowKit
set_option linter.unusedVariables false

def fitP (s : MSig) (vars : List Int) (q : List Int × Int) : Bool := decide (0 ≤ q.2) && decide (sortM s vars q.1 = q.2)
theorem fitsB_eq (s : MSig) (vars : List Int) (terms : List (List Int)) (sorts : List Int) : fitsB s vars terms sorts = (varsB s vars && (decide (terms.length = sorts.length) && (terms.zip sorts).all (fitP s vars))) := rfl
theorem bel_drew {a w : World} {B : Nat} (h : Below B a w) : Below B a w.drew := ⟨h.os, h.tape, h.output, h.size, h.block⟩
theorem bel_undrew {B : Nat} {w w' : World} (h : Below B w.drew w') : Below B w w' := ⟨h.os, h.tape, h.output, h.size, h.block⟩

/-- of two worlds behind one the later one keeps what the earlier one had -/
theorem fit_keep {w w1 w2 : World} (h : Below w.heap.size w w1) (k : Below w1.heap.size w1 w2) : Below w.heap.size w w2 := h.trans (k.mono h.size)

set_option maxHeartbeats 800000 in
set_option maxRecDepth 100000 in
theorem termsFit_any (s : MSig) (vars : List Int) (terms : List (List Int)) (srts : List Int) (w : World) (v vv tv sv : Value) (hsm : ∀ t ∈ terms, Small t) (h1 : RSig w v s) (h2 : RInts w vv vars) (h3 : RRows w tv terms) (h4 : RInts w sv srts) :
    Calls Try.prog 63 #[v, vv, tv, sv] w fun e w' => e = .returned (.bool (fitsB s vars terms srts)) ∧ Below w.heap.size w w' := by
  obtain ⟨u, rfl, hrr⟩ := h1
  obtain ⟨sorts, ops⟩ := s
  obtain ⟨A, c, rfl, -⟩ := hrr.form
  have hb1 := below_alloc w (.cells #[.int .i64 sorts, .slice A ops.length c] 44)
  have hbx := Lib.hid (box_cells w (.int .i64 sorts) (.slice A ops.length c) 44)
  have HS := Lib.hid (show RSig (w.alloc (.cells #[.int .i64 sorts, .slice A ops.length c] 44)) (.agg #[.int .i64 sorts, .slice A ops.length c]) ⟨sorts, ops⟩ from ⟨_, rfl, hrr.keep hb1⟩)
  have HV2 := Lib.hid (h2.keep hb1)
  have HV3 := Lib.hid (h3.keep hb1)
  have HV4 := Lib.hid (h4.keep hb1)
  have hl3 := h3.len
  have hl4 := h4.len
  obtain ⟨A2, c2, rfl, -⟩ := h2.form
  obtain ⟨A3, c3, rfl, -⟩ := h3.form
  obtain ⟨A4, c4, rfl, -⟩ := h4.form
  have HB1 := Lib.hid hb1
  have HSM := Lib.hid hsm
  have HE := Lib.hid (fitsB_eq ⟨sorts, ops⟩ vars terms srts)
  clear hrr h2 h3 h4 hb1 hsm
  cases hv : varsB ⟨sorts, ops⟩ vars with
  | false =>
    have HV := Lib.hid hv
    clear hv
    go_enter Try.func63, Try.ntmps63
    go_wp2_with (go_at_call 99; refine (varsOk_any _ _ ⟨sorts, ops⟩ vars _ HS.out HV2.out).mono ?_; rw [HV.out]; rintro e w1 ⟨rfl, hb⟩)
    go_ret
    exact ⟨ret_bool (by rw [HE.out, HV.out]; rfl), HB1.out.trans (hb.mono (by simp))⟩
  | true =>
    by_cases hll : (terms.length : Int) = (srts.length : Int)
    · have HLL := Lib.hid hll
      have HV := Lib.hid hv
      clear hv
      go_enter Try.func63, Try.ntmps63
      go_wp2_with (go_at_call 99; refine (varsOk_any _ _ ⟨sorts, ops⟩ vars _ HS.out HV2.out).mono ?_; rw [HV.out]; rintro e w1 ⟨rfl, hb⟩; have HB := Lib.hid hb; clear hb)
      go_loopw [9, 10, 11, 12, 26] (fun q9 q10 q11 q12 i wr => ∃ k : Nat, k ≤ terms.length ∧ i = .int .i64 k ∧ ((terms.zip srts).take k).all (fitP ⟨sorts, ops⟩ vars) = true ∧ Below (w.alloc (.cells #[.int .i64 sorts, .slice A ops.length c] 44)).heap.size (w.alloc (.cells #[.int .i64 sorts, .slice A ops.length c] 44)) wr) (fun _ _ _ _ i _ => terms.length - (intOf i).toNat)
      case atStart => exact ⟨0, Nat.zero_le _, rfl, rfl, HB.out⟩
      case round =>
        obtain ⟨k, hk, rfl, hall, hbw⟩ := hrel
        have g0 := cell_keep hbw hbx.out.1
        have g1 := cell_keep hbw hbx.out.2
        have HBW := Lib.hid hbw
        have HALL := Lib.hid hall
        clear hbw hall
        by_cases hlt : k < terms.length
        · have hls : k < srts.length := by have := HLL.out; omega
          have hlt' : (k : Int) < (terms.length : Int) := by omega
          have hls' : (k : Int) < (srts.length : Int) := by omega
          have hz : k < (terms.zip srts).length := by rw [List.length_zip]; omega
          obtain ⟨b3, o3, c3', u3, e, hcell, hri⟩ := (HV3.out.keep HBW.out).at_ hlt
          cases e
          obtain ⟨b4, o4, c4', e, hx⟩ := (HV4.out.keep HBW.out).at_ hls
          cases e
          have HST := Lib.hid (HSM.out _ (List.getElem_mem hlt))
          have HTK := Lib.hid (all_take (p := fitP ⟨sorts, ops⟩ vars) hz)
          have HBAD := Lib.hid (all_bad (p := fitP ⟨sorts, ops⟩ vars) hz)
          rw [List.getElem_zip] at HTK HBAD
          generalize terms[k] = t at hcell hri HST HTK HBAD
          generalize srts[k] = x at hx HTK HBAD
          have HRI := Lib.hid hri
          obtain ⟨A5, c5, rfl, -⟩ := hri.form
          clear hri hz
          go_wp2_with fail
          refine (termOf_any ⟨sorts, ops⟩ vars t _ _ _ _ HST.out (HS.out.keep HBW.out) (HV2.out.keep HBW.out) HRI.out).mono ?_
          rintro e w2 ⟨hm, hb⟩
          have HB2 := Lib.hid hb
          have hx2 := cell_keep hb hx
          clear hb g0 g1 hcell hx
          cases ht : termM ⟨sorts, ops⟩ vars t with
          | none =>
            rw [ht] at hm
            simp only at hm
            subst hm
            have HT := Lib.hid (sortM_none ht)
            clear ht
            go_wp2_with fail
            go_quiet (fail)
            go_wp2
            go_ret
            refine ⟨ret_bool ?_, below_drewN (HB1.out.trans ((fit_keep HBW.out HB2.out).mono (by simp))) _⟩
            rw [HE.out, HBAD.out (by unfold fitP; rw [HT.out]; simp; omega)]; simp
          | some tm =>
            rw [ht] at hm
            simp only at hm
            obtain ⟨u, rfl, hu⟩ := hm
            obtain ⟨T, y, fid, rfl, hms, hcf, hsc⟩ := hu.sorts
            have HT := Lib.hid (sortM_some ht)
            have HTM := Lib.hid (sort_ok HV.out (termM_to ht).2.2.1).1
            have HSC := Lib.hid hsc
            clear ht hu hsc
            go_wp2_with fail
            have ea := World.new_ne w2 _ hx2
            go_region_held3 (fun w' => w'.cell? ⟨b4, o4 + k, none⟩ = some (.int .i64 x)) (first | go_keep)
              (first
                | (with_reducible (show Calls _ _ _ _ _); refine (HSC.out w2.drew).mono ?_; rintro e w3 ⟨rfl, hb3⟩; have HB3 := Lib.hid (bel_undrew hb3); have hx3 := cell_keep HB3.out hx2; clear hb3))
            clear hms hcf HSC ea hx2 hx3
            have HBN := Lib.hid (HBW.out.trans ((HB2.out.trans (HB3.out.mono HB2.out.size)).mono HBW.out.size))
            generalize hq : tm.sort = q at HT HTM ⊢
            clear hq
            by_cases hqx : q = x
            · subst hqx
              go_wp2
              go_roundw
              case rel =>
                refine ⟨k + 1, by omega, by go_num, ?_, ?_⟩
                · rw [HTK.out, HALL.out]; unfold fitP; rw [HT.out]; simp; exact HTM.out
                · exact HBN.out
              case measure => simp [intOf]; omega
            · have hqb : (q != x) = true := by simpa using hqx
              go_wp2
              go_ret
              refine ⟨ret_bool ?_, HB1.out.trans (HBN.out.mono (by simp))⟩
              rw [HE.out, HBAD.out (by unfold fitP; rw [HT.out]; simp [hqx])]; simp
        · have hkn : ¬ (k : Int) < (terms.length : Int) := by omega
          go_wp2
          go_ret
          refine ⟨ret_bool ?_, HB1.out.trans (HBW.out.mono (by simp))⟩
          have h := HALL.out
          rw [take_all (by rw [List.length_zip]; omega)] at h
          rw [HE.out, h, HV.out]; have := HLL.out; simp; omega
    · have HV := Lib.hid hv
      clear hv
      go_enter Try.func63, Try.ntmps63
      go_wp2_with (go_at_call 99; refine (varsOk_any _ _ ⟨sorts, ops⟩ vars _ HS.out HV2.out).mono ?_; rw [HV.out]; rintro e w1 ⟨rfl, hb⟩)
      go_ret
      exact ⟨ret_bool (by rw [HE.out, HV.out]; simp; omega), HB1.out.trans (hb.mono (by simp))⟩

set_option maxHeartbeats 800000 in
set_option maxRecDepth 100000 in
theorem specTermsFit_any (s : MSig) (vars : List Int) (terms : List (List Int)) (srts : List Int) (w : World) (v vv tv sv : Value) (hsm : ∀ t ∈ terms, Small t) (h1 : RSig w v s) (h2 : RInts w vv vars) (h3 : RRows w tv terms) (h4 : RInts w sv srts) :
    Calls Try.prog 57 #[v, vv, tv, sv] w fun e w' => e = .returned (.bool (fitsB s vars terms srts)) ∧ Below w.heap.size w w' := by
  obtain ⟨u, rfl, hrr⟩ := h1
  obtain ⟨sorts, ops⟩ := s
  obtain ⟨A, c, rfl, -⟩ := hrr.form
  have hb1 := below_alloc w (.cells #[.int .i64 sorts, .slice A ops.length c] 44)
  have hbx := Lib.hid (box_cells w (.int .i64 sorts) (.slice A ops.length c) 44)
  have HS := Lib.hid (show RSig (w.alloc (.cells #[.int .i64 sorts, .slice A ops.length c] 44)) (.agg #[.int .i64 sorts, .slice A ops.length c]) ⟨sorts, ops⟩ from ⟨_, rfl, hrr.keep hb1⟩)
  have HV2 := Lib.hid (h2.keep hb1)
  have HV3 := Lib.hid (h3.keep hb1)
  have HV4 := Lib.hid (h4.keep hb1)
  have hl3 := h3.len
  have hl4 := h4.len
  obtain ⟨A2, c2, rfl, -⟩ := h2.form
  obtain ⟨A3, c3, rfl, -⟩ := h3.form
  obtain ⟨A4, c4, rfl, -⟩ := h4.form
  have HB1 := Lib.hid hb1
  have HSM := Lib.hid hsm
  have HE := Lib.hid (fitsB_eq ⟨sorts, ops⟩ vars terms srts)
  clear hrr h2 h3 h4 hb1 hsm
  go_enter Try.func57, Try.ntmps57
  go_wp2
  go_loopw [9] (fun i wr => ∃ k : Nat, k ≤ terms.length ∧ k ≤ srts.length ∧ i = .int .i64 k ∧ ((terms.zip srts).take k).all (fitP ⟨sorts, ops⟩ vars) = true ∧ Below (w.alloc (.cells #[.int .i64 sorts, .slice A ops.length c] 44)).heap.size (w.alloc (.cells #[.int .i64 sorts, .slice A ops.length c] 44)) wr) (fun i _ => terms.length - (intOf i).toNat)
  case atStart => exact ⟨0, Nat.zero_le _, Nat.zero_le _, rfl, rfl, Below.refl _ _⟩
  case round =>
    obtain ⟨k, hk, hk2, rfl, hall, hbw⟩ := hrel
    have g0 := cell_keep hbw hbx.out.1
    have g1 := cell_keep hbw hbx.out.2
    have HBW := Lib.hid hbw
    have HALL := Lib.hid hall
    clear hbw hall
    by_cases hlt : k < terms.length
    · by_cases hls : k < srts.length
      · have hlt' : (k : Int) < (terms.length : Int) := by omega
        have hls' : (k : Int) < (srts.length : Int) := by omega
        have hk0 : (0 : Int) ≤ (k : Int) := by omega
        have hz : k < (terms.zip srts).length := by rw [List.length_zip]; omega
        obtain ⟨b3, o3, c3', u3, e, hcell, hri⟩ := (HV3.out.keep HBW.out).at_ hlt
        cases e
        obtain ⟨b4, o4, c4', e, hx⟩ := (HV4.out.keep HBW.out).at_ hls
        cases e
        have HST := Lib.hid (HSM.out _ (List.getElem_mem hlt))
        have HTK := Lib.hid (all_take (p := fitP ⟨sorts, ops⟩ vars) hz)
        have HBAD := Lib.hid (all_bad (p := fitP ⟨sorts, ops⟩ vars) hz)
        rw [List.getElem_zip] at HTK HBAD
        generalize terms[k] = t at hcell hri HST HTK HBAD
        generalize srts[k] = x at hx HTK HBAD
        have HRI := Lib.hid hri
        obtain ⟨A5, c5, rfl, -⟩ := hri.form
        clear hri hz
        obtain ⟨q, hq⟩ : ∃ q, sortM ⟨sorts, ops⟩ vars t = q := ⟨_, rfl⟩
        have HQ := Lib.hid hq
        clear hq
        by_cases hqx : q = x
        · subst hqx
          have hqb : (q != q) = false := by simp
          by_cases hq0 : q < 0
          · go_wp2_with fail
            have ea := World.new_ne wr _ g0
            have eb := World.new_ne wr _ hcell
            have ec := World.new_ne wr _ hx
            go_region_held3 (fun w' => w'.cell? ⟨w.heap.size, 0, none⟩ = some (.int .i64 sorts) ∧ w'.cell? ⟨w.heap.size, 1, none⟩ = some (.slice A ops.length c) ∧ w'.cell? ⟨b3, o3 + k, none⟩ = some (.slice A5 t.length c5) ∧ w'.cell? ⟨b4, o4 + k, none⟩ = some (.int .i64 q)) (first | go_keep)
              (first
                | (go_at_call 92; refine (specTermSort_any ⟨sorts, ops⟩ vars t wr.drew _ _ _ (HS.out.keep (bel_drew HBW.out)) (HV2.out.keep (bel_drew HBW.out)) HRI.out).mono ?_; rw [HQ.out]; rintro e w2 ⟨rfl, hb2⟩; have HB2 := Lib.hid (bel_undrew hb2); have j0 := cell_keep HB2.out g0; have j1 := cell_keep HB2.out g1; have j2 := cell_keep HB2.out hcell; have j3 := cell_keep HB2.out hx; clear hb2))
            clear g0 g1 hcell hx ea eb ec j0 j1 j2 j3
            have HBN := Lib.hid (fit_keep HBW.out HB2.out)
            go_wp2
            go_ret
            refine ⟨ret_bool ?_, HB1.out.trans (HBN.out.mono (by simp))⟩
            rw [HE.out, HBAD.out (by unfold fitP; simp; omega)]; simp
          · go_wp2_with fail
            have ea := World.new_ne wr _ g0
            have eb := World.new_ne wr _ hcell
            have ec := World.new_ne wr _ hx
            go_region_held3 (fun w' => w'.cell? ⟨w.heap.size, 0, none⟩ = some (.int .i64 sorts) ∧ w'.cell? ⟨w.heap.size, 1, none⟩ = some (.slice A ops.length c) ∧ w'.cell? ⟨b3, o3 + k, none⟩ = some (.slice A5 t.length c5) ∧ w'.cell? ⟨b4, o4 + k, none⟩ = some (.int .i64 q)) (first | go_keep)
              (first
                | (go_at_call 92; refine (specTermSort_any ⟨sorts, ops⟩ vars t wr.drew _ _ _ (HS.out.keep (bel_drew HBW.out)) (HV2.out.keep (bel_drew HBW.out)) HRI.out).mono ?_; rw [HQ.out]; rintro e w2 ⟨rfl, hb2⟩; have HB2 := Lib.hid (bel_undrew hb2); have j0 := cell_keep HB2.out g0; have j1 := cell_keep HB2.out g1; have j2 := cell_keep HB2.out hcell; have j3 := cell_keep HB2.out hx; clear hb2))
            clear g0 g1 hcell hx ea eb ec j0 j1 j2 j3
            have HBN := Lib.hid (fit_keep HBW.out HB2.out)
            go_wp2
            go_roundw
            case rel =>
              refine ⟨k + 1, by omega, by omega, by go_num, ?_, HBN.out⟩
              rw [HTK.out, HALL.out]; unfold fitP; rw [HQ.out]; simp; omega
            case measure => simp [intOf]; omega
        · have hqb : (q != x) = true := by simpa using hqx
          go_wp2_with fail
          have ea := World.new_ne wr _ g0
          have eb := World.new_ne wr _ hcell
          have ec := World.new_ne wr _ hx
          first
            | (go_region_law (first
                | (go_simp; go_at_call 92; refine (specTermSort_any ⟨sorts, ops⟩ vars t wr.drew _ _ _ (HS.out.keep (bel_drew HBW.out)) (HV2.out.keep (bel_drew HBW.out)) HRI.out).mono ?_; rw [HQ.out]; rintro e w2 ⟨rfl, hb2⟩; have HB2 := Lib.hid (bel_undrew hb2); have j0 := cell_keep HB2.out g0; have j1 := cell_keep HB2.out g1; have j2 := cell_keep HB2.out hcell; have j3 := cell_keep HB2.out hx; clear hb2)))
            | fail "stuck"
          all_goals
           clear g0 g1 hcell hx ea eb ec j0 j1 j2 j3
           have HBN := Lib.hid (fit_keep HBW.out HB2.out)
           go_wp2
           go_ret
           refine ⟨ret_bool ?_, HB1.out.trans (HBN.out.mono (by simp))⟩
           rw [HE.out, HBAD.out (by unfold fitP; rw [HQ.out]; simp [hqx])]; simp
      · have hls' : ¬ (k : Int) < (srts.length : Int) := by omega
        have hne : terms.length ≠ srts.length := by omega
        have HNE := Lib.hid hne
        clear hne
        have hneb : ((terms.length : Int) == (srts.length : Int)) = false := by rw [beq_eq_false_iff_ne]; have := HNE.out; omega
        have hlt' : (k : Int) < (terms.length : Int) := by omega
        go_wp2_with fail
        refine (specVarsOk_any _ _ ⟨sorts, ops⟩ vars _ (HS.out.keep HBW.out) (HV2.out.keep HBW.out)).mono ?_
        rintro e w1 ⟨rfl, hb⟩
        have HBF := Lib.hid (HB1.out.trans ((fit_keep HBW.out hb).mono (by simp)))
        have HF : Hid (fitsB ⟨sorts, ops⟩ vars terms srts = false) := by unfold Hid; rw [HE.out, decide_eq_false HNE.out]; simp
        clear hb g0 g1
        cases hv : varsB ⟨sorts, ops⟩ vars with
        | false =>
          clear hv
          go_wp2
          go_ret
          exact ⟨ret_bool HF.out.symm, HBF.out⟩
        | true =>
          clear hv
          go_wp2
          go_ret
          exact ⟨ret_bool HF.out.symm, HBF.out⟩
    · have hlt' : ¬ (k : Int) < (terms.length : Int) := by omega
      go_wp2_with fail
      refine (specVarsOk_any _ _ ⟨sorts, ops⟩ vars _ (HS.out.keep HBW.out) (HV2.out.keep HBW.out)).mono ?_
      rintro e w1 ⟨rfl, hb⟩
      have HBF := Lib.hid (HB1.out.trans ((fit_keep HBW.out hb).mono (by simp)))
      clear hb g0 g1
      cases hv : varsB ⟨sorts, ops⟩ vars with
      | false =>
        have HF : Hid (fitsB ⟨sorts, ops⟩ vars terms srts = false) := by unfold Hid; rw [HE.out, hv]; simp
        clear hv
        go_wp2
        go_ret
        exact ⟨ret_bool HF.out.symm, HBF.out⟩
      | true =>
        have HF : Hid (fitsB ⟨sorts, ops⟩ vars terms srts = decide ((terms.length : Int) = (srts.length : Int))) := by
          unfold Hid
          have h := HALL.out
          rw [HE.out, hv]
          by_cases hll : terms.length = srts.length
          · rw [take_all (by rw [List.length_zip]; omega)] at h
            rw [h, decide_eq_true hll, decide_eq_true (by omega)]; rfl
          · rw [decide_eq_false hll, decide_eq_false (by omega)]; rfl
        clear hv
        go_wp2
        go_ret
        refine ⟨ret_bool ?_, HBF.out⟩
        rw [HF.out]; first | rfl | simp
end Go.Proofs.Ytonainidjkcoeac
