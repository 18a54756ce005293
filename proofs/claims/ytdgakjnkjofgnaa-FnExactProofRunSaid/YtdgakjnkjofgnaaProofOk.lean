/- Proofs: ProofRun and ProofOk of both packages. -/
import Derived.Test.YtdgakjnkjofgnaaStepDo
import Derived.Test.YtdgakjnkjofgnaaSteps
import Derived.Test.YtdgakjnkjofgnaaApp
import Derived.Test.YtdgakjnkjofgnaaTakes2
namespace Go.Proofs.Ytdgakjnkjofgnaa
open Go.RowKit
set_option linter.unusedVariables false
set_option linter.unusedSimpArgs false

def runL (t : MThy) (vars : List Int) : List Int → List MStep → List Int × Bool
  | now, [] => (now, true)
  | now, p :: ps => if (stepM t vars now p).2 = true then runL t vars (stepM t vars now p).1 ps else ([], false)
def runM (t : MThy) (vars u : List Int) (ps : List MStep) : List Int × Bool :=
  if thyB t = true ∧ 0 ≤ sortM t.over vars u ∧ ps.length ≤ 20 then runL t vars u ps else ([], false)
theorem runL_append (t : MThy) (vars : List Int) : ∀ (a b : List MStep) (now : List Int), runL t vars now (a ++ b) = if (runL t vars now a).2 = true then runL t vars (runL t vars now a).1 b else ([], false)
  | [], b, now => by simp [runL]
  | p :: a, b, now => by
    have ih := runL_append t vars a b (stepM t vars now p).1
    by_cases h : (stepM t vars now p).2 = true
    · have e1 : runL t vars now (p :: a) = runL t vars (stepM t vars now p).1 a := by simp [runL, h]
      have e2 : runL t vars now ((p :: a) ++ b) = runL t vars (stepM t vars now p).1 (a ++ b) := by simp [runL, h]
      rw [e1, e2]; exact ih
    · have e1 : runL t vars now (p :: a) = ([], false) := by simp [runL, h]
      have e2 : runL t vars now ((p :: a) ++ b) = ([], false) := by simp [runL, h]
      rw [e1, e2]; simp
theorem runL_snoc {t : MThy} {vars now x : List Int} {ps : List MStep} {k : Nat} (hk : k < ps.length) (h : runL t vars now (ps.take k) = (x, true)) : runL t vars now (ps.take (k + 1)) = if (stepM t vars x ps[k]).2 = true then ((stepM t vars x ps[k]).1, true) else ([], false) := by
  rw [List.take_succ_eq_append_getElem hk, runL_append, h]
  simp [runL]
theorem runL_fail {t : MThy} {vars now : List Int} {ps : List MStep} {k : Nat} (h : (runL t vars now (ps.take k)).2 = false) : runL t vars now ps = ([], false) := by
  have := runL_append t vars (ps.take k) (ps.drop k) now
  rw [List.take_append_drop, if_neg (by rw [h]; simp)] at this
  exact this
theorem runM_no {t : MThy} {vars u : List Int} {ps : List MStep} (h : ¬ (thyB t = true ∧ 0 ≤ sortM t.over vars u ∧ ps.length ≤ 20)) : runM t vars u ps = ([], false) := by unfold runM; rw [if_neg h]
theorem runM_yes {t : MThy} {vars u : List Int} {ps : List MStep} (h : thyB t = true ∧ 0 ≤ sortM t.over vars u ∧ ps.length ≤ 20) : runM t vars u ps = runL t vars u ps := by unfold runM; rw [if_pos h]

theorem swapM_small {s : MSig} {vars u Y : List Int} {a : Int} (hu : Small u) (hY : Small Y) : Small (swapM s vars u a Y).1 := by
  unfold swapM
  split
  · intro x hx
    simp only [swapRow, List.mem_append] at hx
    rcases hx with (hx | hx) | hx
    · exact hu x (List.mem_of_mem_take hx)
    · exact hY x hx
    · exact hu x (List.mem_of_mem_drop hx)
  · intro x hx; simp at hx
theorem stepM_small {t : MThy} {vars u : List Int} {p : MStep} (ht : SmallT t) (hu : Small u) (hp : SmallP p) : Small (stepM t vars u p).1 := by
  have nil : Small [] := fun x hx => by simp at hx
  unfold stepM afterM ruleM
  split
  · split
    · rename_i h
      split
      · obtain ⟨k, hk⟩ := Int.eq_ofNat_of_zero_le h.1
        have hkl : k < t.eqs.length := by omega
        rw [hk, Int.toNat_natCast, getD_at _ hkl]
        exact swapM_small hu (putM_small (side_small (ht _ (List.getElem_mem hkl)) p.back).2 hp)
      · exact nil
    · exact nil
  · exact nil
theorem sort_pos {s : MSig} {vars u : List Int} (h : 0 ≤ sortM s vars u) : 1 ≤ u.length ∧ u.length ≤ 30 := by
  obtain ⟨tm, -, h2, -, rfl, -⟩ := sortM_to h
  exact ⟨row_pos tm, h2⟩


set_option maxHeartbeats 800000 in
set_option maxRecDepth 100000 in
theorem proofRun_any (t : MThy) (vars u : List Int) (ps : List MStep) (w : World) (v vv uv pv : Value) (hst : SmallT t) (hsu : Small u) (hsp : SmallPs ps) (h : RThy w v t) (h1 : RInts w vv vars) (h2 : RInts w uv u) (h3 : RSteps w pv ps) :
    Calls Try.prog 36 #[v, vv, uv, pv] w (PairPost (runM t vars u ps) w) := by
  obtain ⟨Ata, cta, Atb, ctb, rfl⟩ := h.form
  have hb : Below w.heap.size w (w.alloc (.cells #[.int .i64 t.over.sorts, .slice Ata t.over.ops.length cta, .slice Atb t.eqs.length ctb] 45)) := below_alloc _ _
  have HB := Lib.hid hb
  have hsz : (w.alloc (.cells #[.int .i64 t.over.sorts, .slice Ata t.over.ops.length cta, .slice Atb t.eqs.length ctb] 45)).heap.size = w.heap.size + 1 := by simp
  have Ht := Lib.hid (h.keep hb)
  have t0 := bx_at (w) #[.int .i64 t.over.sorts, .slice Ata t.over.ops.length cta, .slice Atb t.eqs.length ctb] 45 (k := 0) rfl
  have t1 := bx_at (w) #[.int .i64 t.over.sorts, .slice Ata t.over.ops.length cta, .slice Atb t.eqs.length ctb] 45 (k := 1) rfl
  have t2 := bx_at (w) #[.int .i64 t.over.sorts, .slice Ata t.over.ops.length cta, .slice Atb t.eqs.length ctb] 45 (k := 2) rfl
  generalize hW : w.alloc (.cells #[.int .i64 t.over.sorts, .slice Ata t.over.ops.length cta, .slice Atb t.eqs.length ctb] 45) = W at HB hsz Ht t0 t1 t2
  clear hb h
  have HV := Lib.hid (h1.keep HB.out)
  have HU := Lib.hid (h2.keep HB.out)
  have HP := Lib.hid (h3.keep HB.out)
  have HTS := Lib.hid (show RSig W (.agg #[.int .i64 t.over.sorts, .slice Ata t.over.ops.length cta]) t.over from ⟨_, rfl, Ht.out.of.2.1⟩)
  have HSM := Lib.hid (And.intro hst (And.intro hsu hsp))
  have hpl := h3.len
  have hul := h2.len
  obtain ⟨A1, d1, rfl, -⟩ := h1.form
  obtain ⟨A2, d2, rfl, -⟩ := h2.form
  obtain ⟨A3, d3, rfl, -⟩ := h3.form
  clear h1 h2 h3 hst hsu hsp
  obtain ⟨bb, hbb⟩ : ∃ b, thyB t = b := ⟨_, rfl⟩
  have HT := Lib.hid hbb
  obtain ⟨q, hq⟩ : ∃ q, sortM t.over vars u = q := ⟨_, rfl⟩
  have HQ := Lib.hid hq
  clear hbb hq
  go_enter Try.func36, Try.ntmps36
  go_wp2_with fail
  clear hW
  refine (theoryOk_any t _ _ HSM.out.1 Ht.out).mono ?_
  rw [HT.out]
  rintro x w1 ⟨rfl, hb⟩
  have HB1 := Lib.hid (fit_keep HB.out hb)
  have HK := Lib.hid hb
  have j0 := cell_keep hb t0
  have j1 := cell_keep hb t1
  have j2 := cell_keep hb t2
  clear hb t0 t1 t2
  cases bb with
  | false =>
    have HE := Lib.hid (runM_no (t := t) (vars := vars) (u := u) (ps := ps) (by rw [HT.out]; simp))
    go_wp2
    refine bodyPost_ret (v := .tuple #[.slice none 0 0, .bool false]) (by simp [results, Try.results36, go_sem]) rfl ?_
    rw [HE.out]
    exact ⟨_, rfl, OInts.nil _ _, HB1.out⟩
  | true =>
    go_wp2_with fail
    refine (termSort_any t.over vars u _ _ _ _ HSM.out.2.1 (HTS.out.keep HK.out) (HV.out.keep HK.out) (HU.out.keep HK.out)).mono ?_
    rw [HQ.out]
    rintro x w2 ⟨rfl, hb⟩
    have HB2 := Lib.hid (fit_keep HB1.out hb)
    have HK2 := Lib.hid (fit_keep HK.out hb)
    have i0 := cell_keep hb j0
    have i1 := cell_keep hb j1
    have i2 := cell_keep hb j2
    clear hb j0 j1 j2
    by_cases hq0 : q < 0
    · have HE := Lib.hid (runM_no (t := t) (vars := vars) (u := u) (ps := ps) (by rw [HQ.out]; omega))
      go_wp2
      refine bodyPost_ret (v := .tuple #[.slice none 0 0, .bool false]) (by simp [results, Try.results36, go_sem]) rfl ?_
      rw [HE.out]
      exact ⟨_, rfl, OInts.nil _ _, HB2.out⟩
    · by_cases hlen : 20 < (ps.length : Int)
      · have HE := Lib.hid (runM_no (t := t) (vars := vars) (u := u) (ps := ps) (by omega))
        go_wp2
        refine bodyPost_ret (v := .tuple #[.slice none 0 0, .bool false]) (by simp [results, Try.results36, go_sem]) rfl ?_
        rw [HE.out]
        exact ⟨_, rfl, OInts.nil _ _, HB2.out⟩
      · have HE := Lib.hid (runM_yes (t := t) (vars := vars) (u := u) (ps := ps) ⟨HT.out, by rw [HQ.out]; omega, by omega⟩)
        have hup := sort_pos (s := t.over) (vars := vars) (u := u) (by rw [HQ.out]; omega)
        have hul2 := hup.2
        obtain ⟨b2, o2, c2', e2, -⟩ := (HU.out).at_ (k := 0) (by omega)
        cases e2
        have HC := Lib.hid (And.intro i0 (And.intro i1 i2))
        clear hup
        go_wp2_with fail
        refine (clone_any _ _ _ u _ (HU.out.keep HK2.out) (by omega)).mono ?_
        rintro x w3 ⟨z, rfl, ho, hb⟩
        obtain ⟨Az, cz, rfl, -⟩ := own_reads ho
        have HO := Lib.hid ho
        have HB3 := Lib.hid (fit_keep HB2.out hb)
        have HK3 := Lib.hid (fit_keep HK2.out hb)
        have HK23 := Lib.hid hb
        clear hb ho i0 i1 i2
        go_wp2
        go_loopw [10, 12, 35] (fun nv s12 i wr => ∃ (k : Nat) (now : List Int), k ≤ ps.length ∧ i = .int .i64 k ∧ OInts wr w2.heap.size nv now ∧ Small now ∧ runL t vars u (ps.take k) = (now, true) ∧ Below w2.heap.size w2 wr) (fun _ _ i _ => ps.length - (intOf i).toNat)
        case atStart => exact ⟨0, u, Nat.zero_le _, rfl, HO.out, HSM.out.2.1, rfl, HK23.out⟩
        case round =>
          obtain ⟨k, now, hk, rfl, ho, hns, hrun, hbw⟩ := hrel
          obtain ⟨An, cn, rfl, -⟩ := own_reads ho
          have HON := Lib.hid ho
          have HNS := Lib.hid hns
          have HRUN := Lib.hid hrun
          have HBW := Lib.hid hbw
          have hzw := hbw.size
          clear ho hns hrun hbw
          by_cases hlt : k < ps.length
          · have hlt' : (k : Int) < (ps.length : Int) := by omega
            obtain ⟨b, o, c', x, e, c0, c1, c2, c3, q0⟩ := (HP.out.keep (fit_keep HK2.out HBW.out)).at_ hlt
            cases e
            have HSN := Lib.hid (runL_snoc hlt HRUN.out)
            have HSP := Lib.hid (HSM.out.2.2 _ (List.getElem_mem hlt))
            generalize ps[k] = p at q0 c0 c1 c2 HSN HSP
            have HI := Lib.hid (show RStep wr (.agg #[.int .i64 p.ax, .bool p.back, .int .i64 p.at_, x]) p from ⟨x, rfl, q0⟩)
            obtain ⟨A0, d0, rfl, -⟩ := q0.form
            have hba := below_alloc wr (.cells #[.int .i64 p.ax, .bool p.back, .int .i64 p.at_, .slice A0 p.terms.length d0] 55)
            have n0 := bx_at wr #[.int .i64 p.ax, .bool p.back, .int .i64 p.at_, .slice A0 p.terms.length d0] 55 (k := 0) rfl
            have n1 := bx_at wr #[.int .i64 p.ax, .bool p.back, .int .i64 p.at_, .slice A0 p.terms.length d0] 55 (k := 1) rfl
            have n2 := bx_at wr #[.int .i64 p.ax, .bool p.back, .int .i64 p.at_, .slice A0 p.terms.length d0] 55 (k := 2) rfl
            have n3 := bx_at wr #[.int .i64 p.ax, .bool p.back, .int .i64 p.at_, .slice A0 p.terms.length d0] 55 (k := 3) rfl
            have m0 := cell_keep hba (cell_keep HBW.out HC.out.1)
            have m1 := cell_keep hba (cell_keep HBW.out HC.out.2.1)
            have m2 := cell_keep hba (cell_keep HBW.out HC.out.2.2)
            have HI2 := Lib.hid (HI.out.keep hba)
            have HON2 := Lib.hid (own_keep HON.out hba)
            have HBA := Lib.hid (fit_keep HBW.out hba)
            generalize hW4 : wr.alloc (.cells #[.int .i64 p.ax, .bool p.back, .int .i64 p.at_, .slice A0 p.terms.length d0] 55) = W4 at n0 n1 n2 n3 m0 m1 m2 HI2 HON2 HBA
            obtain ⟨R, g, hR⟩ : ∃ R g, afterM t vars now p = (R, g) := ⟨_, _, rfl⟩
            have HR := Lib.hid hR
            have HRS := Lib.hid (show Small R by have := stepM_small (vars := vars) HSM.out.1 HNS.out HSP.out; rw [stepM_yes HT.out, hR] at this; exact this)
            clear q0 hba hR
            go_wp2_with fail
            clear hW4
            refine (afterStep_any t vars now p _ _ _ _ _ HSM.out.1 HNS.out HSP.out (Ht.out.keep (fit_keep HK2.out HBA.out)) (HV.out.keep (fit_keep HK2.out HBA.out)) (OInts.reads HON2.out) HI2.out).mono ?_
            rw [HR.out]
            rintro x w5 ⟨z, rfl, ho, hb⟩
            simp only at ho ⊢
            obtain ⟨Az', cz', rfl, -⟩ := own_reads ho
            have HB5 := Lib.hid (fit_keep HBA.out hb)
            have HO5 := Lib.hid (ho.base HBA.out.size)
            clear ho hb n0 n1 n2 n3 m0 m1 m2 c0 c1 c2 c3
            cases g with
            | false =>
              have HF := Lib.hid (HE.out.trans (runL_fail (k := k + 1) (by rw [HSN.out, stepM_yes HT.out, HR.out]; simp)))
              go_wp2
              refine bodyPost_ret (v := .tuple #[.slice none 0 0, .bool false]) (by simp [results, Try.results36, go_sem]) rfl ?_
              rw [HF.out]
              exact ⟨_, rfl, OInts.nil _ _, fit_keep HB2.out HB5.out⟩
            | true =>
              go_wp2
              go_roundw
              case rel => exact ⟨k + 1, R, by omega, by go_num, HO5.out, HRS.out, by rw [HSN.out, stepM_yes HT.out, HR.out]; first | done | simp, HB5.out⟩
              case measure => simp [intOf]; omega
          · have hkn : k = ps.length := by omega
            subst hkn
            have hlt' : ¬ (ps.length : Int) < (ps.length : Int) := by omega
            have HF := Lib.hid (show runM t vars u ps = (now, true) from HE.out.trans (by have h := HRUN.out; rwa [take_all (Nat.le_refl _)] at h))
            have hs2 := HB2.out.size
            go_wp2
            refine bodyPost_ret (v := .tuple #[.slice An now.length cn, .bool true]) (by simp [results, Try.results36, go_sem]) rfl ?_
            rw [HF.out]
            exact ⟨_, rfl, HON.out.base hs2, fit_keep HB2.out HBW.out⟩


theorem bel_grow3 {w w2 : World} {o : Obj} {A : Option Addr} {n c : Nat} (h : (w.alloc o).grownBy w2 (Value.slice A n c).ownBlock) (hr : ∀ k, (Value.slice A n c).ownBlock = some k → w.heap.size ≤ k) : Below w.heap.size w w2 :=
  (below_alloc w o).trans ⟨h.os, h.tape, h.output, h.size, fun k hk => h.block k (Nat.lt_of_lt_of_le hk (by simp)) (fun e => by have := hr k e.symm; omega)⟩

set_option maxHeartbeats 800000 in
set_option maxRecDepth 100000 in
theorem specProofRun_any (t : MThy) (vars u : List Int) (ps : List MStep) (w : World) (v vv uv pv : Value) (hsp : SmallPs ps) (h : RThy w v t) (h1 : RInts w vv vars) (h2 : RInts w uv u) (h3 : RSteps w pv ps) :
    Calls Try.prog 34 #[v, vv, uv, pv] w (PairPost (runM t vars u ps) w) := by
  obtain ⟨Ata, cta, Atb, ctb, rfl⟩ := h.form
  have hb : Below w.heap.size w (w.alloc (.cells #[.int .i64 t.over.sorts, .slice Ata t.over.ops.length cta, .slice Atb t.eqs.length ctb] 45)) := below_alloc _ _
  have HB := Lib.hid hb
  have hsz : (w.alloc (.cells #[.int .i64 t.over.sorts, .slice Ata t.over.ops.length cta, .slice Atb t.eqs.length ctb] 45)).heap.size = w.heap.size + 1 := by simp
  have Ht := Lib.hid (h.keep hb)
  have t0 := bx_at (w) #[.int .i64 t.over.sorts, .slice Ata t.over.ops.length cta, .slice Atb t.eqs.length ctb] 45 (k := 0) rfl
  have t1 := bx_at (w) #[.int .i64 t.over.sorts, .slice Ata t.over.ops.length cta, .slice Atb t.eqs.length ctb] 45 (k := 1) rfl
  have t2 := bx_at (w) #[.int .i64 t.over.sorts, .slice Ata t.over.ops.length cta, .slice Atb t.eqs.length ctb] 45 (k := 2) rfl
  generalize hW : w.alloc (.cells #[.int .i64 t.over.sorts, .slice Ata t.over.ops.length cta, .slice Atb t.eqs.length ctb] 45) = W at HB hsz Ht t0 t1 t2
  clear hb h
  have HV := Lib.hid (h1.keep HB.out)
  have HU := Lib.hid (h2.keep HB.out)
  have HP := Lib.hid (h3.keep HB.out)
  have HTS := Lib.hid (show RSig W (.agg #[.int .i64 t.over.sorts, .slice Ata t.over.ops.length cta]) t.over from ⟨_, rfl, Ht.out.of.2.1⟩)
  have HSM := Lib.hid hsp
  have hpl := h3.len
  have hul := h2.len
  obtain ⟨A1, d1, rfl, -⟩ := h1.form
  obtain ⟨A2, d2, rfl, -⟩ := h2.form
  obtain ⟨A3, d3, rfl, -⟩ := h3.form
  clear h1 h2 h3 hsp
  obtain ⟨bb, hbb⟩ : ∃ b, thyB t = b := ⟨_, rfl⟩
  have HT := Lib.hid hbb
  obtain ⟨q, hq⟩ : ∃ q, sortM t.over vars u = q := ⟨_, rfl⟩
  have HQ := Lib.hid hq
  clear hbb hq
  go_enter Try.func34, Try.ntmps34
  go_wp2_with fail
  clear hW
  refine (specTheoryOk_any t _ _ Ht.out).mono ?_
  rw [HT.out]
  rintro x w1 ⟨rfl, hb⟩
  have HB1 := Lib.hid (fit_keep HB.out hb)
  have HK := Lib.hid hb
  have j0 := cell_keep hb t0
  have j1 := cell_keep hb t1
  have j2 := cell_keep hb t2
  clear hb t0 t1 t2
  cases bb with
  | false =>
    have HE := Lib.hid (runM_no (t := t) (vars := vars) (u := u) (ps := ps) (by rw [HT.out]; simp))
    have he := own_empty w1
    go_wp2
    refine bodyPost_ret (v := .tuple #[.slice (some ⟨w1.heap.size, 0, none⟩) 0 0, .bool false]) (by simp [results, Try.results34, go_sem]) rfl ?_
    rw [HE.out]
    exact ⟨_, rfl, OInts.base he HB1.out.size, fit_keep HB1.out (below_alloc _ _)⟩
  | true =>
    go_wp2_with fail
    refine (specTermSort_any t.over vars u _ _ _ _ (HTS.out.keep HK.out) (HV.out.keep HK.out) (HU.out.keep HK.out)).mono ?_
    rw [HQ.out]
    rintro x w2 ⟨rfl, hb⟩
    have HB2 := Lib.hid (fit_keep HB1.out hb)
    have HK2 := Lib.hid (fit_keep HK.out hb)
    have i0 := cell_keep hb j0
    have i1 := cell_keep hb j1
    have i2 := cell_keep hb j2
    have he := own_empty w2
    clear hb j0 j1 j2
    by_cases hq0 : q < 0
    · have HE := Lib.hid (runM_no (t := t) (vars := vars) (u := u) (ps := ps) (by rw [HQ.out]; omega))
      go_wp2
      refine bodyPost_ret (v := .tuple #[.slice (some ⟨w2.heap.size, 0, none⟩) 0 0, .bool false]) (by simp [results, Try.results34, go_sem]) rfl ?_
      rw [HE.out]
      exact ⟨_, rfl, OInts.base he HB2.out.size, fit_keep HB2.out (below_alloc _ _)⟩
    · by_cases hlen : 20 < (ps.length : Int)
      · have HE := Lib.hid (runM_no (t := t) (vars := vars) (u := u) (ps := ps) (by omega))
        go_wp2
        refine bodyPost_ret (v := .tuple #[.slice (some ⟨w2.heap.size, 0, none⟩) 0 0, .bool false]) (by simp [results, Try.results34, go_sem]) rfl ?_
        rw [HE.out]
        exact ⟨_, rfl, OInts.base he HB2.out.size, fit_keep HB2.out (below_alloc _ _)⟩
      · have HE := Lib.hid (runM_yes (t := t) (vars := vars) (u := u) (ps := ps) ⟨HT.out, by rw [HQ.out]; omega, by omega⟩)
        have hup := sort_pos (s := t.over) (vars := vars) (u := u) (by rw [HQ.out]; omega)
        have hul2 := hup.2
        have HC := Lib.hid (And.intro i0 (And.intro i1 i2))
        obtain ⟨A6, c6, w6, hrun, ho6, hg6⟩ := app_own_run (w2.alloc (.cells #[] 3)) 25 w2.heap.size _ _ [] u he ((HU.out.keep HK2.out).keep (below_alloc w2 (.cells #[] 3))) (by simp; omega) (by simp)
        rw [List.nil_append] at hrun ho6
        have HRUN := Lib.hid hrun
        have HB6 := Lib.hid (bel_grow3 hg6 (fun k e => by injection e with e; exact Nat.le_of_eq e))
        have HO6 := Lib.hid (show OInts w6 w2.heap.size (.slice A6 u.length c6) u from ho6)
        clear hup hrun ho6 hg6 he i0 i1 i2
        go_wp2_with (at_builtin; refine Lib.wpList_append_run _ rfl _ _ _ _ rfl _ _ rfl rfl _ _ HRUN.out ?_)
        go_loopw [10, 11] (fun nv i wr => ∃ (k : Nat) (now : List Int), k ≤ ps.length ∧ i = .int .i64 k ∧ OInts wr w2.heap.size nv now ∧ runL t vars u (ps.take k) = (now, true) ∧ Below w2.heap.size w2 wr) (fun _ i _ => ps.length - (intOf i).toNat)
        case atStart => exact ⟨0, u, Nat.zero_le _, rfl, HO6.out, rfl, HB6.out⟩
        case round =>
          obtain ⟨k, now, hk, rfl, ho, hrun, hbw⟩ := hrel
          obtain ⟨An, cn, rfl, -⟩ := own_reads ho
          have HON := Lib.hid ho
          have HRL := Lib.hid hrun
          have HBW := Lib.hid hbw
          have hzw := hbw.size
          have m0 := cell_keep hbw HC.out.1
          have m1 := cell_keep hbw HC.out.2.1
          have m2 := cell_keep hbw HC.out.2.2
          clear ho hrun hbw
          by_cases hlt : k < ps.length
          · have hlt' : (k : Int) < (ps.length : Int) := by omega
            obtain ⟨b, o, c', x, e, c0, c1, c2, c3, q0⟩ := (HP.out.keep (fit_keep HK2.out HBW.out)).at_ hlt
            cases e
            have HSN := Lib.hid (runL_snoc hlt HRL.out)
            have HSP := Lib.hid (HSM.out _ (List.getElem_mem hlt))
            generalize ps[k] = p at q0 c0 c1 c2 HSN HSP
            have HI := Lib.hid (show RStep wr (.agg #[.int .i64 p.ax, .bool p.back, .int .i64 p.at_, x]) p from ⟨x, rfl, q0⟩)
            obtain ⟨A0, d0, rfl, -⟩ := q0.form
            obtain ⟨R, g, hR⟩ : ∃ R g, stepM t vars now p = (R, g) := ⟨_, _, rfl⟩
            have HR := Lib.hid hR
            have ea := World.new_ne wr _ m0
            have eb := World.new_ne wr _ c0
            clear q0 hR
            go_wp2_with fail
            go_region_held3 (fun w' => w'.cell? ⟨w.heap.size, 0, none⟩ = some (.int .i64 t.over.sorts) ∧ w'.cell? ⟨w.heap.size, 1, none⟩ = some (.slice Ata t.over.ops.length cta) ∧ w'.cell? ⟨w.heap.size, 2, none⟩ = some (.slice Atb t.eqs.length ctb) ∧ w'.cell? ⟨b, o + k * 4, none⟩ = some (.int .i64 p.ax) ∧ w'.cell? ⟨b, o + k * 4 + 1, none⟩ = some (.bool p.back) ∧ w'.cell? ⟨b, o + k * 4 + 2, none⟩ = some (.int .i64 p.at_) ∧ w'.cell? ⟨b, o + k * 4 + 3, none⟩ = some (.slice A0 p.terms.length d0)) (first | go_keep)
              (first
                | (go_at_call 23; refine (specStepDo_any t vars now p wr.drew _ _ _ _ HSP.out (Ht.out.keep (bel_drew (fit_keep HK2.out HBW.out))) (HV.out.keep (bel_drew (fit_keep HK2.out HBW.out))) ((OInts.reads HON.out).keep (bel_drew (Below.refl _ _))) (HI.out.keep (bel_drew (Below.refl _ _)))).mono ?_; rw [HR.out]; rintro x w5 ⟨z, rfl, ho, hb⟩; simp only at ho ⊢; obtain ⟨Az', cz', rfl, -⟩ := own_reads ho; have HB5 := Lib.hid (show Below wr.heap.size wr w5 from bel_undrew hb); have HO5 := Lib.hid (show OInts w5 wr.heap.size (.slice Az' R.length cz') R from ho); have j0 := cell_keep HB5.out m0; have j1 := cell_keep HB5.out m1; have j2 := cell_keep HB5.out m2; have j3 := cell_keep HB5.out c0; have j4 := cell_keep HB5.out c1; have j5 := cell_keep HB5.out c2; have j6 := cell_keep HB5.out c3; clear ho hb))
            have HBN := Lib.hid (fit_keep HBW.out HB5.out)
            have HON5 := Lib.hid (HO5.out.base hzw)
            clear m0 m1 m2 c0 c1 c2 c3 j0 j1 j2 j3 j4 j5 j6 ea eb
            cases g with
            | false =>
              have HF := Lib.hid (HE.out.trans (runL_fail (k := k + 1) (by rw [HSN.out, HR.out]; simp)))
              have he := own_empty w5
              have hs5 := (fit_keep HB2.out HBN.out).size
              go_wp2
              refine bodyPost_ret (v := .tuple #[.slice (some ⟨w5.heap.size, 0, none⟩) 0 0, .bool false]) (by simp [results, Try.results34, go_sem]) rfl ?_
              rw [HF.out]
              exact ⟨_, rfl, OInts.base he hs5, fit_keep (fit_keep HB2.out HBN.out) (below_alloc _ _)⟩
            | true =>
              go_wp2
              go_roundw
              case rel => exact ⟨k + 1, R, by omega, by go_num, HON5.out, by rw [HSN.out, HR.out]; first | done | simp, HBN.out⟩
              case measure => simp [intOf]; omega
          · have hkn : k = ps.length := by omega
            subst hkn
            have hlt' : ¬ (ps.length : Int) < (ps.length : Int) := by omega
            have HF := Lib.hid (show runM t vars u ps = (now, true) from HE.out.trans (by have h := HRL.out; rwa [take_all (Nat.le_refl _)] at h))
            have hs2 := HB2.out.size
            go_wp2
            refine bodyPost_ret (v := .tuple #[.slice An now.length cn, .bool true]) (by simp [results, Try.results34, go_sem]) rfl ?_
            rw [HF.out]
            exact ⟨_, rfl, HON.out.base hs2, fit_keep HB2.out HBW.out⟩


def proofB (t : MThy) (e : MEq) (ps : List MStep) : Bool := eqOkB t.over e && ((runM t e.vars e.left ps).2 && decide ((runM t e.vars e.left ps).1 = e.right))

set_option maxHeartbeats 800000 in
set_option maxRecDepth 100000 in
theorem proofOk_any (t : MThy) (e : MEq) (ps : List MStep) (w : World) (v ev pv : Value) (hst : SmallT t) (hse : SmallE e) (hsp : SmallPs ps) (h : RThy w v t) (he : REq w ev e) (h3 : RSteps w pv ps) :
    Calls Try.prog 40 #[v, ev, pv] w fun x w' => x = .returned (.bool (proofB t e ps)) ∧ Below w.heap.size w w' := by
  obtain ⟨Ata, cta, Atb, ctb, rfl⟩ := h.form
  obtain ⟨Aea, cea, Aeb, ceb, Aec, cec, rfl⟩ := he.form
  have hb : Below w.heap.size w ((w.alloc (.cells #[.int .i64 t.over.sorts, .slice Ata t.over.ops.length cta, .slice Atb t.eqs.length ctb] 45)).alloc (.cells #[.slice Aea e.vars.length cea, .slice Aeb e.left.length ceb, .slice Aec e.right.length cec] 33)) := (below_alloc _ _).alloc (by simp) _
  have HB := Lib.hid hb
  have hsz : ((w.alloc (.cells #[.int .i64 t.over.sorts, .slice Ata t.over.ops.length cta, .slice Atb t.eqs.length ctb] 45)).alloc (.cells #[.slice Aea e.vars.length cea, .slice Aeb e.left.length ceb, .slice Aec e.right.length cec] 33)).heap.size = w.heap.size + 2 := by simp
  have Ht := Lib.hid (h.keep hb)
  have t0 := cell_keep (below_alloc (w.alloc (.cells #[.int .i64 t.over.sorts, .slice Ata t.over.ops.length cta, .slice Atb t.eqs.length ctb] 45)) (.cells #[.slice Aea e.vars.length cea, .slice Aeb e.left.length ceb, .slice Aec e.right.length cec] 33)) (bx_at (w) #[.int .i64 t.over.sorts, .slice Ata t.over.ops.length cta, .slice Atb t.eqs.length ctb] 45 (k := 0) rfl)
  have t1 := cell_keep (below_alloc (w.alloc (.cells #[.int .i64 t.over.sorts, .slice Ata t.over.ops.length cta, .slice Atb t.eqs.length ctb] 45)) (.cells #[.slice Aea e.vars.length cea, .slice Aeb e.left.length ceb, .slice Aec e.right.length cec] 33)) (bx_at (w) #[.int .i64 t.over.sorts, .slice Ata t.over.ops.length cta, .slice Atb t.eqs.length ctb] 45 (k := 1) rfl)
  have t2 := cell_keep (below_alloc (w.alloc (.cells #[.int .i64 t.over.sorts, .slice Ata t.over.ops.length cta, .slice Atb t.eqs.length ctb] 45)) (.cells #[.slice Aea e.vars.length cea, .slice Aeb e.left.length ceb, .slice Aec e.right.length cec] 33)) (bx_at (w) #[.int .i64 t.over.sorts, .slice Ata t.over.ops.length cta, .slice Atb t.eqs.length ctb] 45 (k := 2) rfl)
  have He := Lib.hid (he.keep hb)
  have e0 := bx_at (w.alloc (.cells #[.int .i64 t.over.sorts, .slice Ata t.over.ops.length cta, .slice Atb t.eqs.length ctb] 45)) #[.slice Aea e.vars.length cea, .slice Aeb e.left.length ceb, .slice Aec e.right.length cec] 33 (k := 0) rfl
  have e1 := bx_at (w.alloc (.cells #[.int .i64 t.over.sorts, .slice Ata t.over.ops.length cta, .slice Atb t.eqs.length ctb] 45)) #[.slice Aea e.vars.length cea, .slice Aeb e.left.length ceb, .slice Aec e.right.length cec] 33 (k := 1) rfl
  have e2 := bx_at (w.alloc (.cells #[.int .i64 t.over.sorts, .slice Ata t.over.ops.length cta, .slice Atb t.eqs.length ctb] 45)) #[.slice Aea e.vars.length cea, .slice Aeb e.left.length ceb, .slice Aec e.right.length cec] 33 (k := 2) rfl
  simp only [World.size_alloc] at e0 e1 e2
  generalize hW : (w.alloc (.cells #[.int .i64 t.over.sorts, .slice Ata t.over.ops.length cta, .slice Atb t.eqs.length ctb] 45)).alloc (.cells #[.slice Aea e.vars.length cea, .slice Aeb e.left.length ceb, .slice Aec e.right.length cec] 33) = W at HB hsz Ht t0 t1 t2 He e0 e1 e2
  clear hb h he
  have HP := Lib.hid (h3.keep HB.out)
  have HTS := Lib.hid (show RSig W (.agg #[.int .i64 t.over.sorts, .slice Ata t.over.ops.length cta]) t.over from ⟨_, rfl, Ht.out.of.2.1⟩)
  have HE := Lib.hid He.out.of
  have HSM := Lib.hid (And.intro hst (And.intro hse hsp))
  obtain ⟨A3, d3, rfl, -⟩ := h3.form
  clear h3 hst hse hsp
  obtain ⟨bb, hbb⟩ : ∃ b, eqOkB t.over e = b := ⟨_, rfl⟩
  have HT := Lib.hid hbb
  obtain ⟨R, g, hR⟩ : ∃ R g, runM t e.vars e.left ps = (R, g) := ⟨_, _, rfl⟩
  have HR := Lib.hid hR
  clear hbb hR
  go_enter Try.func40, Try.ntmps40
  go_wp2_with fail
  clear hW
  refine (eqOk_any t.over e _ _ _ HSM.out.2.1 HTS.out He.out).mono ?_
  rw [HT.out]
  rintro x w1 ⟨rfl, hb⟩
  have HB1 := Lib.hid (fit_keep HB.out hb)
  have HK := Lib.hid hb
  have j0 := cell_keep hb t0
  have j1 := cell_keep hb t1
  have j2 := cell_keep hb t2
  have j3 := cell_keep hb e0
  have j4 := cell_keep hb e1
  have j5 := cell_keep hb e2
  clear hb t0 t1 t2 e0 e1 e2
  cases bb with
  | false =>
    go_wp2
    go_ret
    exact ⟨ret_bool (by unfold proofB; rw [HT.out]; rfl), HB1.out⟩
  | true =>
    go_wp2_with fail
    refine (proofRun_any t e.vars e.left ps _ _ _ _ _ HSM.out.1 HSM.out.2.1.1 HSM.out.2.2 (Ht.out.keep HK.out) (HE.out.1.keep HK.out) (HE.out.2.1.keep HK.out) (HP.out.keep HK.out)).mono ?_
    rw [HR.out]
    rintro x w2 ⟨z, rfl, ho, hb⟩
    simp only at ho ⊢
    obtain ⟨Az, cz, rfl, -⟩ := own_reads ho
    have ZR := Lib.hid ho.reads
    have HB2 := Lib.hid (fit_keep HB1.out hb)
    have HK2 := Lib.hid (fit_keep HK.out hb)
    have i5 := cell_keep hb j5
    clear hb ho j0 j1 j2 j3 j4 j5
    cases g with
    | false =>
      go_wp2
      go_ret
      exact ⟨ret_bool (by unfold proofB; rw [HR.out]; simp), HB2.out⟩
    | true =>
      obtain ⟨q, hq⟩ : ∃ q : Bool, decide (R = e.right) = q := ⟨_, rfl⟩
      have HQ := Lib.hid hq
      clear hq
      go_wp2_with fail
      refine (slEqual_any _ _ R e.right _ ZR.out (HE.out.2.2.keep HK2.out)).mono ?_
      rw [HQ.out]
      rintro x w3 ⟨rfl, hd⟩
      have HB3 := Lib.hid (fit_keep HB2.out hd.below)
      clear hd i5
      go_wp2
      go_ret
      exact ⟨ret_bool (by unfold proofB; rw [HT.out, HR.out]; simp [HQ.out]), HB3.out⟩

set_option maxHeartbeats 800000 in
set_option maxRecDepth 100000 in
theorem specProofOk_any (t : MThy) (e : MEq) (ps : List MStep) (w : World) (v ev pv : Value) (hsp : SmallPs ps) (h : RThy w v t) (he : REq w ev e) (h3 : RSteps w pv ps) :
    Calls Try.prog 39 #[v, ev, pv] w fun x w' => x = .returned (.bool (proofB t e ps)) ∧ Below w.heap.size w w' := by
  obtain ⟨Ata, cta, Atb, ctb, rfl⟩ := h.form
  obtain ⟨Aea, cea, Aeb, ceb, Aec, cec, rfl⟩ := he.form
  have hb : Below w.heap.size w ((w.alloc (.cells #[.int .i64 t.over.sorts, .slice Ata t.over.ops.length cta, .slice Atb t.eqs.length ctb] 45)).alloc (.cells #[.slice Aea e.vars.length cea, .slice Aeb e.left.length ceb, .slice Aec e.right.length cec] 33)) := (below_alloc _ _).alloc (by simp) _
  have HB := Lib.hid hb
  have hsz : ((w.alloc (.cells #[.int .i64 t.over.sorts, .slice Ata t.over.ops.length cta, .slice Atb t.eqs.length ctb] 45)).alloc (.cells #[.slice Aea e.vars.length cea, .slice Aeb e.left.length ceb, .slice Aec e.right.length cec] 33)).heap.size = w.heap.size + 2 := by simp
  have Ht := Lib.hid (h.keep hb)
  have t0 := cell_keep (below_alloc (w.alloc (.cells #[.int .i64 t.over.sorts, .slice Ata t.over.ops.length cta, .slice Atb t.eqs.length ctb] 45)) (.cells #[.slice Aea e.vars.length cea, .slice Aeb e.left.length ceb, .slice Aec e.right.length cec] 33)) (bx_at (w) #[.int .i64 t.over.sorts, .slice Ata t.over.ops.length cta, .slice Atb t.eqs.length ctb] 45 (k := 0) rfl)
  have t1 := cell_keep (below_alloc (w.alloc (.cells #[.int .i64 t.over.sorts, .slice Ata t.over.ops.length cta, .slice Atb t.eqs.length ctb] 45)) (.cells #[.slice Aea e.vars.length cea, .slice Aeb e.left.length ceb, .slice Aec e.right.length cec] 33)) (bx_at (w) #[.int .i64 t.over.sorts, .slice Ata t.over.ops.length cta, .slice Atb t.eqs.length ctb] 45 (k := 1) rfl)
  have t2 := cell_keep (below_alloc (w.alloc (.cells #[.int .i64 t.over.sorts, .slice Ata t.over.ops.length cta, .slice Atb t.eqs.length ctb] 45)) (.cells #[.slice Aea e.vars.length cea, .slice Aeb e.left.length ceb, .slice Aec e.right.length cec] 33)) (bx_at (w) #[.int .i64 t.over.sorts, .slice Ata t.over.ops.length cta, .slice Atb t.eqs.length ctb] 45 (k := 2) rfl)
  have He := Lib.hid (he.keep hb)
  have e0 := bx_at (w.alloc (.cells #[.int .i64 t.over.sorts, .slice Ata t.over.ops.length cta, .slice Atb t.eqs.length ctb] 45)) #[.slice Aea e.vars.length cea, .slice Aeb e.left.length ceb, .slice Aec e.right.length cec] 33 (k := 0) rfl
  have e1 := bx_at (w.alloc (.cells #[.int .i64 t.over.sorts, .slice Ata t.over.ops.length cta, .slice Atb t.eqs.length ctb] 45)) #[.slice Aea e.vars.length cea, .slice Aeb e.left.length ceb, .slice Aec e.right.length cec] 33 (k := 1) rfl
  have e2 := bx_at (w.alloc (.cells #[.int .i64 t.over.sorts, .slice Ata t.over.ops.length cta, .slice Atb t.eqs.length ctb] 45)) #[.slice Aea e.vars.length cea, .slice Aeb e.left.length ceb, .slice Aec e.right.length cec] 33 (k := 2) rfl
  simp only [World.size_alloc] at e0 e1 e2
  generalize hW : (w.alloc (.cells #[.int .i64 t.over.sorts, .slice Ata t.over.ops.length cta, .slice Atb t.eqs.length ctb] 45)).alloc (.cells #[.slice Aea e.vars.length cea, .slice Aeb e.left.length ceb, .slice Aec e.right.length cec] 33) = W at HB hsz Ht t0 t1 t2 He e0 e1 e2
  clear hb h he
  have HP := Lib.hid (h3.keep HB.out)
  have HTS := Lib.hid (show RSig W (.agg #[.int .i64 t.over.sorts, .slice Ata t.over.ops.length cta]) t.over from ⟨_, rfl, Ht.out.of.2.1⟩)
  have HE := Lib.hid He.out.of
  have HSM := Lib.hid hsp
  obtain ⟨A3, d3, rfl, -⟩ := h3.form
  clear h3 hsp
  obtain ⟨bb, hbb⟩ : ∃ b, eqOkB t.over e = b := ⟨_, rfl⟩
  have HT := Lib.hid hbb
  obtain ⟨R, g, hR⟩ : ∃ R g, runM t e.vars e.left ps = (R, g) := ⟨_, _, rfl⟩
  have HR := Lib.hid hR
  clear hbb hR
  go_enter Try.func39, Try.ntmps39
  go_wp2_with fail
  clear hW
  refine (specProofRun_any t e.vars e.left ps _ _ _ _ _ HSM.out Ht.out HE.out.1 HE.out.2.1 HP.out).mono ?_
  rw [HR.out]
  rintro x w1 ⟨z, rfl, ho, hb⟩
  simp only at ho ⊢
  obtain ⟨Az, cz, rfl, -⟩ := own_reads ho
  have ZR := Lib.hid ho.reads
  have HB1 := Lib.hid (fit_keep HB.out hb)
  have HK := Lib.hid hb
  have j0 := cell_keep hb t0
  have j1 := cell_keep hb t1
  have j3 := cell_keep hb e0
  have j4 := cell_keep hb e1
  have j5 := cell_keep hb e2
  clear hb ho t0 t1 t2 e0 e1 e2
  cases g with
  | false =>
    go_wp2
    go_ret
    exact ⟨ret_bool (by unfold proofB; rw [HR.out]; simp), HB1.out⟩
  | true =>
    go_wp2_with fail
    refine (specEqOk_any t.over e _ _ _ (HTS.out.keep HK.out) (He.out.keep HK.out)).mono ?_
    rw [HT.out]
    rintro x w2 ⟨rfl, hb⟩
    have HB2 := Lib.hid (fit_keep HB1.out hb)
    have HK2 := Lib.hid (fit_keep HK.out hb)
    have ZR2 := Lib.hid (ZR.out.keep hb)
    have i5 := cell_keep hb j5
    clear hb j0 j1 j3 j4 j5
    cases bb with
    | false =>
      go_wp2
      go_ret
      exact ⟨ret_bool (by unfold proofB; rw [HT.out]; rfl), HB2.out⟩
    | true =>
      obtain ⟨q, hq⟩ : ∃ q : Bool, decide (R = e.right) = q := ⟨_, rfl⟩
      have HQ := Lib.hid hq
      clear hq
      go_wp2_with fail
      refine (l1Same_any _ _ R e.right _ ZR2.out (HE.out.2.2.keep HK2.out)).mono ?_
      rw [HQ.out]
      rintro x w3 ⟨rfl, hd⟩
      have HB3 := Lib.hid (fit_keep HB2.out hd.below)
      clear hd i5
      go_wp2
      go_ret
      exact ⟨ret_bool (by unfold proofB; rw [HT.out, HR.out]; simp [HQ.out]), HB3.out⟩
end Go.Proofs.Ytdgakjnkjofgnaa
