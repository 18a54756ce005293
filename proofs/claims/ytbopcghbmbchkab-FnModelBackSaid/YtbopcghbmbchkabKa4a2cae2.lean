/- TermSort of both packages. · TermsFit of both packages. · EqOk of both packages. · What the proofs of the exact laws share: a signature that came in. · Small words that the exact laws share. · What the made proofs of the exact laws share (tools/exact.py). No walk. · Equations that a call has made, in worlds that keep what lies from a size on. No walk. · What holds of maps of signatures: themselves, one behind the other, terms along them. No walk. -/
import Derived.Test.YtbopcghbmbchkabK07977f3c
import Derived.Deep.RegionHeld3
import Derived.Deep.RegionLaw
import Derived.ProofKit
import Derived.OpenShut
import Derived.ShutString
import Derived.ChangeOld
import Derived.Lib.SmallJoins
import Derived.Deep.Matrix
namespace Go.Proofs.Ytbopcghbmbchkab
section
open Go.RowKit
set_option linter.unusedVariables false

theorem sortM_none {s : MSig} {vars t : List Int} (h : termM s vars t = none) : sortM s vars t = -1 := by unfold sortM; rw [h]
theorem sortM_some {s : MSig} {vars t : List Int} {tm : Tm} (h : termM s vars t = some tm) : sortM s vars t = tm.sort := by unfold sortM; rw [h]

set_option maxRecDepth 100000 in
theorem termSort_any (s : MSig) (vars t : List Int) (w : World) (v vv tv : Value) (hsm : Small t) (h1 : RSig w v s) (h2 : RInts w vv vars) (h3 : RInts w tv t) :
    Calls Try.prog 24 #[v, vv, tv] w fun e w' => e = .returned (.int .i64 (sortM s vars t)) ∧ Below w.heap.size w w' := by
  obtain ⟨u, rfl, hrr⟩ := h1
  obtain ⟨sorts, ops⟩ := s
  obtain ⟨A, c, rfl, -⟩ := hrr.form
  have hb1 := below_alloc w (.cells #[.int .i64 sorts, .slice A ops.length c] 25)
  have hbx := Lib.hid (box_cells w (.int .i64 sorts) (.slice A ops.length c) 25)
  have HS := Lib.hid (show RSig (w.alloc (.cells #[.int .i64 sorts, .slice A ops.length c] 25)) (.agg #[.int .i64 sorts, .slice A ops.length c]) ⟨sorts, ops⟩ from ⟨_, rfl, hrr.keep hb1⟩)
  have HV2 := Lib.hid (h2.keep hb1)
  have HV3 := Lib.hid (h3.keep hb1)
  obtain ⟨A2, c2, rfl, -⟩ := h2.form
  obtain ⟨A3, c3, rfl, -⟩ := h3.form
  have HB1 := Lib.hid hb1
  clear hrr h2 h3 hb1
  go_enter Try.func24, Try.ntmps24
  go_wp2_with fail
  refine (termOf_any ⟨sorts, ops⟩ vars t _ _ _ _ hsm HS.out HV2.out HV3.out).mono ?_
  rintro e w1 ⟨hm, hb⟩
  have HBF := Lib.hid (HB1.out.trans (hb.mono (by simp)))
  cases ht : termM ⟨sorts, ops⟩ vars t with
  | none =>
    rw [ht] at hm
    simp only at hm
    subst hm
    have HR := Lib.hid (sortM_none ht)
    clear ht hb
    go_wp2
    go_ret
    exact ⟨ret_int HR.out.symm, HBF.out⟩
  | some tm =>
    rw [ht] at hm
    simp only at hm
    obtain ⟨u, rfl, hu⟩ := hm
    have HR := Lib.hid (sortM_some ht)
    obtain ⟨T, y, fid, rfl, hms, hcf, hsc⟩ := hu.sorts
    have HSC := Lib.hid hsc
    clear ht hb hu hsc
    go_wp2_with fail
    refine (HSC.out _).mono ?_
    rintro e w3 ⟨rfl, hb3⟩
    have HB3 := Lib.hid hb3
    clear hb3
    go_wp2
    go_ret
    exact ⟨ret_int HR.out.symm, HBF.out.trans (HB3.out.mono HBF.out.size)⟩

set_option maxRecDepth 100000 in
theorem specTermSort_any (s : MSig) (vars t : List Int) (w : World) (v vv tv : Value) (h1 : RSig w v s) (h2 : RInts w vv vars) (h3 : RInts w tv t) :
    Calls Try.prog 22 #[v, vv, tv] w fun e w' => e = .returned (.int .i64 (sortM s vars t)) ∧ Below w.heap.size w w' := by
  obtain ⟨u, rfl, hrr⟩ := h1
  obtain ⟨sorts, ops⟩ := s
  obtain ⟨A, c, rfl, -⟩ := hrr.form
  have hb1 := below_alloc w (.cells #[.int .i64 sorts, .slice A ops.length c] 25)
  have hbx := Lib.hid (box_cells w (.int .i64 sorts) (.slice A ops.length c) 25)
  have HS := Lib.hid (show RSig (w.alloc (.cells #[.int .i64 sorts, .slice A ops.length c] 25)) (.agg #[.int .i64 sorts, .slice A ops.length c]) ⟨sorts, ops⟩ from ⟨_, rfl, hrr.keep hb1⟩)
  have HV2 := Lib.hid (h2.keep hb1)
  have HV3 := Lib.hid (h3.keep hb1)
  have hlen := h3.len
  obtain ⟨A2, c2, rfl, -⟩ := h2.form
  obtain ⟨A3, c3, rfl, -⟩ := h3.form
  have HB1 := Lib.hid hb1
  clear hrr h2 h3 hb1
  cases hv : varsB ⟨sorts, ops⟩ vars with
  | false =>
    have HR := Lib.hid (sortM_none (termM_no (s := ⟨sorts, ops⟩) (vars := vars) (t := t) (by rw [hv]; simp)))
    have HV := Lib.hid hv
    clear hv
    go_enter Try.func22, Try.ntmps22
    go_wp2_with (go_at_call 74; refine (specVarsOk_any _ _ ⟨sorts, ops⟩ vars _ HS.out HV2.out).mono ?_; rw [HV.out]; rintro e w1 ⟨rfl, hb⟩)
    go_ret
    exact ⟨ret_int HR.out.symm, HB1.out.trans (hb.mono (by simp))⟩
  | true =>
    by_cases hl : 30 < (t.length : Int)
    · have HR := Lib.hid (sortM_none (termM_no (s := ⟨sorts, ops⟩) (vars := vars) (t := t) (by omega)))
      have HV := Lib.hid hv
      clear hv
      go_enter Try.func22, Try.ntmps22
      go_wp2_with (go_at_call 74; refine (specVarsOk_any _ _ ⟨sorts, ops⟩ vars _ HS.out HV2.out).mono ?_; rw [HV.out]; rintro e w1 ⟨rfl, hb⟩)
      go_ret
      exact ⟨ret_int HR.out.symm, HB1.out.trans (hb.mono (by simp))⟩
    · have HN := Lib.hid (termM_yes hv (t := t) (by omega))
      have HV := Lib.hid hv
      have HSO : Hid (∀ tm, wfT ⟨sorts, ops⟩ vars tm → 0 ≤ tm.sort) := fun tm h => (sort_ok hv h).1
      clear hv
      have hl3 : (t.length : Int) ≤ 30 := by omega
      go_enter Try.func22, Try.ntmps22
      go_wp2_with (go_at_call 74; refine (specVarsOk_any _ _ ⟨sorts, ops⟩ vars _ HS.out HV2.out).mono ?_; rw [HV.out]; rintro e w1 ⟨rfl, hb⟩; have f0 := cell_keep hb hbx.out.1; have f1 := cell_keep hb hbx.out.2; have HB := Lib.hid hb; clear hb)
      refine (end_any ⟨sorts, ops⟩ vars HV.out 30 t 0 _ _ _ _ (by simp; omega) (HS.out.keep HB.out) (HV2.out.keep HB.out) (HV3.out.keep HB.out)).mono ?_
      rintro e w2 ⟨rfl, hb2⟩
      rw [List.drop_zero]
      have s1 := HB.out.size
      simp at s1
      have HBF := Lib.hid ((HB1.out.trans (HB.out.mono (by simp))).trans (hb2.mono (by omega)))
      clear hb2 f0 f1
      cases hf : firstM ⟨sorts, ops⟩ vars 30 t with
      | none =>
        have HR := Lib.hid (show sortM ⟨sorts, ops⟩ vars t = -1 from sortM_none (by rw [HN.out, hf]))
        clear hf
        have hne : (-1 : Int) ≠ (t.length : Int) := by omega
        unfold endV
        go_wp2
        go_ret
        exact ⟨ret_int HR.out.symm, HBF.out⟩
      | some q =>
        obtain ⟨tm, rb⟩ := q
        rw [endV_some]
        have hs := firstM_sound _ _ _ _ hf
        by_cases hrb : rb = []
        · subst hrb
          have HR := Lib.hid (show sortM ⟨sorts, ops⟩ vars t = tm.sort from sortM_some (by rw [HN.out, hf]))
          have he : ((t.length - ([] : List Int).length : Nat) : Int) = (t.length : Int) := by simp
          rw [he]
          clear hf hs he
          generalize tm.sort = q at HR ⊢
          go_wp2
          go_ret
          exact ⟨ret_int HR.out.symm, HBF.out⟩
        · have HR := Lib.hid (show sortM ⟨sorts, ops⟩ vars t = -1 from sortM_none (by rw [HN.out, hf]; cases rb with | nil => exact absurd rfl hrb | cons x l => rfl))
          have hne : ((t.length - rb.length : Nat) : Int) ≠ (t.length : Int) := by
            have h1 := congrArg List.length hs.1
            have h2 : 0 < rb.length := List.length_pos_iff.2 hrb
            rw [List.length_append] at h1
            omega
          clear hf hs
          generalize ((t.length - rb.length : Nat) : Int) = e2 at hne ⊢
          generalize tm.sort = q
          go_wp2
          go_ret
          exact ⟨ret_int HR.out.symm, HBF.out⟩
end

section
open Go.RowKit
set_option linter.unusedVariables false

def fitP (s : MSig) (vars : List Int) (q : List Int × Int) : Bool := decide (0 ≤ q.2) && decide (sortM s vars q.1 = q.2)
theorem bel_drew {a w : World} {B : Nat} (h : Below B a w) : Below B a w.drew := ⟨h.os, h.tape, h.output, h.size, h.block⟩
theorem bel_undrew {B : Nat} {w w' : World} (h : Below B w.drew w') : Below B w w' := ⟨h.os, h.tape, h.output, h.size, h.block⟩

/-- of two worlds behind one the later one keeps what the earlier one had -/
theorem fit_keep {w w1 w2 : World} (h : Below w.heap.size w w1) (k : Below w1.heap.size w1 w2) : Below w.heap.size w w2 := h.trans (k.mono h.size)
end

section
open Go.RowKit
set_option linter.unusedVariables false
set_option linter.unusedSimpArgs false

theorem eqOkB_no {s : MSig} {e : MEq} (h : ¬ 0 ≤ sortM s e.vars e.left) : eqOkB s e = false := by unfold eqOkB; simp [h]
theorem eqOkB_cmp {s : MSig} {e : MEq} (h : 0 ≤ sortM s e.vars e.left) : eqOkB s e = (sortM s e.vars e.right == sortM s e.vars e.left) := by
  unfold eqOkB; rw [decide_eq_true h, Bool.true_and]; rfl

set_option maxRecDepth 100000 in
theorem eqOk_any (s : MSig) (e : MEq) (w : World) (v ev : Value) (hsm : SmallE e) (h : RSig w v s) (he : REq w ev e) :
    Calls Try.prog 64 #[v, ev] w fun x w' => x = .returned (.bool (eqOkB s e)) ∧ Below w.heap.size w w' := by
  obtain ⟨A, c, rfl⟩ := h.form
  obtain ⟨A0, c0, A1, c1, A2, c2, rfl⟩ := he.form
  have hb : Below w.heap.size w ((w.alloc (.cells #[.int .i64 s.sorts, .slice A s.ops.length c] 25)).alloc (.cells #[.slice A0 e.vars.length c0, .slice A1 e.left.length c1, .slice A2 e.right.length c2] 37)) := (below_alloc _ _).alloc (by simp) _
  obtain ⟨r0, r1, r2⟩ := (he.keep hb).of
  have HS := Lib.hid (h.keep hb)
  have R0 := Lib.hid r0
  have R1 := Lib.hid r1
  have R2 := Lib.hid r2
  have HB := Lib.hid hb
  have HSM := Lib.hid hsm
  have s0 := cell_keep (below_alloc (w.alloc (.cells #[.int .i64 s.sorts, .slice A s.ops.length c] 25)) (.cells #[.slice A0 e.vars.length c0, .slice A1 e.left.length c1, .slice A2 e.right.length c2] 37)) (bx_at w #[.int .i64 s.sorts, .slice A s.ops.length c] 25 (k := 0) rfl)
  have s1 := cell_keep (below_alloc (w.alloc (.cells #[.int .i64 s.sorts, .slice A s.ops.length c] 25)) (.cells #[.slice A0 e.vars.length c0, .slice A1 e.left.length c1, .slice A2 e.right.length c2] 37)) (bx_at w #[.int .i64 s.sorts, .slice A s.ops.length c] 25 (k := 1) rfl)
  have e0 := bx_at (w.alloc (.cells #[.int .i64 s.sorts, .slice A s.ops.length c] 25)) #[.slice A0 e.vars.length c0, .slice A1 e.left.length c1, .slice A2 e.right.length c2] 37 (k := 0) rfl
  have e1 := bx_at (w.alloc (.cells #[.int .i64 s.sorts, .slice A s.ops.length c] 25)) #[.slice A0 e.vars.length c0, .slice A1 e.left.length c1, .slice A2 e.right.length c2] 37 (k := 1) rfl
  have e2 := bx_at (w.alloc (.cells #[.int .i64 s.sorts, .slice A s.ops.length c] 25)) #[.slice A0 e.vars.length c0, .slice A1 e.left.length c1, .slice A2 e.right.length c2] 37 (k := 2) rfl
  simp only [World.size_alloc] at e0 e1 e2
  generalize hW : (w.alloc (.cells #[.int .i64 s.sorts, .slice A s.ops.length c] 25)).alloc (.cells #[.slice A0 e.vars.length c0, .slice A1 e.left.length c1, .slice A2 e.right.length c2] 37) = W at HS R0 R1 R2 HB s0 s1 e0 e1 e2
  clear h he hb r0 r1 r2 hsm
  go_enter Try.func64, Try.ntmps64
  go_wp2_with fail
  clear hW
  refine (termSort_any s e.vars e.left _ _ _ _ HSM.out.1 HS.out R0.out R1.out).mono ?_
  rintro x w1 ⟨rfl, hb1⟩
  have t0 := cell_keep hb1 s0
  have t1 := cell_keep hb1 s1
  have t2 := cell_keep hb1 e0
  have t3 := cell_keep hb1 e1
  have t4 := cell_keep hb1 e2
  have HB1 := Lib.hid (fit_keep HB.out hb1)
  have HS1 := Lib.hid (HS.out.keep hb1)
  have R01 := Lib.hid (R0.out.keep hb1)
  have R21 := Lib.hid (R2.out.keep hb1)
  clear hb1 s0 s1 e0 e1 e2 HS R0 R1 R2 HB
  by_cases h0 : 0 ≤ sortM s e.vars e.left
  · have HE := Lib.hid (eqOkB_cmp h0)
    generalize hq : sortM s e.vars e.left = q at h0 HE
    clear hq
    go_wp2_with fail
    refine (termSort_any s e.vars e.right _ _ _ _ HSM.out.2 HS1.out R01.out R21.out).mono ?_
    rintro x w2 ⟨rfl, hb2⟩
    have HB2 := Lib.hid (fit_keep HB1.out hb2)
    clear hb2 t0 t1 t2 t3 t4
    go_wp2
    go_ret
    exact ⟨ret_bool HE.out.symm, HB2.out⟩
  · have HE := Lib.hid (eqOkB_no h0)
    generalize hq : sortM s e.vars e.left = q at h0
    clear hq
    go_wp2
    go_ret
    exact ⟨ret_bool HE.out.symm, HB1.out⟩

set_option maxRecDepth 100000 in
set_option maxHeartbeats 1600000 in
theorem specEqOk_any (s : MSig) (e : MEq) (w : World) (v ev : Value) (h : RSig w v s) (he : REq w ev e) :
    Calls Try.prog 114 #[v, ev] w fun x w' => x = .returned (.bool (eqOkB s e)) ∧ Below w.heap.size w w' := by
  obtain ⟨Asa, csa, rfl⟩ := h.form
  obtain ⟨Aea, cea, Aeb, ceb, Aec, cec, rfl⟩ := he.form
  have hb : Below w.heap.size w ((w.alloc (.cells #[.int .i64 s.sorts, .slice Asa s.ops.length csa] 25)).alloc (.cells #[.slice Aea e.vars.length cea, .slice Aeb e.left.length ceb, .slice Aec e.right.length cec] 37)) := (below_alloc _ _).alloc (by simp) _
  have HB := Lib.hid hb
  have hsz : ((w.alloc (.cells #[.int .i64 s.sorts, .slice Asa s.ops.length csa] 25)).alloc (.cells #[.slice Aea e.vars.length cea, .slice Aeb e.left.length ceb, .slice Aec e.right.length cec] 37)).heap.size = w.heap.size + 2 := by simp
  have Hs := Lib.hid (h.keep hb)
  have s0 := cell_keep (below_alloc (w.alloc (.cells #[.int .i64 s.sorts, .slice Asa s.ops.length csa] 25)) (.cells #[.slice Aea e.vars.length cea, .slice Aeb e.left.length ceb, .slice Aec e.right.length cec] 37)) (bx_at (w) #[.int .i64 s.sorts, .slice Asa s.ops.length csa] 25 (k := 0) rfl)
  have s1 := cell_keep (below_alloc (w.alloc (.cells #[.int .i64 s.sorts, .slice Asa s.ops.length csa] 25)) (.cells #[.slice Aea e.vars.length cea, .slice Aeb e.left.length ceb, .slice Aec e.right.length cec] 37)) (bx_at (w) #[.int .i64 s.sorts, .slice Asa s.ops.length csa] 25 (k := 1) rfl)
  have He := Lib.hid (he.keep hb)
  have e0 := bx_at (w.alloc (.cells #[.int .i64 s.sorts, .slice Asa s.ops.length csa] 25)) #[.slice Aea e.vars.length cea, .slice Aeb e.left.length ceb, .slice Aec e.right.length cec] 37 (k := 0) rfl
  have e1 := bx_at (w.alloc (.cells #[.int .i64 s.sorts, .slice Asa s.ops.length csa] 25)) #[.slice Aea e.vars.length cea, .slice Aeb e.left.length ceb, .slice Aec e.right.length cec] 37 (k := 1) rfl
  have e2 := bx_at (w.alloc (.cells #[.int .i64 s.sorts, .slice Asa s.ops.length csa] 25)) #[.slice Aea e.vars.length cea, .slice Aeb e.left.length ceb, .slice Aec e.right.length cec] 37 (k := 2) rfl
  simp only [World.size_alloc] at e0 e1 e2
  generalize hW : (w.alloc (.cells #[.int .i64 s.sorts, .slice Asa s.ops.length csa] 25)).alloc (.cells #[.slice Aea e.vars.length cea, .slice Aeb e.left.length ceb, .slice Aec e.right.length cec] 37) = W at HB hsz Hs s0 s1 He e0 e1 e2
  clear hb h he
  obtain ⟨r0, r1, r2⟩ := He.out.of
  have R0 := Lib.hid r0
  have R1 := Lib.hid r1
  have R2 := Lib.hid r2
  have HC := Lib.hid (And.intro s0 (And.intro s1 (And.intro e0 (And.intro e1 e2))))
  clear r0 r1 r2
  have ea := World.new_ne W _ s0
  have eb := World.new_ne W _ e0
  by_cases h0 : 0 ≤ sortM s e.vars e.left
  · have HE := Lib.hid (eqOkB_cmp h0)
    obtain ⟨q, hq⟩ : ∃ q, sortM s e.vars e.left = q := ⟨_, rfl⟩
    obtain ⟨p, hp⟩ : ∃ p, sortM s e.vars e.right = p := ⟨_, rfl⟩
    rw [hq] at h0 HE
    rw [hp] at HE
    have HQ := Lib.hid hq
    have HP := Lib.hid hp
    clear hq hp
    go_enter Try.func114, Try.ntmps114
    go_wp2_with fail
    clear hW
    refine wp_region_held_drew (S := (fun w' => w'.cell? ⟨w.heap.size, 0, none⟩ = some (.int .i64 s.sorts) ∧ w'.cell? ⟨w.heap.size, 1, none⟩ = some (.slice Asa s.ops.length csa) ∧ w'.cell? ⟨w.heap.size + 1, 0, none⟩ = some (.slice Aea e.vars.length cea) ∧ w'.cell? ⟨w.heap.size + 1, 1, none⟩ = some (.slice Aeb e.left.length ceb) ∧ w'.cell? ⟨w.heap.size + 1, 2, none⟩ = some (.slice Aec e.right.length cec))) (by kernel_rfl) ?_ (fun hHeld => ?_)
    · exact ⟨s0, s1, e0, e1, e2⟩
    refine wpAnyH_take (i := 0) (oi := _) (v := ?_) rfl (by kernel_rfl) (by kernel_rfl) (by kernel_rfl) (fun _ _ _ h => h) (Or.inl ⟨by rfl, ?_⟩) (by assumption) ?_
    rotate_left
    · first | (intro w' hSw; (try dsimp only at hSw); go_simp; done) | (intro w' hSw; (try dsimp only at hSw); go_simp; with_reducible rfl)
    try simp only [Act.put, List.getElem_toArray, List.getElem_cons_zero, List.getElem_cons_succ, List.setIfInBounds_toArray, List.set_cons_zero, List.set_cons_succ]
    refine wpAnyH_take (i := 1) (oi := _) (v := ?_) rfl (by kernel_rfl) (by kernel_rfl) (by kernel_rfl) (fun _ _ _ h => h) (Or.inl ⟨by rfl, ?_⟩) (by assumption) ?_
    rotate_left
    · first | (intro w' hSw; (try dsimp only at hSw); go_simp; done) | (intro w' hSw; (try dsimp only at hSw); go_simp; with_reducible rfl)
    try simp only [Act.put, List.getElem_toArray, List.getElem_cons_zero, List.getElem_cons_succ, List.setIfInBounds_toArray, List.set_cons_zero, List.set_cons_succ]
    refine wpAnyH_take (i := 2) (oi := _) (v := ?_) rfl (by kernel_rfl) (by kernel_rfl) (by kernel_rfl) (fun _ _ _ h => h) (Or.inl ⟨by rfl, ?_⟩) (by assumption) ?_
    rotate_left
    · first | (intro w' hSw; (try dsimp only at hSw); go_simp; done) | (intro w' hSw; (try dsimp only at hSw); go_simp; with_reducible rfl)
    try simp only [Act.put, List.getElem_toArray, List.getElem_cons_zero, List.getElem_cons_succ, List.setIfInBounds_toArray, List.set_cons_zero, List.set_cons_succ]
    refine wpAnyH_take (i := 3) (oi := _) (v := ?_) rfl (by kernel_rfl) (by kernel_rfl) (by kernel_rfl) (fun _ _ _ h => h) (Or.inl ⟨by rfl, ?_⟩) (by assumption) ?_
    rotate_left
    · first | (intro w' hSw; (try dsimp only at hSw); go_simp; done) | (intro w' hSw; (try dsimp only at hSw); go_simp; with_reducible rfl)
    try simp only [Act.put, List.getElem_toArray, List.getElem_cons_zero, List.getElem_cons_succ, List.setIfInBounds_toArray, List.set_cons_zero, List.set_cons_succ]
    refine wpAnyH_take (i := 4) (oi := _) (v := ?_) rfl (by kernel_rfl) (by kernel_rfl) (by kernel_rfl) (fun _ _ _ h => h) (Or.inl ⟨by rfl, ?_⟩) (by assumption) ?_
    rotate_left
    · first | (intro w' hSw; (try dsimp only at hSw); go_simp; done) | (intro w' hSw; (try dsimp only at hSw); go_simp; with_reducible rfl)
    try simp only [Act.put, List.getElem_toArray, List.getElem_cons_zero, List.getElem_cons_succ, List.setIfInBounds_toArray, List.set_cons_zero, List.set_cons_succ]
    refine wpAnyH_ready (rs := [5]) (by kernel_rfl) (by simp) ?_
    refine AllReadyH.cons (o := _) rfl (fun K hK => ?_) AllReadyH.nil
    go_simp
    refine (specTermSort_any s e.vars e.left W.drew _ _ _ (Hs.out.keep (bel_drew (Below.refl _ _))) (R0.out.keep (bel_drew (Below.refl _ _))) (R1.out.keep (bel_drew (Below.refl _ _)))).mono ?_
    rw [HQ.out]
    rintro x w1 ⟨rfl, hb1⟩
    have hx1 := (show Below W.heap.size W w1 from bel_undrew hb1)
    have HX1 := Lib.hid hx1
    have t0 := cell_keep hx1 s0
    have t1 := cell_keep hx1 s1
    have t2 := cell_keep hx1 e0
    have t3 := cell_keep hx1 e1
    have t4 := cell_keep hx1 e2
    clear hb1 hx1
    go_wp2_with fail
    refine hK.out _ _ ?_ (fun hHeld => ?_)
    · exact ⟨t0, t1, t2, t3, t4⟩
    clear hK K
    try simp only [Act.put, List.getElem_toArray, List.getElem_cons_zero, List.getElem_cons_succ, List.setIfInBounds_toArray, List.set_cons_zero, List.set_cons_succ]
    refine wpAnyH_take (i := 6) (oi := _) (v := ?_) rfl (by kernel_rfl) (by kernel_rfl) (by kernel_rfl) (fun _ _ _ h => h) (Or.inl ⟨by rfl, ?_⟩) (by assumption) ?_
    rotate_left
    · first | (intro w' hSw; (try dsimp only at hSw); go_simp; done) | (intro w' hSw; (try dsimp only at hSw); go_simp; with_reducible rfl)
    try simp only [Act.put, List.getElem_toArray, List.getElem_cons_zero, List.getElem_cons_succ, List.setIfInBounds_toArray, List.set_cons_zero, List.set_cons_succ]
    refine wpAnyH_take (i := 7) (oi := _) (v := ?_) rfl (by kernel_rfl) (by kernel_rfl) (by kernel_rfl) (fun _ _ _ h => h) (Or.inl ⟨by rfl, ?_⟩) (by assumption) ?_
    rotate_left
    · first | (intro w' hSw; (try dsimp only at hSw); go_simp; done) | (intro w' hSw; (try dsimp only at hSw); go_simp; with_reducible rfl)
    try simp only [Act.put, List.getElem_toArray, List.getElem_cons_zero, List.getElem_cons_succ, List.setIfInBounds_toArray, List.set_cons_zero, List.set_cons_succ]
    refine wpAnyH_take (i := 8) (oi := _) (v := ?_) rfl (by kernel_rfl) (by kernel_rfl) (by kernel_rfl) (fun _ _ _ h => h) (Or.inl ⟨by rfl, ?_⟩) (by assumption) ?_
    rotate_left
    · first | (intro w' hSw; (try dsimp only at hSw); go_simp; done) | (intro w' hSw; (try dsimp only at hSw); go_simp; with_reducible rfl)
    try simp only [Act.put, List.getElem_toArray, List.getElem_cons_zero, List.getElem_cons_succ, List.setIfInBounds_toArray, List.set_cons_zero, List.set_cons_succ]
    refine wpAnyH_take (i := 9) (oi := _) (v := ?_) rfl (by kernel_rfl) (by kernel_rfl) (by kernel_rfl) (fun _ _ _ h => h) (Or.inl ⟨by rfl, ?_⟩) (by assumption) ?_
    rotate_left
    · first | (intro w' hSw; (try dsimp only at hSw); go_simp; done) | (intro w' hSw; (try dsimp only at hSw); go_simp; with_reducible rfl)
    try simp only [Act.put, List.getElem_toArray, List.getElem_cons_zero, List.getElem_cons_succ, List.setIfInBounds_toArray, List.set_cons_zero, List.set_cons_succ]
    refine wpAnyH_take (i := 10) (oi := _) (v := ?_) rfl (by kernel_rfl) (by kernel_rfl) (by kernel_rfl) (fun _ _ _ h => h) (Or.inl ⟨by rfl, ?_⟩) (by assumption) ?_
    rotate_left
    · first | (intro w' hSw; (try dsimp only at hSw); go_simp; done) | (intro w' hSw; (try dsimp only at hSw); go_simp; with_reducible rfl)
    try simp only [Act.put, List.getElem_toArray, List.getElem_cons_zero, List.getElem_cons_succ, List.setIfInBounds_toArray, List.set_cons_zero, List.set_cons_succ]
    refine wpAnyH_take (i := 11) (oi := _) (v := ?_) rfl (by kernel_rfl) (by kernel_rfl) (by kernel_rfl) (fun _ _ _ h => h) (Or.inl ⟨by rfl, ?_⟩) (by assumption) ?_
    rotate_left
    · first | (intro w' hSw; (try dsimp only at hSw); go_simp; done) | (intro w' hSw; (try dsimp only at hSw); go_simp; with_reducible rfl)
    try simp only [Act.put, List.getElem_toArray, List.getElem_cons_zero, List.getElem_cons_succ, List.setIfInBounds_toArray, List.set_cons_zero, List.set_cons_succ]
    refine wpAnyH_take (i := 12) (oi := _) (v := ?_) rfl (by kernel_rfl) (by kernel_rfl) (by kernel_rfl) (fun _ _ _ h => h) (Or.inl ⟨by rfl, ?_⟩) (by assumption) ?_
    rotate_left
    · first | (intro w' hSw; (try dsimp only at hSw); go_simp; done) | (intro w' hSw; (try dsimp only at hSw); go_simp; with_reducible rfl)
    try simp only [Act.put, List.getElem_toArray, List.getElem_cons_zero, List.getElem_cons_succ, List.setIfInBounds_toArray, List.set_cons_zero, List.set_cons_succ]
    refine wpAnyH_take (i := 14) (oi := _) (v := ?_) rfl (by kernel_rfl) (by kernel_rfl) (by kernel_rfl) (fun _ _ _ h => h) (Or.inl ⟨by rfl, ?_⟩) (by assumption) ?_
    rotate_left
    · first | (intro w' hSw; (try dsimp only at hSw); go_simp; done) | (intro w' hSw; (try dsimp only at hSw); go_simp; with_reducible rfl)
    try simp only [Act.put, List.getElem_toArray, List.getElem_cons_zero, List.getElem_cons_succ, List.setIfInBounds_toArray, List.set_cons_zero, List.set_cons_succ]
    refine wpAnyH_take (i := 15) (oi := _) (v := ?_) rfl (by kernel_rfl) (by kernel_rfl) (by kernel_rfl) (fun _ _ _ h => h) (Or.inl ⟨by rfl, ?_⟩) (by assumption) ?_
    rotate_left
    · first | (intro w' hSw; (try dsimp only at hSw); go_simp; done) | (intro w' hSw; (try dsimp only at hSw); go_simp; with_reducible rfl)
    try simp only [Act.put, List.getElem_toArray, List.getElem_cons_zero, List.getElem_cons_succ, List.setIfInBounds_toArray, List.set_cons_zero, List.set_cons_succ]
    refine wpAnyH_take (i := 16) (oi := _) (v := ?_) rfl (by kernel_rfl) (by kernel_rfl) (by kernel_rfl) (fun _ _ _ h => h) (Or.inl ⟨by rfl, ?_⟩) (by assumption) ?_
    rotate_left
    · first | (intro w' hSw; (try dsimp only at hSw); go_simp; done) | (intro w' hSw; (try dsimp only at hSw); go_simp; with_reducible rfl)
    try simp only [Act.put, List.getElem_toArray, List.getElem_cons_zero, List.getElem_cons_succ, List.setIfInBounds_toArray, List.set_cons_zero, List.set_cons_succ]
    refine wpAnyH_take (i := 17) (oi := _) (v := ?_) rfl (by kernel_rfl) (by kernel_rfl) (by kernel_rfl) (fun _ _ _ h => h) (Or.inl ⟨by rfl, ?_⟩) (by assumption) ?_
    rotate_left
    · first | (intro w' hSw; (try dsimp only at hSw); go_simp; done) | (intro w' hSw; (try dsimp only at hSw); go_simp; with_reducible rfl)
    try simp only [Act.put, List.getElem_toArray, List.getElem_cons_zero, List.getElem_cons_succ, List.setIfInBounds_toArray, List.set_cons_zero, List.set_cons_succ]
    refine wpAnyH_take (i := 18) (oi := _) (v := ?_) rfl (by kernel_rfl) (by kernel_rfl) (by kernel_rfl) (fun _ _ _ h => h) (Or.inl ⟨by rfl, ?_⟩) (by assumption) ?_
    rotate_left
    · first | (intro w' hSw; (try dsimp only at hSw); go_simp; done) | (intro w' hSw; (try dsimp only at hSw); go_simp; with_reducible rfl)
    try simp only [Act.put, List.getElem_toArray, List.getElem_cons_zero, List.getElem_cons_succ, List.setIfInBounds_toArray, List.set_cons_zero, List.set_cons_succ]
    refine wpAnyH_ready (rs := [13]) (by kernel_rfl) (by simp) ?_
    refine AllReadyH.cons (o := _) rfl (fun K hK => ?_) AllReadyH.nil
    go_simp
    refine (specTermSort_any s e.vars e.left w1 _ _ _ (Hs.out.keep HX1.out) (R0.out.keep HX1.out) (R1.out.keep HX1.out)).mono ?_
    rw [HQ.out]
    rintro x w2 ⟨rfl, hb2⟩
    have HX2 := Lib.hid (fit_keep HX1.out hb2)
    have u0 := cell_keep hb2 t0
    have u1 := cell_keep hb2 t1
    have u2 := cell_keep hb2 t2
    have u3 := cell_keep hb2 t3
    have u4 := cell_keep hb2 t4
    clear hb2
    go_wp2_with fail
    refine hK.out _ _ ?_ (fun hHeld => ?_)
    · exact ⟨u0, u1, u2, u3, u4⟩
    clear hK K
    try simp only [Act.put, List.getElem_toArray, List.getElem_cons_zero, List.getElem_cons_succ, List.setIfInBounds_toArray, List.set_cons_zero, List.set_cons_succ]
    refine wpAnyH_ready (rs := [19]) (by kernel_rfl) (by simp) ?_
    refine AllReadyH.cons (o := _) rfl (fun K hK => ?_) AllReadyH.nil
    go_simp
    refine (specTermSort_any s e.vars e.right w2 _ _ _ (Hs.out.keep HX2.out) (R0.out.keep HX2.out) (R2.out.keep HX2.out)).mono ?_
    rw [HP.out]
    rintro x w3 ⟨rfl, hb3⟩
    have HX3 := Lib.hid (fit_keep HX2.out hb3)
    have v0 := cell_keep hb3 u0
    have v1 := cell_keep hb3 u1
    have v2 := cell_keep hb3 u2
    have v3 := cell_keep hb3 u3
    have v4 := cell_keep hb3 u4
    clear hb3
    go_wp2_with fail
    refine hK.out _ _ ?_ (fun hHeld => ?_)
    · exact ⟨v0, v1, v2, v3, v4⟩
    clear hK K
    try simp only [Act.put, List.getElem_toArray, List.getElem_cons_zero, List.getElem_cons_succ, List.setIfInBounds_toArray, List.set_cons_zero, List.set_cons_succ]
    refine wpAnyH_take (i := 20) (oi := _) (v := ?_) rfl (by kernel_rfl) (by kernel_rfl) (by kernel_rfl) (fun _ _ _ h => h) (Or.inl ⟨by rfl, ?_⟩) (by assumption) ?_
    rotate_left
    · first | (intro w' hSw; (try dsimp only at hSw); go_simp; done) | (intro w' hSw; (try dsimp only at hSw); go_simp; with_reducible rfl)
    try simp only [Act.put, List.getElem_toArray, List.getElem_cons_zero, List.getElem_cons_succ, List.setIfInBounds_toArray, List.set_cons_zero, List.set_cons_succ]
    refine wpAnyH_take (i := 21) (oi := _) (v := ?_) rfl (by kernel_rfl) (by kernel_rfl) (by kernel_rfl) (fun _ _ _ h => h) (Or.inl ⟨by rfl, ?_⟩) (by assumption) ?_
    rotate_left
    · first | (intro w' hSw; (try dsimp only at hSw); go_simp; done) | (intro w' hSw; (try dsimp only at hSw); go_simp; with_reducible rfl)
    try simp only [Act.put, List.getElem_toArray, List.getElem_cons_zero, List.getElem_cons_succ, List.setIfInBounds_toArray, List.set_cons_zero, List.set_cons_succ]
    refine wpAnyH_take (i := 22) (oi := _) (v := ?_) rfl (by kernel_rfl) (by kernel_rfl) (by kernel_rfl) (fun _ _ _ h => h) (Or.inl ⟨by rfl, ?_⟩) (by assumption) ?_
    rotate_left
    · first | (intro w' hSw; (try dsimp only at hSw); go_simp; done) | (intro w' hSw; (try dsimp only at hSw); go_simp; with_reducible rfl)
    try simp only [Act.put, List.getElem_toArray, List.getElem_cons_zero, List.getElem_cons_succ, List.setIfInBounds_toArray, List.set_cons_zero, List.set_cons_succ]
    refine wpAnyH_done (by kernel_rfl) ?_ _
    clear s0 s1 e0 e1 e2 t0 t1 t2 t3 t4 u0 u1 u2 u3 u4 v0 v1 v2 v3 v4 ea eb
    go_wp2
    go_ret
    exact ⟨ret_bool (by rw [HE.out]; exact Bool.beq_comm), fit_keep HB.out HX3.out⟩
  · have HE := Lib.hid (eqOkB_no h0)
    obtain ⟨q, hq⟩ : ∃ q, sortM s e.vars e.left = q := ⟨_, rfl⟩
    rw [hq] at h0
    have h0' : q < 0 := by omega
    have h1' : decide (0 ≤ q) = false := by simp; omega
    have HQ := Lib.hid hq
    clear hq
    go_enter Try.func114, Try.ntmps114
    go_wp2_with fail
    clear hW
    refine wp_region_held_drew (S := (fun w' => w'.cell? ⟨w.heap.size, 0, none⟩ = some (.int .i64 s.sorts) ∧ w'.cell? ⟨w.heap.size, 1, none⟩ = some (.slice Asa s.ops.length csa) ∧ w'.cell? ⟨w.heap.size + 1, 0, none⟩ = some (.slice Aea e.vars.length cea) ∧ w'.cell? ⟨w.heap.size + 1, 1, none⟩ = some (.slice Aeb e.left.length ceb) ∧ w'.cell? ⟨w.heap.size + 1, 2, none⟩ = some (.slice Aec e.right.length cec))) (by kernel_rfl) ?_ (fun hHeld => ?_)
    · exact ⟨s0, s1, e0, e1, e2⟩
    refine wpAnyH_take (i := 0) (oi := _) (v := ?_) rfl (by kernel_rfl) (by kernel_rfl) (by kernel_rfl) (fun _ _ _ h => h) (Or.inl ⟨by rfl, ?_⟩) (by assumption) ?_
    rotate_left
    · first | (intro w' hSw; (try dsimp only at hSw); go_simp; done) | (intro w' hSw; (try dsimp only at hSw); go_simp; with_reducible rfl)
    try simp only [Act.put, List.getElem_toArray, List.getElem_cons_zero, List.getElem_cons_succ, List.setIfInBounds_toArray, List.set_cons_zero, List.set_cons_succ]
    refine wpAnyH_take (i := 1) (oi := _) (v := ?_) rfl (by kernel_rfl) (by kernel_rfl) (by kernel_rfl) (fun _ _ _ h => h) (Or.inl ⟨by rfl, ?_⟩) (by assumption) ?_
    rotate_left
    · first | (intro w' hSw; (try dsimp only at hSw); go_simp; done) | (intro w' hSw; (try dsimp only at hSw); go_simp; with_reducible rfl)
    try simp only [Act.put, List.getElem_toArray, List.getElem_cons_zero, List.getElem_cons_succ, List.setIfInBounds_toArray, List.set_cons_zero, List.set_cons_succ]
    refine wpAnyH_take (i := 2) (oi := _) (v := ?_) rfl (by kernel_rfl) (by kernel_rfl) (by kernel_rfl) (fun _ _ _ h => h) (Or.inl ⟨by rfl, ?_⟩) (by assumption) ?_
    rotate_left
    · first | (intro w' hSw; (try dsimp only at hSw); go_simp; done) | (intro w' hSw; (try dsimp only at hSw); go_simp; with_reducible rfl)
    try simp only [Act.put, List.getElem_toArray, List.getElem_cons_zero, List.getElem_cons_succ, List.setIfInBounds_toArray, List.set_cons_zero, List.set_cons_succ]
    refine wpAnyH_take (i := 3) (oi := _) (v := ?_) rfl (by kernel_rfl) (by kernel_rfl) (by kernel_rfl) (fun _ _ _ h => h) (Or.inl ⟨by rfl, ?_⟩) (by assumption) ?_
    rotate_left
    · first | (intro w' hSw; (try dsimp only at hSw); go_simp; done) | (intro w' hSw; (try dsimp only at hSw); go_simp; with_reducible rfl)
    try simp only [Act.put, List.getElem_toArray, List.getElem_cons_zero, List.getElem_cons_succ, List.setIfInBounds_toArray, List.set_cons_zero, List.set_cons_succ]
    refine wpAnyH_take (i := 4) (oi := _) (v := ?_) rfl (by kernel_rfl) (by kernel_rfl) (by kernel_rfl) (fun _ _ _ h => h) (Or.inl ⟨by rfl, ?_⟩) (by assumption) ?_
    rotate_left
    · first | (intro w' hSw; (try dsimp only at hSw); go_simp; done) | (intro w' hSw; (try dsimp only at hSw); go_simp; with_reducible rfl)
    try simp only [Act.put, List.getElem_toArray, List.getElem_cons_zero, List.getElem_cons_succ, List.setIfInBounds_toArray, List.set_cons_zero, List.set_cons_succ]
    refine wpAnyH_ready (rs := [5]) (by kernel_rfl) (by simp) ?_
    refine AllReadyH.cons (o := _) rfl (fun K hK => ?_) AllReadyH.nil
    go_simp
    refine (specTermSort_any s e.vars e.left W.drew _ _ _ (Hs.out.keep (bel_drew (Below.refl _ _))) (R0.out.keep (bel_drew (Below.refl _ _))) (R1.out.keep (bel_drew (Below.refl _ _)))).mono ?_
    rw [HQ.out]
    rintro x w1 ⟨rfl, hb1⟩
    have hx1 := (show Below W.heap.size W w1 from bel_undrew hb1)
    have HX1 := Lib.hid hx1
    have t0 := cell_keep hx1 s0
    have t1 := cell_keep hx1 s1
    have t2 := cell_keep hx1 e0
    have t3 := cell_keep hx1 e1
    have t4 := cell_keep hx1 e2
    clear hb1 hx1
    go_wp2_with fail
    refine hK.out _ _ ?_ (fun hHeld => ?_)
    · exact ⟨t0, t1, t2, t3, t4⟩
    clear hK K
    try simp only [Act.put, List.getElem_toArray, List.getElem_cons_zero, List.getElem_cons_succ, List.setIfInBounds_toArray, List.set_cons_zero, List.set_cons_succ]
    refine wpAnyH_take (i := 6) (oi := _) (v := ?_) rfl (by kernel_rfl) (by kernel_rfl) (by kernel_rfl) (fun _ _ _ h => h) (Or.inl ⟨by rfl, ?_⟩) (by assumption) ?_
    rotate_left
    · first | (intro w' hSw; (try dsimp only at hSw); go_simp; done) | (intro w' hSw; (try dsimp only at hSw); go_simp; with_reducible rfl)
    try simp only [Act.put, List.getElem_toArray, List.getElem_cons_zero, List.getElem_cons_succ, List.setIfInBounds_toArray, List.set_cons_zero, List.set_cons_succ]
    refine wpAnyH_take (i := 7) (oi := _) (v := ?_) rfl (by kernel_rfl) (by kernel_rfl) (by kernel_rfl) (fun _ _ _ h => h) (Or.inl ⟨by rfl, ?_⟩) (by assumption) ?_
    rotate_left
    · first | (intro w' hSw; (try dsimp only at hSw); go_simp; done) | (intro w' hSw; (try dsimp only at hSw); go_simp; with_reducible rfl)
    try simp only [Act.put, List.getElem_toArray, List.getElem_cons_zero, List.getElem_cons_succ, List.setIfInBounds_toArray, List.set_cons_zero, List.set_cons_succ]
    refine wpAnyH_take (i := 8) (oi := _) (v := _) rfl (by kernel_rfl) (by kernel_rfl) (by kernel_rfl) (fun _ _ _ h => h) (Or.inr ⟨by rfl, rfl⟩) (by assumption) ?_
    try simp only [Act.put, List.getElem_toArray, List.getElem_cons_zero, List.getElem_cons_succ, List.setIfInBounds_toArray, List.set_cons_zero, List.set_cons_succ]
    refine wpAnyH_take (i := 9) (oi := _) (v := _) rfl (by kernel_rfl) (by kernel_rfl) (by kernel_rfl) (fun _ _ _ h => h) (Or.inr ⟨by rfl, rfl⟩) (by assumption) ?_
    try simp only [Act.put, List.getElem_toArray, List.getElem_cons_zero, List.getElem_cons_succ, List.setIfInBounds_toArray, List.set_cons_zero, List.set_cons_succ]
    refine wpAnyH_take (i := 10) (oi := _) (v := _) rfl (by kernel_rfl) (by kernel_rfl) (by kernel_rfl) (fun _ _ _ h => h) (Or.inr ⟨by rfl, rfl⟩) (by assumption) ?_
    try simp only [Act.put, List.getElem_toArray, List.getElem_cons_zero, List.getElem_cons_succ, List.setIfInBounds_toArray, List.set_cons_zero, List.set_cons_succ]
    refine wpAnyH_take (i := 11) (oi := _) (v := _) rfl (by kernel_rfl) (by kernel_rfl) (by kernel_rfl) (fun _ _ _ h => h) (Or.inr ⟨by rfl, rfl⟩) (by assumption) ?_
    try simp only [Act.put, List.getElem_toArray, List.getElem_cons_zero, List.getElem_cons_succ, List.setIfInBounds_toArray, List.set_cons_zero, List.set_cons_succ]
    refine wpAnyH_take (i := 12) (oi := _) (v := _) rfl (by kernel_rfl) (by kernel_rfl) (by kernel_rfl) (fun _ _ _ h => h) (Or.inr ⟨by rfl, rfl⟩) (by assumption) ?_
    try simp only [Act.put, List.getElem_toArray, List.getElem_cons_zero, List.getElem_cons_succ, List.setIfInBounds_toArray, List.set_cons_zero, List.set_cons_succ]
    refine wpAnyH_take (i := 14) (oi := _) (v := _) rfl (by kernel_rfl) (by kernel_rfl) (by kernel_rfl) (fun _ _ _ h => h) (Or.inr ⟨by rfl, rfl⟩) (by assumption) ?_
    try simp only [Act.put, List.getElem_toArray, List.getElem_cons_zero, List.getElem_cons_succ, List.setIfInBounds_toArray, List.set_cons_zero, List.set_cons_succ]
    refine wpAnyH_take (i := 15) (oi := _) (v := _) rfl (by kernel_rfl) (by kernel_rfl) (by kernel_rfl) (fun _ _ _ h => h) (Or.inr ⟨by rfl, rfl⟩) (by assumption) ?_
    try simp only [Act.put, List.getElem_toArray, List.getElem_cons_zero, List.getElem_cons_succ, List.setIfInBounds_toArray, List.set_cons_zero, List.set_cons_succ]
    refine wpAnyH_take (i := 16) (oi := _) (v := _) rfl (by kernel_rfl) (by kernel_rfl) (by kernel_rfl) (fun _ _ _ h => h) (Or.inr ⟨by rfl, rfl⟩) (by assumption) ?_
    try simp only [Act.put, List.getElem_toArray, List.getElem_cons_zero, List.getElem_cons_succ, List.setIfInBounds_toArray, List.set_cons_zero, List.set_cons_succ]
    refine wpAnyH_take (i := 17) (oi := _) (v := _) rfl (by kernel_rfl) (by kernel_rfl) (by kernel_rfl) (fun _ _ _ h => h) (Or.inr ⟨by rfl, rfl⟩) (by assumption) ?_
    try simp only [Act.put, List.getElem_toArray, List.getElem_cons_zero, List.getElem_cons_succ, List.setIfInBounds_toArray, List.set_cons_zero, List.set_cons_succ]
    refine wpAnyH_take (i := 18) (oi := _) (v := _) rfl (by kernel_rfl) (by kernel_rfl) (by kernel_rfl) (fun _ _ _ h => h) (Or.inr ⟨by rfl, rfl⟩) (by assumption) ?_
    try simp only [Act.put, List.getElem_toArray, List.getElem_cons_zero, List.getElem_cons_succ, List.setIfInBounds_toArray, List.set_cons_zero, List.set_cons_succ]
    refine wpAnyH_ready (rs := [13]) (by kernel_rfl) (by simp) ?_
    refine AllReadyH.cons (o := _) rfl (fun K hK => ?_) AllReadyH.nil
    refine ite_off (by rfl) ?_
    refine hK.out _ _ (by assumption) (fun hHeld => ?_)
    clear hK K
    try simp only [Act.put, List.getElem_toArray, List.getElem_cons_zero, List.getElem_cons_succ, List.setIfInBounds_toArray, List.set_cons_zero, List.set_cons_succ]
    refine wpAnyH_ready (rs := [19]) (by kernel_rfl) (by simp) ?_
    refine AllReadyH.cons (o := _) rfl (fun K hK => ?_) AllReadyH.nil
    refine ite_off (by rfl) ?_
    refine hK.out _ _ (by assumption) (fun hHeld => ?_)
    clear hK K
    try simp only [Act.put, List.getElem_toArray, List.getElem_cons_zero, List.getElem_cons_succ, List.setIfInBounds_toArray, List.set_cons_zero, List.set_cons_succ]
    refine wpAnyH_take (i := 20) (oi := _) (v := _) rfl (by kernel_rfl) (by kernel_rfl) (by kernel_rfl) (fun _ _ _ h => h) (Or.inr ⟨by rfl, rfl⟩) (by assumption) ?_
    try simp only [Act.put, List.getElem_toArray, List.getElem_cons_zero, List.getElem_cons_succ, List.setIfInBounds_toArray, List.set_cons_zero, List.set_cons_succ]
    refine wpAnyH_take (i := 21) (oi := _) (v := ?_) rfl (by kernel_rfl) (by kernel_rfl) (by kernel_rfl) (fun _ _ _ h => h) (Or.inl ⟨by rfl, ?_⟩) (by assumption) ?_
    rotate_left
    · first | (intro w' hSw; (try dsimp only at hSw); go_simp; done) | (intro w' hSw; (try dsimp only at hSw); go_simp; with_reducible rfl)
    try simp only [Act.put, List.getElem_toArray, List.getElem_cons_zero, List.getElem_cons_succ, List.setIfInBounds_toArray, List.set_cons_zero, List.set_cons_succ]
    refine wpAnyH_take (i := 22) (oi := _) (v := ?_) rfl (by kernel_rfl) (by kernel_rfl) (by kernel_rfl) (fun _ _ _ h => h) (Or.inl ⟨by rfl, ?_⟩) (by assumption) ?_
    rotate_left
    · first | (intro w' hSw; (try dsimp only at hSw); go_simp; done) | (intro w' hSw; (try dsimp only at hSw); go_simp; with_reducible rfl)
    try simp only [Act.put, List.getElem_toArray, List.getElem_cons_zero, List.getElem_cons_succ, List.setIfInBounds_toArray, List.set_cons_zero, List.set_cons_succ]
    refine wpAnyH_done (by kernel_rfl) ?_ _
    clear s0 s1 e0 e1 e2 t0 t1 t2 t3 t4 ea eb
    go_wp2
    go_ret
    exact ⟨ret_bool HE.out.symm, fit_keep HB.out HX1.out⟩
end

section
open Go.ChangeShapes Go.WideShapes Go.ChangeAt Go.RowKit Go.Deep Go.Joins
set_option linter.unusedVariables false

end

section
open Go.ChangeShapes Go.WideShapes Go.ChangeAt Go.RowKit
set_option linter.unusedVariables false

end

section
open Go.ChangeShapes Go.WideShapes Go.ChangeAt Go.RowKit
set_option linter.unusedVariables false

end

section
open Go.RowKit
set_option linter.unusedVariables false

theorem OEq.same {w w' : World} {B : Nat} {v : Value} {e : MEq} (h : OEq w B v e) (hk : ∀ k, B ≤ k → k < w.heap.size → w'.heap[k]? = w.heap[k]?) : OEq w' B v e := by
  obtain ⟨a, b, c, rfl, h1, h2, h3, h4⟩ := h
  exact ⟨a, b, c, rfl, h1.same hk, h2.same hk, h3.same hk, h4⟩
end

section
open Go.RowKit
set_option linter.unusedVariables false
set_option linter.unusedSimpArgs false

theorem ledM_mem {tq row : List Int} (h : InTo tq row) (x : Int) (hx : x ∈ ledM tq row) : x ∈ tq ∨ (x ∈ row ∧ 100 ≤ x) := by
  unfold ledM at hx
  obtain ⟨y, hy, rfl⟩ := List.mem_map.1 hx
  by_cases h1 : y < 100
  · left
    rw [if_pos h1, getD_at _ (by have := h y hy h1; omega)]
    exact List.getElem_mem _
  · right
    rw [if_neg h1]
    exact ⟨hy, by omega⟩
/-- one behind the other -/
theorem ledM_led {t1 t2 row : List Int} (h1 : InTo t1 row) (h2 : ∀ x ∈ t1, x < 100) : ledM t2 (ledM t1 row) = ledM (ledM t2 t1) row := by
  unfold ledM
  rw [List.map_map]
  refine List.map_congr_left fun x hx => ?_
  simp only [Function.comp]
  by_cases h : x < 100
  · have hb := h1 x hx h
    have hk : x.toNat < t1.length := by omega
    rw [if_pos h, if_pos h, getD_at _ hk, if_pos (h2 _ (List.getElem_mem hk)), List.getD_eq_getElem?_getD (l := List.map _ t1), List.getElem?_map, List.getElem?_eq_getElem hk]
    simp only [Option.map_some, Option.getD_some]
    rw [if_pos (h2 _ (List.getElem_mem hk))]
  · rw [if_neg h, if_neg h, if_neg h]
theorem MapFacts.ss {a b : MSig} {m : MMap} (h : MapFacts a b m) : ∀ x ∈ m.sorts, x < 100 := fun x hx => by
  have := h.sb x hx; have := valid_sorts h.vb; omega
theorem MapFacts.os {a b : MSig} {m : MMap} (h : MapFacts a b m) : ∀ x ∈ m.ops, x < 100 := fun x hx => by
  have := h.ob x hx; have := valid_sorts h.vb; omega
/-! terms along maps -/
theorem led_last {tq row : List Int} (h : 0 < row.length) (hr : ∀ x ∈ row, x < 100) : (ledM tq row).getLastD (-1) = tq.getD (row.getLastD (-1)).toNat 0 := by
  have hl : row.length - 1 < row.length := by omega
  have := ledM_at (tq := tq) hl
  rw [last_at (by rw [ledM_len]; exact h), last_at h]
  rw [if_pos (hr _ (List.getElem_mem hl))] at this
  have h2 : (ledM tq row).length - 1 < (ledM tq row).length := by rw [ledM_len]; omega
  have e : (ledM tq row)[(ledM tq row).length - 1]? = some (tq.getD (row[row.length - 1]).toNat 0) := by rw [ledM_len]; exact this
  rw [List.getElem?_eq_getElem h2] at e
  injection e
theorem led_drop (tq row : List Int) : (ledM tq row).dropLast = ledM tq row.dropLast := by unfold ledM; rw [List.map_dropLast]
theorem led_cons {tq row : List Int} {x : Int} (h : x < 100) : ledM tq (x :: row) = tq.getD x.toNat 0 :: ledM tq row := by unfold ledM; simp [h]
theorem led_append (tq r s : List Int) : ledM tq (r ++ s) = ledM tq r ++ ledM tq s := by unfold ledM; simp
theorem led_getD {tq row : List Int} {k : Nat} (hk : k < row.length) (h : row[k] < 100) : (ledM tq row).getD k 0 = tq.getD (row[k]).toNat 0 := by
  rw [List.getD_eq_getElem?_getD, ledM_at hk, if_pos h]; rfl
mutual
theorem led_t {a b : MSig} {m : MMap} (f : MapFacts a b m) {vars : List Int} (hv : ∀ x ∈ vars, 0 ≤ x ∧ x < a.sorts) : ∀ tm : Tm, wfT a vars tm → ∃ tm' : Tm, wfT b (ledM m.sorts vars) tm' ∧ tm'.sort = m.sorts.getD tm.sort.toNat 0 ∧ tm'.row = ledM m.ops tm.row
  | .leaf k of, hw => by
    unfold wfT at hw
    obtain ⟨hk, rfl⟩ := hw
    have hx : vars[k] < 100 := by have := hv _ (List.getElem_mem hk); have := valid_sorts f.va; omega
    refine ⟨.leaf k (m.sorts.getD (vars.getD k 0).toNat 0), ?_, rfl, ?_⟩
    · unfold wfT
      refine ⟨by rw [ledM_len]; exact hk, ?_⟩
      rw [led_getD hk hx, getD_at _ hk]
    · simp only [Tm.row, ledM, List.map_cons, List.map_nil]
      rw [if_neg (by omega)]
  | .node op lv ts, hw => by
    unfold wfT at hw
    obtain ⟨ho, hl, hts⟩ := hw
    have hvr := valid_row f.va ho
    have hs := valid_sorts f.va
    have hom : op < m.ops.length := by rw [f.ol]; exact ho
    have e := f.oo op ho hom
    have hob := f.ob _ (List.getElem_mem hom)
    have hob2 := f.os _ (List.getElem_mem hom)
    have hbl : (m.ops[op]).toNat < b.ops.length := by omega
    have hrow : opRow b (m.ops[op]).toNat = ledM m.sorts (opRow a op) := by
      rw [opRow_at hbl, opRow_at ho]
      rw [List.getElem?_eq_getElem hbl] at e
      injection e
    rw [opRow_at ho] at hl hts
    obtain ⟨ts', h1, h2⟩ := led_ts f hv ts _ hts
    refine ⟨.node (m.ops[op]).toNat (m.sorts.getD lv.toNat 0) ts', ?_, rfl, ?_⟩
    · unfold wfT
      refine ⟨hbl, ?_, ?_⟩
      · rw [hrow, opRow_at ho, led_last (by omega) (fun x hx => by have := hvr.2.2 x hx; omega), hl]
      · rw [hrow, opRow_at ho, led_drop]; exact h1
    · simp only [Tm.row]
      rw [led_cons (by have := valid_sorts f.va; omega), Int.toNat_natCast, getD_at _ hom, h2, Int.toNat_of_nonneg hob.1]
theorem led_ts {a b : MSig} {m : MMap} (f : MapFacts a b m) {vars : List Int} (hv : ∀ x ∈ vars, 0 ≤ x ∧ x < a.sorts) : ∀ (ts : List Tm) (ss : List Int), wfTs a vars ss ts → ∃ ts' : List Tm, wfTs b (ledM m.sorts vars) (ledM m.sorts ss) ts' ∧ rowsOf ts' = ledM m.ops (rowsOf ts)
  | [], ss, hw => by
    unfold wfTs at hw
    subst hw
    exact ⟨[], by unfold wfTs; rfl, rfl⟩
  | t :: ts, ss, hw => by
    unfold wfTs at hw
    obtain ⟨x, ss', rfl, h1, h2, h3⟩ := hw
    obtain ⟨t', q1, q2, q3⟩ := led_t f hv t h2
    obtain ⟨ts', q4, q5⟩ := led_ts f hv ts ss' h3
    have hx : x < 100 := by
      subst h1
      cases t with
      | leaf k of =>
        unfold wfT at h2
        obtain ⟨hk, rfl⟩ := h2
        simp only [Tm.sort]
        rw [getD_at _ hk]
        have := hv _ (List.getElem_mem hk); have := valid_sorts f.va; omega
      | node op lv us =>
        unfold wfT at h2
        obtain ⟨hk, rfl, -⟩ := h2
        simp only [Tm.sort]
        have hr := valid_row f.va hk
        rw [opRow_at hk, last_at (by omega)]
        have := hr.2.2 _ (List.getElem_mem (show a.ops[op].length - 1 < a.ops[op].length by omega)); have := valid_sorts f.va; omega
    refine ⟨t' :: ts', ?_, by simp only [rowsOf]; rw [q3, q5, led_append]⟩
    unfold wfTs
    refine ⟨m.sorts.getD x.toNat 0, ledM m.sorts ss', led_cons hx, by rw [q2, h1], q1, q4⟩
end
theorem varsB_led {a b : MSig} {m : MMap} (f : MapFacts a b m) {vars : List Int} (h : varsB a vars = true) : varsB b (ledM m.sorts vars) = true := by
  obtain ⟨h1, h2, h3⟩ := vars_valid h
  unfold varsB
  rw [f.vb, decide_eq_true (by rw [ledM_len]; exact h2)]
  simp only [Bool.and_self, Bool.true_and]
  unfold belowB
  rw [List.all_eq_true]
  intro x hx
  have hin : InTo m.sorts vars := f.sorts_in (fun x hx => by obtain ⟨k, hk, rfl⟩ := List.getElem_of_mem hx; exact h3 k hk)
  rcases ledM_mem hin x hx with h | h
  · have := f.sb x h; simpa using this
  · obtain ⟨k, hk, rfl⟩ := List.getElem_of_mem h.1
    have := h3 k hk; have := valid_sorts f.va; omega
theorem vars_mem {s : MSig} {vars : List Int} (h : varsB s vars = true) : ∀ x ∈ vars, 0 ≤ x ∧ x < s.sorts := fun x hx => by
  obtain ⟨k, hk, rfl⟩ := List.getElem_of_mem hx; exact (vars_valid h).2.2 k hk
/-- the sort of a term along a map -/
theorem sortM_led {a b : MSig} {m : MMap} (f : MapFacts a b m) {vars t : List Int} (h : 0 ≤ sortM a vars t) : sortM b (ledM m.sorts vars) (ledM m.ops t) = m.sorts.getD (sortM a vars t).toNat 0 ∧ (sortM a vars t).toNat < m.sorts.length := by
  obtain ⟨tm, h1, h2, h3, rfl, h5⟩ := sortM_to h
  obtain ⟨tm', q1, q2, q3⟩ := led_t f (vars_mem h1) tm h3
  have hlt := sortM_lt (vars := vars) (t := tm.row) f.va
  refine ⟨?_, by have := f.sl; omega⟩
  rw [← q3, sortM_of (varsB_led f h1) (by rw [q3, ledM_len]; exact h2) q1, q2, h5]
theorem sorts_nonneg {a b : MSig} {m : MMap} (f : MapFacts a b m) {k : Nat} (hk : k < m.sorts.length) : 0 ≤ m.sorts.getD k 0 := by
  rw [getD_at _ hk]; exact (f.sb _ (List.getElem_mem hk)).1
/-- the numbers of a term are led -/
theorem term_in {a b : MSig} {m : MMap} (f : MapFacts a b m) {vars t : List Int} (h : 0 ≤ sortM a vars t) : InTo m.ops t ∧ t.length ≤ 30 ∧ InTo m.sorts vars ∧ vars.length ≤ 4 ∧ (∀ x ∈ vars, x < 100) := by
  obtain ⟨tm, h1, h2, h3, rfl, h5⟩ := sortM_to h
  refine ⟨fun x hx hlt => ?_, h2, f.sorts_in (vars_mem h1), (vars_valid h1).2.1, fun x hx => by have := vars_mem h1 x hx; have := valid_sorts f.va; omega⟩
  have := nums_t (ops_few f.va) tm h3 x hx
  have := f.ol
  omega
end
end Go.Proofs.Ytbopcghbmbchkab
