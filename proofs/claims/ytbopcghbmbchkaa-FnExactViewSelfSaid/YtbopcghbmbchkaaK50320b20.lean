/- afterStep and StepDo (package impl). · l1Same: rows compared (package spec). · StepDo of both packages. · A row of numbers at the end of an own one, whatever its address. · Proofs: ProofRun and ProofOk of both packages. · What a view of a theory in another one is (plain). No walk. -/
import Derived.Test.YtbopcghbmbchkaaK6786d6ce
import Derived.Lib.AppendZeros
import Derived.Deep.AppendSrc
import Derived.Deep.Upon
namespace Go.Proofs.Ytbopcghbmbchkaa
section
open Go.RowKit
set_option linter.unusedVariables false
set_option linter.unusedSimpArgs false

theorem ruleOf_any (t : MThy) (k : Nat) (hk : k < t.eqs.length) (back : Bool) (w : World) (v : Value) (h : RThy w v t) :
    Calls Try.prog 113 #[v, .int .i64 (k : Int), .bool back] w (RulePost t t.eqs[k] back w) := by
  cases back with
  | true => exact ruleOf_true t k hk w v h
  | false => exact ruleOf_false t k hk w v h
theorem side_small {e : MEq} (h : SmallE e) (back : Bool) : Small (sideFrom e back) ∧ Small (sideTo e back) := by
  unfold sideFrom sideTo
  cases back
  · exact ⟨h.1, h.2⟩
  · exact ⟨h.2, h.1⟩
theorem RFn.calls {w : World} {c : Array Value} {s : MSig} {letters fr tu vars u : List Int} {a : Int} {terms : List (List Int)} {vv uv tv : Value} (h : RFn w (.func (Fn.func 124) #[] c) s letters fr tu) (h1 : Small fr) (h2 : Small tu) (h3 : Small u) (h4 : ∀ r ∈ terms, Small r)
    (k1 : RInts w vv vars) (k2 : RInts w uv u) (k3 : RRows w tv terms) : ∃ p0 p1 p2 p3, c = #[p0, p1, p2, p3] ∧ Calls Try.prog 124 #[vv, uv, .int .i64 a, tv, p0, p1, p2, p3] w (PairPost (ruleM s letters fr tu vars u a terms) w) := by
  obtain ⟨bt, bl, bf, bo, x, L, F, O, e, c0, c1, r1, c2, r2, c3, r3, c4, r4⟩ := h
  injection e with _ _ e
  subst e
  exact ⟨_, _, _, _, rfl, ruleFn_any s letters fr tu vars u a terms w vv uv tv bt bl bf bo x L F O h1 h2 h3 h4 k1 k2 k3 c0 c1 r1 c2 r2 c3 r3 c4 r4⟩

theorem afterM_no {t : MThy} {vars u : List Int} {p : MStep} (h : ¬ (0 ≤ p.ax ∧ p.ax < t.eqs.length)) : afterM t vars u p = ([], false) := by unfold afterM; rw [if_neg h]
theorem afterM_yes {t : MThy} {vars u : List Int} {p : MStep} {k : Nat} (hk : k < t.eqs.length) (he : p.ax = k) : afterM t vars u p = ruleM t.over t.eqs[k].vars (sideFrom t.eqs[k] p.back) (sideTo t.eqs[k] p.back) vars u p.at_ p.terms := by
  unfold afterM
  rw [if_pos (by omega), he, Int.toNat_natCast, getD_at _ hk]

theorem f_rule (a b c d : Value) (w : World) : (Instr.field 143 (.agg #[a, b, c, d]) 3).run Try.prog w = .ok d w := by kernel_rfl

set_option maxHeartbeats 800000 in
set_option maxRecDepth 100000 in
theorem afterStep_any (t : MThy) (vars u : List Int) (p : MStep) (w : World) (v vv uv pv : Value) (hst : SmallT t) (hsu : Small u) (hsp : SmallP p) (h : RThy w v t) (h1 : RInts w vv vars) (h2 : RInts w uv u) (h3 : RStep w pv p) :
    Calls Try.prog 82 #[v, vv, uv, pv] w (PairPost (afterM t vars u p) w) := by
  obtain ⟨Ata, cta, Atb, ctb, rfl⟩ := h.form
  obtain ⟨Apa, cpa, rfl⟩ := h3.form
  have hb : Below w.heap.size w ((w.alloc (.cells #[.int .i64 t.over.sorts, .slice Ata t.over.ops.length cta, .slice Atb t.eqs.length ctb] 40)).alloc (.cells #[.int .i64 p.ax, .bool p.back, .int .i64 p.at_, .slice Apa p.terms.length cpa] 100)) := (below_alloc _ _).alloc (by simp) _
  have HB := Lib.hid hb
  have hsz : ((w.alloc (.cells #[.int .i64 t.over.sorts, .slice Ata t.over.ops.length cta, .slice Atb t.eqs.length ctb] 40)).alloc (.cells #[.int .i64 p.ax, .bool p.back, .int .i64 p.at_, .slice Apa p.terms.length cpa] 100)).heap.size = w.heap.size + 2 := by simp
  have Ht := Lib.hid (h.keep hb)
  have t0 := cell_keep (below_alloc (w.alloc (.cells #[.int .i64 t.over.sorts, .slice Ata t.over.ops.length cta, .slice Atb t.eqs.length ctb] 40)) (.cells #[.int .i64 p.ax, .bool p.back, .int .i64 p.at_, .slice Apa p.terms.length cpa] 100)) (bx_at (w) #[.int .i64 t.over.sorts, .slice Ata t.over.ops.length cta, .slice Atb t.eqs.length ctb] 40 (k := 0) rfl)
  have t1 := cell_keep (below_alloc (w.alloc (.cells #[.int .i64 t.over.sorts, .slice Ata t.over.ops.length cta, .slice Atb t.eqs.length ctb] 40)) (.cells #[.int .i64 p.ax, .bool p.back, .int .i64 p.at_, .slice Apa p.terms.length cpa] 100)) (bx_at (w) #[.int .i64 t.over.sorts, .slice Ata t.over.ops.length cta, .slice Atb t.eqs.length ctb] 40 (k := 1) rfl)
  have t2 := cell_keep (below_alloc (w.alloc (.cells #[.int .i64 t.over.sorts, .slice Ata t.over.ops.length cta, .slice Atb t.eqs.length ctb] 40)) (.cells #[.int .i64 p.ax, .bool p.back, .int .i64 p.at_, .slice Apa p.terms.length cpa] 100)) (bx_at (w) #[.int .i64 t.over.sorts, .slice Ata t.over.ops.length cta, .slice Atb t.eqs.length ctb] 40 (k := 2) rfl)
  have Hp := Lib.hid (h3.keep hb)
  have p0 := bx_at (w.alloc (.cells #[.int .i64 t.over.sorts, .slice Ata t.over.ops.length cta, .slice Atb t.eqs.length ctb] 40)) #[.int .i64 p.ax, .bool p.back, .int .i64 p.at_, .slice Apa p.terms.length cpa] 100 (k := 0) rfl
  have p1 := bx_at (w.alloc (.cells #[.int .i64 t.over.sorts, .slice Ata t.over.ops.length cta, .slice Atb t.eqs.length ctb] 40)) #[.int .i64 p.ax, .bool p.back, .int .i64 p.at_, .slice Apa p.terms.length cpa] 100 (k := 1) rfl
  have p2 := bx_at (w.alloc (.cells #[.int .i64 t.over.sorts, .slice Ata t.over.ops.length cta, .slice Atb t.eqs.length ctb] 40)) #[.int .i64 p.ax, .bool p.back, .int .i64 p.at_, .slice Apa p.terms.length cpa] 100 (k := 2) rfl
  have p3 := bx_at (w.alloc (.cells #[.int .i64 t.over.sorts, .slice Ata t.over.ops.length cta, .slice Atb t.eqs.length ctb] 40)) #[.int .i64 p.ax, .bool p.back, .int .i64 p.at_, .slice Apa p.terms.length cpa] 100 (k := 3) rfl
  simp only [World.size_alloc] at p0 p1 p2 p3
  generalize hW : (w.alloc (.cells #[.int .i64 t.over.sorts, .slice Ata t.over.ops.length cta, .slice Atb t.eqs.length ctb] 40)).alloc (.cells #[.int .i64 p.ax, .bool p.back, .int .i64 p.at_, .slice Apa p.terms.length cpa] 100) = W at HB hsz Ht t0 t1 t2 Hp p0 p1 p2 p3
  clear hb h h3
  have HV := Lib.hid (h1.keep HB.out)
  have HU := Lib.hid (h2.keep HB.out)
  have HP := Lib.hid Hp.out.of
  have HSM := Lib.hid (And.intro hst (And.intro hsu hsp))
  have hlen := (Ht.out.of.2.2).len
  obtain ⟨A1, d1, rfl, -⟩ := h1.form
  obtain ⟨A2, d2, rfl, -⟩ := h2.form
  clear h1 h2 hst hsu hsp
  by_cases hneg : p.ax < 0
  · have HE := Lib.hid (afterM_no (t := t) (vars := vars) (u := u) (p := p) (by omega))
    go_enter Try.func82, Try.ntmps82
    go_wp2
    refine bodyPost_ret (v := .tuple #[.slice none 0 0, .bool false]) (by simp [results, Try.results82, go_sem]) rfl ?_
    rw [HE.out]
    exact ⟨_, rfl, OInts.nil _ _, HB.out⟩
  · by_cases hge : (t.eqs.length : Int) ≤ p.ax
    · have HE := Lib.hid (afterM_no (t := t) (vars := vars) (u := u) (p := p) (by omega))
      go_enter Try.func82, Try.ntmps82
      go_wp2
      refine bodyPost_ret (v := .tuple #[.slice none 0 0, .bool false]) (by simp [results, Try.results82, go_sem]) rfl ?_
      rw [HE.out]
      exact ⟨_, rfl, OInts.nil _ _, HB.out⟩
    · obtain ⟨k, hk⟩ := Int.eq_ofNat_of_zero_le (show 0 ≤ p.ax by omega)
      have hkl : k < t.eqs.length := by omega
      have HE := Lib.hid (afterM_yes (vars := vars) (u := u) (p := p) hkl hk)
      have HSE := Lib.hid (side_small (HSM.out.1 _ (List.getElem_mem hkl)) p.back)
      obtain ⟨R, g, hR⟩ : ∃ R g, ruleM t.over t.eqs[k].vars (sideFrom t.eqs[k] p.back) (sideTo t.eqs[k] p.back) vars u p.at_ p.terms = (R, g) := ⟨_, _, rfl⟩
      have HR := Lib.hid hR
      have HRO := Lib.hid (ruleOf_any t k hkl p.back)
      have hfl := f_rule
      have ea := World.new_ne W _ t0
      have eb := World.new_ne W _ p0
      rw [hk] at p0 hneg hge hW ⊢
      clear hk
      clear hR
      go_enter Try.func82, Try.ntmps82
      go_wp2_with fail
      refine wp_region_held_drew (S := (fun w' => w'.cell? ⟨w.heap.size, 0, none⟩ = some (.int .i64 t.over.sorts) ∧ w'.cell? ⟨w.heap.size, 1, none⟩ = some (.slice Ata t.over.ops.length cta) ∧ w'.cell? ⟨w.heap.size, 2, none⟩ = some (.slice Atb t.eqs.length ctb) ∧ w'.cell? ⟨w.heap.size + 1, 0, none⟩ = some (.int .i64 (k : Int)) ∧ w'.cell? ⟨w.heap.size + 1, 1, none⟩ = some (.bool p.back) ∧ w'.cell? ⟨w.heap.size + 1, 2, none⟩ = some (.int .i64 p.at_) ∧ w'.cell? ⟨w.heap.size + 1, 3, none⟩ = some (.slice Apa p.terms.length cpa))) (by kernel_rfl) ?_ (fun hHeld => ?_)
      · exact ⟨t0, t1, t2, p0, p1, p2, p3⟩
      refine wpAnyH_take (i := 0) (oi := _) (v := ?_) rfl (by kernel_rfl) (by kernel_rfl) (by kernel_rfl) (fun _ _ _ h => h) (Or.inl ⟨by rfl, ?_⟩) (by assumption) ?_
      rotate_left
      · first | (intro w' hSw; (try dsimp only at hSw); go_simp; done) | (intro w' hSw; (try dsimp only at hSw); go_simp; with_reducible rfl)
      try simp only [Act.put, List.getElem_toArray, List.getElem_cons_zero, List.getElem_cons_succ, List.setIfInBounds_toArray, List.set_cons_zero, List.set_cons_succ]
      refine wpAnyH_take (i := 1) (oi := _) (v := ?_) rfl (by kernel_rfl) (by kernel_rfl) (by kernel_rfl) (fun _ _ _ h => h) (Or.inl ⟨by rfl, ?_⟩) (by assumption) ?_
      rotate_left
      · first | (intro w' hSw; (try dsimp only at hSw); go_simp; done) | (intro w' hSw; (try dsimp only at hSw); go_simp; with_reducible rfl)
      try simp only [Act.put, List.getElem_toArray, List.getElem_cons_zero, List.getElem_cons_succ, List.setIfInBounds_toArray, List.set_cons_zero, List.set_cons_succ]
      refine wpAnyH_take (i := 2) (oi := _) (v := ?_) rfl (by kernel_rfl) (by kernel_rfl) (by kernel_rfl) (fun _ _ _ h => h) (Or.inl ⟨by rfl, ?_⟩) (by assumption) ?_
      rotate_left
      · first | (intro w' hSw; (try dsimp only at hSw); go_simp; done) | (intro w' hSw; (try dsimp only at hSw); go_simp; with_reducible rfl)
      try simp only [Act.put, List.getElem_toArray, List.getElem_cons_zero, List.getElem_cons_succ, List.setIfInBounds_toArray, List.set_cons_zero, List.set_cons_succ]
      refine wpAnyH_take (i := 3) (oi := _) (v := ?_) rfl (by kernel_rfl) (by kernel_rfl) (by kernel_rfl) (fun _ _ _ h => h) (Or.inl ⟨by rfl, ?_⟩) (by assumption) ?_
      rotate_left
      · first | (intro w' hSw; (try dsimp only at hSw); go_simp; done) | (intro w' hSw; (try dsimp only at hSw); go_simp; with_reducible rfl)
      try simp only [Act.put, List.getElem_toArray, List.getElem_cons_zero, List.getElem_cons_succ, List.setIfInBounds_toArray, List.set_cons_zero, List.set_cons_succ]
      refine wpAnyH_take (i := 4) (oi := _) (v := ?_) rfl (by kernel_rfl) (by kernel_rfl) (by kernel_rfl) (fun _ _ _ h => h) (Or.inl ⟨by rfl, ?_⟩) (by assumption) ?_
      rotate_left
      · first | (intro w' hSw; (try dsimp only at hSw); go_simp; done) | (intro w' hSw; (try dsimp only at hSw); go_simp; with_reducible rfl)
      try simp only [Act.put, List.getElem_toArray, List.getElem_cons_zero, List.getElem_cons_succ, List.setIfInBounds_toArray, List.set_cons_zero, List.set_cons_succ]
      refine wpAnyH_take (i := 7) (oi := _) (v := ?_) rfl (by kernel_rfl) (by kernel_rfl) (by kernel_rfl) (fun _ _ _ h => h) (Or.inl ⟨by rfl, ?_⟩) (by assumption) ?_
      rotate_left
      · first | (intro w' hSw; (try dsimp only at hSw); go_simp; done) | (intro w' hSw; (try dsimp only at hSw); go_simp; with_reducible rfl)
      try simp only [Act.put, List.getElem_toArray, List.getElem_cons_zero, List.getElem_cons_succ, List.setIfInBounds_toArray, List.set_cons_zero, List.set_cons_succ]
      refine wpAnyH_take (i := 8) (oi := _) (v := ?_) rfl (by kernel_rfl) (by kernel_rfl) (by kernel_rfl) (fun _ _ _ h => h) (Or.inl ⟨by rfl, ?_⟩) (by assumption) ?_
      rotate_left
      · first | (intro w' hSw; (try dsimp only at hSw); go_simp; done) | (intro w' hSw; (try dsimp only at hSw); go_simp; with_reducible rfl)
      try simp only [Act.put, List.getElem_toArray, List.getElem_cons_zero, List.getElem_cons_succ, List.setIfInBounds_toArray, List.set_cons_zero, List.set_cons_succ]
      refine wpAnyH_take (i := 9) (oi := _) (v := ?_) rfl (by kernel_rfl) (by kernel_rfl) (by kernel_rfl) (fun _ _ _ h => h) (Or.inl ⟨by rfl, ?_⟩) (by assumption) ?_
      rotate_left
      · first | (intro w' hSw; (try dsimp only at hSw); go_simp; done) | (intro w' hSw; (try dsimp only at hSw); go_simp; with_reducible rfl)
      try simp only [Act.put, List.getElem_toArray, List.getElem_cons_zero, List.getElem_cons_succ, List.setIfInBounds_toArray, List.set_cons_zero, List.set_cons_succ]
      refine wpAnyH_take (i := 10) (oi := _) (v := ?_) rfl (by kernel_rfl) (by kernel_rfl) (by kernel_rfl) (fun _ _ _ h => h) (Or.inl ⟨by rfl, ?_⟩) (by assumption) ?_
      rotate_left
      · first | (intro w' hSw; (try dsimp only at hSw); go_simp; done) | (intro w' hSw; (try dsimp only at hSw); go_simp; with_reducible rfl)
      try simp only [Act.put, List.getElem_toArray, List.getElem_cons_zero, List.getElem_cons_succ, List.setIfInBounds_toArray, List.set_cons_zero, List.set_cons_succ]
      refine wpAnyH_take (i := 11) (oi := _) (v := ?_) rfl (by kernel_rfl) (by kernel_rfl) (by kernel_rfl) (fun _ _ _ h => h) (Or.inl ⟨by rfl, ?_⟩) (by assumption) ?_
      rotate_left
      · first | (intro w' hSw; (try dsimp only at hSw); go_simp; done) | (intro w' hSw; (try dsimp only at hSw); go_simp; with_reducible rfl)
      try simp only [Act.put, List.getElem_toArray, List.getElem_cons_zero, List.getElem_cons_succ, List.setIfInBounds_toArray, List.set_cons_zero, List.set_cons_succ]
      refine wpAnyH_take (i := 12) (oi := _) (v := ?_) rfl (by kernel_rfl) (by kernel_rfl) (by kernel_rfl) (fun _ _ _ h => h) (Or.inl ⟨by rfl, ?_⟩) (by assumption) ?_
      rotate_left
      · first | (intro w' hSw; (try dsimp only at hSw); go_simp; done) | (intro w' hSw; (try dsimp only at hSw); go_simp; with_reducible rfl)
      try simp only [Act.put, List.getElem_toArray, List.getElem_cons_zero, List.getElem_cons_succ, List.setIfInBounds_toArray, List.set_cons_zero, List.set_cons_succ]
      refine wpAnyH_ready (rs := [5]) (by kernel_rfl) (by simp) ?_
      refine AllReadyH.cons (o := _) rfl (fun K hK => ?_) AllReadyH.nil
      go_simp
      refine (HRO.out W.drew _ (Ht.out.keep (bel_drew (Below.refl _ _)))).mono ?_
      rintro x w1 ⟨L, F, O, fn, rfl, rL, rF, rO, rfn, ⟨cf, rfl⟩, hb1⟩
      have hx1 := (show Below W.heap.size W w1 from bel_undrew hb1)
      have HX1 := Lib.hid hx1
      obtain ⟨q0, q1, q2, q3, rfl, hcl⟩ := rfn.calls (a := p.at_) HSE.out.1 HSE.out.2 HSM.out.2.1 HSM.out.2.2 (HV.out.keep hx1) (HU.out.keep hx1) (HP.out.keep hx1)
      have HCL := Lib.hid hcl
      obtain ⟨AL, cL, rfl, -⟩ := rL.form
      obtain ⟨AF, cF, rfl, -⟩ := rF.form
      obtain ⟨AO, cO, rfl, -⟩ := rO.form
      have j0 := cell_keep hx1 t0
      have j1 := cell_keep hx1 t1
      have j2 := cell_keep hx1 t2
      have j3 := cell_keep hx1 p0
      have j4 := cell_keep hx1 p1
      have j5 := cell_keep hx1 p2
      have j6 := cell_keep hx1 p3
      clear hb1 hx1 rfn hcl rL rF rO
      go_wp2_with fail
      refine hK.out _ _ ?_ (fun hHeld => ?_)
      · exact ⟨j0, j1, j2, j3, j4, j5, j6⟩
      clear hK K
      try simp only [Act.put, List.getElem_toArray, List.getElem_cons_zero, List.getElem_cons_succ, List.setIfInBounds_toArray, List.set_cons_zero, List.set_cons_succ]
      refine wpAnyH_take (i := 6) (oi := _) (v := ?_) rfl (by kernel_rfl) (by kernel_rfl) (by kernel_rfl) (fun _ _ _ h => h) (Or.inl ⟨by rfl, ?_⟩) (by assumption) ?_
      rotate_left
      · first | (intro w' hSw; (try dsimp only at hSw); go_simp; done) | (intro w' hSw; (try dsimp only at hSw); go_simp; with_reducible rfl)
      try simp only [Act.put, List.getElem_toArray, List.getElem_cons_zero, List.getElem_cons_succ, List.setIfInBounds_toArray, List.set_cons_zero, List.set_cons_succ]
      refine wpAnyH_ready (rs := [13]) (by kernel_rfl) (by simp) ?_
      refine AllReadyH.cons (o := _) rfl (fun K hK => ?_) AllReadyH.nil
      go_simp
      refine HCL.out.mono ?_
      rw [HR.out]
      rintro x w2 ⟨z, rfl, ho, hb2⟩
      simp only at ho ⊢
      obtain ⟨Az, cz, rfl, -⟩ := own_reads ho
      have HO := Lib.hid ho
      have HX2 := Lib.hid (fit_keep HX1.out hb2)
      have i0 := cell_keep hb2 j0
      have i1 := cell_keep hb2 j1
      have i2 := cell_keep hb2 j2
      have i3 := cell_keep hb2 j3
      have i4 := cell_keep hb2 j4
      have i5 := cell_keep hb2 j5
      have i6 := cell_keep hb2 j6
      clear hb2 ho
      go_wp2_with fail
      refine hK.out _ _ ?_ (fun hHeld => ?_)
      · exact ⟨i0, i1, i2, i3, i4, i5, i6⟩
      clear hK K
      try simp only [Act.put, List.getElem_toArray, List.getElem_cons_zero, List.getElem_cons_succ, List.setIfInBounds_toArray, List.set_cons_zero, List.set_cons_succ]
      refine wpAnyH_take (i := 14) (oi := _) (v := ?_) rfl (by kernel_rfl) (by kernel_rfl) (by kernel_rfl) (fun _ _ _ h => h) (Or.inl ⟨by rfl, ?_⟩) (by assumption) ?_
      rotate_left
      · first | (intro w' hSw; (try dsimp only at hSw); go_simp; done) | (intro w' hSw; (try dsimp only at hSw); go_simp; with_reducible rfl)
      try simp only [Act.put, List.getElem_toArray, List.getElem_cons_zero, List.getElem_cons_succ, List.setIfInBounds_toArray, List.set_cons_zero, List.set_cons_succ]
      refine wpAnyH_take (i := 15) (oi := _) (v := ?_) rfl (by kernel_rfl) (by kernel_rfl) (by kernel_rfl) (fun _ _ _ h => h) (Or.inl ⟨by rfl, ?_⟩) (by assumption) ?_
      rotate_left
      · first | (intro w' hSw; (try dsimp only at hSw); go_simp; done) | (intro w' hSw; (try dsimp only at hSw); go_simp; with_reducible rfl)
      try simp only [Act.put, List.getElem_toArray, List.getElem_cons_zero, List.getElem_cons_succ, List.setIfInBounds_toArray, List.set_cons_zero, List.set_cons_succ]
      refine wpAnyH_take (i := 16) (oi := _) (v := ?_) rfl (by kernel_rfl) (by kernel_rfl) (by kernel_rfl) (fun _ _ _ h => h) (Or.inl ⟨by rfl, ?_⟩) (by assumption) ?_
      rotate_left
      · first | (intro w' hSw; (try dsimp only at hSw); go_simp; done) | (intro w' hSw; (try dsimp only at hSw); go_simp; with_reducible rfl)
      try simp only [Act.put, List.getElem_toArray, List.getElem_cons_zero, List.getElem_cons_succ, List.setIfInBounds_toArray, List.set_cons_zero, List.set_cons_succ]
      refine wpAnyH_take (i := 17) (oi := _) (v := ?_) rfl (by kernel_rfl) (by kernel_rfl) (by kernel_rfl) (fun _ _ _ h => h) (Or.inl ⟨by rfl, ?_⟩) (by assumption) ?_
      rotate_left
      · first | (intro w' hSw; (try dsimp only at hSw); go_simp; done) | (intro w' hSw; (try dsimp only at hSw); go_simp; with_reducible rfl)
      try simp only [Act.put, List.getElem_toArray, List.getElem_cons_zero, List.getElem_cons_succ, List.setIfInBounds_toArray, List.set_cons_zero, List.set_cons_succ]
      refine wpAnyH_done (by kernel_rfl) ?_ _
      clear t0 t1 t2 p0 p1 p2 p3 j0 j1 j2 j3 j4 j5 j6 i0 i1 i2 i3 i4 i5 i6 ea eb
      have hs1 := HX1.out.size
      go_wp2
      refine bodyPost_ret (v := .tuple #[.slice Az R.length cz, .bool g]) (by simp [results, Try.results82, go_sem]) rfl ?_
      rw [HE.out, HR.out]
      exact ⟨_, rfl, HO.out.base (by omega), fit_keep HB.out HX2.out⟩
end

section
open Go.RowKit
set_option linter.unusedVariables false

theorem l1Same_any (v v' : Value) (xs ys : List Int) (w : World) (h : RInts w v xs) (h' : RInts w v' ys) :
    Calls Try.prog 95 #[v, v'] w fun e w' => e = .returned (.bool (decide (xs = ys))) ∧ Drawn w w' := by
  have H := Lib.hid h
  have H' := Lib.hid h'
  have hn := h.len
  have hn' := h'.len
  obtain ⟨A, c, rfl, -⟩ := h.form
  obtain ⟨A', c', rfl, -⟩ := h'.form
  clear h h'
  go_enter Try.func95, Try.ntmps95
  go_wp2
  go_loopw [5] (fun i wr => ∃ k : Nat, k ≤ xs.length ∧ k ≤ ys.length ∧ i = .int .i64 k ∧ xs.take k = ys.take k ∧ Drawn w wr) (fun i _ => xs.length - (intOf i).toNat)
  case atStart => exact ⟨0, Nat.zero_le _, Nat.zero_le _, rfl, rfl, Drawn.refl _⟩
  case round =>
    obtain ⟨k, hk, hk2, rfl, hb0, hd⟩ := hrel
    have hb := Lib.hid hb0
    have HD := Lib.hid hd
    clear hb0 hd
    by_cases hlt : k < xs.length
    · have hs1 : (k : Int) < (xs.length : Int) := by omega
      by_cases hlt2 : k < ys.length
      · have hs2 : (k : Int) < (ys.length : Int) := by omega
        obtain ⟨b, o, c3, e, hx⟩ := (H.out.keep HD.out.below).at_ hlt
        cases e
        obtain ⟨b', o', c4, e, hy⟩ := (H'.out.keep HD.out.below).at_ hlt2
        cases e
        have HT := Lib.hid (take_succ_eq hlt hlt2 hb.out)
        have HN := Lib.hid (ne_of_at hlt hlt2)
        generalize xs[k] = x at hx HT HN
        generalize ys[k] = y at hy HT HN
        by_cases hxy : x = y
        · subst hxy
          have e1 : (x != x) = false := by simp
          have e2 : (x == x) = true := by simp
          go_wp2_with fail
          go_quiet (fail)
          go_wp2
          go_roundw
          case rel => exact ⟨k + 1, by omega, by omega, by go_num, HT.out (by simp), HD.out.more _⟩
          case measure => simp [intOf]; omega
        · have e1 : (x != y) = true := by simpa using hxy
          have e2 : (x == y) = false := by simpa using hxy
          have HXY := Lib.hid hxy
          clear hxy
          go_wp2_with fail
          go_quiet (fail)
          go_wp2
          go_ret
          exact ⟨ret_bool (by simpa using (HN.out HXY.out)), HD.out.more _⟩
      · have hs2 : ¬ (k : Int) < (ys.length : Int) := by omega
        have e3 : ((xs.length : Int) == (ys.length : Int)) = false := by rw [beq_eq_false_iff_ne]; omega
        have HNE := Lib.hid (show decide (xs = ys) = false by simp; rintro rfl; omega)
        go_wp2
        go_ret
        exact ⟨ret_bool HNE.out.symm, HD.out⟩
    · have hs1 : ¬ (k : Int) < (xs.length : Int) := by omega
      by_cases hle : xs.length = ys.length
      · have e3 : ((xs.length : Int) == (ys.length : Int)) = true := by rw [beq_iff_eq]; omega
        have HEQ := Lib.hid (show decide (xs = ys) = true by
          have h := hb.out
          rw [take_all (by omega), take_all (by omega)] at h
          simpa using h)
        clear hle
        go_wp2
        go_ret
        exact ⟨ret_bool HEQ.out.symm, HD.out⟩
      · have e3 : ((xs.length : Int) == (ys.length : Int)) = false := by rw [beq_eq_false_iff_ne]; omega
        have HNE := Lib.hid (show decide (xs = ys) = false by simp; rintro rfl; omega)
        clear hle
        go_wp2
        go_ret
        exact ⟨ret_bool HNE.out.symm, HD.out⟩
end

section
open Go.RowKit
set_option linter.unusedVariables false
set_option linter.unusedSimpArgs false

theorem stepM_no {t : MThy} {vars u : List Int} {p : MStep} (h : thyB t = false) : stepM t vars u p = ([], false) := by unfold stepM; rw [h]; simp
theorem stepM_yes {t : MThy} {vars u : List Int} {p : MStep} (h : thyB t = true) : stepM t vars u p = afterM t vars u p := by unfold stepM; rw [if_pos h]

set_option maxRecDepth 100000 in
theorem l3Sides_any (e : MEq) (back : Bool) (w : World) (v : Value) (h : REq w v e) :
    Calls Try.prog 108 #[v, .bool back] w fun x w' => ∃ a b, x = .returned (.tuple #[a, b]) ∧ RInts w' a (sideFrom e back) ∧ RInts w' b (sideTo e back) ∧ Below w.heap.size w w' := by
  obtain ⟨Aea, cea, Aeb, ceb, Aec, cec, rfl⟩ := h.form
  have hb : Below w.heap.size w (w.alloc (.cells #[.slice Aea e.vars.length cea, .slice Aeb e.left.length ceb, .slice Aec e.right.length cec] 63)) := below_alloc _ _
  have HB := Lib.hid hb
  have hsz : (w.alloc (.cells #[.slice Aea e.vars.length cea, .slice Aeb e.left.length ceb, .slice Aec e.right.length cec] 63)).heap.size = w.heap.size + 1 := by simp
  have He := Lib.hid (h.keep hb)
  have e0 := bx_at (w) #[.slice Aea e.vars.length cea, .slice Aeb e.left.length ceb, .slice Aec e.right.length cec] 63 (k := 0) rfl
  have e1 := bx_at (w) #[.slice Aea e.vars.length cea, .slice Aeb e.left.length ceb, .slice Aec e.right.length cec] 63 (k := 1) rfl
  have e2 := bx_at (w) #[.slice Aea e.vars.length cea, .slice Aeb e.left.length ceb, .slice Aec e.right.length cec] 63 (k := 2) rfl
  generalize hW : w.alloc (.cells #[.slice Aea e.vars.length cea, .slice Aeb e.left.length ceb, .slice Aec e.right.length cec] 63) = W at HB hsz He e0 e1 e2
  clear hb h
  obtain ⟨r0, r1, r2⟩ := He.out.of
  have R := Lib.hid (And.intro r1 r2)
  clear r0 r1 r2
  have ea := World.new_ne W _ e0
  cases back with
  | true =>
    go_enter Try.func108, Try.ntmps108
    go_wp2_with fail
    refine wp_region_held_drew (S := (fun w' => w'.cell? ⟨w.heap.size, 0, none⟩ = some (.slice Aea e.vars.length cea) ∧ w'.cell? ⟨w.heap.size, 1, none⟩ = some (.slice Aeb e.left.length ceb) ∧ w'.cell? ⟨w.heap.size, 2, none⟩ = some (.slice Aec e.right.length cec))) (by kernel_rfl) ?_ (fun hHeld => ?_)
    · exact ⟨e0, e1, e2⟩
    refine wpAnyH_take (i := 0) (oi := _) (v := ?_) rfl (by kernel_rfl) (by kernel_rfl) (by kernel_rfl) (fun _ _ _ h => h) (Or.inl ⟨by rfl, ?_⟩) (by assumption) ?_
    rotate_left
    · first | (intro w' hSw; (try dsimp only at hSw); go_simp; done) | (intro w' hSw; (try dsimp only at hSw); go_simp; with_reducible rfl)
    try simp only [Act.put, List.getElem_toArray, List.getElem_cons_zero, List.getElem_cons_succ, List.setIfInBounds_toArray, List.set_cons_zero, List.set_cons_succ]
    refine wpAnyH_take (i := 1) (oi := _) (v := ?_) rfl (by kernel_rfl) (by kernel_rfl) (by kernel_rfl) (fun _ _ _ h => h) (Or.inl ⟨by rfl, ?_⟩) (by assumption) ?_
    rotate_left
    · first | (intro w' hSw; (try dsimp only at hSw); go_simp; done) | (intro w' hSw; (try dsimp only at hSw); go_simp; with_reducible rfl)
    try simp only [Act.put, List.getElem_toArray, List.getElem_cons_zero, List.getElem_cons_succ, List.setIfInBounds_toArray, List.set_cons_zero, List.set_cons_succ]
    refine wpAnyH_take (i := 2) (oi := _) (v := ?_) rfl (by kernel_rfl) (by kernel_rfl) (by kernel_rfl) (fun _ _ _ h => h) (Or.inl ⟨by rfl, ?_⟩) (by assumption) ?_
    rotate_left
    · first | (intro w' hSw; (try dsimp only at hSw); go_simp; done) | (intro w' hSw; (try dsimp only at hSw); go_simp; with_reducible rfl)
    try simp only [Act.put, List.getElem_toArray, List.getElem_cons_zero, List.getElem_cons_succ, List.setIfInBounds_toArray, List.set_cons_zero, List.set_cons_succ]
    refine wpAnyH_take (i := 3) (oi := _) (v := ?_) rfl (by kernel_rfl) (by kernel_rfl) (by kernel_rfl) (fun _ _ _ h => h) (Or.inl ⟨by rfl, ?_⟩) (by assumption) ?_
    rotate_left
    · first | (intro w' hSw; (try dsimp only at hSw); go_simp; done) | (intro w' hSw; (try dsimp only at hSw); go_simp; with_reducible rfl)
    try simp only [Act.put, List.getElem_toArray, List.getElem_cons_zero, List.getElem_cons_succ, List.setIfInBounds_toArray, List.set_cons_zero, List.set_cons_succ]
    refine wpAnyH_take (i := 4) (oi := _) (v := ?_) rfl (by kernel_rfl) (by kernel_rfl) (by kernel_rfl) (fun _ _ _ h => h) (Or.inl ⟨by rfl, ?_⟩) (by assumption) ?_
    rotate_left
    · first | (intro w' hSw; (try dsimp only at hSw); go_simp; done) | (intro w' hSw; (try dsimp only at hSw); go_simp; with_reducible rfl)
    try simp only [Act.put, List.getElem_toArray, List.getElem_cons_zero, List.getElem_cons_succ, List.setIfInBounds_toArray, List.set_cons_zero, List.set_cons_succ]
    refine wpAnyH_take (i := 5) (oi := _) (v := ?_) rfl (by kernel_rfl) (by kernel_rfl) (by kernel_rfl) (fun _ _ _ h => h) (Or.inl ⟨by rfl, ?_⟩) (by assumption) ?_
    rotate_left
    · first | (intro w' hSw; (try dsimp only at hSw); go_simp; done) | (intro w' hSw; (try dsimp only at hSw); go_simp; with_reducible rfl)
    try simp only [Act.put, List.getElem_toArray, List.getElem_cons_zero, List.getElem_cons_succ, List.setIfInBounds_toArray, List.set_cons_zero, List.set_cons_succ]
    refine wpAnyH_done (by kernel_rfl) ?_ _
    go_wp2
    refine bodyPost_ret (v := .tuple #[.slice Aec e.right.length cec, .slice Aeb e.left.length ceb]) (by simp [results, Try.results108, go_sem]) rfl ?_
    exact ⟨_, _, rfl, by simpa [sideFrom] using R.out.2.keep (bel_drew (Below.refl _ _)), by simpa [sideTo] using R.out.1.keep (bel_drew (Below.refl _ _)), bel_drew HB.out⟩
  | false =>
    go_enter Try.func108, Try.ntmps108
    go_wp2_with fail
    refine wp_region_held_drew (S := (fun w' => w'.cell? ⟨w.heap.size, 0, none⟩ = some (.slice Aea e.vars.length cea) ∧ w'.cell? ⟨w.heap.size, 1, none⟩ = some (.slice Aeb e.left.length ceb) ∧ w'.cell? ⟨w.heap.size, 2, none⟩ = some (.slice Aec e.right.length cec))) (by kernel_rfl) ?_ (fun hHeld => ?_)
    · exact ⟨e0, e1, e2⟩
    refine wpAnyH_take (i := 0) (oi := _) (v := ?_) rfl (by kernel_rfl) (by kernel_rfl) (by kernel_rfl) (fun _ _ _ h => h) (Or.inl ⟨by rfl, ?_⟩) (by assumption) ?_
    rotate_left
    · first | (intro w' hSw; (try dsimp only at hSw); go_simp; done) | (intro w' hSw; (try dsimp only at hSw); go_simp; with_reducible rfl)
    try simp only [Act.put, List.getElem_toArray, List.getElem_cons_zero, List.getElem_cons_succ, List.setIfInBounds_toArray, List.set_cons_zero, List.set_cons_succ]
    refine wpAnyH_take (i := 1) (oi := _) (v := ?_) rfl (by kernel_rfl) (by kernel_rfl) (by kernel_rfl) (fun _ _ _ h => h) (Or.inl ⟨by rfl, ?_⟩) (by assumption) ?_
    rotate_left
    · first | (intro w' hSw; (try dsimp only at hSw); go_simp; done) | (intro w' hSw; (try dsimp only at hSw); go_simp; with_reducible rfl)
    try simp only [Act.put, List.getElem_toArray, List.getElem_cons_zero, List.getElem_cons_succ, List.setIfInBounds_toArray, List.set_cons_zero, List.set_cons_succ]
    refine wpAnyH_take (i := 2) (oi := _) (v := ?_) rfl (by kernel_rfl) (by kernel_rfl) (by kernel_rfl) (fun _ _ _ h => h) (Or.inl ⟨by rfl, ?_⟩) (by assumption) ?_
    rotate_left
    · first | (intro w' hSw; (try dsimp only at hSw); go_simp; done) | (intro w' hSw; (try dsimp only at hSw); go_simp; with_reducible rfl)
    try simp only [Act.put, List.getElem_toArray, List.getElem_cons_zero, List.getElem_cons_succ, List.setIfInBounds_toArray, List.set_cons_zero, List.set_cons_succ]
    refine wpAnyH_take (i := 3) (oi := _) (v := ?_) rfl (by kernel_rfl) (by kernel_rfl) (by kernel_rfl) (fun _ _ _ h => h) (Or.inl ⟨by rfl, ?_⟩) (by assumption) ?_
    rotate_left
    · first | (intro w' hSw; (try dsimp only at hSw); go_simp; done) | (intro w' hSw; (try dsimp only at hSw); go_simp; with_reducible rfl)
    try simp only [Act.put, List.getElem_toArray, List.getElem_cons_zero, List.getElem_cons_succ, List.setIfInBounds_toArray, List.set_cons_zero, List.set_cons_succ]
    refine wpAnyH_take (i := 4) (oi := _) (v := ?_) rfl (by kernel_rfl) (by kernel_rfl) (by kernel_rfl) (fun _ _ _ h => h) (Or.inl ⟨by rfl, ?_⟩) (by assumption) ?_
    rotate_left
    · first | (intro w' hSw; (try dsimp only at hSw); go_simp; done) | (intro w' hSw; (try dsimp only at hSw); go_simp; with_reducible rfl)
    try simp only [Act.put, List.getElem_toArray, List.getElem_cons_zero, List.getElem_cons_succ, List.setIfInBounds_toArray, List.set_cons_zero, List.set_cons_succ]
    refine wpAnyH_take (i := 5) (oi := _) (v := ?_) rfl (by kernel_rfl) (by kernel_rfl) (by kernel_rfl) (fun _ _ _ h => h) (Or.inl ⟨by rfl, ?_⟩) (by assumption) ?_
    rotate_left
    · first | (intro w' hSw; (try dsimp only at hSw); go_simp; done) | (intro w' hSw; (try dsimp only at hSw); go_simp; with_reducible rfl)
    try simp only [Act.put, List.getElem_toArray, List.getElem_cons_zero, List.getElem_cons_succ, List.setIfInBounds_toArray, List.set_cons_zero, List.set_cons_succ]
    refine wpAnyH_done (by kernel_rfl) ?_ _
    go_wp2
    refine bodyPost_ret (v := .tuple #[.slice Aeb e.left.length ceb, .slice Aec e.right.length cec]) (by simp [results, Try.results108, go_sem]) rfl ?_
    exact ⟨_, _, rfl, by simpa [sideFrom] using R.out.1.keep (bel_drew (Below.refl _ _)), by simpa [sideTo] using R.out.2.keep (bel_drew (Below.refl _ _)), bel_drew HB.out⟩

theorem stepM_out {t : MThy} {vars u : List Int} {p : MStep} (h : ¬ (0 ≤ p.ax ∧ p.ax < t.eqs.length)) : stepM t vars u p = ([], false) := by
  unfold stepM; rw [afterM_no h]; simp
theorem inB_ax {n : Int} {l : Nat} (q : Int) (hq : q = (l : Int) - 1) : inB n 0 q = decide (0 ≤ n ∧ n < (l : Int)) := inB_op q hq

set_option maxHeartbeats 1000000 in
set_option maxRecDepth 100000 in
theorem specStepDo_any (t : MThy) (vars u : List Int) (p : MStep) (w : World) (v vv uv pv : Value) (hsp : SmallP p) (h : RThy w v t) (h1 : RInts w vv vars) (h2 : RInts w uv u) (h3 : RStep w pv p) :
    Calls Try.prog 77 #[v, vv, uv, pv] w (PairPost (stepM t vars u p) w) := by
  obtain ⟨Ata, cta, Atb, ctb, rfl⟩ := h.form
  obtain ⟨Apa, cpa, rfl⟩ := h3.form
  have hb : Below w.heap.size w ((w.alloc (.cells #[.int .i64 t.over.sorts, .slice Ata t.over.ops.length cta, .slice Atb t.eqs.length ctb] 40)).alloc (.cells #[.int .i64 p.ax, .bool p.back, .int .i64 p.at_, .slice Apa p.terms.length cpa] 100)) := (below_alloc _ _).alloc (by simp) _
  have HB := Lib.hid hb
  have hsz : ((w.alloc (.cells #[.int .i64 t.over.sorts, .slice Ata t.over.ops.length cta, .slice Atb t.eqs.length ctb] 40)).alloc (.cells #[.int .i64 p.ax, .bool p.back, .int .i64 p.at_, .slice Apa p.terms.length cpa] 100)).heap.size = w.heap.size + 2 := by simp
  have Ht := Lib.hid (h.keep hb)
  have t0 := cell_keep (below_alloc (w.alloc (.cells #[.int .i64 t.over.sorts, .slice Ata t.over.ops.length cta, .slice Atb t.eqs.length ctb] 40)) (.cells #[.int .i64 p.ax, .bool p.back, .int .i64 p.at_, .slice Apa p.terms.length cpa] 100)) (bx_at (w) #[.int .i64 t.over.sorts, .slice Ata t.over.ops.length cta, .slice Atb t.eqs.length ctb] 40 (k := 0) rfl)
  have t1 := cell_keep (below_alloc (w.alloc (.cells #[.int .i64 t.over.sorts, .slice Ata t.over.ops.length cta, .slice Atb t.eqs.length ctb] 40)) (.cells #[.int .i64 p.ax, .bool p.back, .int .i64 p.at_, .slice Apa p.terms.length cpa] 100)) (bx_at (w) #[.int .i64 t.over.sorts, .slice Ata t.over.ops.length cta, .slice Atb t.eqs.length ctb] 40 (k := 1) rfl)
  have t2 := cell_keep (below_alloc (w.alloc (.cells #[.int .i64 t.over.sorts, .slice Ata t.over.ops.length cta, .slice Atb t.eqs.length ctb] 40)) (.cells #[.int .i64 p.ax, .bool p.back, .int .i64 p.at_, .slice Apa p.terms.length cpa] 100)) (bx_at (w) #[.int .i64 t.over.sorts, .slice Ata t.over.ops.length cta, .slice Atb t.eqs.length ctb] 40 (k := 2) rfl)
  have Hp := Lib.hid (h3.keep hb)
  have p0 := bx_at (w.alloc (.cells #[.int .i64 t.over.sorts, .slice Ata t.over.ops.length cta, .slice Atb t.eqs.length ctb] 40)) #[.int .i64 p.ax, .bool p.back, .int .i64 p.at_, .slice Apa p.terms.length cpa] 100 (k := 0) rfl
  have p1 := bx_at (w.alloc (.cells #[.int .i64 t.over.sorts, .slice Ata t.over.ops.length cta, .slice Atb t.eqs.length ctb] 40)) #[.int .i64 p.ax, .bool p.back, .int .i64 p.at_, .slice Apa p.terms.length cpa] 100 (k := 1) rfl
  have p2 := bx_at (w.alloc (.cells #[.int .i64 t.over.sorts, .slice Ata t.over.ops.length cta, .slice Atb t.eqs.length ctb] 40)) #[.int .i64 p.ax, .bool p.back, .int .i64 p.at_, .slice Apa p.terms.length cpa] 100 (k := 2) rfl
  have p3 := bx_at (w.alloc (.cells #[.int .i64 t.over.sorts, .slice Ata t.over.ops.length cta, .slice Atb t.eqs.length ctb] 40)) #[.int .i64 p.ax, .bool p.back, .int .i64 p.at_, .slice Apa p.terms.length cpa] 100 (k := 3) rfl
  simp only [World.size_alloc] at p0 p1 p2 p3
  generalize hW : (w.alloc (.cells #[.int .i64 t.over.sorts, .slice Ata t.over.ops.length cta, .slice Atb t.eqs.length ctb] 40)).alloc (.cells #[.int .i64 p.ax, .bool p.back, .int .i64 p.at_, .slice Apa p.terms.length cpa] 100) = W at HB hsz Ht t0 t1 t2 Hp p0 p1 p2 p3
  clear hb h h3
  have HV := Lib.hid (h1.keep HB.out)
  have HU := Lib.hid (h2.keep HB.out)
  have HP := Lib.hid Hp.out.of
  have HTS := Lib.hid (show RSig W (.agg #[.int .i64 t.over.sorts, .slice Ata t.over.ops.length cta]) t.over from ⟨_, rfl, Ht.out.of.2.1⟩)
  have hlen := (Ht.out.of.2.2).len
  have HSP := Lib.hid hsp
  obtain ⟨A1, d1, rfl, -⟩ := h1.form
  obtain ⟨A2, d2, rfl, -⟩ := h2.form
  clear h1 h2 hsp
  obtain ⟨bb, hbb⟩ : ∃ b, thyB t = b := ⟨_, rfl⟩
  have HT := Lib.hid hbb
  clear hbb
  go_enter Try.func77, Try.ntmps77
  go_wp2_with fail
  clear hW
  refine (specTheoryOk_any t _ _ Ht.out).mono ?_
  rw [HT.out]
  rintro x w1 ⟨rfl, hb⟩
  have HB1 := Lib.hid (fit_keep HB.out hb)
  have HK := Lib.hid hb
  have j0 := cell_keep hb t0
  have j1 := cell_keep hb t1
  have j2 := cell_keep hb t2
  have j3 := cell_keep hb p0
  have j4 := cell_keep hb p1
  have j5 := cell_keep hb p2
  have j6 := cell_keep hb p3
  clear hb t0 t1 t2 p0 p1 p2 p3
  cases bb with
  | false =>
    have HE := Lib.hid (stepM_no (vars := vars) (u := u) (p := p) HT.out)
    have he := own_empty w1
    go_wp2
    refine bodyPost_ret (v := .tuple #[.slice (some ⟨w1.heap.size, 0, none⟩) 0 0, .bool false]) (by simp [results, Try.results77, go_sem]) rfl ?_
    rw [HE.out]
    exact ⟨_, rfl, OInts.base he HB1.out.size, fit_keep HB1.out (below_alloc _ _)⟩
  | true =>
    cases hin : inB p.ax 0 ((t.eqs.length : Int) - 1) with
    | false =>
      have hno : ¬ (0 ≤ p.ax ∧ p.ax < t.eqs.length) := by
        rw [inB_ax (l := t.eqs.length) _ rfl] at hin
        simpa using hin
      have HE := Lib.hid (stepM_out (vars := vars) (u := u) hno)
      have HI := Lib.hid hin
      have he := own_empty w1
      clear hin
      go_wp2_with (go_at_call 94; refine (l1In_is _ _ _ _ false HI.out).mono ?_; rintro e w2 ⟨rfl, rfl⟩)
      refine bodyPost_ret (v := .tuple #[.slice (some ⟨w1.heap.size, 0, none⟩) 0 0, .bool false]) (by simp [results, Try.results77, go_sem]) rfl ?_
      rw [HE.out]
      exact ⟨_, rfl, OInts.base he HB1.out.size, fit_keep HB1.out (below_alloc _ _)⟩
    | true =>
      have hyes : 0 ≤ p.ax ∧ p.ax < t.eqs.length := by
        rw [inB_ax (l := t.eqs.length) _ rfl] at hin
        simpa using hin
      have HI := Lib.hid hin
      clear hin
      obtain ⟨k, hk⟩ := Int.eq_ofNat_of_zero_le hyes.1
      have hkl : k < t.eqs.length := by omega
      have hk0 : (0 : Int) ≤ (k : Int) := by omega
      have hk1 : (k : Int) < (t.eqs.length : Int) := by omega
      have HE := Lib.hid ((stepM_yes (vars := vars) (u := u) (p := p) HT.out).trans (afterM_yes (vars := vars) (u := u) (p := p) hkl hk))
      obtain ⟨b, o, c3, x0, x1, x2, e, c00, c01, c02, q0, q1, q2⟩ := (((Ht.out.keep HK.out).of).2.2).at_ hkl
      cases e
      generalize t.eqs[k] = e at q0 q1 q2 HE
      have HX := Lib.hid (show REq w1 (.agg #[x0, x1, x2]) e from ⟨x0, x1, x2, rfl, q0, q1, q2⟩)
      obtain ⟨A0, g0, rfl, -⟩ := q0.form
      obtain ⟨A9, g1, rfl, -⟩ := q1.form
      obtain ⟨A8, g2, rfl, -⟩ := q2.form
      rw [hk] at j3 HI hyes
      have HK' := Lib.hid hk
      clear q0 q1 q2 hk
      have hba := below_alloc w1 (.cells #[.slice A0 e.vars.length g0, .slice A9 e.left.length g1, .slice A8 e.right.length g2] 63)
      have n0 := bx_at w1 #[.slice A0 e.vars.length g0, .slice A9 e.left.length g1, .slice A8 e.right.length g2] 63 (k := 0) rfl
      have n1 := bx_at w1 #[.slice A0 e.vars.length g0, .slice A9 e.left.length g1, .slice A8 e.right.length g2] 63 (k := 1) rfl
      have n2 := bx_at w1 #[.slice A0 e.vars.length g0, .slice A9 e.left.length g1, .slice A8 e.right.length g2] 63 (k := 2) rfl
      have m0 := cell_keep hba j0
      have m1 := cell_keep hba j1
      have m4 := cell_keep hba j4
      have m5 := cell_keep hba j5
      have m6 := cell_keep hba j6
      have HX2 := Lib.hid (HX.out.keep hba)
      have HK2 := Lib.hid (fit_keep HK.out hba)
      generalize hW2 : w1.alloc (.cells #[.slice A0 e.vars.length g0, .slice A9 e.left.length g1, .slice A8 e.right.length g2] 63) = W2 at n0 n1 n2 m0 m1 m4 m5 m6 HX2 HK2
      have hsz1 := HK.out.size
      clear hba
      have HY := Lib.hid hyes
      clear hyes
      go_wp2_with fail
      refine (l1In_is _ _ _ _ true HI.out).mono ?_
      rintro e' w2 ⟨rfl, hw2⟩
      subst hw2
      go_wp2_with fail
      clear hW2 j0 j1 j2 j3 j4 j5 j6 c00 c01 c02 hk0 hk1
      refine (l3Sides_any e p.back _ _ HX2.out).mono ?_
      rintro x w3 ⟨fv, tv, rfl, rf, rt, hb⟩
      obtain ⟨AF, cF, rfl, -⟩ := rf.form
      obtain ⟨AO, cO, rfl, -⟩ := rt.form
      have RF := Lib.hid rf
      have RT := Lib.hid rt
      have HK3 := Lib.hid (fit_keep HK2.out hb)
      have i0 := cell_keep hb m0
      have i1 := cell_keep hb m1
      have i4 := cell_keep hb m4
      have i5 := cell_keep hb m5
      have i6 := cell_keep hb m6
      have i7 := cell_keep hb n0
      have EV := Lib.hid ((HX2.out.of).1.keep hb)
      obtain ⟨X, bx, hX⟩ : ∃ X b, putM t.over e.vars (sideFrom e p.back) vars p.terms = (X, b) := ⟨_, _, rfl⟩
      obtain ⟨Y, by_, hY⟩ : ∃ Y d, putM t.over e.vars (sideTo e p.back) vars p.terms = (Y, d) := ⟨_, _, rfl⟩
      have GX := Lib.hid hX
      have GY := Lib.hid hY
      clear hX hY hb rf rt m0 m1 m4 m5 m6 n0 n1 n2
      go_wp2_with fail
      refine (specTermPut_any t.over e.vars (sideFrom e p.back) vars p.terms _ _ _ _ _ _ HSP.out (HTS.out.keep HK3.out) EV.out RF.out (HV.out.keep HK3.out) (HP.out.keep HK3.out)).mono ?_
      rw [GX.out]
      rintro x w4 ⟨z, rfl, ho, hb⟩
      simp only at ho ⊢
      obtain ⟨Az, cz, rfl, -⟩ := own_reads ho
      have ZX := Lib.hid ho.reads
      have HK4 := Lib.hid (fit_keep HK3.out hb)
      have RT4 := Lib.hid (RT.out.keep hb)
      have EV4 := Lib.hid (EV.out.keep hb)
      have m0 := cell_keep hb i0
      have m1 := cell_keep hb i1
      have m5 := cell_keep hb i5
      have m6 := cell_keep hb i6
      have m7 := cell_keep hb i7
      clear hb ho i0 i1 i4 i5 i6 i7
      go_wp2_with fail
      refine (specTermPut_any t.over e.vars (sideTo e p.back) vars p.terms _ _ _ _ _ _ HSP.out (HTS.out.keep HK4.out) EV4.out RT4.out (HV.out.keep HK4.out) (HP.out.keep HK4.out)).mono ?_
      rw [GY.out]
      rintro x w5 ⟨z, rfl, ho, hb⟩
      simp only at ho ⊢
      obtain ⟨Ay, cy, rfl, -⟩ := own_reads ho
      have ZY := Lib.hid ho.reads
      have HK5 := Lib.hid (fit_keep HK4.out hb)
      have ZX5 := Lib.hid (ZX.out.keep hb)
      have i0 := cell_keep hb m0
      have i1 := cell_keep hb m1
      have i5 := cell_keep hb m5
      clear hb ho m0 m1 m5 m6 m7
      cases bx with
      | false =>
        have HE2 := Lib.hid (HE.out.trans (show ruleM t.over e.vars (sideFrom e p.back) (sideTo e p.back) vars u p.at_ p.terms = ([], false) by unfold ruleM; rw [GX.out]; simp))
        have he := own_empty w5
        have hs5 := (fit_keep HB.out HK5.out).size
        go_wp2
        refine bodyPost_ret (v := .tuple #[.slice (some ⟨w5.heap.size, 0, none⟩) 0 0, .bool false]) (by simp [results, Try.results77, go_sem]) rfl ?_
        rw [HE2.out]
        exact ⟨_, rfl, OInts.base he hs5, fit_keep (fit_keep HB.out HK5.out) (below_alloc _ _)⟩
      | true =>
        cases by_ with
        | false =>
          have HE2 := Lib.hid (HE.out.trans (show ruleM t.over e.vars (sideFrom e p.back) (sideTo e p.back) vars u p.at_ p.terms = ([], false) by unfold ruleM; rw [GX.out, GY.out]; simp))
          have he := own_empty w5
          have hs5 := (fit_keep HB.out HK5.out).size
          go_wp2
          refine bodyPost_ret (v := .tuple #[.slice (some ⟨w5.heap.size, 0, none⟩) 0 0, .bool false]) (by simp [results, Try.results77, go_sem]) rfl ?_
          rw [HE2.out]
          exact ⟨_, rfl, OInts.base he hs5, fit_keep (fit_keep HB.out HK5.out) (below_alloc _ _)⟩
        | true =>
          go_wp2_with fail
          refine (specTermAt_any t.over vars u p.at_ _ _ _ _ (HTS.out.keep HK5.out) (HV.out.keep HK5.out) (HU.out.keep HK5.out)).mono ?_
          rintro x w6 ⟨z, rfl, hop, hb⟩
          obtain ⟨Ap, cp, rfl, -⟩ := own_reads hop
          have ZP := Lib.hid hop.reads
          have HK6 := Lib.hid (fit_keep HK5.out hb)
          have ZX6 := Lib.hid (ZX5.out.keep hb)
          have ZY6 := Lib.hid (ZY.out.keep hb)
          have m0 := cell_keep hb i0
          have m1 := cell_keep hb i1
          have m5 := cell_keep hb i5
          obtain ⟨q, hq⟩ : ∃ q : Bool, decide (atM t.over vars u p.at_ = X) = q := ⟨_, rfl⟩
          have HQ := Lib.hid hq
          clear hb hop i0 i1 i5 hq
          go_wp2_with fail
          refine (l1Same_any _ _ (atM t.over vars u p.at_) X _ ZP.out ZX6.out).mono ?_
          rw [HQ.out]
          rintro x w7 ⟨rfl, hd⟩
          have hb := hd.below
          have HK7 := Lib.hid (fit_keep HK6.out hb)
          have ZY7 := Lib.hid (ZY6.out.keep hb)
          have i0 := cell_keep hb m0
          have i1 := cell_keep hb m1
          have i5 := cell_keep hb m5
          clear hb hd m0 m1 m5
          cases q with
          | false =>
            have HE2 := Lib.hid (HE.out.trans (show ruleM t.over e.vars (sideFrom e p.back) (sideTo e p.back) vars u p.at_ p.terms = ([], false) by
              unfold ruleM; rw [GX.out, if_neg]
              rintro ⟨-, h, -⟩
              have := HQ.out
              rw [decide_eq_false_iff_not] at this
              exact this h.symm))
            have he := own_empty w7
            have hs5 := (fit_keep HB.out HK7.out).size
            go_wp2
            refine bodyPost_ret (v := .tuple #[.slice (some ⟨w7.heap.size, 0, none⟩) 0 0, .bool false]) (by simp [results, Try.results77, go_sem]) rfl ?_
            rw [HE2.out]
            exact ⟨_, rfl, OInts.base he hs5, fit_keep (fit_keep HB.out HK7.out) (below_alloc _ _)⟩
          | true =>
            have HXA := Lib.hid (of_decide_eq_true HQ.out)
            have HE2 := Lib.hid (HE.out.trans (show ruleM t.over e.vars (sideFrom e p.back) (sideTo e p.back) vars u p.at_ p.terms = swapM t.over vars u p.at_ Y by unfold ruleM; rw [GX.out, GY.out, if_pos ⟨rfl, HXA.out.symm, rfl⟩]))
            obtain ⟨Z, g, hZ⟩ : ∃ Z g, swapM t.over vars u p.at_ Y = (Z, g) := ⟨_, _, rfl⟩
            have HZZ := Lib.hid hZ
            clear hZ
            go_wp2_with fail
            refine (specTermSwap_any t.over vars u p.at_ Y _ _ _ _ _ (HTS.out.keep HK7.out) (HV.out.keep HK7.out) (HU.out.keep HK7.out) ZY7.out).mono ?_
            rw [HZZ.out]
            rintro x w8 ⟨z'', rfl, ho, hb⟩
            simp only at ho ⊢
            obtain ⟨Aw, cw, rfl, -⟩ := own_reads ho
            have HB8 := Lib.hid (fit_keep (fit_keep HB.out HK7.out) hb)
            have HO := Lib.hid ho
            have hs7 := (fit_keep HB.out HK7.out).size
            clear hb ho i0 i1 i5
            go_wp2
            refine bodyPost_ret (v := .tuple #[.slice Aw Z.length cw, .bool g]) (by simp [results, Try.results77, go_sem]) rfl ?_
            rw [HE2.out, HZZ.out]
            exact ⟨_, rfl, HO.out.base hs7, HB8.out⟩
end

section
open Go.RowKit
set_option linter.unusedVariables false

/-- a row of numbers at the end of an own one -/
theorem app_own_run (w : World) (ty : TypeId) (B : Nat) (v x : Value) (xs ys : List Int) (hs : OInts w B v xs) (hx : RInts w x ys) (hl : xs.length + ys.length ≤ 10000000) (hB : B ≤ w.heap.size) :
    ∃ A c w', (Builtin.append_ #[28, 28] ty #[v, x]).run Try.prog w = .ok (.slice A (xs ++ ys).length c) w' ∧ OInts w' B (.slice A (xs ++ ys).length c) (xs ++ ys) ∧ w.grownBy w' v.ownBlock := by
  obtain ⟨i0, hi0, hz0, hz1, hz2⟩ := info_parts Try.tinfo_int
  obtain ⟨A2, c2, rfl, -⟩ := hx.form
  cases A2 with
  | none =>
    have h0 : ys = [] := by
      cases ys with
      | nil => rfl
      | cons y ys =>
        obtain ⟨b, o, c', e, -⟩ := hx.at_ (k := 0) (by simp)
        cases e
    subst h0
    obtain ⟨A, c, rfl, hc, -⟩ := own_reads hs
    refine ⟨A, c, w, ?_, by simpa using hs, ⟨rfl, rfl, rfl, Nat.le_refl _, fun _ _ _ => rfl⟩⟩
    have := run_append_nothing (P := Try.prog) w 28 28 ty 3 i0 Try.underlying28 hi0 A xs.length c hc (.slice none ([] : List Int).length c2) (Src.ofNil w Try.underlying28 c2)
    simpa using this
  | some ad =>
    obtain ⟨v', w', hr, ho, hg, -⟩ := run_append_own (P := Try.prog) w B 28 ty 3 i0 (.int .i64 0) 1 8 Try.underlying28 hi0 hz0 hz1 hz2 rfl (by decide) v xs.length (xs.map (Value.int .i64)) hs ad ys.length c2 (ys.map (Value.int .i64)) (by simp) (news_any hx) (ints_one _) (by rw [maxLen_eq]; omega) (by omega) hB
    have ho' := app_ints rfl ho
    obtain ⟨A, c, rfl, -⟩ := own_reads ho'
    exact ⟨A, c, w', hr, ho', hg⟩
end

section
open Go.RowKit
set_option linter.unusedVariables false
set_option linter.unusedSimpArgs false

def runL (t : MThy) (vars : List Int) : List Int → List MStep → List Int × Bool
  | now, [] => (now, true)
  | now, p :: ps => if (stepM t vars now p).2 = true then runL t vars (stepM t vars now p).1 ps else ([], false)
def runM (t : MThy) (vars u : List Int) (ps : List MStep) : List Int × Bool :=
  if thyB t = true ∧ 0 ≤ sortM t.over vars u ∧ ps.length ≤ 20 then runL t vars u ps else ([], false)
theorem runL_append (t : MThy) (vars : List Int) : ∀ (a b : List MStep) (now : List Int), runL t vars now (a ++ b) = if (runL t vars now a).2 = true then runL t vars (runL t vars now a).1 b else ([], false)
  | [], b, now => by simp [runL]
  | p :: a, b, now => by
    have ih := runL_append t vars a b (stepM t vars now p).1
    by_cases h : (stepM t vars now p).2 = true
    · have e1 : runL t vars now (p :: a) = runL t vars (stepM t vars now p).1 a := by simp [runL, h]
      have e2 : runL t vars now ((p :: a) ++ b) = runL t vars (stepM t vars now p).1 (a ++ b) := by simp [runL, h]
      rw [e1, e2]; exact ih
    · have e1 : runL t vars now (p :: a) = ([], false) := by simp [runL, h]
      have e2 : runL t vars now ((p :: a) ++ b) = ([], false) := by simp [runL, h]
      rw [e1, e2]; simp
theorem runL_snoc {t : MThy} {vars now x : List Int} {ps : List MStep} {k : Nat} (hk : k < ps.length) (h : runL t vars now (ps.take k) = (x, true)) : runL t vars now (ps.take (k + 1)) = if (stepM t vars x ps[k]).2 = true then ((stepM t vars x ps[k]).1, true) else ([], false) := by
  rw [List.take_succ_eq_append_getElem hk, runL_append, h]
  simp [runL]
theorem runL_fail {t : MThy} {vars now : List Int} {ps : List MStep} {k : Nat} (h : (runL t vars now (ps.take k)).2 = false) : runL t vars now ps = ([], false) := by
  have := runL_append t vars (ps.take k) (ps.drop k) now
  rw [List.take_append_drop, if_neg (by rw [h]; simp)] at this
  exact this
theorem runM_no {t : MThy} {vars u : List Int} {ps : List MStep} (h : ¬ (thyB t = true ∧ 0 ≤ sortM t.over vars u ∧ ps.length ≤ 20)) : runM t vars u ps = ([], false) := by unfold runM; rw [if_neg h]
theorem runM_yes {t : MThy} {vars u : List Int} {ps : List MStep} (h : thyB t = true ∧ 0 ≤ sortM t.over vars u ∧ ps.length ≤ 20) : runM t vars u ps = runL t vars u ps := by unfold runM; rw [if_pos h]

theorem swapM_small {s : MSig} {vars u Y : List Int} {a : Int} (hu : Small u) (hY : Small Y) : Small (swapM s vars u a Y).1 := by
  unfold swapM
  split
  · intro x hx
    simp only [swapRow, List.mem_append] at hx
    rcases hx with (hx | hx) | hx
    · exact hu x (List.mem_of_mem_take hx)
    · exact hY x hx
    · exact hu x (List.mem_of_mem_drop hx)
  · intro x hx; simp at hx
theorem stepM_small {t : MThy} {vars u : List Int} {p : MStep} (ht : SmallT t) (hu : Small u) (hp : SmallP p) : Small (stepM t vars u p).1 := by
  have nil : Small [] := fun x hx => by simp at hx
  unfold stepM afterM ruleM
  split
  · split
    · rename_i h
      split
      · obtain ⟨k, hk⟩ := Int.eq_ofNat_of_zero_le h.1
        have hkl : k < t.eqs.length := by omega
        rw [hk, Int.toNat_natCast, getD_at _ hkl]
        exact swapM_small hu (putM_small (side_small (ht _ (List.getElem_mem hkl)) p.back).2 hp)
      · exact nil
    · exact nil
  · exact nil
theorem sort_pos {s : MSig} {vars u : List Int} (h : 0 ≤ sortM s vars u) : 1 ≤ u.length ∧ u.length ≤ 30 := by
  obtain ⟨tm, -, h2, -, rfl, -⟩ := sortM_to h
  exact ⟨row_pos tm, h2⟩


set_option maxHeartbeats 800000 in
set_option maxRecDepth 100000 in
theorem proofRun_any (t : MThy) (vars u : List Int) (ps : List MStep) (w : World) (v vv uv pv : Value) (hst : SmallT t) (hsu : Small u) (hsp : SmallPs ps) (h : RThy w v t) (h1 : RInts w vv vars) (h2 : RInts w uv u) (h3 : RSteps w pv ps) :
    Calls Try.prog 103 #[v, vv, uv, pv] w (PairPost (runM t vars u ps) w) := by
  obtain ⟨Ata, cta, Atb, ctb, rfl⟩ := h.form
  have hb : Below w.heap.size w (w.alloc (.cells #[.int .i64 t.over.sorts, .slice Ata t.over.ops.length cta, .slice Atb t.eqs.length ctb] 40)) := below_alloc _ _
  have HB := Lib.hid hb
  have hsz : (w.alloc (.cells #[.int .i64 t.over.sorts, .slice Ata t.over.ops.length cta, .slice Atb t.eqs.length ctb] 40)).heap.size = w.heap.size + 1 := by simp
  have Ht := Lib.hid (h.keep hb)
  have t0 := bx_at (w) #[.int .i64 t.over.sorts, .slice Ata t.over.ops.length cta, .slice Atb t.eqs.length ctb] 40 (k := 0) rfl
  have t1 := bx_at (w) #[.int .i64 t.over.sorts, .slice Ata t.over.ops.length cta, .slice Atb t.eqs.length ctb] 40 (k := 1) rfl
  have t2 := bx_at (w) #[.int .i64 t.over.sorts, .slice Ata t.over.ops.length cta, .slice Atb t.eqs.length ctb] 40 (k := 2) rfl
  generalize hW : w.alloc (.cells #[.int .i64 t.over.sorts, .slice Ata t.over.ops.length cta, .slice Atb t.eqs.length ctb] 40) = W at HB hsz Ht t0 t1 t2
  clear hb h
  have HV := Lib.hid (h1.keep HB.out)
  have HU := Lib.hid (h2.keep HB.out)
  have HP := Lib.hid (h3.keep HB.out)
  have HTS := Lib.hid (show RSig W (.agg #[.int .i64 t.over.sorts, .slice Ata t.over.ops.length cta]) t.over from ⟨_, rfl, Ht.out.of.2.1⟩)
  have HSM := Lib.hid (And.intro hst (And.intro hsu hsp))
  have hpl := h3.len
  have hul := h2.len
  obtain ⟨A1, d1, rfl, -⟩ := h1.form
  obtain ⟨A2, d2, rfl, -⟩ := h2.form
  obtain ⟨A3, d3, rfl, -⟩ := h3.form
  clear h1 h2 h3 hst hsu hsp
  obtain ⟨bb, hbb⟩ : ∃ b, thyB t = b := ⟨_, rfl⟩
  have HT := Lib.hid hbb
  obtain ⟨q, hq⟩ : ∃ q, sortM t.over vars u = q := ⟨_, rfl⟩
  have HQ := Lib.hid hq
  clear hbb hq
  go_enter Try.func103, Try.ntmps103
  go_wp2_with fail
  clear hW
  refine (theoryOk_any t _ _ HSM.out.1 Ht.out).mono ?_
  rw [HT.out]
  rintro x w1 ⟨rfl, hb⟩
  have HB1 := Lib.hid (fit_keep HB.out hb)
  have HK := Lib.hid hb
  have j0 := cell_keep hb t0
  have j1 := cell_keep hb t1
  have j2 := cell_keep hb t2
  clear hb t0 t1 t2
  cases bb with
  | false =>
    have HE := Lib.hid (runM_no (t := t) (vars := vars) (u := u) (ps := ps) (by rw [HT.out]; simp))
    go_wp2
    refine bodyPost_ret (v := .tuple #[.slice none 0 0, .bool false]) (by simp [results, Try.results103, go_sem]) rfl ?_
    rw [HE.out]
    exact ⟨_, rfl, OInts.nil _ _, HB1.out⟩
  | true =>
    go_wp2_with fail
    refine (termSort_any t.over vars u _ _ _ _ HSM.out.2.1 (HTS.out.keep HK.out) (HV.out.keep HK.out) (HU.out.keep HK.out)).mono ?_
    rw [HQ.out]
    rintro x w2 ⟨rfl, hb⟩
    have HB2 := Lib.hid (fit_keep HB1.out hb)
    have HK2 := Lib.hid (fit_keep HK.out hb)
    have i0 := cell_keep hb j0
    have i1 := cell_keep hb j1
    have i2 := cell_keep hb j2
    clear hb j0 j1 j2
    by_cases hq0 : q < 0
    · have HE := Lib.hid (runM_no (t := t) (vars := vars) (u := u) (ps := ps) (by rw [HQ.out]; omega))
      go_wp2
      refine bodyPost_ret (v := .tuple #[.slice none 0 0, .bool false]) (by simp [results, Try.results103, go_sem]) rfl ?_
      rw [HE.out]
      exact ⟨_, rfl, OInts.nil _ _, HB2.out⟩
    · by_cases hlen : 20 < (ps.length : Int)
      · have HE := Lib.hid (runM_no (t := t) (vars := vars) (u := u) (ps := ps) (by omega))
        go_wp2
        refine bodyPost_ret (v := .tuple #[.slice none 0 0, .bool false]) (by simp [results, Try.results103, go_sem]) rfl ?_
        rw [HE.out]
        exact ⟨_, rfl, OInts.nil _ _, HB2.out⟩
      · have HE := Lib.hid (runM_yes (t := t) (vars := vars) (u := u) (ps := ps) ⟨HT.out, by rw [HQ.out]; omega, by omega⟩)
        have hup := sort_pos (s := t.over) (vars := vars) (u := u) (by rw [HQ.out]; omega)
        have hul2 := hup.2
        obtain ⟨b2, o2, c2', e2, -⟩ := (HU.out).at_ (k := 0) (by omega)
        cases e2
        have HC := Lib.hid (And.intro i0 (And.intro i1 i2))
        clear hup
        go_wp2_with fail
        refine (clone_any _ _ _ u _ (HU.out.keep HK2.out) (by omega)).mono ?_
        rintro x w3 ⟨z, rfl, ho, hb⟩
        obtain ⟨Az, cz, rfl, -⟩ := own_reads ho
        have HO := Lib.hid ho
        have HB3 := Lib.hid (fit_keep HB2.out hb)
        have HK3 := Lib.hid (fit_keep HK2.out hb)
        have HK23 := Lib.hid hb
        clear hb ho i0 i1 i2
        go_wp2
        go_loopw [10, 12, 35] (fun nv s12 i wr => ∃ (k : Nat) (now : List Int), k ≤ ps.length ∧ i = .int .i64 k ∧ OInts wr w2.heap.size nv now ∧ Small now ∧ runL t vars u (ps.take k) = (now, true) ∧ Below w2.heap.size w2 wr) (fun _ _ i _ => ps.length - (intOf i).toNat)
        case atStart => exact ⟨0, u, Nat.zero_le _, rfl, HO.out, HSM.out.2.1, rfl, HK23.out⟩
        case round =>
          obtain ⟨k, now, hk, rfl, ho, hns, hrun, hbw⟩ := hrel
          obtain ⟨An, cn, rfl, -⟩ := own_reads ho
          have HON := Lib.hid ho
          have HNS := Lib.hid hns
          have HRUN := Lib.hid hrun
          have HBW := Lib.hid hbw
          have hzw := hbw.size
          clear ho hns hrun hbw
          by_cases hlt : k < ps.length
          · have hlt' : (k : Int) < (ps.length : Int) := by omega
            obtain ⟨b, o, c', x, e, c0, c1, c2, c3, q0⟩ := (HP.out.keep (fit_keep HK2.out HBW.out)).at_ hlt
            cases e
            have HSN := Lib.hid (runL_snoc hlt HRUN.out)
            have HSP := Lib.hid (HSM.out.2.2 _ (List.getElem_mem hlt))
            generalize ps[k] = p at q0 c0 c1 c2 HSN HSP
            have HI := Lib.hid (show RStep wr (.agg #[.int .i64 p.ax, .bool p.back, .int .i64 p.at_, x]) p from ⟨x, rfl, q0⟩)
            obtain ⟨A0, d0, rfl, -⟩ := q0.form
            have hba := below_alloc wr (.cells #[.int .i64 p.ax, .bool p.back, .int .i64 p.at_, .slice A0 p.terms.length d0] 100)
            have n0 := bx_at wr #[.int .i64 p.ax, .bool p.back, .int .i64 p.at_, .slice A0 p.terms.length d0] 100 (k := 0) rfl
            have n1 := bx_at wr #[.int .i64 p.ax, .bool p.back, .int .i64 p.at_, .slice A0 p.terms.length d0] 100 (k := 1) rfl
            have n2 := bx_at wr #[.int .i64 p.ax, .bool p.back, .int .i64 p.at_, .slice A0 p.terms.length d0] 100 (k := 2) rfl
            have n3 := bx_at wr #[.int .i64 p.ax, .bool p.back, .int .i64 p.at_, .slice A0 p.terms.length d0] 100 (k := 3) rfl
            have m0 := cell_keep hba (cell_keep HBW.out HC.out.1)
            have m1 := cell_keep hba (cell_keep HBW.out HC.out.2.1)
            have m2 := cell_keep hba (cell_keep HBW.out HC.out.2.2)
            have HI2 := Lib.hid (HI.out.keep hba)
            have HON2 := Lib.hid (own_keep HON.out hba)
            have HBA := Lib.hid (fit_keep HBW.out hba)
            generalize hW4 : wr.alloc (.cells #[.int .i64 p.ax, .bool p.back, .int .i64 p.at_, .slice A0 p.terms.length d0] 100) = W4 at n0 n1 n2 n3 m0 m1 m2 HI2 HON2 HBA
            obtain ⟨R, g, hR⟩ : ∃ R g, afterM t vars now p = (R, g) := ⟨_, _, rfl⟩
            have HR := Lib.hid hR
            have HRS := Lib.hid (show Small R by have := stepM_small (vars := vars) HSM.out.1 HNS.out HSP.out; rw [stepM_yes HT.out, hR] at this; exact this)
            clear q0 hba hR
            go_wp2_with fail
            clear hW4
            refine (afterStep_any t vars now p _ _ _ _ _ HSM.out.1 HNS.out HSP.out (Ht.out.keep (fit_keep HK2.out HBA.out)) (HV.out.keep (fit_keep HK2.out HBA.out)) (OInts.reads HON2.out) HI2.out).mono ?_
            rw [HR.out]
            rintro x w5 ⟨z, rfl, ho, hb⟩
            simp only at ho ⊢
            obtain ⟨Az', cz', rfl, -⟩ := own_reads ho
            have HB5 := Lib.hid (fit_keep HBA.out hb)
            have HO5 := Lib.hid (ho.base HBA.out.size)
            clear ho hb n0 n1 n2 n3 m0 m1 m2 c0 c1 c2 c3
            cases g with
            | false =>
              have HF := Lib.hid (HE.out.trans (runL_fail (k := k + 1) (by rw [HSN.out, stepM_yes HT.out, HR.out]; simp)))
              go_wp2
              refine bodyPost_ret (v := .tuple #[.slice none 0 0, .bool false]) (by simp [results, Try.results103, go_sem]) rfl ?_
              rw [HF.out]
              exact ⟨_, rfl, OInts.nil _ _, fit_keep HB2.out HB5.out⟩
            | true =>
              go_wp2
              go_roundw
              case rel => exact ⟨k + 1, R, by omega, by go_num, HO5.out, HRS.out, by rw [HSN.out, stepM_yes HT.out, HR.out]; first | done | simp, HB5.out⟩
              case measure => simp [intOf]; omega
          · have hkn : k = ps.length := by omega
            subst hkn
            have hlt' : ¬ (ps.length : Int) < (ps.length : Int) := by omega
            have HF := Lib.hid (show runM t vars u ps = (now, true) from HE.out.trans (by have h := HRUN.out; rwa [take_all (Nat.le_refl _)] at h))
            have hs2 := HB2.out.size
            go_wp2
            refine bodyPost_ret (v := .tuple #[.slice An now.length cn, .bool true]) (by simp [results, Try.results103, go_sem]) rfl ?_
            rw [HF.out]
            exact ⟨_, rfl, HON.out.base hs2, fit_keep HB2.out HBW.out⟩


theorem bel_grow3 {w w2 : World} {o : Obj} {A : Option Addr} {n c : Nat} (h : (w.alloc o).grownBy w2 (Value.slice A n c).ownBlock) (hr : ∀ k, (Value.slice A n c).ownBlock = some k → w.heap.size ≤ k) : Below w.heap.size w w2 :=
  (below_alloc w o).trans ⟨h.os, h.tape, h.output, h.size, fun k hk => h.block k (Nat.lt_of_lt_of_le hk (by simp)) (fun e => by have := hr k e.symm; omega)⟩

set_option maxHeartbeats 800000 in
set_option maxRecDepth 100000 in
theorem specProofRun_any (t : MThy) (vars u : List Int) (ps : List MStep) (w : World) (v vv uv pv : Value) (hsp : SmallPs ps) (h : RThy w v t) (h1 : RInts w vv vars) (h2 : RInts w uv u) (h3 : RSteps w pv ps) :
    Calls Try.prog 98 #[v, vv, uv, pv] w (PairPost (runM t vars u ps) w) := by
  obtain ⟨Ata, cta, Atb, ctb, rfl⟩ := h.form
  have hb : Below w.heap.size w (w.alloc (.cells #[.int .i64 t.over.sorts, .slice Ata t.over.ops.length cta, .slice Atb t.eqs.length ctb] 40)) := below_alloc _ _
  have HB := Lib.hid hb
  have hsz : (w.alloc (.cells #[.int .i64 t.over.sorts, .slice Ata t.over.ops.length cta, .slice Atb t.eqs.length ctb] 40)).heap.size = w.heap.size + 1 := by simp
  have Ht := Lib.hid (h.keep hb)
  have t0 := bx_at (w) #[.int .i64 t.over.sorts, .slice Ata t.over.ops.length cta, .slice Atb t.eqs.length ctb] 40 (k := 0) rfl
  have t1 := bx_at (w) #[.int .i64 t.over.sorts, .slice Ata t.over.ops.length cta, .slice Atb t.eqs.length ctb] 40 (k := 1) rfl
  have t2 := bx_at (w) #[.int .i64 t.over.sorts, .slice Ata t.over.ops.length cta, .slice Atb t.eqs.length ctb] 40 (k := 2) rfl
  generalize hW : w.alloc (.cells #[.int .i64 t.over.sorts, .slice Ata t.over.ops.length cta, .slice Atb t.eqs.length ctb] 40) = W at HB hsz Ht t0 t1 t2
  clear hb h
  have HV := Lib.hid (h1.keep HB.out)
  have HU := Lib.hid (h2.keep HB.out)
  have HP := Lib.hid (h3.keep HB.out)
  have HTS := Lib.hid (show RSig W (.agg #[.int .i64 t.over.sorts, .slice Ata t.over.ops.length cta]) t.over from ⟨_, rfl, Ht.out.of.2.1⟩)
  have HSM := Lib.hid hsp
  have hpl := h3.len
  have hul := h2.len
  obtain ⟨A1, d1, rfl, -⟩ := h1.form
  obtain ⟨A2, d2, rfl, -⟩ := h2.form
  obtain ⟨A3, d3, rfl, -⟩ := h3.form
  clear h1 h2 h3 hsp
  obtain ⟨bb, hbb⟩ : ∃ b, thyB t = b := ⟨_, rfl⟩
  have HT := Lib.hid hbb
  obtain ⟨q, hq⟩ : ∃ q, sortM t.over vars u = q := ⟨_, rfl⟩
  have HQ := Lib.hid hq
  clear hbb hq
  go_enter Try.func98, Try.ntmps98
  go_wp2_with fail
  clear hW
  refine (specTheoryOk_any t _ _ Ht.out).mono ?_
  rw [HT.out]
  rintro x w1 ⟨rfl, hb⟩
  have HB1 := Lib.hid (fit_keep HB.out hb)
  have HK := Lib.hid hb
  have j0 := cell_keep hb t0
  have j1 := cell_keep hb t1
  have j2 := cell_keep hb t2
  clear hb t0 t1 t2
  cases bb with
  | false =>
    have HE := Lib.hid (runM_no (t := t) (vars := vars) (u := u) (ps := ps) (by rw [HT.out]; simp))
    have he := own_empty w1
    go_wp2
    refine bodyPost_ret (v := .tuple #[.slice (some ⟨w1.heap.size, 0, none⟩) 0 0, .bool false]) (by simp [results, Try.results98, go_sem]) rfl ?_
    rw [HE.out]
    exact ⟨_, rfl, OInts.base he HB1.out.size, fit_keep HB1.out (below_alloc _ _)⟩
  | true =>
    go_wp2_with fail
    refine (specTermSort_any t.over vars u _ _ _ _ (HTS.out.keep HK.out) (HV.out.keep HK.out) (HU.out.keep HK.out)).mono ?_
    rw [HQ.out]
    rintro x w2 ⟨rfl, hb⟩
    have HB2 := Lib.hid (fit_keep HB1.out hb)
    have HK2 := Lib.hid (fit_keep HK.out hb)
    have i0 := cell_keep hb j0
    have i1 := cell_keep hb j1
    have i2 := cell_keep hb j2
    have he := own_empty w2
    clear hb j0 j1 j2
    by_cases hq0 : q < 0
    · have HE := Lib.hid (runM_no (t := t) (vars := vars) (u := u) (ps := ps) (by rw [HQ.out]; omega))
      go_wp2
      refine bodyPost_ret (v := .tuple #[.slice (some ⟨w2.heap.size, 0, none⟩) 0 0, .bool false]) (by simp [results, Try.results98, go_sem]) rfl ?_
      rw [HE.out]
      exact ⟨_, rfl, OInts.base he HB2.out.size, fit_keep HB2.out (below_alloc _ _)⟩
    · by_cases hlen : 20 < (ps.length : Int)
      · have HE := Lib.hid (runM_no (t := t) (vars := vars) (u := u) (ps := ps) (by omega))
        go_wp2
        refine bodyPost_ret (v := .tuple #[.slice (some ⟨w2.heap.size, 0, none⟩) 0 0, .bool false]) (by simp [results, Try.results98, go_sem]) rfl ?_
        rw [HE.out]
        exact ⟨_, rfl, OInts.base he HB2.out.size, fit_keep HB2.out (below_alloc _ _)⟩
      · have HE := Lib.hid (runM_yes (t := t) (vars := vars) (u := u) (ps := ps) ⟨HT.out, by rw [HQ.out]; omega, by omega⟩)
        have hup := sort_pos (s := t.over) (vars := vars) (u := u) (by rw [HQ.out]; omega)
        have hul2 := hup.2
        have HC := Lib.hid (And.intro i0 (And.intro i1 i2))
        obtain ⟨A6, c6, w6, hrun, ho6, hg6⟩ := app_own_run (w2.alloc (.cells #[] 3)) 28 w2.heap.size _ _ [] u he ((HU.out.keep HK2.out).keep (below_alloc w2 (.cells #[] 3))) (by simp; omega) (by simp)
        rw [List.nil_append] at hrun ho6
        have HRUN := Lib.hid hrun
        have HB6 := Lib.hid (bel_grow3 hg6 (fun k e => by injection e with e; exact Nat.le_of_eq e))
        have HO6 := Lib.hid (show OInts w6 w2.heap.size (.slice A6 u.length c6) u from ho6)
        clear hup hrun ho6 hg6 he i0 i1 i2
        go_wp2_with (at_builtin; refine Lib.wpList_append_run _ rfl _ _ _ _ rfl _ _ rfl rfl _ _ HRUN.out ?_)
        go_loopw [10, 11] (fun nv i wr => ∃ (k : Nat) (now : List Int), k ≤ ps.length ∧ i = .int .i64 k ∧ OInts wr w2.heap.size nv now ∧ runL t vars u (ps.take k) = (now, true) ∧ Below w2.heap.size w2 wr) (fun _ i _ => ps.length - (intOf i).toNat)
        case atStart => exact ⟨0, u, Nat.zero_le _, rfl, HO6.out, rfl, HB6.out⟩
        case round =>
          obtain ⟨k, now, hk, rfl, ho, hrun, hbw⟩ := hrel
          obtain ⟨An, cn, rfl, -⟩ := own_reads ho
          have HON := Lib.hid ho
          have HRL := Lib.hid hrun
          have HBW := Lib.hid hbw
          have hzw := hbw.size
          have m0 := cell_keep hbw HC.out.1
          have m1 := cell_keep hbw HC.out.2.1
          have m2 := cell_keep hbw HC.out.2.2
          clear ho hrun hbw
          by_cases hlt : k < ps.length
          · have hlt' : (k : Int) < (ps.length : Int) := by omega
            obtain ⟨b, o, c', x, e, c0, c1, c2, c3, q0⟩ := (HP.out.keep (fit_keep HK2.out HBW.out)).at_ hlt
            cases e
            have HSN := Lib.hid (runL_snoc hlt HRL.out)
            have HSP := Lib.hid (HSM.out _ (List.getElem_mem hlt))
            generalize ps[k] = p at q0 c0 c1 c2 HSN HSP
            have HI := Lib.hid (show RStep wr (.agg #[.int .i64 p.ax, .bool p.back, .int .i64 p.at_, x]) p from ⟨x, rfl, q0⟩)
            obtain ⟨A0, d0, rfl, -⟩ := q0.form
            obtain ⟨R, g, hR⟩ : ∃ R g, stepM t vars now p = (R, g) := ⟨_, _, rfl⟩
            have HR := Lib.hid hR
            have ea := World.new_ne wr _ m0
            have eb := World.new_ne wr _ c0
            clear q0 hR
            go_wp2_with fail
            go_region_held3 (fun w' => w'.cell? ⟨w.heap.size, 0, none⟩ = some (.int .i64 t.over.sorts) ∧ w'.cell? ⟨w.heap.size, 1, none⟩ = some (.slice Ata t.over.ops.length cta) ∧ w'.cell? ⟨w.heap.size, 2, none⟩ = some (.slice Atb t.eqs.length ctb) ∧ w'.cell? ⟨b, o + k * 4, none⟩ = some (.int .i64 p.ax) ∧ w'.cell? ⟨b, o + k * 4 + 1, none⟩ = some (.bool p.back) ∧ w'.cell? ⟨b, o + k * 4 + 2, none⟩ = some (.int .i64 p.at_) ∧ w'.cell? ⟨b, o + k * 4 + 3, none⟩ = some (.slice A0 p.terms.length d0)) (first | go_keep)
              (first
                | (go_at_call 77; refine (specStepDo_any t vars now p wr.drew _ _ _ _ HSP.out (Ht.out.keep (bel_drew (fit_keep HK2.out HBW.out))) (HV.out.keep (bel_drew (fit_keep HK2.out HBW.out))) ((OInts.reads HON.out).keep (bel_drew (Below.refl _ _))) (HI.out.keep (bel_drew (Below.refl _ _)))).mono ?_; rw [HR.out]; rintro x w5 ⟨z, rfl, ho, hb⟩; simp only at ho ⊢; obtain ⟨Az', cz', rfl, -⟩ := own_reads ho; have HB5 := Lib.hid (show Below wr.heap.size wr w5 from bel_undrew hb); have HO5 := Lib.hid (show OInts w5 wr.heap.size (.slice Az' R.length cz') R from ho); have j0 := cell_keep HB5.out m0; have j1 := cell_keep HB5.out m1; have j2 := cell_keep HB5.out m2; have j3 := cell_keep HB5.out c0; have j4 := cell_keep HB5.out c1; have j5 := cell_keep HB5.out c2; have j6 := cell_keep HB5.out c3; clear ho hb))
            have HBN := Lib.hid (fit_keep HBW.out HB5.out)
            have HON5 := Lib.hid (HO5.out.base hzw)
            clear m0 m1 m2 c0 c1 c2 c3 j0 j1 j2 j3 j4 j5 j6 ea eb
            cases g with
            | false =>
              have HF := Lib.hid (HE.out.trans (runL_fail (k := k + 1) (by rw [HSN.out, HR.out]; simp)))
              have he := own_empty w5
              have hs5 := (fit_keep HB2.out HBN.out).size
              go_wp2
              refine bodyPost_ret (v := .tuple #[.slice (some ⟨w5.heap.size, 0, none⟩) 0 0, .bool false]) (by simp [results, Try.results98, go_sem]) rfl ?_
              rw [HF.out]
              exact ⟨_, rfl, OInts.base he hs5, fit_keep (fit_keep HB2.out HBN.out) (below_alloc _ _)⟩
            | true =>
              go_wp2
              go_roundw
              case rel => exact ⟨k + 1, R, by omega, by go_num, HON5.out, by rw [HSN.out, HR.out]; first | done | simp, HBN.out⟩
              case measure => simp [intOf]; omega
          · have hkn : k = ps.length := by omega
            subst hkn
            have hlt' : ¬ (ps.length : Int) < (ps.length : Int) := by omega
            have HF := Lib.hid (show runM t vars u ps = (now, true) from HE.out.trans (by have h := HRL.out; rwa [take_all (Nat.le_refl _)] at h))
            have hs2 := HB2.out.size
            go_wp2
            refine bodyPost_ret (v := .tuple #[.slice An now.length cn, .bool true]) (by simp [results, Try.results98, go_sem]) rfl ?_
            rw [HF.out]
            exact ⟨_, rfl, HON.out.base hs2, fit_keep HB2.out HBW.out⟩


def proofB (t : MThy) (e : MEq) (ps : List MStep) : Bool := eqOkB t.over e && ((runM t e.vars e.left ps).2 && decide ((runM t e.vars e.left ps).1 = e.right))

set_option maxHeartbeats 800000 in
set_option maxRecDepth 100000 in
theorem proofOk_any (t : MThy) (e : MEq) (ps : List MStep) (w : World) (v ev pv : Value) (hst : SmallT t) (hse : SmallE e) (hsp : SmallPs ps) (h : RThy w v t) (he : REq w ev e) (h3 : RSteps w pv ps) :
    Calls Try.prog 57 #[v, ev, pv] w fun x w' => x = .returned (.bool (proofB t e ps)) ∧ Below w.heap.size w w' := by
  obtain ⟨Ata, cta, Atb, ctb, rfl⟩ := h.form
  obtain ⟨Aea, cea, Aeb, ceb, Aec, cec, rfl⟩ := he.form
  have hb : Below w.heap.size w ((w.alloc (.cells #[.int .i64 t.over.sorts, .slice Ata t.over.ops.length cta, .slice Atb t.eqs.length ctb] 40)).alloc (.cells #[.slice Aea e.vars.length cea, .slice Aeb e.left.length ceb, .slice Aec e.right.length cec] 63)) := (below_alloc _ _).alloc (by simp) _
  have HB := Lib.hid hb
  have hsz : ((w.alloc (.cells #[.int .i64 t.over.sorts, .slice Ata t.over.ops.length cta, .slice Atb t.eqs.length ctb] 40)).alloc (.cells #[.slice Aea e.vars.length cea, .slice Aeb e.left.length ceb, .slice Aec e.right.length cec] 63)).heap.size = w.heap.size + 2 := by simp
  have Ht := Lib.hid (h.keep hb)
  have t0 := cell_keep (below_alloc (w.alloc (.cells #[.int .i64 t.over.sorts, .slice Ata t.over.ops.length cta, .slice Atb t.eqs.length ctb] 40)) (.cells #[.slice Aea e.vars.length cea, .slice Aeb e.left.length ceb, .slice Aec e.right.length cec] 63)) (bx_at (w) #[.int .i64 t.over.sorts, .slice Ata t.over.ops.length cta, .slice Atb t.eqs.length ctb] 40 (k := 0) rfl)
  have t1 := cell_keep (below_alloc (w.alloc (.cells #[.int .i64 t.over.sorts, .slice Ata t.over.ops.length cta, .slice Atb t.eqs.length ctb] 40)) (.cells #[.slice Aea e.vars.length cea, .slice Aeb e.left.length ceb, .slice Aec e.right.length cec] 63)) (bx_at (w) #[.int .i64 t.over.sorts, .slice Ata t.over.ops.length cta, .slice Atb t.eqs.length ctb] 40 (k := 1) rfl)
  have t2 := cell_keep (below_alloc (w.alloc (.cells #[.int .i64 t.over.sorts, .slice Ata t.over.ops.length cta, .slice Atb t.eqs.length ctb] 40)) (.cells #[.slice Aea e.vars.length cea, .slice Aeb e.left.length ceb, .slice Aec e.right.length cec] 63)) (bx_at (w) #[.int .i64 t.over.sorts, .slice Ata t.over.ops.length cta, .slice Atb t.eqs.length ctb] 40 (k := 2) rfl)
  have He := Lib.hid (he.keep hb)
  have e0 := bx_at (w.alloc (.cells #[.int .i64 t.over.sorts, .slice Ata t.over.ops.length cta, .slice Atb t.eqs.length ctb] 40)) #[.slice Aea e.vars.length cea, .slice Aeb e.left.length ceb, .slice Aec e.right.length cec] 63 (k := 0) rfl
  have e1 := bx_at (w.alloc (.cells #[.int .i64 t.over.sorts, .slice Ata t.over.ops.length cta, .slice Atb t.eqs.length ctb] 40)) #[.slice Aea e.vars.length cea, .slice Aeb e.left.length ceb, .slice Aec e.right.length cec] 63 (k := 1) rfl
  have e2 := bx_at (w.alloc (.cells #[.int .i64 t.over.sorts, .slice Ata t.over.ops.length cta, .slice Atb t.eqs.length ctb] 40)) #[.slice Aea e.vars.length cea, .slice Aeb e.left.length ceb, .slice Aec e.right.length cec] 63 (k := 2) rfl
  simp only [World.size_alloc] at e0 e1 e2
  generalize hW : (w.alloc (.cells #[.int .i64 t.over.sorts, .slice Ata t.over.ops.length cta, .slice Atb t.eqs.length ctb] 40)).alloc (.cells #[.slice Aea e.vars.length cea, .slice Aeb e.left.length ceb, .slice Aec e.right.length cec] 63) = W at HB hsz Ht t0 t1 t2 He e0 e1 e2
  clear hb h he
  have HP := Lib.hid (h3.keep HB.out)
  have HTS := Lib.hid (show RSig W (.agg #[.int .i64 t.over.sorts, .slice Ata t.over.ops.length cta]) t.over from ⟨_, rfl, Ht.out.of.2.1⟩)
  have HE := Lib.hid He.out.of
  have HSM := Lib.hid (And.intro hst (And.intro hse hsp))
  obtain ⟨A3, d3, rfl, -⟩ := h3.form
  clear h3 hst hse hsp
  obtain ⟨bb, hbb⟩ : ∃ b, eqOkB t.over e = b := ⟨_, rfl⟩
  have HT := Lib.hid hbb
  obtain ⟨R, g, hR⟩ : ∃ R g, runM t e.vars e.left ps = (R, g) := ⟨_, _, rfl⟩
  have HR := Lib.hid hR
  clear hbb hR
  go_enter Try.func57, Try.ntmps57
  go_wp2_with fail
  clear hW
  refine (eqOk_any t.over e _ _ _ HSM.out.2.1 HTS.out He.out).mono ?_
  rw [HT.out]
  rintro x w1 ⟨rfl, hb⟩
  have HB1 := Lib.hid (fit_keep HB.out hb)
  have HK := Lib.hid hb
  have j0 := cell_keep hb t0
  have j1 := cell_keep hb t1
  have j2 := cell_keep hb t2
  have j3 := cell_keep hb e0
  have j4 := cell_keep hb e1
  have j5 := cell_keep hb e2
  clear hb t0 t1 t2 e0 e1 e2
  cases bb with
  | false =>
    go_wp2
    go_ret
    exact ⟨ret_bool (by unfold proofB; rw [HT.out]; rfl), HB1.out⟩
  | true =>
    go_wp2_with fail
    refine (proofRun_any t e.vars e.left ps _ _ _ _ _ HSM.out.1 HSM.out.2.1.1 HSM.out.2.2 (Ht.out.keep HK.out) (HE.out.1.keep HK.out) (HE.out.2.1.keep HK.out) (HP.out.keep HK.out)).mono ?_
    rw [HR.out]
    rintro x w2 ⟨z, rfl, ho, hb⟩
    simp only at ho ⊢
    obtain ⟨Az, cz, rfl, -⟩ := own_reads ho
    have ZR := Lib.hid ho.reads
    have HB2 := Lib.hid (fit_keep HB1.out hb)
    have HK2 := Lib.hid (fit_keep HK.out hb)
    have i5 := cell_keep hb j5
    clear hb ho j0 j1 j2 j3 j4 j5
    cases g with
    | false =>
      go_wp2
      go_ret
      exact ⟨ret_bool (by unfold proofB; rw [HR.out]; simp), HB2.out⟩
    | true =>
      obtain ⟨q, hq⟩ : ∃ q : Bool, decide (R = e.right) = q := ⟨_, rfl⟩
      have HQ := Lib.hid hq
      clear hq
      go_wp2_with fail
      refine (slEqual_any _ _ R e.right _ ZR.out (HE.out.2.2.keep HK2.out)).mono ?_
      rw [HQ.out]
      rintro x w3 ⟨rfl, hd⟩
      have HB3 := Lib.hid (fit_keep HB2.out hd.below)
      clear hd i5
      go_wp2
      go_ret
      exact ⟨ret_bool (by unfold proofB; rw [HT.out, HR.out]; simp [HQ.out]), HB3.out⟩

set_option maxHeartbeats 800000 in
set_option maxRecDepth 100000 in
theorem specProofOk_any (t : MThy) (e : MEq) (ps : List MStep) (w : World) (v ev pv : Value) (hsp : SmallPs ps) (h : RThy w v t) (he : REq w ev e) (h3 : RSteps w pv ps) :
    Calls Try.prog 50 #[v, ev, pv] w fun x w' => x = .returned (.bool (proofB t e ps)) ∧ Below w.heap.size w w' := by
  obtain ⟨Ata, cta, Atb, ctb, rfl⟩ := h.form
  obtain ⟨Aea, cea, Aeb, ceb, Aec, cec, rfl⟩ := he.form
  have hb : Below w.heap.size w ((w.alloc (.cells #[.int .i64 t.over.sorts, .slice Ata t.over.ops.length cta, .slice Atb t.eqs.length ctb] 40)).alloc (.cells #[.slice Aea e.vars.length cea, .slice Aeb e.left.length ceb, .slice Aec e.right.length cec] 63)) := (below_alloc _ _).alloc (by simp) _
  have HB := Lib.hid hb
  have hsz : ((w.alloc (.cells #[.int .i64 t.over.sorts, .slice Ata t.over.ops.length cta, .slice Atb t.eqs.length ctb] 40)).alloc (.cells #[.slice Aea e.vars.length cea, .slice Aeb e.left.length ceb, .slice Aec e.right.length cec] 63)).heap.size = w.heap.size + 2 := by simp
  have Ht := Lib.hid (h.keep hb)
  have t0 := cell_keep (below_alloc (w.alloc (.cells #[.int .i64 t.over.sorts, .slice Ata t.over.ops.length cta, .slice Atb t.eqs.length ctb] 40)) (.cells #[.slice Aea e.vars.length cea, .slice Aeb e.left.length ceb, .slice Aec e.right.length cec] 63)) (bx_at (w) #[.int .i64 t.over.sorts, .slice Ata t.over.ops.length cta, .slice Atb t.eqs.length ctb] 40 (k := 0) rfl)
  have t1 := cell_keep (below_alloc (w.alloc (.cells #[.int .i64 t.over.sorts, .slice Ata t.over.ops.length cta, .slice Atb t.eqs.length ctb] 40)) (.cells #[.slice Aea e.vars.length cea, .slice Aeb e.left.length ceb, .slice Aec e.right.length cec] 63)) (bx_at (w) #[.int .i64 t.over.sorts, .slice Ata t.over.ops.length cta, .slice Atb t.eqs.length ctb] 40 (k := 1) rfl)
  have t2 := cell_keep (below_alloc (w.alloc (.cells #[.int .i64 t.over.sorts, .slice Ata t.over.ops.length cta, .slice Atb t.eqs.length ctb] 40)) (.cells #[.slice Aea e.vars.length cea, .slice Aeb e.left.length ceb, .slice Aec e.right.length cec] 63)) (bx_at (w) #[.int .i64 t.over.sorts, .slice Ata t.over.ops.length cta, .slice Atb t.eqs.length ctb] 40 (k := 2) rfl)
  have He := Lib.hid (he.keep hb)
  have e0 := bx_at (w.alloc (.cells #[.int .i64 t.over.sorts, .slice Ata t.over.ops.length cta, .slice Atb t.eqs.length ctb] 40)) #[.slice Aea e.vars.length cea, .slice Aeb e.left.length ceb, .slice Aec e.right.length cec] 63 (k := 0) rfl
  have e1 := bx_at (w.alloc (.cells #[.int .i64 t.over.sorts, .slice Ata t.over.ops.length cta, .slice Atb t.eqs.length ctb] 40)) #[.slice Aea e.vars.length cea, .slice Aeb e.left.length ceb, .slice Aec e.right.length cec] 63 (k := 1) rfl
  have e2 := bx_at (w.alloc (.cells #[.int .i64 t.over.sorts, .slice Ata t.over.ops.length cta, .slice Atb t.eqs.length ctb] 40)) #[.slice Aea e.vars.length cea, .slice Aeb e.left.length ceb, .slice Aec e.right.length cec] 63 (k := 2) rfl
  simp only [World.size_alloc] at e0 e1 e2
  generalize hW : (w.alloc (.cells #[.int .i64 t.over.sorts, .slice Ata t.over.ops.length cta, .slice Atb t.eqs.length ctb] 40)).alloc (.cells #[.slice Aea e.vars.length cea, .slice Aeb e.left.length ceb, .slice Aec e.right.length cec] 63) = W at HB hsz Ht t0 t1 t2 He e0 e1 e2
  clear hb h he
  have HP := Lib.hid (h3.keep HB.out)
  have HTS := Lib.hid (show RSig W (.agg #[.int .i64 t.over.sorts, .slice Ata t.over.ops.length cta]) t.over from ⟨_, rfl, Ht.out.of.2.1⟩)
  have HE := Lib.hid He.out.of
  have HSM := Lib.hid hsp
  obtain ⟨A3, d3, rfl, -⟩ := h3.form
  clear h3 hsp
  obtain ⟨bb, hbb⟩ : ∃ b, eqOkB t.over e = b := ⟨_, rfl⟩
  have HT := Lib.hid hbb
  obtain ⟨R, g, hR⟩ : ∃ R g, runM t e.vars e.left ps = (R, g) := ⟨_, _, rfl⟩
  have HR := Lib.hid hR
  clear hbb hR
  go_enter Try.func50, Try.ntmps50
  go_wp2_with fail
  clear hW
  refine (specProofRun_any t e.vars e.left ps _ _ _ _ _ HSM.out Ht.out HE.out.1 HE.out.2.1 HP.out).mono ?_
  rw [HR.out]
  rintro x w1 ⟨z, rfl, ho, hb⟩
  simp only at ho ⊢
  obtain ⟨Az, cz, rfl, -⟩ := own_reads ho
  have ZR := Lib.hid ho.reads
  have HB1 := Lib.hid (fit_keep HB.out hb)
  have HK := Lib.hid hb
  have j0 := cell_keep hb t0
  have j1 := cell_keep hb t1
  have j3 := cell_keep hb e0
  have j4 := cell_keep hb e1
  have j5 := cell_keep hb e2
  clear hb ho t0 t1 t2 e0 e1 e2
  cases g with
  | false =>
    go_wp2
    go_ret
    exact ⟨ret_bool (by unfold proofB; rw [HR.out]; simp), HB1.out⟩
  | true =>
    go_wp2_with fail
    refine (specEqOk_any t.over e _ _ _ (HTS.out.keep HK.out) (He.out.keep HK.out)).mono ?_
    rw [HT.out]
    rintro x w2 ⟨rfl, hb⟩
    have HB2 := Lib.hid (fit_keep HB1.out hb)
    have HK2 := Lib.hid (fit_keep HK.out hb)
    have ZR2 := Lib.hid (ZR.out.keep hb)
    have i5 := cell_keep hb j5
    clear hb j0 j1 j3 j4 j5
    cases bb with
    | false =>
      go_wp2
      go_ret
      exact ⟨ret_bool (by unfold proofB; rw [HT.out]; rfl), HB2.out⟩
    | true =>
      obtain ⟨q, hq⟩ : ∃ q : Bool, decide (R = e.right) = q := ⟨_, rfl⟩
      have HQ := Lib.hid hq
      clear hq
      go_wp2_with fail
      refine (l1Same_any _ _ R e.right _ ZR2.out (HE.out.2.2.keep HK2.out)).mono ?_
      rw [HQ.out]
      rintro x w3 ⟨rfl, hd⟩
      have HB3 := Lib.hid (fit_keep HB2.out hd.below)
      clear hd i5
      go_wp2
      go_ret
      exact ⟨ret_bool (by unfold proofB; rw [HT.out, HR.out]; simp [HQ.out]), HB3.out⟩
end

section
open Go.RowKit
set_option linter.unusedVariables false
set_option linter.unusedSimpArgs false

def viewAt (b : MThy) (v : MView) (a : MThy) (k : Nat) : Bool := proofB b (ledE v.along (a.eqs.getD k noEq)) (v.proofs.getD k [])
def allView (b : MThy) (v : MView) (a : MThy) (n : Nat) : Bool := (List.range n).all (viewAt b v a)
theorem allView_zero (b : MThy) (v : MView) (a : MThy) : allView b v a 0 = true := rfl
theorem allView_succ (b : MThy) (v : MView) (a : MThy) (n : Nat) : allView b v a (n + 1) = (allView b v a n && viewAt b v a n) := by
  unfold allView; rw [List.range_succ, List.all_append]; simp
theorem allView_bad {b : MThy} {v : MView} {a : MThy} {k n : Nat} (hk : k < n) (h : viewAt b v a k = false) : allView b v a n = false := by
  unfold allView; rw [List.all_eq_false]; exact ⟨k, List.mem_range.2 hk, by simp [h]⟩
def viewB (a b : MThy) (v : MView) : Bool := (((thyB a && thyB b) && mapOkB a.over b.over v.along) && decide (v.proofs.length = a.eqs.length)) && allView b v a a.eqs.length
theorem view_no1 {a b : MThy} {v : MView} (h : thyB a = false) : viewB a b v = false := by unfold viewB; simp [h]
theorem view_no2 {a b : MThy} {v : MView} (h : thyB b = false) : viewB a b v = false := by unfold viewB; simp [h]
theorem view_no3 {a b : MThy} {v : MView} (h : mapOkB a.over b.over v.along = false) : viewB a b v = false := by unfold viewB; simp [h]
theorem view_no4 {a b : MThy} {v : MView} (h : ¬ v.proofs.length = a.eqs.length) : viewB a b v = false := by unfold viewB; simp [h]
theorem view_no5 {a b : MThy} {v : MView} {k : Nat} (hk : k < a.eqs.length) (h : viewAt b v a k = false) : viewB a b v = false := by unfold viewB; simp [allView_bad hk h]
theorem view_yes {a b : MThy} {v : MView} (h1 : thyB a = true) (h2 : thyB b = true) (h3 : mapOkB a.over b.over v.along = true) (h4 : v.proofs.length = a.eqs.length) (h5 : allView b v a a.eqs.length = true) : viewB a b v = true := by
  unfold viewB; simp [h1, h2, h3, h4, h5]
theorem view_at {a b : MThy} {v : MView} {k : Nat} (hk : k < a.eqs.length) (hp : k < v.proofs.length) : viewAt b v a k = proofB b (ledE v.along a.eqs[k]) v.proofs[k] := by
  unfold viewAt
  rw [List.getD_eq_getElem?_getD, List.getElem?_eq_getElem hk, List.getD_eq_getElem?_getD, List.getElem?_eq_getElem hp]; rfl
theorem small_ledV {a b : MSig} {m : MMap} (f : MapFacts a b m) {t : List Int} (h : Small t) : Small (ledM m.ops t) := fun x hx => by
  have hx2 := hx
  unfold ledM at hx2
  obtain ⟨y, hy, e⟩ := List.mem_map.1 hx2
  have h1 := h y hy
  split at e
  · rcases Nat.lt_or_ge y.toNat m.ops.length with hl | hl
    · rw [getD_at _ hl] at e
      have := f.os _ (List.getElem_mem hl)
      omega
    · rw [List.getD_eq_getElem?_getD, List.getElem?_eq_none hl] at e
      simp at e
      omega
  · omega
theorem small_ledE {a b : MSig} {m : MMap} (f : MapFacts a b m) {e : MEq} (h : SmallE e) : SmallE (ledE m e) := ⟨small_ledV f h.1, small_ledV f h.2⟩
end
end Go.Proofs.Ytbopcghbmbchkaa
