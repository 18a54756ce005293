/- afterStep and StepDo (package impl). -/
import Derived.Test.YtonainidjkcoeacRule2
import Derived.Test.YtonainidjkcoeacThyOk
namespace Go.Proofs.Ytonainidjkcoeac
open Go.RowKit
set_option linter.unusedVariables false
set_option linter.unusedSimpArgs false

theorem ruleOf_any (t : MThy) (k : Nat) (hk : k < t.eqs.length) (back : Bool) (w : World) (v : Value) (h : RThy w v t) :
    Calls Try.prog 101 #[v, .int .i64 (k : Int), .bool back] w (RulePost t t.eqs[k] back w) := by
  cases back with
  | true => exact ruleOf_true t k hk w v h
  | false => exact ruleOf_false t k hk w v h
theorem side_small {e : MEq} (h : SmallE e) (back : Bool) : Small (sideFrom e back) ∧ Small (sideTo e back) := by
  unfold sideFrom sideTo
  cases back
  · exact ⟨h.1, h.2⟩
  · exact ⟨h.2, h.1⟩
theorem RFn.calls {w : World} {c : Array Value} {s : MSig} {letters fr tu vars u : List Int} {a : Int} {terms : List (List Int)} {vv uv tv : Value} (h : RFn w (.func (Fn.func 112) #[] c) s letters fr tu) (h1 : Small fr) (h2 : Small tu) (h3 : Small u) (h4 : ∀ r ∈ terms, Small r)
    (k1 : RInts w vv vars) (k2 : RInts w uv u) (k3 : RRows w tv terms) : ∃ p0 p1 p2 p3, c = #[p0, p1, p2, p3] ∧ Calls Try.prog 112 #[vv, uv, .int .i64 a, tv, p0, p1, p2, p3] w (PairPost (ruleM s letters fr tu vars u a terms) w) := by
  obtain ⟨bt, bl, bf, bo, x, L, F, O, e, c0, c1, r1, c2, r2, c3, r3, c4, r4⟩ := h
  injection e with _ _ e
  subst e
  exact ⟨_, _, _, _, rfl, ruleFn_any s letters fr tu vars u a terms w vv uv tv bt bl bf bo x L F O h1 h2 h3 h4 k1 k2 k3 c0 c1 r1 c2 r2 c3 r3 c4 r4⟩

theorem afterM_no {t : MThy} {vars u : List Int} {p : MStep} (h : ¬ (0 ≤ p.ax ∧ p.ax < t.eqs.length)) : afterM t vars u p = ([], false) := by unfold afterM; rw [if_neg h]
theorem afterM_yes {t : MThy} {vars u : List Int} {p : MStep} {k : Nat} (hk : k < t.eqs.length) (he : p.ax = k) : afterM t vars u p = ruleM t.over t.eqs[k].vars (sideFrom t.eqs[k] p.back) (sideTo t.eqs[k] p.back) vars u p.at_ p.terms := by
  unfold afterM
  rw [if_pos (by omega), he, Int.toNat_natCast, getD_at _ hk]

theorem f_rule (a b c d : Value) (w : World) : (Instr.field 128 (.agg #[a, b, c, d]) 3).run Try.prog w = .ok d w := by kernel_rfl

set_option maxHeartbeats 800000 in
set_option maxRecDepth 100000 in
theorem afterStep_any (t : MThy) (vars u : List Int) (p : MStep) (w : World) (v vv uv pv : Value) (hst : SmallT t) (hsu : Small u) (hsp : SmallP p) (h : RThy w v t) (h1 : RInts w vv vars) (h2 : RInts w uv u) (h3 : RStep w pv p) :
    Calls Try.prog 66 #[v, vv, uv, pv] w (PairPost (afterM t vars u p) w) := by
  obtain ⟨Ata, cta, Atb, ctb, rfl⟩ := h.form
  obtain ⟨Apa, cpa, rfl⟩ := h3.form
  have hb : Below w.heap.size w ((w.alloc (.cells #[.int .i64 t.over.sorts, .slice Ata t.over.ops.length cta, .slice Atb t.eqs.length ctb] 47)).alloc (.cells #[.int .i64 p.ax, .bool p.back, .int .i64 p.at_, .slice Apa p.terms.length cpa] 82)) := (below_alloc _ _).alloc (by simp) _
  have HB := Lib.hid hb
  have hsz : ((w.alloc (.cells #[.int .i64 t.over.sorts, .slice Ata t.over.ops.length cta, .slice Atb t.eqs.length ctb] 47)).alloc (.cells #[.int .i64 p.ax, .bool p.back, .int .i64 p.at_, .slice Apa p.terms.length cpa] 82)).heap.size = w.heap.size + 2 := by simp
  have Ht := Lib.hid (h.keep hb)
  have t0 := cell_keep (below_alloc (w.alloc (.cells #[.int .i64 t.over.sorts, .slice Ata t.over.ops.length cta, .slice Atb t.eqs.length ctb] 47)) (.cells #[.int .i64 p.ax, .bool p.back, .int .i64 p.at_, .slice Apa p.terms.length cpa] 82)) (bx_at (w) #[.int .i64 t.over.sorts, .slice Ata t.over.ops.length cta, .slice Atb t.eqs.length ctb] 47 (k := 0) rfl)
  have t1 := cell_keep (below_alloc (w.alloc (.cells #[.int .i64 t.over.sorts, .slice Ata t.over.ops.length cta, .slice Atb t.eqs.length ctb] 47)) (.cells #[.int .i64 p.ax, .bool p.back, .int .i64 p.at_, .slice Apa p.terms.length cpa] 82)) (bx_at (w) #[.int .i64 t.over.sorts, .slice Ata t.over.ops.length cta, .slice Atb t.eqs.length ctb] 47 (k := 1) rfl)
  have t2 := cell_keep (below_alloc (w.alloc (.cells #[.int .i64 t.over.sorts, .slice Ata t.over.ops.length cta, .slice Atb t.eqs.length ctb] 47)) (.cells #[.int .i64 p.ax, .bool p.back, .int .i64 p.at_, .slice Apa p.terms.length cpa] 82)) (bx_at (w) #[.int .i64 t.over.sorts, .slice Ata t.over.ops.length cta, .slice Atb t.eqs.length ctb] 47 (k := 2) rfl)
  have Hp := Lib.hid (h3.keep hb)
  have p0 := bx_at (w.alloc (.cells #[.int .i64 t.over.sorts, .slice Ata t.over.ops.length cta, .slice Atb t.eqs.length ctb] 47)) #[.int .i64 p.ax, .bool p.back, .int .i64 p.at_, .slice Apa p.terms.length cpa] 82 (k := 0) rfl
  have p1 := bx_at (w.alloc (.cells #[.int .i64 t.over.sorts, .slice Ata t.over.ops.length cta, .slice Atb t.eqs.length ctb] 47)) #[.int .i64 p.ax, .bool p.back, .int .i64 p.at_, .slice Apa p.terms.length cpa] 82 (k := 1) rfl
  have p2 := bx_at (w.alloc (.cells #[.int .i64 t.over.sorts, .slice Ata t.over.ops.length cta, .slice Atb t.eqs.length ctb] 47)) #[.int .i64 p.ax, .bool p.back, .int .i64 p.at_, .slice Apa p.terms.length cpa] 82 (k := 2) rfl
  have p3 := bx_at (w.alloc (.cells #[.int .i64 t.over.sorts, .slice Ata t.over.ops.length cta, .slice Atb t.eqs.length ctb] 47)) #[.int .i64 p.ax, .bool p.back, .int .i64 p.at_, .slice Apa p.terms.length cpa] 82 (k := 3) rfl
  simp only [World.size_alloc] at p0 p1 p2 p3
  generalize hW : (w.alloc (.cells #[.int .i64 t.over.sorts, .slice Ata t.over.ops.length cta, .slice Atb t.eqs.length ctb] 47)).alloc (.cells #[.int .i64 p.ax, .bool p.back, .int .i64 p.at_, .slice Apa p.terms.length cpa] 82) = W at HB hsz Ht t0 t1 t2 Hp p0 p1 p2 p3
  clear hb h h3
  have HV := Lib.hid (h1.keep HB.out)
  have HU := Lib.hid (h2.keep HB.out)
  have HP := Lib.hid Hp.out.of
  have HSM := Lib.hid (And.intro hst (And.intro hsu hsp))
  have hlen := (Ht.out.of.2.2).len
  obtain ⟨A1, d1, rfl, -⟩ := h1.form
  obtain ⟨A2, d2, rfl, -⟩ := h2.form
  clear h1 h2 hst hsu hsp
  by_cases hneg : p.ax < 0
  · have HE := Lib.hid (afterM_no (t := t) (vars := vars) (u := u) (p := p) (by omega))
    go_enter Try.func66, Try.ntmps66
    go_wp2
    refine bodyPost_ret (v := .tuple #[.slice none 0 0, .bool false]) (by simp [results, Try.results66, go_sem]) rfl ?_
    rw [HE.out]
    exact ⟨_, rfl, OInts.nil _ _, HB.out⟩
  · by_cases hge : (t.eqs.length : Int) ≤ p.ax
    · have HE := Lib.hid (afterM_no (t := t) (vars := vars) (u := u) (p := p) (by omega))
      go_enter Try.func66, Try.ntmps66
      go_wp2
      refine bodyPost_ret (v := .tuple #[.slice none 0 0, .bool false]) (by simp [results, Try.results66, go_sem]) rfl ?_
      rw [HE.out]
      exact ⟨_, rfl, OInts.nil _ _, HB.out⟩
    · obtain ⟨k, hk⟩ := Int.eq_ofNat_of_zero_le (show 0 ≤ p.ax by omega)
      have hkl : k < t.eqs.length := by omega
      have HE := Lib.hid (afterM_yes (vars := vars) (u := u) (p := p) hkl hk)
      have HSE := Lib.hid (side_small (HSM.out.1 _ (List.getElem_mem hkl)) p.back)
      obtain ⟨R, g, hR⟩ : ∃ R g, ruleM t.over t.eqs[k].vars (sideFrom t.eqs[k] p.back) (sideTo t.eqs[k] p.back) vars u p.at_ p.terms = (R, g) := ⟨_, _, rfl⟩
      have HR := Lib.hid hR
      have HRO := Lib.hid (ruleOf_any t k hkl p.back)
      have hfl := f_rule
      have ea := World.new_ne W _ t0
      have eb := World.new_ne W _ p0
      rw [hk] at p0 hneg hge hW ⊢
      clear hk
      clear hR
      go_enter Try.func66, Try.ntmps66
      go_wp2_with fail
      refine wp_region_held_drew (S := (fun w' => w'.cell? ⟨w.heap.size, 0, none⟩ = some (.int .i64 t.over.sorts) ∧ w'.cell? ⟨w.heap.size, 1, none⟩ = some (.slice Ata t.over.ops.length cta) ∧ w'.cell? ⟨w.heap.size, 2, none⟩ = some (.slice Atb t.eqs.length ctb) ∧ w'.cell? ⟨w.heap.size + 1, 0, none⟩ = some (.int .i64 (k : Int)) ∧ w'.cell? ⟨w.heap.size + 1, 1, none⟩ = some (.bool p.back) ∧ w'.cell? ⟨w.heap.size + 1, 2, none⟩ = some (.int .i64 p.at_) ∧ w'.cell? ⟨w.heap.size + 1, 3, none⟩ = some (.slice Apa p.terms.length cpa))) (by kernel_rfl) ?_ (fun hHeld => ?_)
      · exact ⟨t0, t1, t2, p0, p1, p2, p3⟩
      refine wpAnyH_take (i := 0) (oi := _) (v := ?_) rfl (by kernel_rfl) (by kernel_rfl) (by kernel_rfl) (fun _ _ _ h => h) (Or.inl ⟨by rfl, ?_⟩) (by assumption) ?_
      rotate_left
      · first | (intro w' hSw; (try dsimp only at hSw); go_simp; done) | (intro w' hSw; (try dsimp only at hSw); go_simp; with_reducible rfl)
      try simp only [Act.put, List.getElem_toArray, List.getElem_cons_zero, List.getElem_cons_succ, List.setIfInBounds_toArray, List.set_cons_zero, List.set_cons_succ]
      refine wpAnyH_take (i := 1) (oi := _) (v := ?_) rfl (by kernel_rfl) (by kernel_rfl) (by kernel_rfl) (fun _ _ _ h => h) (Or.inl ⟨by rfl, ?_⟩) (by assumption) ?_
      rotate_left
      · first | (intro w' hSw; (try dsimp only at hSw); go_simp; done) | (intro w' hSw; (try dsimp only at hSw); go_simp; with_reducible rfl)
      try simp only [Act.put, List.getElem_toArray, List.getElem_cons_zero, List.getElem_cons_succ, List.setIfInBounds_toArray, List.set_cons_zero, List.set_cons_succ]
      refine wpAnyH_take (i := 2) (oi := _) (v := ?_) rfl (by kernel_rfl) (by kernel_rfl) (by kernel_rfl) (fun _ _ _ h => h) (Or.inl ⟨by rfl, ?_⟩) (by assumption) ?_
      rotate_left
      · first | (intro w' hSw; (try dsimp only at hSw); go_simp; done) | (intro w' hSw; (try dsimp only at hSw); go_simp; with_reducible rfl)
      try simp only [Act.put, List.getElem_toArray, List.getElem_cons_zero, List.getElem_cons_succ, List.setIfInBounds_toArray, List.set_cons_zero, List.set_cons_succ]
      refine wpAnyH_take (i := 3) (oi := _) (v := ?_) rfl (by kernel_rfl) (by kernel_rfl) (by kernel_rfl) (fun _ _ _ h => h) (Or.inl ⟨by rfl, ?_⟩) (by assumption) ?_
      rotate_left
      · first | (intro w' hSw; (try dsimp only at hSw); go_simp; done) | (intro w' hSw; (try dsimp only at hSw); go_simp; with_reducible rfl)
      try simp only [Act.put, List.getElem_toArray, List.getElem_cons_zero, List.getElem_cons_succ, List.setIfInBounds_toArray, List.set_cons_zero, List.set_cons_succ]
      refine wpAnyH_take (i := 4) (oi := _) (v := ?_) rfl (by kernel_rfl) (by kernel_rfl) (by kernel_rfl) (fun _ _ _ h => h) (Or.inl ⟨by rfl, ?_⟩) (by assumption) ?_
      rotate_left
      · first | (intro w' hSw; (try dsimp only at hSw); go_simp; done) | (intro w' hSw; (try dsimp only at hSw); go_simp; with_reducible rfl)
      try simp only [Act.put, List.getElem_toArray, List.getElem_cons_zero, List.getElem_cons_succ, List.setIfInBounds_toArray, List.set_cons_zero, List.set_cons_succ]
      refine wpAnyH_take (i := 7) (oi := _) (v := ?_) rfl (by kernel_rfl) (by kernel_rfl) (by kernel_rfl) (fun _ _ _ h => h) (Or.inl ⟨by rfl, ?_⟩) (by assumption) ?_
      rotate_left
      · first | (intro w' hSw; (try dsimp only at hSw); go_simp; done) | (intro w' hSw; (try dsimp only at hSw); go_simp; with_reducible rfl)
      try simp only [Act.put, List.getElem_toArray, List.getElem_cons_zero, List.getElem_cons_succ, List.setIfInBounds_toArray, List.set_cons_zero, List.set_cons_succ]
      refine wpAnyH_take (i := 8) (oi := _) (v := ?_) rfl (by kernel_rfl) (by kernel_rfl) (by kernel_rfl) (fun _ _ _ h => h) (Or.inl ⟨by rfl, ?_⟩) (by assumption) ?_
      rotate_left
      · first | (intro w' hSw; (try dsimp only at hSw); go_simp; done) | (intro w' hSw; (try dsimp only at hSw); go_simp; with_reducible rfl)
      try simp only [Act.put, List.getElem_toArray, List.getElem_cons_zero, List.getElem_cons_succ, List.setIfInBounds_toArray, List.set_cons_zero, List.set_cons_succ]
      refine wpAnyH_take (i := 9) (oi := _) (v := ?_) rfl (by kernel_rfl) (by kernel_rfl) (by kernel_rfl) (fun _ _ _ h => h) (Or.inl ⟨by rfl, ?_⟩) (by assumption) ?_
      rotate_left
      · first | (intro w' hSw; (try dsimp only at hSw); go_simp; done) | (intro w' hSw; (try dsimp only at hSw); go_simp; with_reducible rfl)
      try simp only [Act.put, List.getElem_toArray, List.getElem_cons_zero, List.getElem_cons_succ, List.setIfInBounds_toArray, List.set_cons_zero, List.set_cons_succ]
      refine wpAnyH_take (i := 10) (oi := _) (v := ?_) rfl (by kernel_rfl) (by kernel_rfl) (by kernel_rfl) (fun _ _ _ h => h) (Or.inl ⟨by rfl, ?_⟩) (by assumption) ?_
      rotate_left
      · first | (intro w' hSw; (try dsimp only at hSw); go_simp; done) | (intro w' hSw; (try dsimp only at hSw); go_simp; with_reducible rfl)
      try simp only [Act.put, List.getElem_toArray, List.getElem_cons_zero, List.getElem_cons_succ, List.setIfInBounds_toArray, List.set_cons_zero, List.set_cons_succ]
      refine wpAnyH_take (i := 11) (oi := _) (v := ?_) rfl (by kernel_rfl) (by kernel_rfl) (by kernel_rfl) (fun _ _ _ h => h) (Or.inl ⟨by rfl, ?_⟩) (by assumption) ?_
      rotate_left
      · first | (intro w' hSw; (try dsimp only at hSw); go_simp; done) | (intro w' hSw; (try dsimp only at hSw); go_simp; with_reducible rfl)
      try simp only [Act.put, List.getElem_toArray, List.getElem_cons_zero, List.getElem_cons_succ, List.setIfInBounds_toArray, List.set_cons_zero, List.set_cons_succ]
      refine wpAnyH_take (i := 12) (oi := _) (v := ?_) rfl (by kernel_rfl) (by kernel_rfl) (by kernel_rfl) (fun _ _ _ h => h) (Or.inl ⟨by rfl, ?_⟩) (by assumption) ?_
      rotate_left
      · first | (intro w' hSw; (try dsimp only at hSw); go_simp; done) | (intro w' hSw; (try dsimp only at hSw); go_simp; with_reducible rfl)
      try simp only [Act.put, List.getElem_toArray, List.getElem_cons_zero, List.getElem_cons_succ, List.setIfInBounds_toArray, List.set_cons_zero, List.set_cons_succ]
      refine wpAnyH_ready (rs := [5]) (by kernel_rfl) (by simp) ?_
      refine AllReadyH.cons (o := _) rfl (fun K hK => ?_) AllReadyH.nil
      go_simp
      refine (HRO.out W.drew _ (Ht.out.keep (bel_drew (Below.refl _ _)))).mono ?_
      rintro x w1 ⟨L, F, O, fn, rfl, rL, rF, rO, rfn, ⟨cf, rfl⟩, hb1⟩
      have hx1 := (show Below W.heap.size W w1 from bel_undrew hb1)
      have HX1 := Lib.hid hx1
      obtain ⟨q0, q1, q2, q3, rfl, hcl⟩ := rfn.calls (a := p.at_) HSE.out.1 HSE.out.2 HSM.out.2.1 HSM.out.2.2 (HV.out.keep hx1) (HU.out.keep hx1) (HP.out.keep hx1)
      have HCL := Lib.hid hcl
      obtain ⟨AL, cL, rfl, -⟩ := rL.form
      obtain ⟨AF, cF, rfl, -⟩ := rF.form
      obtain ⟨AO, cO, rfl, -⟩ := rO.form
      have j0 := cell_keep hx1 t0
      have j1 := cell_keep hx1 t1
      have j2 := cell_keep hx1 t2
      have j3 := cell_keep hx1 p0
      have j4 := cell_keep hx1 p1
      have j5 := cell_keep hx1 p2
      have j6 := cell_keep hx1 p3
      clear hb1 hx1 rfn hcl rL rF rO
      go_wp2_with fail
      refine hK.out _ _ ?_ (fun hHeld => ?_)
      · exact ⟨j0, j1, j2, j3, j4, j5, j6⟩
      clear hK K
      try simp only [Act.put, List.getElem_toArray, List.getElem_cons_zero, List.getElem_cons_succ, List.setIfInBounds_toArray, List.set_cons_zero, List.set_cons_succ]
      refine wpAnyH_take (i := 6) (oi := _) (v := ?_) rfl (by kernel_rfl) (by kernel_rfl) (by kernel_rfl) (fun _ _ _ h => h) (Or.inl ⟨by rfl, ?_⟩) (by assumption) ?_
      rotate_left
      · first | (intro w' hSw; (try dsimp only at hSw); go_simp; done) | (intro w' hSw; (try dsimp only at hSw); go_simp; with_reducible rfl)
      try simp only [Act.put, List.getElem_toArray, List.getElem_cons_zero, List.getElem_cons_succ, List.setIfInBounds_toArray, List.set_cons_zero, List.set_cons_succ]
      refine wpAnyH_ready (rs := [13]) (by kernel_rfl) (by simp) ?_
      refine AllReadyH.cons (o := _) rfl (fun K hK => ?_) AllReadyH.nil
      go_simp
      refine HCL.out.mono ?_
      rw [HR.out]
      rintro x w2 ⟨z, rfl, ho, hb2⟩
      simp only at ho ⊢
      obtain ⟨Az, cz, rfl, -⟩ := own_reads ho
      have HO := Lib.hid ho
      have HX2 := Lib.hid (fit_keep HX1.out hb2)
      have i0 := cell_keep hb2 j0
      have i1 := cell_keep hb2 j1
      have i2 := cell_keep hb2 j2
      have i3 := cell_keep hb2 j3
      have i4 := cell_keep hb2 j4
      have i5 := cell_keep hb2 j5
      have i6 := cell_keep hb2 j6
      clear hb2 ho
      go_wp2_with fail
      refine hK.out _ _ ?_ (fun hHeld => ?_)
      · exact ⟨i0, i1, i2, i3, i4, i5, i6⟩
      clear hK K
      try simp only [Act.put, List.getElem_toArray, List.getElem_cons_zero, List.getElem_cons_succ, List.setIfInBounds_toArray, List.set_cons_zero, List.set_cons_succ]
      refine wpAnyH_take (i := 14) (oi := _) (v := ?_) rfl (by kernel_rfl) (by kernel_rfl) (by kernel_rfl) (fun _ _ _ h => h) (Or.inl ⟨by rfl, ?_⟩) (by assumption) ?_
      rotate_left
      · first | (intro w' hSw; (try dsimp only at hSw); go_simp; done) | (intro w' hSw; (try dsimp only at hSw); go_simp; with_reducible rfl)
      try simp only [Act.put, List.getElem_toArray, List.getElem_cons_zero, List.getElem_cons_succ, List.setIfInBounds_toArray, List.set_cons_zero, List.set_cons_succ]
      refine wpAnyH_take (i := 15) (oi := _) (v := ?_) rfl (by kernel_rfl) (by kernel_rfl) (by kernel_rfl) (fun _ _ _ h => h) (Or.inl ⟨by rfl, ?_⟩) (by assumption) ?_
      rotate_left
      · first | (intro w' hSw; (try dsimp only at hSw); go_simp; done) | (intro w' hSw; (try dsimp only at hSw); go_simp; with_reducible rfl)
      try simp only [Act.put, List.getElem_toArray, List.getElem_cons_zero, List.getElem_cons_succ, List.setIfInBounds_toArray, List.set_cons_zero, List.set_cons_succ]
      refine wpAnyH_take (i := 16) (oi := _) (v := ?_) rfl (by kernel_rfl) (by kernel_rfl) (by kernel_rfl) (fun _ _ _ h => h) (Or.inl ⟨by rfl, ?_⟩) (by assumption) ?_
      rotate_left
      · first | (intro w' hSw; (try dsimp only at hSw); go_simp; done) | (intro w' hSw; (try dsimp only at hSw); go_simp; with_reducible rfl)
      try simp only [Act.put, List.getElem_toArray, List.getElem_cons_zero, List.getElem_cons_succ, List.setIfInBounds_toArray, List.set_cons_zero, List.set_cons_succ]
      refine wpAnyH_take (i := 17) (oi := _) (v := ?_) rfl (by kernel_rfl) (by kernel_rfl) (by kernel_rfl) (fun _ _ _ h => h) (Or.inl ⟨by rfl, ?_⟩) (by assumption) ?_
      rotate_left
      · first | (intro w' hSw; (try dsimp only at hSw); go_simp; done) | (intro w' hSw; (try dsimp only at hSw); go_simp; with_reducible rfl)
      try simp only [Act.put, List.getElem_toArray, List.getElem_cons_zero, List.getElem_cons_succ, List.setIfInBounds_toArray, List.set_cons_zero, List.set_cons_succ]
      refine wpAnyH_done (by kernel_rfl) ?_ _
      clear t0 t1 t2 p0 p1 p2 p3 j0 j1 j2 j3 j4 j5 j6 i0 i1 i2 i3 i4 i5 i6 ea eb
      have hs1 := HX1.out.size
      go_wp2
      refine bodyPost_ret (v := .tuple #[.slice Az R.length cz, .bool g]) (by simp [results, Try.results66, go_sem]) rfl ?_
      rw [HE.out, HR.out]
      exact ⟨_, rfl, HO.out.base (by omega), fit_keep HB.out HX2.out⟩
end Go.Proofs.Ytonainidjkcoeac
