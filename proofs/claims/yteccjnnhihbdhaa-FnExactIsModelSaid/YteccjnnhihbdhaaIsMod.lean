/- IsModel of both packages. -/
import Derived.Test.YteccjnnhihbdhaaMdC
import Derived.Test.YteccjnnhihbdhaaThyOk
namespace Go.Proofs.Yteccjnnhihbdhaa
open Go.RowKit
set_option linter.unusedVariables false
set_option linter.unusedSimpArgs false

theorem isM_no1 {t : MThy} {m : MModel} (h : thyB t = false) : isModelB t m = false := by unfold isModelB; simp [h]
theorem isM_no2 {t : MThy} {m : MModel} (h : modelB t.over m = false) : isModelB t m = false := by unfold isModelB; simp [h]
theorem isM_no3 {t : MThy} {m : MModel} {k : Nat} (hk : k < t.eqs.length) (h : holdsB t.over m t.eqs[k] = false) : isModelB t m = false := by unfold isModelB; rw [all_bad hk h, Bool.and_false]
theorem isM_yes {t : MThy} {m : MModel} (h3 : (t.eqs.take t.eqs.length).all (holdsB t.over m) = true) : isModelB t m = (thyB t && modelB t.over m) := by
  rw [take_all (Nat.le_refl _)] at h3
  unfold isModelB; rw [h3, Bool.and_true]

set_option maxHeartbeats 3200000 in
set_option maxRecDepth 100000 in
theorem isModel_any (t : MThy) (m : MModel) (w : World) (v v' : Value) (hsm : SmallT t) (h : RThy w v t) (h' : RModel w v' m) :
    Calls Try.prog 38 #[v, v'] w fun x w' => x = .returned (.bool (isModelB t m)) ∧ Below w.heap.size w w' := by
  obtain ⟨Ata, cta, Atb, ctb, rfl⟩ := h.form
  obtain ⟨Ama, cma, Amb, cmb, rfl⟩ := h'.form
  have hb : Below w.heap.size w ((w.alloc (.cells #[.int .i64 t.over.sorts, .slice Ata t.over.ops.length cta, .slice Atb t.eqs.length ctb] 65)).alloc (.cells #[.slice Ama m.sizes.length cma, .slice Amb m.tables.length cmb] 33)) := (below_alloc _ _).alloc (by simp) _
  have HB := Lib.hid hb
  have hsz : ((w.alloc (.cells #[.int .i64 t.over.sorts, .slice Ata t.over.ops.length cta, .slice Atb t.eqs.length ctb] 65)).alloc (.cells #[.slice Ama m.sizes.length cma, .slice Amb m.tables.length cmb] 33)).heap.size = w.heap.size + 2 := by simp
  have Ht := Lib.hid (h.keep hb)
  have t0 := cell_keep (below_alloc (w.alloc (.cells #[.int .i64 t.over.sorts, .slice Ata t.over.ops.length cta, .slice Atb t.eqs.length ctb] 65)) (.cells #[.slice Ama m.sizes.length cma, .slice Amb m.tables.length cmb] 33)) (bx_at (w) #[.int .i64 t.over.sorts, .slice Ata t.over.ops.length cta, .slice Atb t.eqs.length ctb] 65 (k := 0) rfl)
  have t1 := cell_keep (below_alloc (w.alloc (.cells #[.int .i64 t.over.sorts, .slice Ata t.over.ops.length cta, .slice Atb t.eqs.length ctb] 65)) (.cells #[.slice Ama m.sizes.length cma, .slice Amb m.tables.length cmb] 33)) (bx_at (w) #[.int .i64 t.over.sorts, .slice Ata t.over.ops.length cta, .slice Atb t.eqs.length ctb] 65 (k := 1) rfl)
  have t2 := cell_keep (below_alloc (w.alloc (.cells #[.int .i64 t.over.sorts, .slice Ata t.over.ops.length cta, .slice Atb t.eqs.length ctb] 65)) (.cells #[.slice Ama m.sizes.length cma, .slice Amb m.tables.length cmb] 33)) (bx_at (w) #[.int .i64 t.over.sorts, .slice Ata t.over.ops.length cta, .slice Atb t.eqs.length ctb] 65 (k := 2) rfl)
  have Hm := Lib.hid (h'.keep hb)
  have m0 := bx_at (w.alloc (.cells #[.int .i64 t.over.sorts, .slice Ata t.over.ops.length cta, .slice Atb t.eqs.length ctb] 65)) #[.slice Ama m.sizes.length cma, .slice Amb m.tables.length cmb] 33 (k := 0) rfl
  have m1 := bx_at (w.alloc (.cells #[.int .i64 t.over.sorts, .slice Ata t.over.ops.length cta, .slice Atb t.eqs.length ctb] 65)) #[.slice Ama m.sizes.length cma, .slice Amb m.tables.length cmb] 33 (k := 1) rfl
  simp only [World.size_alloc] at m0 m1
  generalize hW : (w.alloc (.cells #[.int .i64 t.over.sorts, .slice Ata t.over.ops.length cta, .slice Atb t.eqs.length ctb] 65)).alloc (.cells #[.slice Ama m.sizes.length cma, .slice Amb m.tables.length cmb] 33) = W at HB hsz Ht t0 t1 t2 Hm m0 m1
  clear hb h h'
  obtain ⟨-, r1, r2⟩ := Ht.out.of
  have HSM := Lib.hid hsm
  have R1 := Lib.hid (show RSig W (.agg #[.int .i64 t.over.sorts, .slice Ata t.over.ops.length cta]) t.over from ⟨_, rfl, r1⟩)
  have R2 := Lib.hid r2
  have hlen := r2.len
  clear r1 r2 hsm
  cases hth : thyB t with
  | false =>
    have HTH := Lib.hid hth
    have HE := Lib.hid (isM_no1 (m := m) hth)
    clear hth
    go_enter Try.func38, Try.ntmps38
    go_wp2_with fail
    clear hW
    refine (theoryOk_any t _ _ HSM.out Ht.out).mono ?_
    rw [HTH.out]
    rintro x w1 ⟨rfl, hb⟩
    replace HB := Lib.hid (sz_keep HB.out hb)
    replace t0 := cell_keep hb t0
    replace t1 := cell_keep hb t1
    replace t2 := cell_keep hb t2
    replace m0 := cell_keep hb m0
    replace m1 := cell_keep hb m1
    replace Ht := Lib.hid (Ht.out.keep hb)
    replace Hm := Lib.hid (Hm.out.keep hb)
    replace R1 := Lib.hid (R1.out.keep hb)
    replace R2 := Lib.hid (R2.out.keep hb)
    clear hb
    go_wp2
    go_ret
    exact ⟨ret_bool HE.out.symm, HB.out⟩
  | true =>
    have HTH := Lib.hid hth
    clear hth
    cases hmo : modelB t.over m with
    | false =>
      have HMO := Lib.hid hmo
      have HE := Lib.hid (isM_no2 hmo)
      clear hmo
      go_enter Try.func38, Try.ntmps38
      go_wp2_with fail
      clear hW
      refine (theoryOk_any t _ _ HSM.out Ht.out).mono ?_
      rw [HTH.out]
      rintro x w1 ⟨rfl, hb⟩
      replace HB := Lib.hid (sz_keep HB.out hb)
      replace t0 := cell_keep hb t0
      replace t1 := cell_keep hb t1
      replace t2 := cell_keep hb t2
      replace m0 := cell_keep hb m0
      replace m1 := cell_keep hb m1
      replace Ht := Lib.hid (Ht.out.keep hb)
      replace Hm := Lib.hid (Hm.out.keep hb)
      replace R1 := Lib.hid (R1.out.keep hb)
      replace R2 := Lib.hid (R2.out.keep hb)
      clear hb
      go_wp2_with fail
      refine (modelOk_any t.over m _ _ _ R1.out Hm.out).mono ?_
      rw [HMO.out]
      rintro x w2 ⟨rfl, hb⟩
      replace HB := Lib.hid (sz_keep HB.out hb)
      replace t0 := cell_keep hb t0
      replace t1 := cell_keep hb t1
      replace t2 := cell_keep hb t2
      replace m0 := cell_keep hb m0
      replace m1 := cell_keep hb m1
      replace Ht := Lib.hid (Ht.out.keep hb)
      replace Hm := Lib.hid (Hm.out.keep hb)
      replace R1 := Lib.hid (R1.out.keep hb)
      replace R2 := Lib.hid (R2.out.keep hb)
      clear hb
      go_wp2
      go_ret
      exact ⟨ret_bool HE.out.symm, HB.out⟩
    | true =>
      have HMO := Lib.hid hmo
      clear hmo
      go_enter Try.func38, Try.ntmps38
      go_wp2_with fail
      clear hW
      refine (theoryOk_any t _ _ HSM.out Ht.out).mono ?_
      rw [HTH.out]
      rintro x w1 ⟨rfl, hb⟩
      replace HB := Lib.hid (sz_keep HB.out hb)
      replace t0 := cell_keep hb t0
      replace t1 := cell_keep hb t1
      replace t2 := cell_keep hb t2
      replace m0 := cell_keep hb m0
      replace m1 := cell_keep hb m1
      replace Ht := Lib.hid (Ht.out.keep hb)
      replace Hm := Lib.hid (Hm.out.keep hb)
      replace R1 := Lib.hid (R1.out.keep hb)
      replace R2 := Lib.hid (R2.out.keep hb)
      clear hb
      go_wp2_with fail
      refine (modelOk_any t.over m _ _ _ R1.out Hm.out).mono ?_
      rw [HMO.out]
      rintro x w2 ⟨rfl, hb⟩
      replace HB := Lib.hid (sz_keep HB.out hb)
      replace t0 := cell_keep hb t0
      replace t1 := cell_keep hb t1
      replace t2 := cell_keep hb t2
      replace m0 := cell_keep hb m0
      replace m1 := cell_keep hb m1
      replace Ht := Lib.hid (Ht.out.keep hb)
      replace Hm := Lib.hid (Hm.out.keep hb)
      replace R1 := Lib.hid (R1.out.keep hb)
      replace R2 := Lib.hid (R2.out.keep hb)
      clear hb
      have HC := Lib.hid (And.intro t0 (And.intro t1 (And.intro m0 m1)))
      go_wp2
      clear t0 t1 t2 m0 m1
      go_loopw [6, 20] (fun e6 i wr => ∃ k : Nat, k ≤ t.eqs.length ∧ i = .int .i64 k ∧ (t.eqs.take k).all (holdsB t.over m) = true ∧ Below w2.heap.size w2 wr) (fun _ i _ => t.eqs.length - (intOf i).toNat)
      case atStart => exact ⟨0, Nat.zero_le _, rfl, rfl, Below.refl _ _⟩
      case round =>
        obtain ⟨k, hk, rfl, hb0, hd⟩ := hrel
        have HB0 := Lib.hid hb0
        have HD := Lib.hid hd
        clear hb0 hd
        by_cases hlt : k < t.eqs.length
        · obtain ⟨b, o, c3, x0, x1, x2, e, c00, c01, c02, q0, q1, q2⟩ := (R2.out.keep HD.out).at_ hlt
          cases e
          have hlt' : (k : Int) < (t.eqs.length : Int) := by omega
          have HT := Lib.hid (all_take (p := holdsB t.over m) hlt)
          have HN := Lib.hid (fun h => isM_no3 (m := m) hlt h)
          have HSE := Lib.hid (HSM.out _ (List.getElem_mem hlt))
          generalize t.eqs[k] = e at q0 q1 q2 HT HN HSE
          have HX := Lib.hid (show REq wr (.agg #[x0, x1, x2]) e from ⟨x0, x1, x2, rfl, q0, q1, q2⟩)
          obtain ⟨A0, g0, rfl, -⟩ := q0.form
          obtain ⟨A1, g1, rfl, -⟩ := q1.form
          obtain ⟨A2, g2, rfl, -⟩ := q2.form
          have hba := below_alloc wr (.cells #[.slice A0 e.vars.length g0, .slice A1 e.left.length g1, .slice A2 e.right.length g2] 49)
          have n0 := bx_at wr #[.slice A0 e.vars.length g0, .slice A1 e.left.length g1, .slice A2 e.right.length g2] 49 (k := 0) rfl
          have n1 := bx_at wr #[.slice A0 e.vars.length g0, .slice A1 e.left.length g1, .slice A2 e.right.length g2] 49 (k := 1) rfl
          have n2 := bx_at wr #[.slice A0 e.vars.length g0, .slice A1 e.left.length g1, .slice A2 e.right.length g2] 49 (k := 2) rfl
          have j0 := cell_keep hba (cell_keep HD.out HC.out.1)
          have j1 := cell_keep hba (cell_keep HD.out HC.out.2.1)
          have j2 := cell_keep hba (cell_keep HD.out HC.out.2.2.1)
          have j3 := cell_keep hba (cell_keep HD.out HC.out.2.2.2)
          have HX' := Lib.hid (HX.out.keep hba)
          have HS' := Lib.hid ((R1.out.keep HD.out).keep hba)
          have HM' := Lib.hid ((Hm.out.keep HD.out).keep hba)
          have HDA := Lib.hid (fit_keep HD.out hba)
          generalize hW2 : wr.alloc (.cells #[.slice A0 e.vars.length g0, .slice A1 e.left.length g1, .slice A2 e.right.length g2] 49) = W2 at n0 n1 n2 j0 j1 j2 j3 HX' HS' HM' HDA
          obtain ⟨r, hr⟩ : ∃ r, holdsB t.over m e = r := ⟨_, rfl⟩
          have HR := Lib.hid hr
          clear q0 q1 q2 hba hr
          go_wp2_with fail
          clear hW2
          refine (holds_any t.over m e _ _ _ _ HSE.out HS'.out HM'.out HX'.out).mono ?_
          rw [HR.out]
          rintro x w3 ⟨rfl, hb3⟩
          have HB3 := Lib.hid (fit_keep HDA.out hb3)
          clear hb3 n0 n1 n2 j0 j1 j2 j3 c00 c01 c02
          cases r with
          | true =>
            go_wp2
            go_roundw
            case rel => exact ⟨k + 1, by omega, by go_num, by rw [HT.out, HB0.out, HR.out]; rfl, HB3.out⟩
            case measure => simp [intOf]; omega
          | false =>
            go_wp2
            go_ret
            exact ⟨ret_bool (HN.out HR.out).symm, fit_keep HB.out HB3.out⟩
        · have hkn : k = t.eqs.length := by omega
          subst hkn
          have hlt' : ¬ (t.eqs.length : Int) < (t.eqs.length : Int) := by omega
          have HE := Lib.hid (isM_yes HB0.out)
          rw [HTH.out, HMO.out] at HE
          go_wp2
          go_ret
          exact ⟨ret_bool HE.out.symm, fit_keep HB.out HD.out⟩

set_option maxHeartbeats 3200000 in
set_option maxRecDepth 100000 in
theorem specIsModel_any (t : MThy) (m : MModel) (w : World) (v v' : Value) (h : RThy w v t) (h' : RModel w v' m) :
    Calls Try.prog 36 #[v, v'] w fun x w' => x = .returned (.bool (isModelB t m)) ∧ Below w.heap.size w w' := by
  obtain ⟨Ata, cta, Atb, ctb, rfl⟩ := h.form
  obtain ⟨Ama, cma, Amb, cmb, rfl⟩ := h'.form
  have hb : Below w.heap.size w ((w.alloc (.cells #[.int .i64 t.over.sorts, .slice Ata t.over.ops.length cta, .slice Atb t.eqs.length ctb] 65)).alloc (.cells #[.slice Ama m.sizes.length cma, .slice Amb m.tables.length cmb] 33)) := (below_alloc _ _).alloc (by simp) _
  have HB := Lib.hid hb
  have hsz : ((w.alloc (.cells #[.int .i64 t.over.sorts, .slice Ata t.over.ops.length cta, .slice Atb t.eqs.length ctb] 65)).alloc (.cells #[.slice Ama m.sizes.length cma, .slice Amb m.tables.length cmb] 33)).heap.size = w.heap.size + 2 := by simp
  have Ht := Lib.hid (h.keep hb)
  have t0 := cell_keep (below_alloc (w.alloc (.cells #[.int .i64 t.over.sorts, .slice Ata t.over.ops.length cta, .slice Atb t.eqs.length ctb] 65)) (.cells #[.slice Ama m.sizes.length cma, .slice Amb m.tables.length cmb] 33)) (bx_at (w) #[.int .i64 t.over.sorts, .slice Ata t.over.ops.length cta, .slice Atb t.eqs.length ctb] 65 (k := 0) rfl)
  have t1 := cell_keep (below_alloc (w.alloc (.cells #[.int .i64 t.over.sorts, .slice Ata t.over.ops.length cta, .slice Atb t.eqs.length ctb] 65)) (.cells #[.slice Ama m.sizes.length cma, .slice Amb m.tables.length cmb] 33)) (bx_at (w) #[.int .i64 t.over.sorts, .slice Ata t.over.ops.length cta, .slice Atb t.eqs.length ctb] 65 (k := 1) rfl)
  have t2 := cell_keep (below_alloc (w.alloc (.cells #[.int .i64 t.over.sorts, .slice Ata t.over.ops.length cta, .slice Atb t.eqs.length ctb] 65)) (.cells #[.slice Ama m.sizes.length cma, .slice Amb m.tables.length cmb] 33)) (bx_at (w) #[.int .i64 t.over.sorts, .slice Ata t.over.ops.length cta, .slice Atb t.eqs.length ctb] 65 (k := 2) rfl)
  have Hm := Lib.hid (h'.keep hb)
  have m0 := bx_at (w.alloc (.cells #[.int .i64 t.over.sorts, .slice Ata t.over.ops.length cta, .slice Atb t.eqs.length ctb] 65)) #[.slice Ama m.sizes.length cma, .slice Amb m.tables.length cmb] 33 (k := 0) rfl
  have m1 := bx_at (w.alloc (.cells #[.int .i64 t.over.sorts, .slice Ata t.over.ops.length cta, .slice Atb t.eqs.length ctb] 65)) #[.slice Ama m.sizes.length cma, .slice Amb m.tables.length cmb] 33 (k := 1) rfl
  simp only [World.size_alloc] at m0 m1
  generalize hW : (w.alloc (.cells #[.int .i64 t.over.sorts, .slice Ata t.over.ops.length cta, .slice Atb t.eqs.length ctb] 65)).alloc (.cells #[.slice Ama m.sizes.length cma, .slice Amb m.tables.length cmb] 33) = W at HB hsz Ht t0 t1 t2 Hm m0 m1
  clear hb h h'
  obtain ⟨-, r1, r2⟩ := Ht.out.of
  have R1 := Lib.hid (show RSig W (.agg #[.int .i64 t.over.sorts, .slice Ata t.over.ops.length cta]) t.over from ⟨_, rfl, r1⟩)
  have R2 := Lib.hid r2
  have hlen := r2.len
  have HC := Lib.hid (And.intro t0 (And.intro t1 (And.intro t2 (And.intro m0 m1))))
  clear r1 r2 t0 t1 t2 m0 m1
  go_enter Try.func36, Try.ntmps36
  go_wp2
  clear hW
  go_loopw [5] (fun i wr => ∃ k : Nat, k ≤ t.eqs.length ∧ i = .int .i64 k ∧ (t.eqs.take k).all (holdsB t.over m) = true ∧ Below W.heap.size W wr) (fun i _ => t.eqs.length - (intOf i).toNat)
  case atStart => exact ⟨0, Nat.zero_le _, rfl, rfl, Below.refl _ _⟩
  case round =>
    obtain ⟨k, hk, rfl, hb0, hd⟩ := hrel
    have HB0 := Lib.hid hb0
    have HD := Lib.hid hd
    have f0 := cell_keep hd HC.out.1
    have f1 := cell_keep hd HC.out.2.1
    have f2 := cell_keep hd HC.out.2.2.1
    have f3 := cell_keep hd HC.out.2.2.2.1
    have f4 := cell_keep hd HC.out.2.2.2.2
    clear hb0 hd
    by_cases hlt : k < t.eqs.length
    · obtain ⟨b, o, c3, x0, x1, x2, e, c00, c01, c02, q0, q1, q2⟩ := (R2.out.keep HD.out).at_ hlt
      cases e
      have hlt' : (k : Int) < (t.eqs.length : Int) := by omega
      have HT := Lib.hid (all_take (p := holdsB t.over m) hlt)
      have HN := Lib.hid (fun h => isM_no3 (m := m) hlt h)
      generalize t.eqs[k] = e at q0 q1 q2 HT HN
      have HX := Lib.hid (show REq wr (.agg #[x0, x1, x2]) e from ⟨x0, x1, x2, rfl, q0, q1, q2⟩)
      obtain ⟨A0, g0, rfl, -⟩ := q0.form
      obtain ⟨A1, g1, rfl, -⟩ := q1.form
      obtain ⟨A2, g2, rfl, -⟩ := q2.form
      obtain ⟨r, hr⟩ : ∃ r, holdsB t.over m e = r := ⟨_, rfl⟩
      have HR := Lib.hid hr
      clear q0 q1 q2 hr
      go_wp2_with fail
      refine wp_region_held_drew (S := (fun w' => w'.cell? ⟨w.heap.size, 0, none⟩ = some (.int .i64 t.over.sorts) ∧ w'.cell? ⟨w.heap.size, 1, none⟩ = some (.slice Ata t.over.ops.length cta) ∧ w'.cell? ⟨w.heap.size, 2, none⟩ = some (.slice (some ⟨b, o, none⟩) t.eqs.length ctb) ∧ w'.cell? ⟨w.heap.size + 1, 0, none⟩ = some (.slice Ama m.sizes.length cma) ∧ w'.cell? ⟨w.heap.size + 1, 1, none⟩ = some (.slice Amb m.tables.length cmb) ∧ w'.cell? ⟨b, o + k * 3, none⟩ = some (.slice A0 e.vars.length g0) ∧ w'.cell? ⟨b, o + k * 3 + 1, none⟩ = some (.slice A1 e.left.length g1) ∧ w'.cell? ⟨b, o + k * 3 + 2, none⟩ = some (.slice A2 e.right.length g2))) (by kernel_rfl) ?_ (fun hHeld => ?_)
      · exact ⟨f0, f1, f2, f3, f4, c00, c01, c02⟩
      refine wpAnyH_take (i := 0) (oi := _) (v := ?_) rfl (by kernel_rfl) (by kernel_rfl) (by kernel_rfl) (fun _ _ _ h => h) (Or.inl ⟨by rfl, ?_⟩) (by assumption) ?_
      rotate_left
      · first | (intro w' hSw; (try dsimp only at hSw); go_simp; done) | (intro w' hSw; (try dsimp only at hSw); go_simp; with_reducible rfl)
      try simp only [Act.put, List.getElem_toArray, List.getElem_cons_zero, List.getElem_cons_succ, List.setIfInBounds_toArray, List.set_cons_zero, List.set_cons_succ]
      refine wpAnyH_take (i := 1) (oi := _) (v := ?_) rfl (by kernel_rfl) (by kernel_rfl) (by kernel_rfl) (fun _ _ _ h => h) (Or.inl ⟨by rfl, ?_⟩) (by assumption) ?_
      rotate_left
      · first | (intro w' hSw; (try dsimp only at hSw); go_simp; done) | (intro w' hSw; (try dsimp only at hSw); go_simp; with_reducible rfl)
      try simp only [Act.put, List.getElem_toArray, List.getElem_cons_zero, List.getElem_cons_succ, List.setIfInBounds_toArray, List.set_cons_zero, List.set_cons_succ]
      refine wpAnyH_take (i := 2) (oi := _) (v := ?_) rfl (by kernel_rfl) (by kernel_rfl) (by kernel_rfl) (fun _ _ _ h => h) (Or.inl ⟨by rfl, ?_⟩) (by assumption) ?_
      rotate_left
      · first | (intro w' hSw; (try dsimp only at hSw); go_simp; done) | (intro w' hSw; (try dsimp only at hSw); go_simp; with_reducible rfl)
      try simp only [Act.put, List.getElem_toArray, List.getElem_cons_zero, List.getElem_cons_succ, List.setIfInBounds_toArray, List.set_cons_zero, List.set_cons_succ]
      refine wpAnyH_take (i := 3) (oi := _) (v := ?_) rfl (by kernel_rfl) (by kernel_rfl) (by kernel_rfl) (fun _ _ _ h => h) (Or.inl ⟨by rfl, ?_⟩) (by assumption) ?_
      rotate_left
      · first | (intro w' hSw; (try dsimp only at hSw); go_simp; done) | (intro w' hSw; (try dsimp only at hSw); go_simp; with_reducible rfl)
      try simp only [Act.put, List.getElem_toArray, List.getElem_cons_zero, List.getElem_cons_succ, List.setIfInBounds_toArray, List.set_cons_zero, List.set_cons_succ]
      refine wpAnyH_take (i := 4) (oi := _) (v := ?_) rfl (by kernel_rfl) (by kernel_rfl) (by kernel_rfl) (fun _ _ _ h => h) (Or.inl ⟨by rfl, ?_⟩) (by assumption) ?_
      rotate_left
      · first | (intro w' hSw; (try dsimp only at hSw); go_simp; done) | (intro w' hSw; (try dsimp only at hSw); go_simp; with_reducible rfl)
      try simp only [Act.put, List.getElem_toArray, List.getElem_cons_zero, List.getElem_cons_succ, List.setIfInBounds_toArray, List.set_cons_zero, List.set_cons_succ]
      refine wpAnyH_take (i := 5) (oi := _) (v := ?_) rfl (by kernel_rfl) (by kernel_rfl) (by kernel_rfl) (fun _ _ _ h => h) (Or.inl ⟨by rfl, ?_⟩) (by assumption) ?_
      rotate_left
      · first | (intro w' hSw; (try dsimp only at hSw); go_simp; done) | (intro w' hSw; (try dsimp only at hSw); go_simp; with_reducible rfl)
      try simp only [Act.put, List.getElem_toArray, List.getElem_cons_zero, List.getElem_cons_succ, List.setIfInBounds_toArray, List.set_cons_zero, List.set_cons_succ]
      refine wpAnyH_take (i := 6) (oi := _) (v := ?_) rfl (by kernel_rfl) (by kernel_rfl) (by kernel_rfl) (fun _ _ _ h => h) (Or.inl ⟨by rfl, ?_⟩) (by assumption) ?_
      rotate_left
      · first | (intro w' hSw; (try dsimp only at hSw); go_simp; done) | (intro w' hSw; (try dsimp only at hSw); go_simp; with_reducible rfl)
      try simp only [Act.put, List.getElem_toArray, List.getElem_cons_zero, List.getElem_cons_succ, List.setIfInBounds_toArray, List.set_cons_zero, List.set_cons_succ]
      refine wpAnyH_take (i := 7) (oi := _) (v := ?_) rfl (by kernel_rfl) (by kernel_rfl) (by kernel_rfl) (fun _ _ _ h => h) (Or.inl ⟨by rfl, ?_⟩) (by assumption) ?_
      rotate_left
      · first | (intro w' hSw; (try dsimp only at hSw); go_simp; done) | (intro w' hSw; (try dsimp only at hSw); go_simp; with_reducible rfl)
      try simp only [Act.put, List.getElem_toArray, List.getElem_cons_zero, List.getElem_cons_succ, List.setIfInBounds_toArray, List.set_cons_zero, List.set_cons_succ]
      refine wpAnyH_ready (rs := [8]) (by kernel_rfl) (by simp) ?_
      refine AllReadyH.cons (o := _) rfl (fun K hK => ?_) AllReadyH.nil
      go_simp
      refine (specHolds_any t.over m e _ _ _ _ ((R1.out.keep HD.out).keep (map_drew (Below.refl _ _))) ((Hm.out.keep HD.out).keep (map_drew (Below.refl _ _))) (HX.out.keep (map_drew (Below.refl _ _)))).mono ?_
      rw [HR.out]
      rintro x w6 ⟨rfl, hb6⟩
      have hx6 := map_undrew hb6
      have HX6 := Lib.hid (sz_keep HD.out hx6)
      have j0 := cell_keep hx6 f0
      have j1 := cell_keep hx6 f1
      have j2 := cell_keep hx6 f2
      have j3 := cell_keep hx6 f3
      have j4 := cell_keep hx6 f4
      have j5 := cell_keep hx6 c00
      have j6 := cell_keep hx6 c01
      have j7 := cell_keep hx6 c02
      clear hb6 hx6
      go_wp2_with fail
      refine hK.out _ _ ?_ (fun hHeld => ?_)
      · exact ⟨j0, j1, j2, j3, j4, j5, j6, j7⟩
      clear hK K
      try simp only [Act.put, List.getElem_toArray, List.getElem_cons_zero, List.getElem_cons_succ, List.setIfInBounds_toArray, List.set_cons_zero, List.set_cons_succ]
      refine wpAnyH_take (i := 9) (oi := _) (v := ?_) rfl (by kernel_rfl) (by kernel_rfl) (by kernel_rfl) (fun _ _ _ h => h) (Or.inl ⟨by rfl, ?_⟩) (by assumption) ?_
      rotate_left
      · first | (intro w' hSw; (try dsimp only at hSw); go_simp; done) | (intro w' hSw; (try dsimp only at hSw); go_simp; with_reducible rfl)
      try simp only [Act.put, List.getElem_toArray, List.getElem_cons_zero, List.getElem_cons_succ, List.setIfInBounds_toArray, List.set_cons_zero, List.set_cons_succ]
      refine wpAnyH_done (by kernel_rfl) ?_ _
      clear f0 f1 f2 f3 f4 c00 c01 c02 j0 j1 j2 j3 j4 j5 j6 j7
      cases r with
      | true =>
        go_wp2
        go_roundw
        case rel => exact ⟨k + 1, by omega, by go_num, by rw [HT.out, HB0.out, HR.out]; rfl, HX6.out⟩
        case measure => simp [intOf]; omega
      | false =>
        go_wp2
        go_ret
        exact ⟨ret_bool (HN.out HR.out).symm, sz_keep HB.out HX6.out⟩
    · have hkn : k = t.eqs.length := by omega
      subst hkn
      have hlt' : ¬ (t.eqs.length : Int) < (t.eqs.length : Int) := by omega
      have HE := Lib.hid (isM_yes HB0.out)
      cases hth : thyB t with
      | false =>
        have HTH := Lib.hid hth
        rw [hth] at HE
        clear hth
        go_wp2_with fail
        refine (specTheoryOk_any t _ _ (Ht.out.keep HD.out)).mono ?_
        rw [HTH.out]
        rintro x w3 ⟨rfl, hb⟩
        have HX3 := Lib.hid (sz_keep HD.out hb)
        clear hb f0 f1 f2 f3 f4
        go_wp2
        go_ret
        exact ⟨ret_bool HE.out.symm, sz_keep HB.out HX3.out⟩
      | true =>
        have HTH := Lib.hid hth
        rw [hth] at HE
        obtain ⟨r, hr⟩ : ∃ r, modelB t.over m = r := ⟨_, rfl⟩
        rw [hr] at HE
        have HR := Lib.hid hr
        clear hth hr
        go_wp2_with fail
        refine (specTheoryOk_any t _ _ (Ht.out.keep HD.out)).mono ?_
        rw [HTH.out]
        rintro x w3 ⟨rfl, hb⟩
        have HX3 := Lib.hid (sz_keep HD.out hb)
        replace f0 := cell_keep hb f0
        replace f1 := cell_keep hb f1
        replace f2 := cell_keep hb f2
        replace f3 := cell_keep hb f3
        replace f4 := cell_keep hb f4
        clear hb
        go_wp2_with fail
        refine (specModelOk_any t.over m _ _ _ (R1.out.keep HX3.out) (Hm.out.keep HX3.out)).mono ?_
        rw [HR.out]
        rintro x w4 ⟨rfl, hb⟩
        have HX4 := Lib.hid (sz_keep HX3.out hb)
        clear hb f0 f1 f2 f3 f4
        go_wp2
        go_ret
        exact ⟨ret_bool HE.out.symm, sz_keep HB.out HX4.out⟩
end Go.Proofs.Yteccjnnhihbdhaa
