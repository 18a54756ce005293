/- FnMapTerm answers true at every slice of bytes. No condition. -/
import Derived.Test.YtkhabmoidpgapabK81705f2d
namespace Go.Proofs.Ytkhabmoidpgapab
open Go.ChangeShapes Go.WideShapes Go.ChangeAt Go.RowKit
set_option linter.unusedVariables false
set_option linter.unusedSimpArgs false

theorem small_led {a b : MSig} {m : MMap} (f : MapFacts a b m) {t : List Int} (h : Small t) : Small (ledM m.ops t) := fun x hx => by
  have hx2 := hx
  unfold ledM at hx2
  obtain ⟨y, hy, e⟩ := List.mem_map.1 hx2
  have h1 := h y hy
  split at e
  · rcases Nat.lt_or_ge y.toNat m.ops.length with hl | hl
    · rw [getD_at _ hl] at e
      have := f.os _ (List.getElem_mem hl)
      omega
    · rw [List.getD_eq_getElem?_getD, List.getElem?_eq_none hl] at e
      simp at e
      omega
  · omega
set_option maxHeartbeats 3200000 in
set_option maxRecDepth 100000 in
theorem walk_FnMapTerm (v : Value) (bs : List Int) (w : World) (h : RBytes w w.heap.size v bs) :
    Calls Try.prog 5 #[v] w fun e w' => e = .returned (.bool true) ∧ Below w.heap.size w w' := by
  have HW := Lib.hid h
  obtain ⟨A, c, rfl, hc1, hc2, -⟩ := h
  rw [maxLen_eq] at hc2
  by_cases hl : 1048576 < bs.length
  · go_enter Try.func5, Try.ntmps5
    go_wp2
    go_ret
    exact ⟨rfl, Below.refl _ _⟩
  · go_enter Try.func5, Try.ntmps5
    go_wp2_with fail
    refine (drawMapTerm_any _ bs _ HW.out).mono ?_
    rintro e w1 ⟨av, bv, mv, vv, tv, a, b, m, vars, t, rfl, oa, ob, om, ov, ot, hts, htl, hvl, hb1⟩
    have HB1 := Lib.hid hb1
    have HTS := Lib.hid hts
    have hh1 := oa.reads
    have hh2 := ob.reads
    have hh3 := om.reads
    obtain ⟨Av, cv, rfl, -⟩ := own_reads ov
    obtain ⟨At, ct, rfl, -⟩ := own_reads ot
    have HVV0 := Lib.hid ov.reads
    have HTT0 := Lib.hid ot.reads
    clear hb1 hts oa ob om ov ot
    obtain ⟨Aaa, caa, rfl⟩ := hh1.form
    obtain ⟨Aba, cba, rfl⟩ := hh2.form
    obtain ⟨Ama, cma, Amb, cmb, rfl⟩ := hh3.form
    have hb : Below w1.heap.size w1 (((w1.alloc (.cells #[.int .i64 a.sorts, .slice Aaa a.ops.length caa] 25)).alloc (.cells #[.int .i64 b.sorts, .slice Aba b.ops.length cba] 25)).alloc (.cells #[.slice Ama m.sorts.length cma, .slice Amb m.ops.length cmb] 28)) := ((below_alloc _ _).alloc (by simp) _).alloc (by simp; omega) _
    have HB := Lib.hid hb
    have hsz : (((w1.alloc (.cells #[.int .i64 a.sorts, .slice Aaa a.ops.length caa] 25)).alloc (.cells #[.int .i64 b.sorts, .slice Aba b.ops.length cba] 25)).alloc (.cells #[.slice Ama m.sorts.length cma, .slice Amb m.ops.length cmb] 28)).heap.size = w1.heap.size + 3 := by simp
    have Ha := Lib.hid (hh1.keep hb)
    have a0 := cell_keep (below_alloc ((w1.alloc (.cells #[.int .i64 a.sorts, .slice Aaa a.ops.length caa] 25)).alloc (.cells #[.int .i64 b.sorts, .slice Aba b.ops.length cba] 25)) (.cells #[.slice Ama m.sorts.length cma, .slice Amb m.ops.length cmb] 28)) (cell_keep (below_alloc (w1.alloc (.cells #[.int .i64 a.sorts, .slice Aaa a.ops.length caa] 25)) (.cells #[.int .i64 b.sorts, .slice Aba b.ops.length cba] 25)) (bx_at (w1) #[.int .i64 a.sorts, .slice Aaa a.ops.length caa] 25 (k := 0) rfl))
    have a1 := cell_keep (below_alloc ((w1.alloc (.cells #[.int .i64 a.sorts, .slice Aaa a.ops.length caa] 25)).alloc (.cells #[.int .i64 b.sorts, .slice Aba b.ops.length cba] 25)) (.cells #[.slice Ama m.sorts.length cma, .slice Amb m.ops.length cmb] 28)) (cell_keep (below_alloc (w1.alloc (.cells #[.int .i64 a.sorts, .slice Aaa a.ops.length caa] 25)) (.cells #[.int .i64 b.sorts, .slice Aba b.ops.length cba] 25)) (bx_at (w1) #[.int .i64 a.sorts, .slice Aaa a.ops.length caa] 25 (k := 1) rfl))
    have Hb := Lib.hid (hh2.keep hb)
    have b0 := cell_keep (below_alloc ((w1.alloc (.cells #[.int .i64 a.sorts, .slice Aaa a.ops.length caa] 25)).alloc (.cells #[.int .i64 b.sorts, .slice Aba b.ops.length cba] 25)) (.cells #[.slice Ama m.sorts.length cma, .slice Amb m.ops.length cmb] 28)) (bx_at (w1.alloc (.cells #[.int .i64 a.sorts, .slice Aaa a.ops.length caa] 25)) #[.int .i64 b.sorts, .slice Aba b.ops.length cba] 25 (k := 0) rfl)
    have b1 := cell_keep (below_alloc ((w1.alloc (.cells #[.int .i64 a.sorts, .slice Aaa a.ops.length caa] 25)).alloc (.cells #[.int .i64 b.sorts, .slice Aba b.ops.length cba] 25)) (.cells #[.slice Ama m.sorts.length cma, .slice Amb m.ops.length cmb] 28)) (bx_at (w1.alloc (.cells #[.int .i64 a.sorts, .slice Aaa a.ops.length caa] 25)) #[.int .i64 b.sorts, .slice Aba b.ops.length cba] 25 (k := 1) rfl)
    have Hm := Lib.hid (hh3.keep hb)
    have m0 := bx_at ((w1.alloc (.cells #[.int .i64 a.sorts, .slice Aaa a.ops.length caa] 25)).alloc (.cells #[.int .i64 b.sorts, .slice Aba b.ops.length cba] 25)) #[.slice Ama m.sorts.length cma, .slice Amb m.ops.length cmb] 28 (k := 0) rfl
    have m1 := bx_at ((w1.alloc (.cells #[.int .i64 a.sorts, .slice Aaa a.ops.length caa] 25)).alloc (.cells #[.int .i64 b.sorts, .slice Aba b.ops.length cba] 25)) #[.slice Ama m.sorts.length cma, .slice Amb m.ops.length cmb] 28 (k := 1) rfl
    simp only [World.size_alloc] at b0 b1 m0 m1
    generalize hW : ((w1.alloc (.cells #[.int .i64 a.sorts, .slice Aaa a.ops.length caa] 25)).alloc (.cells #[.int .i64 b.sorts, .slice Aba b.ops.length cba] 25)).alloc (.cells #[.slice Ama m.sorts.length cma, .slice Amb m.ops.length cmb] 28) = W at HB hsz Ha a0 a1 Hb b0 b1 Hm m0 m1
    clear hb hh1 hh2 hh3
    have HVV := Lib.hid (HVV0.out.keep HB.out)
    have HTT := Lib.hid (HTT0.out.keep HB.out)
    have hkn : ∀ k : Bool, (k != k) = false := fun k => by cases k <;> rfl
    cases hok : (mapTermM a b m vars t).2.2 with
    | false =>
      obtain ⟨o1, o2, k, hmt, h1, h2, h3⟩ : ∃ (o1 o2 : List Int) (k : Bool), mapTermM a b m vars t = (o1, o2, k) ∧ o1 = [] ∧ o2 = [] ∧ k = false := ⟨[], [], false, by
        unfold mapTermM at hok ⊢
        split at hok
        · cases hok
        · rename_i hn; rw [if_neg hn], rfl, rfl, rfl⟩
      have HMT := Lib.hid hmt
      have HRW := Lib.hid (And.intro h1 (And.intro h2 h3))
      clear hok hmt hsz h1 h2 h3
      go_wp2_with fail
      clear hW
      refine (mapTerm_any a b m vars t _ _ _ _ _ _ HTS.out Ha.out Hb.out Hm.out HVV.out HTT.out).mono ?_
      rw [HMT.out]
      rintro x w3 ⟨u3, v3, wm, rfl, ou, hzm, hbm, ov, hb⟩
      simp only at ou ov
      obtain ⟨A3, c3, rfl, -⟩ := own_reads ou
      obtain ⟨A4, c4, rfl, -⟩ := own_reads ov
      have HU3 := Lib.hid (ou.reads.keep hbm)
      have HV3 := Lib.hid ov.reads
      replace HB := Lib.hid (sz_keep HB.out hb)
      replace a0 := cell_keep hb a0
      replace a1 := cell_keep hb a1
      replace b0 := cell_keep hb b0
      replace b1 := cell_keep hb b1
      replace m0 := cell_keep hb m0
      replace m1 := cell_keep hb m1
      replace Ha := Lib.hid (Ha.out.keep hb)
      replace Hb := Lib.hid (Hb.out.keep hb)
      replace Hm := Lib.hid (Hm.out.keep hb)
      replace HVV := Lib.hid (HVV.out.keep hb)
      replace HTT := Lib.hid (HTT.out.keep hb)
      clear hb
      clear ou ov hbm hzm
      go_wp2_with fail
      refine (specMapTerm_any a b m vars t _ _ _ _ _ _ Ha.out Hb.out Hm.out HVV.out HTT.out).mono ?_
      rw [HMT.out]
      rintro x w4 ⟨u4, v4, wm, rfl, ou, hzm, hbm, ov, hb⟩
      simp only at ou ov
      obtain ⟨A5, c5, rfl, -⟩ := own_reads ou
      obtain ⟨A6, c6, rfl, -⟩ := own_reads ov
      have HU4 := Lib.hid (ou.reads.keep hbm)
      have HV4 := Lib.hid ov.reads
      replace HB := Lib.hid (sz_keep HB.out hb)
      replace a0 := cell_keep hb a0
      replace a1 := cell_keep hb a1
      replace b0 := cell_keep hb b0
      replace b1 := cell_keep hb b1
      replace m0 := cell_keep hb m0
      replace m1 := cell_keep hb m1
      replace Ha := Lib.hid (Ha.out.keep hb)
      replace Hb := Lib.hid (Hb.out.keep hb)
      replace Hm := Lib.hid (Hm.out.keep hb)
      replace HVV := Lib.hid (HVV.out.keep hb)
      replace HTT := Lib.hid (HTT.out.keep hb)
      replace HU3 := Lib.hid (HU3.out.keep hb)
      replace HV3 := Lib.hid (HV3.out.keep hb)
      clear hb
      clear ou ov hbm hzm
      go_wp2_with fail
      refine (sameInts_any _ _ o1 o1 _ HU3.out HU4.out).mono ?_
      rw [show sameI o1 o1 = true by unfold sameI; simp]
      rintro x w5 ⟨rfl, hd⟩
      have hb := hd.below
      clear hd
      replace HB := Lib.hid (sz_keep HB.out hb)
      replace a0 := cell_keep hb a0
      replace a1 := cell_keep hb a1
      replace b0 := cell_keep hb b0
      replace b1 := cell_keep hb b1
      replace m0 := cell_keep hb m0
      replace m1 := cell_keep hb m1
      replace Ha := Lib.hid (Ha.out.keep hb)
      replace Hb := Lib.hid (Hb.out.keep hb)
      replace Hm := Lib.hid (Hm.out.keep hb)
      replace HVV := Lib.hid (HVV.out.keep hb)
      replace HTT := Lib.hid (HTT.out.keep hb)
      replace HU3 := Lib.hid (HU3.out.keep hb)
      replace HV3 := Lib.hid (HV3.out.keep hb)
      replace HV4 := Lib.hid (HV4.out.keep hb)
      clear hb
      go_wp2_with fail
      refine (sameInts_any _ _ o2 o2 _ HV3.out HV4.out).mono ?_
      rw [show sameI o2 o2 = true by unfold sameI; simp]
      rintro x w6 ⟨rfl, hd⟩
      have hb := hd.below
      clear hd
      replace HB := Lib.hid (sz_keep HB.out hb)
      replace a0 := cell_keep hb a0
      replace a1 := cell_keep hb a1
      replace b0 := cell_keep hb b0
      replace b1 := cell_keep hb b1
      replace m0 := cell_keep hb m0
      replace m1 := cell_keep hb m1
      replace Ha := Lib.hid (Ha.out.keep hb)
      replace Hb := Lib.hid (Hb.out.keep hb)
      replace Hm := Lib.hid (Hm.out.keep hb)
      replace HVV := Lib.hid (HVV.out.keep hb)
      replace HTT := Lib.hid (HTT.out.keep hb)
      replace HU3 := Lib.hid (HU3.out.keep hb)
      replace HV3 := Lib.hid (HV3.out.keep hb)
      clear hb
      obtain ⟨h1, h2, h3⟩ := HRW.out
      subst h1 h2 h3
      go_wp2_with fail
      refine (alive_any _).mono ?_
      rintro x w9 ⟨rfl, hb⟩
      have HB9 := Lib.hid (sz_keep HB1.out (sz_keep HB.out hb))
      clear hb a0 a1 b0 b1 m0 m1
      go_wp2
      go_ret
      exact ⟨rfl, HB9.out⟩
    | true =>
      obtain ⟨hmo, hso⟩ : mapOkB a b m = true ∧ 0 ≤ sortM a vars t := by
        unfold mapTermM at hok
        split at hok
        · rename_i hn; simpa using hn
        · cases hok
      have hf := mapOk_facts hmo
      have HSL := Lib.hid (small_led hf HTS.out)
      obtain ⟨so, hsn⟩ : ∃ n : Nat, sortM a vars t = (n : Int) := ⟨(sortM a vars t).toNat, by omega⟩
      have hled := sortM_led hf hso
      rw [hsn, Int.toNat_natCast] at hled
      have hself := self_term hso hf.va
      have HSELF := Lib.hid (show mapTermM a a (selfM a) vars t = (vars, t, true) by
        unfold mapTermM
        rw [self_okB, hf.va, decide_eq_true hso, hself.1, hself.2]
        rfl)
      have HSO := Lib.hid hsn
      obtain ⟨o1, ho1⟩ : ∃ o, ledM m.sorts vars = o := ⟨_, rfl⟩
      obtain ⟨o2, ho2⟩ : ∃ o, ledM m.ops t = o := ⟨_, rfl⟩
      rw [ho1, ho2] at hled
      rw [ho2] at HSL
      obtain ⟨k, hmt, hk⟩ : ∃ (k : Bool), mapTermM a b m vars t = (o1, o2, k) ∧ k = true := ⟨true, by
        unfold mapTermM
        rw [hmo, decide_eq_true hso, ho1, ho2]
        rfl, rfl⟩
      have HMT := Lib.hid hmt
      have HKT := Lib.hid hk
      have hs1 := hled.2
      rw [getD_at _ hs1] at hled
      have HSB := Lib.hid hled.1
      clear hok hmo hso hf hsn hled hself ho1 ho2 hmt hsz hk
      go_wp2_with fail
      clear hW
      refine (mapTerm_any a b m vars t _ _ _ _ _ _ HTS.out Ha.out Hb.out Hm.out HVV.out HTT.out).mono ?_
      rw [HMT.out]
      rintro x w3 ⟨u3, v3, wm, rfl, ou, hzm, hbm, ov, hb⟩
      simp only at ou ov
      obtain ⟨A3, c3, rfl, -⟩ := own_reads ou
      obtain ⟨A4, c4, rfl, -⟩ := own_reads ov
      have HU3 := Lib.hid (ou.reads.keep hbm)
      have HV3 := Lib.hid ov.reads
      replace HB := Lib.hid (sz_keep HB.out hb)
      replace a0 := cell_keep hb a0
      replace a1 := cell_keep hb a1
      replace b0 := cell_keep hb b0
      replace b1 := cell_keep hb b1
      replace m0 := cell_keep hb m0
      replace m1 := cell_keep hb m1
      replace Ha := Lib.hid (Ha.out.keep hb)
      replace Hb := Lib.hid (Hb.out.keep hb)
      replace Hm := Lib.hid (Hm.out.keep hb)
      replace HVV := Lib.hid (HVV.out.keep hb)
      replace HTT := Lib.hid (HTT.out.keep hb)
      clear hb
      clear ou ov hbm hzm
      go_wp2_with fail
      refine (specMapTerm_any a b m vars t _ _ _ _ _ _ Ha.out Hb.out Hm.out HVV.out HTT.out).mono ?_
      rw [HMT.out]
      rintro x w4 ⟨u4, v4, wm, rfl, ou, hzm, hbm, ov, hb⟩
      simp only at ou ov
      obtain ⟨A5, c5, rfl, -⟩ := own_reads ou
      obtain ⟨A6, c6, rfl, -⟩ := own_reads ov
      have HU4 := Lib.hid (ou.reads.keep hbm)
      have HV4 := Lib.hid ov.reads
      replace HB := Lib.hid (sz_keep HB.out hb)
      replace a0 := cell_keep hb a0
      replace a1 := cell_keep hb a1
      replace b0 := cell_keep hb b0
      replace b1 := cell_keep hb b1
      replace m0 := cell_keep hb m0
      replace m1 := cell_keep hb m1
      replace Ha := Lib.hid (Ha.out.keep hb)
      replace Hb := Lib.hid (Hb.out.keep hb)
      replace Hm := Lib.hid (Hm.out.keep hb)
      replace HVV := Lib.hid (HVV.out.keep hb)
      replace HTT := Lib.hid (HTT.out.keep hb)
      replace HU3 := Lib.hid (HU3.out.keep hb)
      replace HV3 := Lib.hid (HV3.out.keep hb)
      clear hb
      clear ou ov hbm hzm
      go_wp2_with fail
      refine (sameInts_any _ _ o1 o1 _ HU3.out HU4.out).mono ?_
      rw [show sameI o1 o1 = true by unfold sameI; simp]
      rintro x w5 ⟨rfl, hd⟩
      have hb := hd.below
      clear hd
      replace HB := Lib.hid (sz_keep HB.out hb)
      replace a0 := cell_keep hb a0
      replace a1 := cell_keep hb a1
      replace b0 := cell_keep hb b0
      replace b1 := cell_keep hb b1
      replace m0 := cell_keep hb m0
      replace m1 := cell_keep hb m1
      replace Ha := Lib.hid (Ha.out.keep hb)
      replace Hb := Lib.hid (Hb.out.keep hb)
      replace Hm := Lib.hid (Hm.out.keep hb)
      replace HVV := Lib.hid (HVV.out.keep hb)
      replace HTT := Lib.hid (HTT.out.keep hb)
      replace HU3 := Lib.hid (HU3.out.keep hb)
      replace HV3 := Lib.hid (HV3.out.keep hb)
      replace HV4 := Lib.hid (HV4.out.keep hb)
      clear hb
      go_wp2_with fail
      refine (sameInts_any _ _ o2 o2 _ HV3.out HV4.out).mono ?_
      rw [show sameI o2 o2 = true by unfold sameI; simp]
      rintro x w6 ⟨rfl, hd⟩
      have hb := hd.below
      clear hd
      replace HB := Lib.hid (sz_keep HB.out hb)
      replace a0 := cell_keep hb a0
      replace a1 := cell_keep hb a1
      replace b0 := cell_keep hb b0
      replace b1 := cell_keep hb b1
      replace m0 := cell_keep hb m0
      replace m1 := cell_keep hb m1
      replace Ha := Lib.hid (Ha.out.keep hb)
      replace Hb := Lib.hid (Hb.out.keep hb)
      replace Hm := Lib.hid (Hm.out.keep hb)
      replace HVV := Lib.hid (HVV.out.keep hb)
      replace HTT := Lib.hid (HTT.out.keep hb)
      replace HU3 := Lib.hid (HU3.out.keep hb)
      replace HV3 := Lib.hid (HV3.out.keep hb)
      clear hb
      have hk := HKT.out
      subst hk
      go_wp2_with fail
      refine (termSort_any a vars t _ _ _ _ HTS.out Ha.out HVV.out HTT.out).mono ?_
      rw [HSO.out]
      rintro x w7 ⟨rfl, hb⟩
      replace HB := Lib.hid (sz_keep HB.out hb)
      replace a0 := cell_keep hb a0
      replace a1 := cell_keep hb a1
      replace b0 := cell_keep hb b0
      replace b1 := cell_keep hb b1
      replace m0 := cell_keep hb m0
      replace m1 := cell_keep hb m1
      replace Ha := Lib.hid (Ha.out.keep hb)
      replace Hb := Lib.hid (Hb.out.keep hb)
      replace Hm := Lib.hid (Hm.out.keep hb)
      replace HVV := Lib.hid (HVV.out.keep hb)
      replace HTT := Lib.hid (HTT.out.keep hb)
      replace HU3 := Lib.hid (HU3.out.keep hb)
      replace HV3 := Lib.hid (HV3.out.keep hb)
      clear hb
      have HMC := Lib.hid (And.intro b0 (And.intro b1 (And.intro m0 m1)))
      clear b0 b1 m0 m1
      go_wp2_with fail
      refine wp_region_held_drew (S := (fun w' => w'.cell? ⟨w1.heap.size, 0, none⟩ = some (.int .i64 a.sorts) ∧ w'.cell? ⟨w1.heap.size, 1, none⟩ = some (.slice Aaa a.ops.length caa))) (by kernel_rfl) ?_ (fun hHeld => ?_)
      · exact ⟨a0, a1⟩
      refine wpAnyH_take (i := 0) (oi := _) (v := ?_) rfl (by kernel_rfl) (by kernel_rfl) (by kernel_rfl) (fun _ _ _ h => h) (Or.inl ⟨by rfl, ?_⟩) (by assumption) ?_
      rotate_left
      · first | (intro w' hSw; (try dsimp only at hSw); go_simp; done) | (intro w' hSw; (try dsimp only at hSw); go_simp; with_reducible rfl)
      try simp only [Act.put, List.getElem_toArray, List.getElem_cons_zero, List.getElem_cons_succ, List.setIfInBounds_toArray, List.set_cons_zero, List.set_cons_succ]
      refine wpAnyH_take (i := 1) (oi := _) (v := ?_) rfl (by kernel_rfl) (by kernel_rfl) (by kernel_rfl) (fun _ _ _ h => h) (Or.inl ⟨by rfl, ?_⟩) (by assumption) ?_
      rotate_left
      · first | (intro w' hSw; (try dsimp only at hSw); go_simp; done) | (intro w' hSw; (try dsimp only at hSw); go_simp; with_reducible rfl)
      try simp only [Act.put, List.getElem_toArray, List.getElem_cons_zero, List.getElem_cons_succ, List.setIfInBounds_toArray, List.set_cons_zero, List.set_cons_succ]
      refine wpAnyH_take (i := 2) (oi := _) (v := ?_) rfl (by kernel_rfl) (by kernel_rfl) (by kernel_rfl) (fun _ _ _ h => h) (Or.inl ⟨by rfl, ?_⟩) (by assumption) ?_
      rotate_left
      · first | (intro w' hSw; (try dsimp only at hSw); go_simp; done) | (intro w' hSw; (try dsimp only at hSw); go_simp; with_reducible rfl)
      try simp only [Act.put, List.getElem_toArray, List.getElem_cons_zero, List.getElem_cons_succ, List.setIfInBounds_toArray, List.set_cons_zero, List.set_cons_succ]
      refine wpAnyH_take (i := 4) (oi := _) (v := ?_) rfl (by kernel_rfl) (by kernel_rfl) (by kernel_rfl) (fun _ _ _ h => h) (Or.inl ⟨by rfl, ?_⟩) (by assumption) ?_
      rotate_left
      · first | (intro w' hSw; (try dsimp only at hSw); go_simp; done) | (intro w' hSw; (try dsimp only at hSw); go_simp; with_reducible rfl)
      try simp only [Act.put, List.getElem_toArray, List.getElem_cons_zero, List.getElem_cons_succ, List.setIfInBounds_toArray, List.set_cons_zero, List.set_cons_succ]
      refine wpAnyH_take (i := 5) (oi := _) (v := ?_) rfl (by kernel_rfl) (by kernel_rfl) (by kernel_rfl) (fun _ _ _ h => h) (Or.inl ⟨by rfl, ?_⟩) (by assumption) ?_
      rotate_left
      · first | (intro w' hSw; (try dsimp only at hSw); go_simp; done) | (intro w' hSw; (try dsimp only at hSw); go_simp; with_reducible rfl)
      try simp only [Act.put, List.getElem_toArray, List.getElem_cons_zero, List.getElem_cons_succ, List.setIfInBounds_toArray, List.set_cons_zero, List.set_cons_succ]
      refine wpAnyH_ready (rs := [3]) (by kernel_rfl) (by simp) ?_
      refine AllReadyH.cons (o := _) rfl (fun K hK => ?_) AllReadyH.nil
      go_simp
      refine (mapSelf_any a w7.drew _ (Ha.out.keep (map_drew (Below.refl _ _)))).mono ?_
      rintro x wp ⟨u5, rfl, ho5, hbp⟩
      have hbp := map_undrew hbp
      have HMS := Lib.hid ho5.reads
      obtain ⟨X0, d0, X1, d1, rfl⟩ := ho5.reads.form
      have HP := Lib.hid hbp
      have p0 := cell_keep hbp a0
      have p1 := cell_keep hbp a1
      clear hbp ho5
      go_wp2_with fail
      refine hK.out _ _ ?_ (fun hHeld => ?_)
      · exact ⟨p0, p1⟩
      clear hK K
      try simp only [Act.put, List.getElem_toArray, List.getElem_cons_zero, List.getElem_cons_succ, List.setIfInBounds_toArray, List.set_cons_zero, List.set_cons_succ]
      refine wpAnyH_ready (rs := [6]) (by kernel_rfl) (by simp) ?_
      refine AllReadyH.cons (o := _) rfl (fun K hK => ?_) AllReadyH.nil
      go_simp
      refine (mapTerm_any a a (selfM a) vars t wp _ _ _ _ _ HTS.out (Ha.out.keep HP.out) (Ha.out.keep HP.out) HMS.out (HVV.out.keep HP.out) (HTT.out.keep HP.out)).mono ?_
      rw [HSELF.out]
      rintro x wq ⟨u6, v6, wm, rfl, ou, hzm, hbm, ov, hbq⟩
      simp only at ou ov
      obtain ⟨A7, c7, rfl, -⟩ := own_reads ou
      obtain ⟨A8, c8, rfl, -⟩ := own_reads ov
      have HV8 := Lib.hid ov.reads
      have HQ := Lib.hid (sz_keep HP.out hbq)
      have q0 := cell_keep hbq p0
      have q1 := cell_keep hbq p1
      clear ou ov hbm hzm hbq
      go_wp2_with fail
      refine hK.out _ _ ?_ (fun hHeld => ?_)
      · exact ⟨q0, q1⟩
      clear hK K
      try simp only [Act.put, List.getElem_toArray, List.getElem_cons_zero, List.getElem_cons_succ, List.setIfInBounds_toArray, List.set_cons_zero, List.set_cons_succ]
      refine wpAnyH_take (i := 7) (oi := _) (v := ?_) rfl (by kernel_rfl) (by kernel_rfl) (by kernel_rfl) (fun _ _ _ h => h) (Or.inl ⟨by rfl, ?_⟩) (by assumption) ?_
      rotate_left
      · first | (intro w' hSw; (try dsimp only at hSw); go_simp; done) | (intro w' hSw; (try dsimp only at hSw); go_simp; with_reducible rfl)
      try simp only [Act.put, List.getElem_toArray, List.getElem_cons_zero, List.getElem_cons_succ, List.setIfInBounds_toArray, List.set_cons_zero, List.set_cons_succ]
      refine wpAnyH_take (i := 8) (oi := _) (v := ?_) rfl (by kernel_rfl) (by kernel_rfl) (by kernel_rfl) (fun _ _ _ h => h) (Or.inl ⟨by rfl, ?_⟩) (by assumption) ?_
      rotate_left
      · first | (intro w' hSw; (try dsimp only at hSw); go_simp; done) | (intro w' hSw; (try dsimp only at hSw); go_simp; with_reducible rfl)
      try simp only [Act.put, List.getElem_toArray, List.getElem_cons_zero, List.getElem_cons_succ, List.setIfInBounds_toArray, List.set_cons_zero, List.set_cons_succ]
      refine wpAnyH_take (i := 9) (oi := _) (v := ?_) rfl (by kernel_rfl) (by kernel_rfl) (by kernel_rfl) (fun _ _ _ h => h) (Or.inl ⟨by rfl, ?_⟩) (by assumption) ?_
      rotate_left
      · first | (intro w' hSw; (try dsimp only at hSw); go_simp; done) | (intro w' hSw; (try dsimp only at hSw); go_simp; with_reducible rfl)
      try simp only [Act.put, List.getElem_toArray, List.getElem_cons_zero, List.getElem_cons_succ, List.setIfInBounds_toArray, List.set_cons_zero, List.set_cons_succ]
      refine wpAnyH_take (i := 10) (oi := _) (v := ?_) rfl (by kernel_rfl) (by kernel_rfl) (by kernel_rfl) (fun _ _ _ h => h) (Or.inl ⟨by rfl, ?_⟩) (by assumption) ?_
      rotate_left
      · first | (intro w' hSw; (try dsimp only at hSw); go_simp; done) | (intro w' hSw; (try dsimp only at hSw); go_simp; with_reducible rfl)
      try simp only [Act.put, List.getElem_toArray, List.getElem_cons_zero, List.getElem_cons_succ, List.setIfInBounds_toArray, List.set_cons_zero, List.set_cons_succ]
      refine wpAnyH_take (i := 11) (oi := _) (v := ?_) rfl (by kernel_rfl) (by kernel_rfl) (by kernel_rfl) (fun _ _ _ h => h) (Or.inl ⟨by rfl, ?_⟩) (by assumption) ?_
      rotate_left
      · first | (intro w' hSw; (try dsimp only at hSw); go_simp; done) | (intro w' hSw; (try dsimp only at hSw); go_simp; with_reducible rfl)
      try simp only [Act.put, List.getElem_toArray, List.getElem_cons_zero, List.getElem_cons_succ, List.setIfInBounds_toArray, List.set_cons_zero, List.set_cons_succ]
      refine wpAnyH_take (i := 12) (oi := _) (v := ?_) rfl (by kernel_rfl) (by kernel_rfl) (by kernel_rfl) (fun _ _ _ h => h) (Or.inl ⟨by rfl, ?_⟩) (by assumption) ?_
      rotate_left
      · first | (intro w' hSw; (try dsimp only at hSw); go_simp; done) | (intro w' hSw; (try dsimp only at hSw); go_simp; with_reducible rfl)
      try simp only [Act.put, List.getElem_toArray, List.getElem_cons_zero, List.getElem_cons_succ, List.setIfInBounds_toArray, List.set_cons_zero, List.set_cons_succ]
      refine wpAnyH_take (i := 13) (oi := _) (v := ?_) rfl (by kernel_rfl) (by kernel_rfl) (by kernel_rfl) (fun _ _ _ h => h) (Or.inl ⟨by rfl, ?_⟩) (by assumption) ?_
      rotate_left
      · first | (intro w' hSw; (try dsimp only at hSw); go_simp; done) | (intro w' hSw; (try dsimp only at hSw); go_simp; with_reducible rfl)
      try simp only [Act.put, List.getElem_toArray, List.getElem_cons_zero, List.getElem_cons_succ, List.setIfInBounds_toArray, List.set_cons_zero, List.set_cons_succ]
      refine wpAnyH_done (by kernel_rfl) ?_ _
      obtain ⟨b0, b1, m0, m1⟩ := HMC.out
      replace b0 := cell_keep HQ.out b0
      replace b1 := cell_keep HQ.out b1
      replace m0 := cell_keep HQ.out m0
      replace m1 := cell_keep HQ.out m1
      clear a0 a1 p0 p1 q0 q1
      obtain ⟨bm, om, cm, e, hcm⟩ := (Hm.out.of.1.keep HQ.out).at_ hs1
      cases e
      have hs1' : (so : Int) < (m.sorts.length : Int) := by omega
      have hs0' : (0 : Int) ≤ (so : Int) := by omega
      generalize m.sorts[so] = ss at hcm HSB
      have hse : (ss == ss) = true := by simp
      go_wp2_with fail
      refine wp_region_held_drew (S := (fun w' => w'.cell? ⟨w1.heap.size + 1, 0, none⟩ = some (.int .i64 b.sorts) ∧ w'.cell? ⟨w1.heap.size + 1, 1, none⟩ = some (.slice Aba b.ops.length cba) ∧ w'.cell? ⟨w1.heap.size + 1 + 1, 0, none⟩ = some (.slice (some ⟨bm, om, none⟩) m.sorts.length cma) ∧ w'.cell? ⟨bm, om + so, none⟩ = some (.int .i64 ss))) (by kernel_rfl) ?_ (fun hHeld => ?_)
      · exact ⟨b0, b1, m0, hcm⟩
      refine wpAnyH_take (i := 0) (oi := _) (v := ?_) rfl (by kernel_rfl) (by kernel_rfl) (by kernel_rfl) (fun _ _ _ h => h) (Or.inl ⟨by rfl, ?_⟩) (by assumption) ?_
      rotate_left
      · first | (intro w' hSw; (try dsimp only at hSw); go_simp; done) | (intro w' hSw; (try dsimp only at hSw); go_simp; with_reducible rfl)
      try simp only [Act.put, List.getElem_toArray, List.getElem_cons_zero, List.getElem_cons_succ, List.setIfInBounds_toArray, List.set_cons_zero, List.set_cons_succ]
      refine wpAnyH_take (i := 1) (oi := _) (v := ?_) rfl (by kernel_rfl) (by kernel_rfl) (by kernel_rfl) (fun _ _ _ h => h) (Or.inl ⟨by rfl, ?_⟩) (by assumption) ?_
      rotate_left
      · first | (intro w' hSw; (try dsimp only at hSw); go_simp; done) | (intro w' hSw; (try dsimp only at hSw); go_simp; with_reducible rfl)
      try simp only [Act.put, List.getElem_toArray, List.getElem_cons_zero, List.getElem_cons_succ, List.setIfInBounds_toArray, List.set_cons_zero, List.set_cons_succ]
      refine wpAnyH_take (i := 2) (oi := _) (v := ?_) rfl (by kernel_rfl) (by kernel_rfl) (by kernel_rfl) (fun _ _ _ h => h) (Or.inl ⟨by rfl, ?_⟩) (by assumption) ?_
      rotate_left
      · first | (intro w' hSw; (try dsimp only at hSw); go_simp; done) | (intro w' hSw; (try dsimp only at hSw); go_simp; with_reducible rfl)
      try simp only [Act.put, List.getElem_toArray, List.getElem_cons_zero, List.getElem_cons_succ, List.setIfInBounds_toArray, List.set_cons_zero, List.set_cons_succ]
      refine wpAnyH_take (i := 3) (oi := _) (v := ?_) rfl (by kernel_rfl) (by kernel_rfl) (by kernel_rfl) (fun _ _ _ h => h) (Or.inl ⟨by rfl, ?_⟩) (by assumption) ?_
      rotate_left
      · first | (intro w' hSw; (try dsimp only at hSw); go_simp; done) | (intro w' hSw; (try dsimp only at hSw); go_simp; with_reducible rfl)
      try simp only [Act.put, List.getElem_toArray, List.getElem_cons_zero, List.getElem_cons_succ, List.setIfInBounds_toArray, List.set_cons_zero, List.set_cons_succ]
      refine wpAnyH_take (i := 4) (oi := _) (v := ?_) rfl (by kernel_rfl) (by kernel_rfl) (by kernel_rfl) (fun _ _ _ h => h) (Or.inl ⟨by rfl, ?_⟩) (by assumption) ?_
      rotate_left
      · first | (intro w' hSw; (try dsimp only at hSw); go_simp; done) | (intro w' hSw; (try dsimp only at hSw); go_simp; with_reducible rfl)
      try simp only [Act.put, List.getElem_toArray, List.getElem_cons_zero, List.getElem_cons_succ, List.setIfInBounds_toArray, List.set_cons_zero, List.set_cons_succ]
      refine wpAnyH_take (i := 5) (oi := _) (v := ?_) rfl (by kernel_rfl) (by kernel_rfl) (by kernel_rfl) (fun _ _ _ h => h) (Or.inl ⟨by rfl, ?_⟩) (by assumption) ?_
      rotate_left
      · first | (intro w' hSw; (try dsimp only at hSw); go_simp; done) | (intro w' hSw; (try dsimp only at hSw); go_simp; with_reducible rfl)
      try simp only [Act.put, List.getElem_toArray, List.getElem_cons_zero, List.getElem_cons_succ, List.setIfInBounds_toArray, List.set_cons_zero, List.set_cons_succ]
      refine wpAnyH_take (i := 6) (oi := _) (v := ?_) rfl (by kernel_rfl) (by kernel_rfl) (by kernel_rfl) (fun _ _ _ h => h) (Or.inl ⟨by rfl, ?_⟩) (by assumption) ?_
      rotate_left
      · first | (intro w' hSw; (try dsimp only at hSw); go_simp; done) | (intro w' hSw; (try dsimp only at hSw); go_simp; with_reducible rfl)
      try simp only [Act.put, List.getElem_toArray, List.getElem_cons_zero, List.getElem_cons_succ, List.setIfInBounds_toArray, List.set_cons_zero, List.set_cons_succ]
      refine wpAnyH_take (i := 7) (oi := _) (v := ?_) rfl (by kernel_rfl) (by kernel_rfl) (by kernel_rfl) (fun _ _ _ h => h) (Or.inl ⟨by rfl, ?_⟩) (by assumption) ?_
      rotate_left
      · first | (intro w' hSw; (try dsimp only at hSw); go_simp; done) | (intro w' hSw; (try dsimp only at hSw); go_simp; with_reducible rfl)
      try simp only [Act.put, List.getElem_toArray, List.getElem_cons_zero, List.getElem_cons_succ, List.setIfInBounds_toArray, List.set_cons_zero, List.set_cons_succ]
      refine wpAnyH_take (i := 8) (oi := _) (v := ?_) rfl (by kernel_rfl) (by kernel_rfl) (by kernel_rfl) (fun _ _ _ h => h) (Or.inl ⟨by rfl, ?_⟩) (by assumption) ?_
      rotate_left
      · first | (intro w' hSw; (try dsimp only at hSw); go_simp; done) | (intro w' hSw; (try dsimp only at hSw); go_simp; with_reducible rfl)
      try simp only [Act.put, List.getElem_toArray, List.getElem_cons_zero, List.getElem_cons_succ, List.setIfInBounds_toArray, List.set_cons_zero, List.set_cons_succ]
      refine wpAnyH_take (i := 9) (oi := _) (v := ?_) rfl (by kernel_rfl) (by kernel_rfl) (by kernel_rfl) (fun _ _ _ h => h) (Or.inl ⟨by rfl, ?_⟩) (by assumption) ?_
      rotate_left
      · first | (intro w' hSw; (try dsimp only at hSw); go_simp; done) | (intro w' hSw; (try dsimp only at hSw); go_simp; with_reducible rfl)
      try simp only [Act.put, List.getElem_toArray, List.getElem_cons_zero, List.getElem_cons_succ, List.setIfInBounds_toArray, List.set_cons_zero, List.set_cons_succ]
      refine wpAnyH_take (i := 10) (oi := _) (v := ?_) rfl (by kernel_rfl) (by kernel_rfl) (by kernel_rfl) (fun _ _ _ h => h) (Or.inl ⟨by rfl, ?_⟩) (by assumption) ?_
      rotate_left
      · first | (intro w' hSw; (try dsimp only at hSw); go_simp; done) | (intro w' hSw; (try dsimp only at hSw); go_simp; with_reducible rfl)
      try simp only [Act.put, List.getElem_toArray, List.getElem_cons_zero, List.getElem_cons_succ, List.setIfInBounds_toArray, List.set_cons_zero, List.set_cons_succ]
      refine wpAnyH_take (i := 11) (oi := _) (v := ?_) rfl (by kernel_rfl) (by kernel_rfl) (by kernel_rfl) (fun _ _ _ h => h) (Or.inl ⟨by rfl, ?_⟩) (by assumption) ?_
      rotate_left
      · first | (intro w' hSw; (try dsimp only at hSw); go_simp; done) | (intro w' hSw; (try dsimp only at hSw); go_simp; with_reducible rfl)
      try simp only [Act.put, List.getElem_toArray, List.getElem_cons_zero, List.getElem_cons_succ, List.setIfInBounds_toArray, List.set_cons_zero, List.set_cons_succ]
      refine wpAnyH_take (i := 12) (oi := _) (v := ?_) rfl (by kernel_rfl) (by kernel_rfl) (by kernel_rfl) (fun _ _ _ h => h) (Or.inl ⟨by rfl, ?_⟩) (by assumption) ?_
      rotate_left
      · first | (intro w' hSw; (try dsimp only at hSw); go_simp; done) | (intro w' hSw; (try dsimp only at hSw); go_simp; with_reducible rfl)
      try simp only [Act.put, List.getElem_toArray, List.getElem_cons_zero, List.getElem_cons_succ, List.setIfInBounds_toArray, List.set_cons_zero, List.set_cons_succ]
      refine wpAnyH_take (i := 14) (oi := _) (v := ?_) rfl (by kernel_rfl) (by kernel_rfl) (by kernel_rfl) (fun _ _ _ h => h) (Or.inl ⟨by rfl, ?_⟩) (by assumption) ?_
      rotate_left
      · first | (intro w' hSw; (try dsimp only at hSw); go_simp; done) | (intro w' hSw; (try dsimp only at hSw); go_simp; with_reducible rfl)
      try simp only [Act.put, List.getElem_toArray, List.getElem_cons_zero, List.getElem_cons_succ, List.setIfInBounds_toArray, List.set_cons_zero, List.set_cons_succ]
      refine wpAnyH_take (i := 15) (oi := _) (v := ?_) rfl (by kernel_rfl) (by kernel_rfl) (by kernel_rfl) (fun _ _ _ h => h) (Or.inl ⟨by rfl, ?_⟩) (by assumption) ?_
      rotate_left
      · first | (intro w' hSw; (try dsimp only at hSw); go_simp; done) | (intro w' hSw; (try dsimp only at hSw); go_simp; with_reducible rfl)
      try simp only [Act.put, List.getElem_toArray, List.getElem_cons_zero, List.getElem_cons_succ, List.setIfInBounds_toArray, List.set_cons_zero, List.set_cons_succ]
      refine wpAnyH_take (i := 16) (oi := _) (v := ?_) rfl (by kernel_rfl) (by kernel_rfl) (by kernel_rfl) (fun _ _ _ h => h) (Or.inl ⟨by rfl, ?_⟩) (by assumption) ?_
      rotate_left
      · first | (intro w' hSw; (try dsimp only at hSw); go_simp; done) | (intro w' hSw; (try dsimp only at hSw); go_simp; with_reducible rfl)
      try simp only [Act.put, List.getElem_toArray, List.getElem_cons_zero, List.getElem_cons_succ, List.setIfInBounds_toArray, List.set_cons_zero, List.set_cons_succ]
      refine wpAnyH_take (i := 17) (oi := _) (v := ?_) rfl (by kernel_rfl) (by kernel_rfl) (by kernel_rfl) (fun _ _ _ h => h) (Or.inl ⟨by rfl, ?_⟩) (by assumption) ?_
      rotate_left
      · first | (intro w' hSw; (try dsimp only at hSw); go_simp; done) | (intro w' hSw; (try dsimp only at hSw); go_simp; with_reducible rfl)
      try simp only [Act.put, List.getElem_toArray, List.getElem_cons_zero, List.getElem_cons_succ, List.setIfInBounds_toArray, List.set_cons_zero, List.set_cons_succ]
      refine wpAnyH_take (i := 18) (oi := _) (v := ?_) rfl (by kernel_rfl) (by kernel_rfl) (by kernel_rfl) (fun _ _ _ h => h) (Or.inl ⟨by rfl, ?_⟩) (by assumption) ?_
      rotate_left
      · first | (intro w' hSw; (try dsimp only at hSw); go_simp; done) | (intro w' hSw; (try dsimp only at hSw); go_simp; with_reducible rfl)
      try simp only [Act.put, List.getElem_toArray, List.getElem_cons_zero, List.getElem_cons_succ, List.setIfInBounds_toArray, List.set_cons_zero, List.set_cons_succ]
      refine wpAnyH_ready (rs := [13]) (by kernel_rfl) (by simp) ?_
      refine AllReadyH.cons (o := _) rfl (fun K hK => ?_) AllReadyH.nil
      go_simp
      refine (termSort_any b o1 o2 wq.drew _ _ _ HSL.out (Hb.out.keep (map_drew HQ.out)) (HU3.out.keep (map_drew HQ.out)) (HV3.out.keep (map_drew HQ.out))).mono ?_
      rw [HSB.out]
      rintro x wr ⟨rfl, hbr⟩
      have hbr := map_undrew hbr
      have n0 := cell_keep hbr b0
      have n1 := cell_keep hbr b1
      have n2 := cell_keep hbr m0
      have n3 := cell_keep hbr hcm
      have HZ := Lib.hid (sz_keep HQ.out hbr)
      have HV9 := Lib.hid (HV8.out.keep hbr)
      clear hbr
      go_wp2_with fail
      refine hK.out _ _ ?_ (fun hHeld => ?_)
      · exact ⟨n0, n1, n2, n3⟩
      clear hK K
      try simp only [Act.put, List.getElem_toArray, List.getElem_cons_zero, List.getElem_cons_succ, List.setIfInBounds_toArray, List.set_cons_zero, List.set_cons_succ]
      refine wpAnyH_take (i := 19) (oi := _) (v := ?_) rfl (by kernel_rfl) (by kernel_rfl) (by kernel_rfl) (fun _ _ _ h => h) (Or.inl ⟨by rfl, ?_⟩) (by assumption) ?_
      rotate_left
      · first | (intro w' hSw; (try dsimp only at hSw); go_simp; done) | (intro w' hSw; (try dsimp only at hSw); go_simp; with_reducible rfl)
      try simp only [Act.put, List.getElem_toArray, List.getElem_cons_zero, List.getElem_cons_succ, List.setIfInBounds_toArray, List.set_cons_zero, List.set_cons_succ]
      refine wpAnyH_take (i := 20) (oi := _) (v := ?_) rfl (by kernel_rfl) (by kernel_rfl) (by kernel_rfl) (fun _ _ _ h => h) (Or.inl ⟨by rfl, ?_⟩) (by assumption) ?_
      rotate_left
      · first | (intro w' hSw; (try dsimp only at hSw); go_simp; done) | (intro w' hSw; (try dsimp only at hSw); go_simp; with_reducible rfl)
      try simp only [Act.put, List.getElem_toArray, List.getElem_cons_zero, List.getElem_cons_succ, List.setIfInBounds_toArray, List.set_cons_zero, List.set_cons_succ]
      refine wpAnyH_take (i := 21) (oi := _) (v := ?_) rfl (by kernel_rfl) (by kernel_rfl) (by kernel_rfl) (fun _ _ _ h => h) (Or.inl ⟨by rfl, ?_⟩) (by assumption) ?_
      rotate_left
      · first | (intro w' hSw; (try dsimp only at hSw); go_simp; done) | (intro w' hSw; (try dsimp only at hSw); go_simp; with_reducible rfl)
      try simp only [Act.put, List.getElem_toArray, List.getElem_cons_zero, List.getElem_cons_succ, List.setIfInBounds_toArray, List.set_cons_zero, List.set_cons_succ]
      refine wpAnyH_take (i := 22) (oi := _) (v := ?_) rfl (by kernel_rfl) (by kernel_rfl) (by kernel_rfl) (fun _ _ _ h => h) (Or.inl ⟨by rfl, ?_⟩) (by assumption) ?_
      rotate_left
      · first | (intro w' hSw; (try dsimp only at hSw); go_simp; done) | (intro w' hSw; (try dsimp only at hSw); go_simp; with_reducible rfl)
      try simp only [Act.put, List.getElem_toArray, List.getElem_cons_zero, List.getElem_cons_succ, List.setIfInBounds_toArray, List.set_cons_zero, List.set_cons_succ]
      refine wpAnyH_take (i := 23) (oi := _) (v := ?_) rfl (by kernel_rfl) (by kernel_rfl) (by kernel_rfl) (fun _ _ _ h => h) (Or.inl ⟨by rfl, ?_⟩) (by assumption) ?_
      rotate_left
      · first | (intro w' hSw; (try dsimp only at hSw); go_simp; done) | (intro w' hSw; (try dsimp only at hSw); go_simp; with_reducible rfl)
      try simp only [Act.put, List.getElem_toArray, List.getElem_cons_zero, List.getElem_cons_succ, List.setIfInBounds_toArray, List.set_cons_zero, List.set_cons_succ]
      refine wpAnyH_take (i := 24) (oi := _) (v := ?_) rfl (by kernel_rfl) (by kernel_rfl) (by kernel_rfl) (fun _ _ _ h => h) (Or.inl ⟨by rfl, ?_⟩) (by assumption) ?_
      rotate_left
      · first | (intro w' hSw; (try dsimp only at hSw); go_simp; done) | (intro w' hSw; (try dsimp only at hSw); go_simp; with_reducible rfl)
      try simp only [Act.put, List.getElem_toArray, List.getElem_cons_zero, List.getElem_cons_succ, List.setIfInBounds_toArray, List.set_cons_zero, List.set_cons_succ]
      refine wpAnyH_take (i := 25) (oi := _) (v := ?_) rfl (by kernel_rfl) (by kernel_rfl) (by kernel_rfl) (fun _ _ _ h => h) (Or.inl ⟨by rfl, ?_⟩) (by assumption) ?_
      rotate_left
      · first | (intro w' hSw; (try dsimp only at hSw); go_simp; done) | (intro w' hSw; (try dsimp only at hSw); go_simp; with_reducible rfl)
      try simp only [Act.put, List.getElem_toArray, List.getElem_cons_zero, List.getElem_cons_succ, List.setIfInBounds_toArray, List.set_cons_zero, List.set_cons_succ]
      refine wpAnyH_take (i := 26) (oi := _) (v := ?_) rfl (by kernel_rfl) (by kernel_rfl) (by kernel_rfl) (fun _ _ _ h => h) (Or.inl ⟨by rfl, ?_⟩) (by assumption) ?_
      rotate_left
      · first | (intro w' hSw; (try dsimp only at hSw); go_simp; done) | (intro w' hSw; (try dsimp only at hSw); go_simp; with_reducible rfl)
      try simp only [Act.put, List.getElem_toArray, List.getElem_cons_zero, List.getElem_cons_succ, List.setIfInBounds_toArray, List.set_cons_zero, List.set_cons_succ]
      refine wpAnyH_ready (rs := [27]) (by kernel_rfl) (by simp) ?_
      refine AllReadyH.cons (o := _) rfl (fun K hK => ?_) AllReadyH.nil
      go_simp
      refine (sameInts_any _ _ t t _ HV9.out (HTT.out.keep HZ.out)).mono ?_
      rw [show sameI t t = true by unfold sameI; simp]
      rintro x wz ⟨rfl, hd⟩
      have HY := Lib.hid (sz_keep HZ.out hd.below)
      have v0 := cell_keep hd.below n0
      have v1 := cell_keep hd.below n1
      have v2 := cell_keep hd.below n2
      have v3 := cell_keep hd.below n3
      clear hd
      go_wp2_with fail
      refine hK.out _ _ ?_ (fun hHeld => ?_)
      · exact ⟨v0, v1, v2, v3⟩
      clear hK K
      try simp only [Act.put, List.getElem_toArray, List.getElem_cons_zero, List.getElem_cons_succ, List.setIfInBounds_toArray, List.set_cons_zero, List.set_cons_succ]
      refine wpAnyH_take (i := 28) (oi := _) (v := ?_) rfl (by kernel_rfl) (by kernel_rfl) (by kernel_rfl) (fun _ _ _ h => h) (Or.inl ⟨by rfl, ?_⟩) (by assumption) ?_
      rotate_left
      · first | (intro w' hSw; (try dsimp only at hSw); go_simp; done) | (intro w' hSw; (try dsimp only at hSw); go_simp; with_reducible rfl)
      try simp only [Act.put, List.getElem_toArray, List.getElem_cons_zero, List.getElem_cons_succ, List.setIfInBounds_toArray, List.set_cons_zero, List.set_cons_succ]
      refine wpAnyH_take (i := 29) (oi := _) (v := ?_) rfl (by kernel_rfl) (by kernel_rfl) (by kernel_rfl) (fun _ _ _ h => h) (Or.inl ⟨by rfl, ?_⟩) (by assumption) ?_
      rotate_left
      · first | (intro w' hSw; (try dsimp only at hSw); go_simp; done) | (intro w' hSw; (try dsimp only at hSw); go_simp; with_reducible rfl)
      try simp only [Act.put, List.getElem_toArray, List.getElem_cons_zero, List.getElem_cons_succ, List.setIfInBounds_toArray, List.set_cons_zero, List.set_cons_succ]
      refine wpAnyH_done (by kernel_rfl) ?_ _
      clear b0 b1 m0 m1 hcm n0 n1 n2 n3 v0 v1 v2 v3
      go_wp2
      go_ret
      exact ⟨rfl, sz_keep HB1.out (sz_keep HB.out HY.out)⟩

set_option maxRecDepth 100000 in
theorem lifted_FnMapTerm (os : Os) (started : os.Started) (H : Type) (enc : TypeId × Value → H) :
    ReturnsInHanded {} Try.checked os 5 .any (Rows.fnMapTermSpec.pre6 enc Try.prog Try.f5 Rows.fnMapTermRow.domain false) (Rows.fnMapTermSpec.post enc Try.prog Try.f5 false true false false) := by
  refine returnsInHanded_of_change (C := Try.checked) own started (by kernel_rfl) Try.func5
    (ChangeSpec.witness6 (enc := enc) (C := Try.checked) false ⟨#[], #[.slice none 0 0], []⟩ 8 (by kernel_rfl) (by kernel_rfl) (by kernel_rfl) (by kernel_rfl)) ?_
  intro W base args ds gs before hval0 hW hcnd _
  have hval : ∀ (j : Nat) t v, Try.f5.params[j]? = some t → args[j]? = some v → Value.okWide Try.prog W .any base t v := hval0
  have hW' := hW
  obtain ⟨p, q, hA0, hV, rfl, hfz, hnd⟩ := hW
  have hA : DataW.TrodAll enc Try.prog W 0 (fun _ => true) true Try.f5.params.toList args.toList ds p := hA0
  rw [Try.params5] at hA hval
  obtain ⟨v0, vs0, d0, ds0, p0, q0, hargs, rfl, rfl, h0, r0⟩ := trodAll_cons hA
  obtain ⟨rfl, rfl, rfl⟩ := trodAll_nil r0
  obtain rfl : args = #[v0] := by cases args; simp_all
  obtain ⟨rfl, rfl⟩ := trodVars_none hV
  obtain ⟨a0, len0, cap0, rfl⟩ := okWide_slice Try.underlying22 (hval 0 22 v0 rfl rfl)
  have k0 := h0
  have lt0 : ∀ x ∈ p0, x.block < W.heap.size := by obtain ⟨m, hm⟩ := k0; exact DataW.trod_lt m _ _ _ hm
  obtain ⟨bs, w0⟩ : ∃ bs, RBytes W W.heap.size (.slice a0 len0 cap0) bs := by
    obtain ⟨fuel, hf⟩ := h0
    rcases open_ints Try.underlying22 Try.underlying5 (by kernel_rfl) hf with ⟨hcs, _⟩ | ⟨x, l, c, zs, hcs, _, hl, hm, hz, _, hcell, hwz⟩
    · simp [Value.cells] at hcs
      obtain ⟨rfl, rfl, rfl⟩ := hcs
      exact ⟨[], bytes_nil _ _⟩
    · simp [Value.cells] at hcs
      obtain ⟨rfl, rfl, rfl⟩ := hcs
      exact ⟨_, bytes_of hl hm (by simpa using hz) hcell hwz⟩
  clear hA0 hval0
  refine (walk_FnMapTerm _ bs W w0).mono fun e W' ⟨he, bel⟩ => ?_
  subst he
  exact ⟨_, rfl, _, _, _, [], _, [], hW', trodAll_mk1 (shut_bool Try.underlying4 _), (trodAll_cons_mk (Below.trod laidOut (by kernel_rfl) (of_decide_eq_true (by kernel_rfl)) k0 bel lt0) trodAll_mk0), rfl, bel.frame _, fun h => by cases h⟩

theorem over_FnMapTerm : Rows.fnMapTermRow.holds Try.pinned (OpenSpec.ofChange Rows.fnMapTermSpec) :=
  OpenClaim.holds_of_wide 5 Try.f5 rfl rfl rfl rfl rfl rfl rfl ⟨rfl, rfl, rfl, rfl, rfl⟩ rfl rfl rfl rfl rfl (by kernel_rfl) Try.func5 (by kernel_rfl)
    (of_decide_eq_true (by kernel_rfl)) (by unfold Func.isWrapper; first | (rw [if_pos (by decide +kernel)]; kernel_rfl) | (rw [if_neg (by decide +kernel)]; exact ⟨rfl, rfl⟩))
    (fun os started H enc _ => lifted_FnMapTerm os started H enc)

theorem proved_FnMapTerm : Rows.FnMapTermSaid := over_FnMapTerm
end Go.Proofs.Ytkhabmoidpgapab
