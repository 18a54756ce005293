/- SameMade of package spec. -/
import Derived.Test.YticldaddbljleaaKcde79d9b
namespace Go.Proofs.Yticldaddbljleaa
section
open Go.RowKit
set_option linter.unusedVariables false
set_option linter.unusedSimpArgs false

theorem sameOk_in (s : MSig) (m : MModel) (so x y : Int) : sameOkB s m so x y = (((modelB s m && inB so 0 (s.sorts - 1)) && inB x 0 (m.sizes.getD so.toNat 0 - 1)) && inB y 0 (m.sizes.getD so.toNat 0 - 1)) := by
  unfold sameOkB inB
  rw [show decide (so ≤ s.sorts - 1) = decide (so < s.sorts) from decide_eq_decide.2 (by omega), show decide (x ≤ m.sizes.getD so.toNat 0 - 1) = decide (x < m.sizes.getD so.toNat 0) from decide_eq_decide.2 (by omega), show decide (y ≤ m.sizes.getD so.toNat 0 - 1) = decide (y < m.sizes.getD so.toNat 0) from decide_eq_decide.2 (by omega), Bool.and_assoc (modelB s m)]
theorem start_take {m : MModel} {k : Nat} (hk : k < m.sizes.length) : (startM m).take (k + 1) = (startM m).take k ++ [countM (m.sizes[k]).toNat] := by
  unfold startM
  rw [← List.map_take, ← List.map_take, List.take_succ_eq_append_getElem hk, List.map_append]
  rfl
theorem lit1s (w : World) (x : Int) : OInts (w.alloc (.cells #[.int .i64 x] 3)) w.heap.size (.slice (some ⟨w.heap.size, 0, none⟩) 1 1) [x] :=
  ⟨by simp, .inr ⟨w.heap.size, 1, _, rfl, Nat.le_refl _, heap_alloc_new w _, Nat.le_refl _, by rw [maxLen_eq]; omega, by simp, by simp⟩⟩
theorem step_append_runS {P : Program} {ops : Array Oper} {o : Oper} {a : Act} {w w' : World} {v' : Value} {K : Act → World → Prop} {Q : Exit → Act → World → Prop} {E : Prop} {t1 t2 : TypeId} {v1 v2 : Value} {ty : TypeId} (hgd : o.guard = none) (s x : Operand) (hs : a.eval s = v1) (hx : a.eval x = v2) (hty : o.type = ty)
    (ho : o.op = .call { callee := .builtin .append, args := #[s, x], argTypes := #[t1, t2] }) (hr : (Builtin.append_ #[t1, t2] ty #[v1, v2]).run P w = .ok v' w')
    (h : K (a.put o.dst v') w') : if Region.wanted o (yielded ops a.tmps) = true then Oper.wp P o a w K Q else E := by
  have hw : Region.wanted o (yielded ops a.tmps) = true := by simp [Region.wanted, hgd]
  rw [if_pos hw]
  unfold Oper.wp execOp
  simp only [ho, resolve, invoke, builtin, Sem.run_bind, Sem.run_pure, Result.andThen_ok, List.map_toArray, List.map_cons, List.map_nil, hs, hx, hty, hr]
  exact h
theorem flag_yesS {j N : Nat} {W : Int} (h : W = (N : Int)) (hl : j + 1 < N) : (!(((j : Int) + 1) % W == 0)) = true := by
  rw [h, Int.emod_eq_of_lt (by omega) (by omega)]
  simp; omega
theorem flag_noS {j N : Nat} {W : Int} (h : W = (N : Int)) (hl : j + 1 = N) : (!(((j : Int) + 1) % W == 0)) = false := by
  rw [h, show (j : Int) + 1 = (N : Int) by omega, Int.emod_self]
  rfl
theorem ledV_tk {c : List (List Int)} {takes ds : List Int} {t : Nat} (h1 : t < takes.length) (h2 : ds.length = takes.length) : (ledV c takes ds).take (t + 1) = (ledV c takes ds).take t ++ [ledOne c takes[t] (ds[t]'(by omega))] := by
  have hl : t < (ledV c takes ds).length := by rw [ledV_len h2]; omega
  rw [List.take_succ_eq_append_getElem hl, ledV_at h1 (by omega) hl]

set_option maxHeartbeats 16000000 in
set_option maxRecDepth 100000 in
theorem specSameMade_any (s : MSig) (m : MModel) (so x y : Int) (w : World) (v va : Value) (h1 : RSig w v s) (h2 : RModel w va m) :
    Calls Try.prog 26 #[v, va, .int .i64 so, .int .i64 x, .int .i64 y] w fun e w' => ∃ u, e = .returned u ∧ ORows w' w.heap.size u (sameM s m so x y) ∧ Below w.heap.size w w' := by
  obtain ⟨i0, hi0, hz0, hz1, hz2⟩ := info_parts Try.tinfo_int
  obtain ⟨i1, hj, hy0, hy1, hy2⟩ := info_parts Try.tinfo_ints
  obtain ⟨Asa, csa, rfl⟩ := h1.form
  obtain ⟨Ama, cma, Amb, cmb, rfl⟩ := h2.form
  have hb : Below w.heap.size w ((w.alloc (.cells #[.int .i64 s.sorts, .slice Asa s.ops.length csa] 25)).alloc (.cells #[.slice Ama m.sizes.length cma, .slice Amb m.tables.length cmb] 28)) := (below_alloc _ _).alloc (by simp) _
  have HB := Lib.hid hb
  have hsz : ((w.alloc (.cells #[.int .i64 s.sorts, .slice Asa s.ops.length csa] 25)).alloc (.cells #[.slice Ama m.sizes.length cma, .slice Amb m.tables.length cmb] 28)).heap.size = w.heap.size + 2 := by simp
  have Hs := Lib.hid (h1.keep hb)
  have s0 := cell_keep (below_alloc (w.alloc (.cells #[.int .i64 s.sorts, .slice Asa s.ops.length csa] 25)) (.cells #[.slice Ama m.sizes.length cma, .slice Amb m.tables.length cmb] 28)) (bx_at (w) #[.int .i64 s.sorts, .slice Asa s.ops.length csa] 25 (k := 0) rfl)
  have s1 := cell_keep (below_alloc (w.alloc (.cells #[.int .i64 s.sorts, .slice Asa s.ops.length csa] 25)) (.cells #[.slice Ama m.sizes.length cma, .slice Amb m.tables.length cmb] 28)) (bx_at (w) #[.int .i64 s.sorts, .slice Asa s.ops.length csa] 25 (k := 1) rfl)
  have Hm := Lib.hid (h2.keep hb)
  have m0 := bx_at (w.alloc (.cells #[.int .i64 s.sorts, .slice Asa s.ops.length csa] 25)) #[.slice Ama m.sizes.length cma, .slice Amb m.tables.length cmb] 28 (k := 0) rfl
  have m1 := bx_at (w.alloc (.cells #[.int .i64 s.sorts, .slice Asa s.ops.length csa] 25)) #[.slice Ama m.sizes.length cma, .slice Amb m.tables.length cmb] 28 (k := 1) rfl
  simp only [World.size_alloc] at m0 m1
  generalize hW : (w.alloc (.cells #[.int .i64 s.sorts, .slice Asa s.ops.length csa] 25)).alloc (.cells #[.slice Ama m.sizes.length cma, .slice Amb m.tables.length cmb] 28) = W at HB hsz Hs s0 s1 Hm m0 m1
  clear hb h1 h2
  have HSZ := Lib.hid hsz
  clear hsz
  have HOKE := Lib.hid (sameOk_in s m so x y)
  cases hma : modelB s m with
  | false =>
    have HMA := Lib.hid hma
    have HE := Lib.hid (same_no (s := s) (m := m) (so := so) (x := x) (y := y) (by rw [HOKE.out, hma]; rfl))
    clear hma
    go_enter Try.func26, Try.ntmps26
    go_wp2_with fail
    clear hW
    refine (specModelOk_any s m _ _ _ Hs.out Hm.out).mono ?_
    rw [HMA.out]
    rintro _ w2 ⟨rfl, hb⟩
    replace HB := Lib.hid (sz_keep HB.out hb)
    replace s0 := cell_keep hb s0
    replace s1 := cell_keep hb s1
    replace m0 := cell_keep hb m0
    replace m1 := cell_keep hb m1
    replace Hs := Lib.hid (Hs.out.keep hb)
    replace Hm := Lib.hid (Hm.out.keep hb)
    clear hb
    go_wp2
    go_ret
    rw [HE.out]
    exact ⟨_, rfl, (ORows.empty2 w2).base HB.out.size, HB.out.alloc HB.out.size _⟩
  | true =>
    have HMA := Lib.hid hma
    have HF := Lib.hid (model_facts hma)
    have hfew := HF.out.sorts
    have hsl := HF.out.sl
    have hto := (valid_sorts HF.out.va).2.2
    have hw0 : IntKind.i64.wrap (s.sorts - 1) = s.sorts - 1 := by rw [IntKind.wrap_i64]; omega
    cases hs1 : inB so 0 (s.sorts - 1) with
    | false =>
      have HS1 := Lib.hid hs1
      have HE := Lib.hid (same_no (s := s) (m := m) (so := so) (x := x) (y := y) (by rw [HOKE.out, hma, hs1]; rfl))
      clear hma hs1 hsl
      go_enter Try.func26, Try.ntmps26
      go_wp2_with fail
      clear hW
      refine (specModelOk_any s m _ _ _ Hs.out Hm.out).mono ?_
      rw [HMA.out]
      rintro _ w2 ⟨rfl, hb⟩
      replace HB := Lib.hid (sz_keep HB.out hb)
      replace s0 := cell_keep hb s0
      replace s1 := cell_keep hb s1
      replace m0 := cell_keep hb m0
      replace m1 := cell_keep hb m1
      replace Hs := Lib.hid (Hs.out.keep hb)
      replace Hm := Lib.hid (Hm.out.keep hb)
      clear hb
      go_wp2_with fail
      refine (l1In_is _ _ _ _ _ HS1.out).mono ?_
      rintro _ w3 ⟨rfl, rfl⟩
      go_wp2
      go_ret
      rw [HE.out]
      exact ⟨_, rfl, (ORows.empty2 w2).base HB.out.size, HB.out.alloc HB.out.size _⟩
    | true =>
      have HS1 := Lib.hid hs1
      have hso : 0 ≤ so ∧ so ≤ s.sorts - 1 := by
        have h := hs1
        unfold inB at h
        simp only [Bool.and_eq_true, decide_eq_true_eq] at h
        exact h
      obtain ⟨n, rfl⟩ : ∃ n : Nat, so = (n : Int) := ⟨so.toNat, by omega⟩
      have hn : n < m.sizes.length := by omega
      have hn' : (n : Int) < (m.sizes.length : Int) := by omega
      obtain ⟨b5, o5, c5, e, hz⟩ := Hm.out.of.1.at_ hn
      cases e
      have HZK := Lib.hid (HF.out.sz _ (List.getElem_mem hn))
      rw [Int.toNat_natCast, getD_at _ hn] at HOKE
      generalize hzn : m.sizes[n] = z at hz HZK HOKE
      have HZN := Lib.hid hzn
      have hw1 : IntKind.i64.wrap (z - 1) = z - 1 := by have := HZK.out; rw [IntKind.wrap_i64]; omega
      clear hzn
      cases hx : inB x 0 (z - 1) with
      | false =>
        have HX := Lib.hid hx
        have HE := Lib.hid (same_no (s := s) (m := m) (so := (n : Int)) (x := x) (y := y) (by rw [HOKE.out, hma, hs1, hx]; rfl))
        clear hma hs1 hx hsl hso
        go_enter Try.func26, Try.ntmps26
        go_wp2_with fail
        clear hW
        refine (specModelOk_any s m _ _ _ Hs.out Hm.out).mono ?_
        rw [HMA.out]
        rintro _ w2 ⟨rfl, hb⟩
        replace HB := Lib.hid (sz_keep HB.out hb)
        replace s0 := cell_keep hb s0
        replace s1 := cell_keep hb s1
        replace m0 := cell_keep hb m0
        replace m1 := cell_keep hb m1
        replace hz := cell_keep hb hz
        replace Hs := Lib.hid (Hs.out.keep hb)
        replace Hm := Lib.hid (Hm.out.keep hb)
        clear hb
        go_wp2_with fail
        refine (l1In_is _ _ _ _ _ HS1.out).mono ?_
        rintro _ w3 ⟨rfl, rfl⟩
        go_wp2_with fail
        refine (l1In_is _ _ _ _ _ HX.out).mono ?_
        rintro _ w3 ⟨rfl, rfl⟩
        go_wp2
        go_ret
        rw [HE.out]
        exact ⟨_, rfl, (ORows.empty2 w2).base HB.out.size, HB.out.alloc HB.out.size _⟩
      | true =>
        have HX := Lib.hid hx
        cases hy : inB y 0 (z - 1) with
        | false =>
          have HY := Lib.hid hy
          have HE := Lib.hid (same_no (s := s) (m := m) (so := (n : Int)) (x := x) (y := y) (by rw [HOKE.out, hma, hs1, hx, hy]; rfl))
          clear hma hs1 hx hy hsl hso
          go_enter Try.func26, Try.ntmps26
          go_wp2_with fail
          clear hW
          refine (specModelOk_any s m _ _ _ Hs.out Hm.out).mono ?_
          rw [HMA.out]
          rintro _ w2 ⟨rfl, hb⟩
          replace HB := Lib.hid (sz_keep HB.out hb)
          replace s0 := cell_keep hb s0
          replace s1 := cell_keep hb s1
          replace m0 := cell_keep hb m0
          replace m1 := cell_keep hb m1
          replace hz := cell_keep hb hz
          replace Hs := Lib.hid (Hs.out.keep hb)
          replace Hm := Lib.hid (Hm.out.keep hb)
          clear hb
          go_wp2_with fail
          refine (l1In_is _ _ _ _ _ HS1.out).mono ?_
          rintro _ w3 ⟨rfl, rfl⟩
          go_wp2_with fail
          refine (l1In_is _ _ _ _ _ HX.out).mono ?_
          rintro _ w3 ⟨rfl, rfl⟩
          go_wp2_with fail
          refine (l1In_is _ _ _ _ _ HY.out).mono ?_
          rintro _ w3 ⟨rfl, rfl⟩
          go_wp2
          go_ret
          rw [HE.out]
          exact ⟨_, rfl, (ORows.empty2 w2).base HB.out.size, HB.out.alloc HB.out.size _⟩
        | true =>
          have HY := Lib.hid hy
          have hok : sameOkB s m (n : Int) x y = true := by rw [HOKE.out, hma, hs1, hx, hy]; rfl
          have HOK := Lib.hid hok
          have HIX := Lib.hid (sameOk_facts hok).2.1
          have HIY := Lib.hid (sameOk_facts hok).2.2
          have HSL := Lib.hid hsl
          clear hma hs1 hx hy hok hso
          go_enter Try.func26, Try.ntmps26
          go_wp2_with fail
          clear hW
          refine (specModelOk_any s m _ _ _ Hs.out Hm.out).mono ?_
          rw [HMA.out]
          rintro _ w2 ⟨rfl, hb⟩
          replace HB := Lib.hid (sz_keep HB.out hb)
          replace s0 := cell_keep hb s0
          replace s1 := cell_keep hb s1
          replace m0 := cell_keep hb m0
          replace m1 := cell_keep hb m1
          replace hz := cell_keep hb hz
          replace Hs := Lib.hid (Hs.out.keep hb)
          replace Hm := Lib.hid (Hm.out.keep hb)
          clear hb
          go_wp2_with fail
          refine (l1In_is _ _ _ _ _ HS1.out).mono ?_
          rintro _ w3 ⟨rfl, rfl⟩
          go_wp2_with fail
          refine (l1In_is _ _ _ _ _ HX.out).mono ?_
          rintro _ w3 ⟨rfl, rfl⟩
          go_wp2_with fail
          refine (l1In_is _ _ _ _ _ HY.out).mono ?_
          rintro _ w3 ⟨rfl, rfl⟩
          simp only [List.getElem_toArray, List.getElem_cons_zero, ← hsl] at s0
          have HCX := Lib.hid (And.intro s0 (And.intro s1 (And.intro m0 m1)))
          have HE0 := Lib.hid (ORows.empty2 w2)
          have HB0 := Lib.hid (below_alloc w2 (.cells #[] 26))
          clear hsl hw0 hw1 hz
          go_wp2
          clear s0 s1 m0 m1
          go_loopw [11, 12, 13, 14] (fun q i _ _ wr => ∃ k : Nat, k ≤ m.sizes.length ∧ i = .int .i64 k ∧ ORows wr w2.heap.size q ((startM m).take k) ∧ Below w2.heap.size w2 wr) (fun _ i _ _ _ => m.sizes.length - (intOf i).toNat)
          case atStart => exact ⟨0, Nat.zero_le _, rfl, HE0.out, HB0.out⟩
          case round =>
            obtain ⟨k, hk, rfl, ho, hd⟩ := hrel
            have HD := Lib.hid hd
            have HSTL := Lib.hid (show (startM m).length = m.sizes.length by simp [startM])
            have HKL := Lib.hid (show ((startM m).take k).length = k by rw [List.length_take, HSTL.out]; omega)
            have f0 := cell_keep hd HCX.out.1
            have f2 := cell_keep hd HCX.out.2.2.1
            by_cases hlt : k < m.sizes.length
            · have hlt' : (k : Int) < (m.sizes.length : Int) := by omega
              obtain ⟨us, hu1, hu2, hu3, hu4⟩ := ho
              have HMS := Lib.hid (start_take hlt)
              generalize hrows : (startM m).take k = rows at hu1 hu2 hu3 hu4 HKL HMS
              have HU1 := Lib.hid hu1
              have HU2 := Lib.hid hu2
              have HU3 := Lib.hid hu3
              have HU4 := Lib.hid hu4
              rw [HKL.out] at hu1
              obtain ⟨A9, c9, rfl, -⟩ := own_reads hu1
              have HUJ := Lib.hid hu1
              obtain ⟨wo, hwo⟩ : ∃ x : World, x = wr := ⟨_, rfl⟩
              subst hwo
              obtain ⟨b6, o6, c6, e, hx⟩ := (Hm.out.of.1.keep HD.out).at_ hlt
              cases e
              have HZ2 := Lib.hid (HF.out.sz _ (List.getElem_mem hlt))
              generalize m.sizes[k] = z2 at hx HZ2 HMS
              obtain ⟨Z, rfl⟩ : ∃ Z : Nat, z2 = (Z : Int) := ⟨z2.toNat, by have := HZ2.out; omega⟩
              rw [Int.toNat_natCast] at HMS
              have hZ3 : Z ≤ 3 := by have := HZ2.out; omega
              have HC2 := Lib.hid (And.intro f2 hx)
              clear hu1 hu2 hu3 hu4 hd hrows
              go_wp2
              clear f0 f2 hx
              go_loopw [13, 14] (fun q i wi => ∃ t : Nat, t ≤ Z ∧ i = .int .i64 t ∧ OInts wi wo.heap.size q (countM t) ∧ Below wo.heap.size wo wi) (fun _ i _ => Z - (intOf i).toNat)
              case atStart => exact ⟨0, Nat.zero_le _, rfl, own_empty wo, below_alloc _ _⟩
              case round =>
                obtain ⟨t, ht, rfl, hoi, hbi⟩ := hrel
                obtain ⟨wi, hwi⟩ : ∃ x : World, x = wr := ⟨_, rfl⟩
                subst hwi
                have HBI := Lib.hid hbi
                have f2 := cell_keep hbi HC2.out.1
                have hx := cell_keep hbi HC2.out.2
                have HLEN := Lib.hid (countM_len t)
                have HCS := Lib.hid (countM_succ t)
                by_cases htl : t < Z
                · have htl' : (t : Int) < (Z : Int) := by omega
                  obtain ⟨A8, c8, rfl, -⟩ := own_reads hoi
                  have HOI := Lib.hid hoi
                  generalize countM t = ps at HOI HLEN HCS
                  have hs1 := hbi.size
                  clear hoi hbi
                  go_wp2_with (at_builtin; refine wpList_append_own _ rfl _ _ 26 rfl wo.heap.size 3 i0 (.int .i64 0) 1 8 Try.underlying26 hi0 hz0 hz1 hz2 rfl (by decide) _ ps.length (ps.map (Value.int .i64)) rfl (own_keep HOI.out (below_alloc wi _)) ⟨wi.heap.size, 0, none⟩ 1 1 ([(t : Int)].map (Value.int .i64)) rfl (by simp) (led_new wi (t : Int)) (ints_one _) (by rw [HLEN.out, maxLen_eq]; omega) (by rw [HLEN.out]; omega) (by simp; omega) ?_)
                  intro v6 w6 hv6 hg6 _
                  have HO6 := Lib.hid (led_app (rs := [(t : Int)]) rfl hv6)
                  have HB6 := Lib.hid (fin_below HBI.out hg6 (fun k e => (own_lt HOI.out k e).1))
                  obtain ⟨A6, c6, rfl, -⟩ := own_reads hv6
                  clear hv6 hg6 f2 hx
                  go_wp2
                  go_roundw
                  case rel => exact ⟨t + 1, by omega, by go_num, by rw [HCS.out]; exact HO6.out, HB6.out⟩
                  case measure => simp [intOf]; omega
                · have htn : t = Z := by omega
                  have htl' : ¬ (t : Int) < (Z : Int) := by omega
                  subst htn
                  obtain ⟨A8, c8, rfl, -⟩ := own_reads hoi
                  have hpl : (countM t).length = t := countM_len t
                  generalize countM t = ps at hoi HMS hpl
                  have HOO := Lib.hid hoi
                  have HPO := Lib.hid ((own_keep HUJ.out HBI.out).alloc (.cells #[.slice A8 ps.length c8] 26))
                  have HN6 := Lib.hid (news_one2 wi (.slice A8 ps.length c8) 26)
                  have hs0 := HD.out.size
                  have hs1 := HBI.out.size
                  clear hoi hbi hpl
                  go_wp2_with (at_builtin; refine wpList_append_own _ rfl _ _ 23 rfl w2.heap.size 26 i1 (.slice none 0 0) 1 24 Try.underlying23 hj hy0 hy1 hy2 rfl (by decide) _ _ _ rfl HPO.out ⟨wi.heap.size, 0, none⟩ 1 1 [.slice A8 ps.length c8] rfl rfl HN6.out (rows_one2 _) (by rw [maxLen_eq]; omega) (by omega) (by simp; omega) ?_)
                  intro v7 w7 hv7 hg7 _
                  have HR7 := Lib.hid (rows_made HD.out.size HBI.out HOO.out HU1.out HU2.out HU3.out HU4.out (by rw [HKL.out]; exact hv7) hg7)
                  have HB7 := Lib.hid (below_made HD.out (Nat.le_refl _) HBI.out HU1.out hg7)
                  obtain ⟨A7, c7, rfl, -⟩ := own_reads hv7
                  clear hg7 hv7 hx f2
                  go_wp2
                  go_roundw
                  case rel => exact ⟨k + 1, by omega, by go_num, by rw [HMS.out]; exact HR7.out, HB7.out⟩
                  case measure => simp [intOf]; omega
            · have hkn : k = m.sizes.length := by omega
              have hlt' : ¬ (k : Int) < (m.sizes.length : Int) := by omega
              have HTA := Lib.hid (show (startM m).take k = startM m from take_all (by rw [HSTL.out]; omega))
              rw [HTA.out] at ho
              obtain ⟨wA, hwA⟩ : ∃ x : World, x = wr := ⟨_, rfl⟩
              subst hwA
              obtain ⟨g, cg, rfl, hgB, hgl⟩ := rows_at0 ho (by rw [HSTL.out]; omega)
              have HRS := Lib.hid ((start_run HF.out HIX.out HIY.out))
              have HL0 := Lib.hid (HRS.out.least HIX.out HIY.out)
              have HSS := Lib.hid (fun e => same_start HOK.out e)
              have HJE := Lib.hid (fun e => join_eq (c := startM m) (so := (n : Int)) (x := x) (y := y) e)
              generalize hst : startM m = c0 at ho HSTL HRS HL0 HSS HJE
              have hnl : n < c0.length := by rw [HSTL.out]; omega
              have hkx := lens_in HRS.out.cls.le HIX.out
              have hky := lens_in HRS.out.cls.le HIY.out
              have hx0 := HIX.out.2.2.1
              have hy0 := HIY.out.2.2.1
              rw [Int.toNat_natCast, getD_at _ hnl] at hkx hky
              have hrl : c0[n].length ≤ 1000 := by
                have a := HRS.out.cls.le.2 n (by omega)
                rw [getD_at _ hnl] at a
                have b := HF.out.sz _ (List.getElem_mem (show n < m.sizes.length by omega))
                omega
              obtain ⟨gi, ci, hcell, hrow, hgi, hgil, hgig, hnew⟩ := ho.at_own2 hnl (by omega)
              have HJ := Lib.hid (l6Join_any c0[n] n x y wA w2.heap.size g c0.length cg gi ci hcell hrow (Ne.symm hgig) hnl hrl hx0 (by omega) hy0 (by omega))
              have HLO := Lib.hid (show (c0[n].getD x.toNat 0 != c0[n].getD y.toNat 0) = (ledOne c0 (n : Int) x != ledOne c0 (n : Int) y) by unfold ledOne; rw [Int.toNat_natCast, getD_at _ hnl])
              have HNW := Lib.hid (show ∀ w5 : World, OInts w5 w2.heap.size (.slice (some ⟨gi, 0, none⟩) c0[n].length ci) (joinRow c0[n] x y) → wA.grownBy w5 (some gi) → ORows w5 w2.heap.size (.slice (some ⟨g, 0, none⟩) c0.length cg) (joinM c0 (n : Int) x y) ∧ Below w2.heap.size w2 w5 from fun w5 a b => ⟨by
                have := hnew w5 _ a b
                unfold joinM
                rw [Int.toNat_natCast, getD_at _ hnl]
                exact this, hd.trans (below_gr3 b hgi hd.size)⟩)
              rw [HLO.out] at HJ
              clear ho hd hkx hky hrow hnew hrl hx0 hy0 hcell f2 hst
              go_wp2_with fail
              refine HJ.out.mono ?_
              rintro _ wB ⟨rfl, ho5, hg5⟩
              clear f0
              obtain ⟨ho6, hd5⟩ := HNW.out wB ho5 hg5
              have HO5 := Lib.hid ho6
              have HD5 := Lib.hid hd5
              clear ho5 hg5 ho6 hd5
              obtain ⟨fb, hfb⟩ : ∃ fb : Bool, (ledOne c0 (n : Int) x != ledOne c0 (n : Int) y) = fb := ⟨_, rfl⟩
              rw [hfb]
              have HFB := Lib.hid (show fb = false → joinM c0 (n : Int) x y = sameM s m (n : Int) x y from fun e => by
                have h : ledOne c0 (n : Int) x = ledOne c0 (n : Int) y := by rw [e] at hfb; simpa using hfb
                rw [HJE.out h]; exact HSS.out h)
              generalize joinM c0 (n : Int) x y = c1 at HO5 HL0 HFB
              have HGL := Lib.hid (show g < wB.heap.size from by obtain ⟨us, h1, -⟩ := HO5.out; exact (own_lt h1 g rfl).2)
              clear hfb HNW HJ HLO
              go_wp2
              go_loopw [15, 16, 17, 18, 19, 20, 21, 22, 23, 24] (fun q _ _ _ _ _ _ _ _ _ wr => ∃ (b : Bool) (c : List (List Int)), q = .bool b ∧ ORows wr w2.heap.size (.slice (some ⟨g, 0, none⟩) c0.length cg) c ∧ Below w2.heap.size w2 wr ∧ (b = true → Least s m (n : Int) x y c) ∧ (b = false → c = sameM s m (n : Int) x y)) (fun q _ _ _ _ _ _ _ _ _ wr => restG (.slice (some ⟨g, 0, none⟩) c0.length cg) q wr)
              case atStart => exact ⟨fb, c1, rfl, HO5.out, HD5.out, fun _ => HL0.out, fun e => HFB.out e⟩
              case round =>
                obtain ⟨b, c1, rfl, ho, hd, hl, hr⟩ := hrel
                obtain ⟨wo, hwo⟩ : ∃ x : World, x = wr := ⟨_, rfl⟩
                subst hwo
                have HO := Lib.hid ho
                have HD2 := Lib.hid hd
                cases b with
                | false =>
                  have HDO := Lib.hid (hr rfl)
                  clear ho hd hl hr
                  go_wp2
                  go_ret
                  rw [← HDO.out]
                  exact ⟨_, rfl, HO.out.base HB.out.size, sz_keep HB.out HD2.out⟩
                | true =>
                  have HL := Lib.hid (hl rfl)
                  have HM0 := Lib.hid (restG_yes ho.reads)
                  clear ho hd hl hr
                  go_wp2
                  go_loopw [15, 16, 17, 18, 19, 20, 21, 22, 23, 24] (fun q i _ _ _ _ _ _ _ _ wr => ∃ (k : Nat) (c : List (List Int)) (fl : Bool), k ≤ s.ops.length ∧ i = .int .i64 k ∧ q = .bool fl ∧ Going s m (n : Int) x y c1 c fl k 0 ∧ ORows wr w2.heap.size (.slice (some ⟨g, 0, none⟩) c0.length cg) c ∧ Below w2.heap.size w2 wr) (fun _ i _ _ _ _ _ _ _ _ _ => s.ops.length - (intOf i).toNat)
                  case atStart => exact ⟨0, c1, false, Nat.zero_le _, rfl, rfl, Going.start HL.out, HO.out, HD2.out⟩
                  case round =>
                    obtain ⟨k, cq, fl, hk, rfl, rfl, hgo, ho, hd⟩ := hrel
                    obtain ⟨wq, hwq⟩ : ∃ x : World, x = wr := ⟨_, rfl⟩
                    subst hwq
                    have HOK2 := Lib.hid ho
                    have HDW := Lib.hid hd
                    have HGO := Lib.hid hgo
                    have f0 := cell_keep hd HCX.out.1
                    have f1 := cell_keep hd HCX.out.2.1
                    have f2 := cell_keep hd HCX.out.2.2.1
                    have f3 := cell_keep hd HCX.out.2.2.2
                    clear ho hd hgo
                    by_cases hks : k < s.ops.length
                    · have hks' : (k : Int) < (s.ops.length : Int) := by omega
                      obtain ⟨b4, o4, c4, u4, e, hx, hr4⟩ := Hs.out.of.2.at_ hks
                      cases e
                      replace hx := cell_keep HDW.out hx
                      obtain ⟨r1, r2, r3⟩ := opRow_valid HF.out.va hks
                      have HRI : Hid (RInts w2 u4 (opRow s k)) := by rw [opRow_at hks]; exact hr4
                      have HOA := Lib.hid (HF.out.op hks)
                      have HXI : Hid (∀ x ∈ opRow s k, 0 ≤ x ∧ x < (m.sizes.length : Int)) := fun x hx => by have := r3 x hx; have := HF.out.sl; omega
                      have HSM3 := Lib.hid HF.out.sorts.1
                      have hkm : k < m.tables.length := by have := HF.out.tl; omega
                      have hkm' : (k : Int) < (m.tables.length : Int) := by omega
                      obtain ⟨bm, om, cm, um, e, hym, hrm⟩ := Hm.out.of.2.at_ hkm
                      cases e
                      have HYM := Lib.hid hym
                      replace hym := cell_keep HDW.out hym
                      have HMT : Hid (RInts w2 um (m.tables.getD k [])) := by rw [getD_at _ hkm]; exact hrm
                      obtain ⟨Am, dm, rfl, -, -⟩ := HMT.out.form
                      have HGS := Lib.hid (fun (c : List (List Int)) (fl : Bool) (j : Nat) (h : Going s m (n : Int) x y c1 c fl k j) (hj : j < (m.tables.getD k []).length) (a b : Int) (ha : (m.tables.getD k []).getD j 0 = a) (hb : (m.tables.getD k []).getD (placeM 0 (ledM m.sizes (opRow s k).dropLast) (ledV c (opRow s k).dropLast (digM (ledM m.sizes (opRow s k).dropLast) (j : Int)))).toNat 0 = b) => h.step HF.out HIX.out HIY.out hks hj rfl ha hb)
                      have HRN := Lib.hid (fun (c : List (List Int)) (j : Nat) (h : Least s m (n : Int) x y c) (hj : j < (m.tables.getD k []).length) (a b : Int) (ha : (m.tables.getD k []).getD j 0 = a) (hb : (m.tables.getD k []).getD (placeM 0 (ledM m.sizes (opRow s k).dropLast) (ledV c (opRow s k).dropLast (digM (ledM m.sizes (opRow s k).dropLast) (j : Int)))).toNat 0 = b) => (show InM m ((opRow s k).getLastD (-1)) a ∧ InM m ((opRow s k).getLastD (-1)) b from by
                        have r := h.next HF.out hks hj
                        have r1 := r.ix
                        have r2 := r.iy
                        rw [ha] at r1
                        unfold otherN at r2
                        rw [hb] at r2
                        exact ⟨r1, r2⟩))
                      have HOI := Lib.hid (fun (c : List (List Int)) (hc : Cls m c) (j : Nat) => (show InAll (ledM m.sizes (opRow s k).dropLast) (ledV c (opRow s k).dropLast (digM (ledM m.sizes (opRow s k).dropLast) (j : Int))) ∧ 0 ≤ placeM 0 (ledM m.sizes (opRow s k).dropLast) (ledV c (opRow s k).dropLast (digM (ledM m.sizes (opRow s k).dropLast) (j : Int))) ∧ placeM 0 (ledM m.sizes (opRow s k).dropLast) (ledV c (opRow s k).dropLast (digM (ledM m.sizes (opRow s k).dropLast) (j : Int))) < ((m.tables.getD k []).length : Int) from other_in HF.out hc HOA.out j))
                      have HGOP := Lib.hid (fun (c : List (List Int)) (fl : Bool) (j : Nat) (h : Going s m (n : Int) x y c1 c fl k j) (hj : j = (m.tables.getD k []).length) => h.op hj)
                      clear hrm hr4 r3
                      generalize opRow s k = row at HRI HOA HXI HGS HRN HOI r1 r2
                      generalize m.tables.getD k [] = table at HMT HOA hym HYM HGS HRN HOI HGOP
                      obtain ⟨nr, hnr⟩ : ∃ nr : Nat, row.length = nr + 1 := ⟨row.length - 1, by omega⟩
                      have hne : nr < row.length := by omega
                      obtain ⟨br, or_, cr, rfl, hyr⟩ := HRI.out.at_ hne
                      have HYR := Lib.hid hyr
                      replace hyr := cell_keep HDW.out hyr
                      have HLR := Lib.hid (last_row2 hnr hne)
                      have HNR := Lib.hid hnr
                      have HZ4 := Lib.hid HOA.out.zlen
                      have HFW := Lib.hid HOA.out.few
                      have HSA := Lib.hid HOA.out.siz
                      have HLA := Lib.hid HOA.out.len
                      have HVL := Lib.hid HOA.out.val
                      have HLI := Lib.hid HOA.out.lin
                      have HTI := Lib.hid HOA.out.tin
                      have HLL := Lib.hid (show (ledM m.sizes row.dropLast).length = nr by rw [ledM_len, List.length_dropLast, hnr]; rfl)
                      have HLG := Lib.hid (fun (j : Nat) (hj : j < row.dropLast.length) h1 (h2 : j < (ledM m.sizes row.dropLast).length) => led_get (zs := m.sizes) hj h1 h2)
                      have HPA := Lib.hid (fun (w0 : World) (v0 v1 v2 : Value) (vals : List Int) (q0 : RInts w0 v0 m.sizes) (q1 : RInts w0 v1 row) (q2 : RInts w0 v2 vals) q3 => l6Place_any m.sizes row vals w0 v0 v1 v2 q0 q1 q2 r2 HOA.out.siz HXI.out HSM3.out q3)
                      have HLIM := Lib.hid (fun (w0 : World) (v0 v1 : Value) (q0 : RInts w0 v0 m.sizes) (q1 : RInts w0 v1 row) => l6Limits_any m.sizes row w0 v0 v1 q0 q1 r1 r2 HXI.out HSM3.out)
                      have HDL9 := Lib.hid (fun (i : Nat) (hi : i < nr) (hi' : i < row.length) (hi2 : i < row.dropLast.length) => (show row.dropLast[i] = row[i] from List.getElem_dropLast hi2))
                      have HDN := Lib.hid (show row.dropLast.length = nr by rw [List.length_dropLast, hnr]; rfl)
                      rw [HLR.out] at HLI HVL HGS HRN
                      clear HLR HOA
                      generalize row[nr] = last at hyr HYR HLI HVL HGS HRN
                      generalize ledM m.sizes row.dropLast = zs at HZ4 HSA HLA HPA HLL HLIM HGS HRN HOI HLG
                      generalize row.dropLast = takes at HDL9 HDN HTI HGS HRN HOI HLG
                      have hrl3 : row.length ≤ 3 := r2
                      have hrl3' : (row.length : Int) ≤ 3 := by omega
                      have hnr2 : nr ≤ 2 := by omega
                      clear r1 hnr hne
                      go_wp2_with fail
                      refine (HLIM.out _ _ _ (Hm.out.of.1.keep HDW.out) (HRI.out.keep HDW.out)).mono ?_
                      rintro _ w5 ⟨u5, rfl, ho5, hb5⟩
                      have HO5 := Lib.hid ho5
                      obtain ⟨A5, c5, rfl, -⟩ := ho5.reads.form
                      clear ho5
                      obtain ⟨N, hN⟩ : ∃ N : Nat, waysM zs = (N : Int) := ⟨(waysM zs).toNat, by have := ways_pos HSA.out; omega⟩
                      have HN := Lib.hid hN
                      have hwp : 1 ≤ (N : Int) := by have := ways_pos HSA.out; omega
                      have hwf : (N : Int) ≤ 81 := by have := ways_few HSA.out HZ4.out; omega
                      have HNT := Lib.hid (show table.length = N by have := HLA.out; omega)
                      have hzl := HZ4.out
                      have hmk := run_make_row' (P := Try.prog) 26 3 (.int .i64 0) 8 Try.underlying26 Try.tinfo_int rfl .i64 .i64 zs.length (by omega) (by omega)
                      have hba := below_alloc w5 (.cells (madeCells #[.int .i64 0] zs.length) 3)
                      have hbn := World.alloc_heap_new w5 (.cells (madeCells #[.int .i64 0] zs.length) 3)
                      have ho0 : OInts (w5.alloc (.cells (madeCells #[.int .i64 0] zs.length) 3)) w5.heap.size (.slice (some ⟨w5.heap.size, 0, none⟩) zs.length zs.length) (digM zs 0) := by
                        rw [made_zero, ← dig_zero] at hbn ⊢
                        have := row_owns (B := w5.heap.size) hbn (Nat.le_refl _) (by rw [digM_len]; omega)
                        rw [digM_len] at this
                        exact this
                      have HGW := Lib.hid (show g < wq.heap.size by obtain ⟨us, h1, -⟩ := HOK2.out; exact (own_lt h1 g rfl).2)
                      have HQ5 := Lib.hid hb5
                      have HO6 := Lib.hid ((HOK2.out.keep hb5).keep hba)
                      generalize hW6 : w5.alloc (.cells (madeCells #[.int .i64 0] zs.length) 3) = w6 at hba ho0 HO6
                      have HBA := Lib.hid hba
                      have HO0 := Lib.hid ho0
                      have HD6 := Lib.hid (sz_keep HDW.out hb5)
                      clear hN hba ho0 hbn hb5 f0 f1 f2 f3 hym hyr hx
                      go_wp2
                      clear hmk hW6
                      go_loopw [15, 20, 21, 22, 23, 24] (fun q p _ _ _ _ wk => ∃ (b : Bool) (j : Nat) (c : List (List Int)) (fl : Bool), p = .bool b ∧ (b = true → j < N) ∧ (b = false → j = N) ∧ q = .bool fl ∧ Going s m (n : Int) x y c1 c fl k j ∧ ORows wk w2.heap.size (.slice (some ⟨g, 0, none⟩) c0.length cg) c ∧ (b = true → OInts wk w5.heap.size (.slice (some ⟨w5.heap.size, 0, none⟩) zs.length zs.length) (digM zs j)) ∧ Kept w2.heap.size wq.heap.size g w5 wk) (fun _ p _ _ _ _ wk => leftM zs N w5.heap.size p wk)
                      case atStart => exact ⟨true, 0, cq, fl, rfl, (fun _ => by omega), (fun h => absurd h (by simp)), rfl, HGO.out, HO6.out, (fun _ => HO0.out), (Kept.refl _ _ _ _).below HBA.out⟩
                      case round =>
                        obtain ⟨b, j, cj, fj, rfl, hjlt, hjeq, rfl, hgj, hoj, hown, hgk⟩ := hrel
                        obtain ⟨wk, hwk⟩ : ∃ x : World, x = wr := ⟨_, rfl⟩
                        subst hwk
                        have HGJ := Lib.hid hgj
                        have HOJ := Lib.hid hoj
                        have HGK := Lib.hid hgk
                        have HDK := Lib.hid (hgk.base HD6.out (Nat.le_refl _))
                        clear hoj hgk hgj
                        cases b with
                        | false =>
                          have hjn := hjeq rfl
                          have HNX := Lib.hid (HGOP.out cj fj j HGJ.out (by rw [hjn, HNT.out]))
                          clear hjlt hjeq hown
                          go_wp2
                          go_roundw
                          case rel => exact ⟨k + 1, cj, fj, by omega, by go_num, rfl, HNX.out, HOJ.out, HDK.out⟩
                          case measure => simp [intOf]; omega
                        | true =>
                          have hjN := hjlt rfl
                          have HOV := Lib.hid (hown rfl)
                          have hjt : j < table.length := by have := HNT.out; omega
                          have HDL := Lib.hid (digM_len zs (j : Int))
                          have HDI := Lib.hid (dig_in HSA.out (j : Int))
                          have HD3 := Lib.hid (dig_three HSA.out (j : Int))
                          have HND := Lib.hid (next_dig HSA.out (j : Int) (by omega))
                          have HPD := Lib.hid (place_dig HSA.out 0 (j : Int) (by omega))
                          have HPJ2 := Lib.hid (show placeM 0 zs (digM zs (j : Int)) = (j : Int) by rw [HPD.out, HN.out, Int.emod_eq_of_lt (by omega) (by omega)]; omega)
                          have HCL := Lib.hid HGJ.out.least.cls
                          have HCLL := Lib.hid (show cj.length = m.sizes.length from HGJ.out.least.cls.le.1)
                          have HGS2 := Lib.hid (fun a b ha hb => HGS.out cj fj j HGJ.out hjt a b ha hb)
                          have HRN2 := Lib.hid (fun a b ha hb => HRN.out cj j HGJ.out.least hjt a b ha hb)
                          have HOI2 := Lib.hid (HOI.out cj HCL.out j)
                          clear hjlt hjeq hown
                          generalize hds : digM zs (j : Int) = ds at HOV HDL HDI HD3 HND HPJ2 HGS2 HRN2 HOI2
                          have HDTL := Lib.hid (show ds.length = takes.length by have := HDL.out; have := HDN.out; have := HLL.out; omega)
                          have HLT := Lib.hid (fun (t : Nat) (h : t < takes.length) => ledV_tk (c := cj) h HDTL.out)
                          have HLN := Lib.hid (ledV_len (h := cj) HDTL.out)
                          have hdl := HDL.out
                          clear hds
                          go_wp2
                          go_loopw [21, 22] (fun q i wi => ∃ t : Nat, t ≤ zs.length ∧ i = .int .i64 t ∧ OInts wi wk.heap.size q ((ledV cj takes ds).take t) ∧ Below wk.heap.size wk wi) (fun _ i _ => zs.length - (intOf i).toNat)
                          case atStart => exact ⟨0, Nat.zero_le _, rfl, own_empty wk, below_alloc _ _⟩
                          case round =>
                            obtain ⟨t, ht, rfl, hoi, hbi⟩ := hrel
                            obtain ⟨wi, hwi⟩ : ∃ x : World, x = wr := ⟨_, rfl⟩
                            subst hwi
                            have HBI := Lib.hid hbi
                            have HKI := Lib.hid (sz_keep HDK.out HBI.out)
                            by_cases htz : t < zs.length
                            · have htz' : (t : Int) < (zs.length : Int) := by omega
                              have htr : t < row.length := by have := HNR.out; have := HLL.out; omega
                              have htr' : (t : Int) < (row.length : Int) := by omega
                              have htd : t < ds.length := by have := HDL.out; omega
                              have htk : t < takes.length := by have := HDN.out; have := HLL.out; omega
                              obtain ⟨A8, c8, rfl, -⟩ := own_reads hoi
                              have HOI8 := Lib.hid hoi
                              obtain ⟨hv8, -⟩ := own_cell HOV.out htd
                              obtain ⟨b10, o10, c10, e, hx10⟩ := (HRI.out.keep HDK.out).at_ htr
                              cases e
                              have HTX := Lib.hid (HTI.out _ (List.getElem_mem htk))
                              have HDX := Lib.hid (HDI.out.2 t htz htd)
                              have HLT2 := Lib.hid (HLT.out t htk)
                              have hdl9 := HDL9.out t (by have := HLL.out; omega) htr htk
                              have HLG2 := Lib.hid (HLG.out t htk (by have := HTX.out; have := HSM3.out; omega) htz)
                              rw [HLG2.out] at HDX
                              rw [hdl9] at HTX HLT2 HDX
                              clear hdl9
                              generalize row[t] = sk at hx10 HTX HLT2 HDX
                              generalize ds[t] = xv at hv8 HDX HLT2
                              obtain ⟨i2, rfl⟩ : ∃ i2 : Nat, sk = (i2 : Int) := ⟨sk.toNat, by have := HTX.out; omega⟩
                              have hi2 : i2 < cj.length := by have := HTX.out; have := HCLL.out; omega
                              have hi2' : (i2 : Int) < (c0.length : Int) := by have := HCLL.out; have := HSTL.out; omega
                              have hi0' : (0 : Int) ≤ (i2 : Int) := by omega
                              obtain ⟨p2, rfl⟩ : ∃ p2 : Nat, xv = (p2 : Int) := ⟨xv.toNat, by have := HDX.out; omega⟩
                              have hlv := lens_in HCL.out.le (s := (i2 : Int)) (v := (p2 : Int)) ⟨by omega, by have := HTX.out; omega, by omega, by have := HDX.out; omega⟩
                              rw [Int.toNat_natCast, Int.toNat_natCast, getD_at _ hi2] at hlv
                              obtain ⟨bq, oq, cq9, uq, e, hq1, hrq⟩ := HOJ.out.reads.at_ hi2
                              injection e with e1 e2 e3
                              injection e1 with e1
                              injection e1 with x1 x2
                              subst x1 x2
                              clear e2 e3
                              obtain ⟨bp, op_, cp, e, hp1⟩ := hrq.at_ hlv.2
                              subst e
                              have HLO := Lib.hid (show ledOne cj (i2 : Int) (p2 : Int) = cj[i2][p2] by unfold ledOne; rw [Int.toNat_natCast, Int.toNat_natCast, getD_at _ hi2, getD_at _ hlv.2])
                              rw [HLO.out] at HLT2
                              have hpl' : (p2 : Int) < (cj[i2].length : Int) := by have := hlv.2; omega
                              have hp0 : (0 : Int) ≤ (p2 : Int) := by omega
                              generalize cj[i2][p2] = yv at hp1 HLT2
                              generalize cj[i2].length = lq at hq1 hpl'
                              have HLEN := Lib.hid (show ((ledV cj takes ds).take t).length = t by rw [List.length_take, HLN.out]; omega)
                              generalize (ledV cj takes ds).take t = ps at HOI8 HLT2 HLEN
                              have ea := hbi.size
                              simp only [Nat.zero_add] at hq1
                              have HC4 := Lib.hid (And.intro hx10 (And.intro hq1 (And.intro hv8 hp1)))
                              replace hx10 := cell_keep hbi hx10
                              replace hq1 := cell_keep hbi hq1
                              replace hv8 := cell_keep hbi hv8
                              replace hp1 := cell_keep hbi hp1
                              clear hoi hbi hlv hrq HLO
                              go_wp2_with fail
                              refine wp_region_held_drew (S := (fun w' => w'.cell? ⟨br, or_ + t, none⟩ = some (.int .i64 (i2 : Int)) ∧ w'.cell? ⟨g, i2, none⟩ = some (.slice (some ⟨bp, op_, none⟩) lq cp) ∧ w'.cell? ⟨w5.heap.size, t, none⟩ = some (.int .i64 (p2 : Int)) ∧ w'.cell? ⟨bp, op_ + p2, none⟩ = some (.int .i64 yv))) (by kernel_rfl) ?_ (fun hHeld => ?_)
                              · exact ⟨hx10, hq1, hv8, hp1⟩
                              refine wpAnyH_take (i := 0) (oi := _) (v := ?_) rfl (by kernel_rfl) (by kernel_rfl) (by kernel_rfl) (fun _ _ _ h => h) (Or.inl ⟨by rfl, ?_⟩) (by assumption) ?_
                              rotate_left
                              · first | (intro w' hSw; (try dsimp only at hSw); go_simp; done) | (intro w' hSw; (try dsimp only at hSw); go_simp; with_reducible rfl)
                              try simp only [Act.put, List.getElem_toArray, List.getElem_cons_zero, List.getElem_cons_succ, List.setIfInBounds_toArray, List.set_cons_zero, List.set_cons_succ]
                              refine wpAnyH_take (i := 1) (oi := _) (v := ?_) rfl (by kernel_rfl) (by kernel_rfl) (by kernel_rfl) (fun _ _ _ h => h) (Or.inl ⟨by rfl, ?_⟩) (by assumption) ?_
                              rotate_left
                              · first | (intro w' hSw; (try dsimp only at hSw); go_simp; done) | (intro w' hSw; (try dsimp only at hSw); go_simp; with_reducible rfl)
                              try simp only [Act.put, List.getElem_toArray, List.getElem_cons_zero, List.getElem_cons_succ, List.setIfInBounds_toArray, List.set_cons_zero, List.set_cons_succ]
                              refine wpAnyH_take (i := 2) (oi := _) (v := ?_) rfl (by kernel_rfl) (by kernel_rfl) (by kernel_rfl) (fun _ _ _ h => h) (Or.inl ⟨by rfl, ?_⟩) (by assumption) ?_
                              rotate_left
                              · first | (intro w' hSw; (try dsimp only at hSw); go_simp; done) | (intro w' hSw; (try dsimp only at hSw); go_simp; with_reducible rfl)
                              try simp only [Act.put, List.getElem_toArray, List.getElem_cons_zero, List.getElem_cons_succ, List.setIfInBounds_toArray, List.set_cons_zero, List.set_cons_succ]
                              refine wpAnyH_take (i := 3) (oi := _) (v := ?_) rfl (by kernel_rfl) (by kernel_rfl) (by kernel_rfl) (fun _ _ _ h => h) (Or.inl ⟨by rfl, ?_⟩) (by assumption) ?_
                              rotate_left
                              · first | (intro w' hSw; (try dsimp only at hSw); go_simp; done) | (intro w' hSw; (try dsimp only at hSw); go_simp; with_reducible rfl)
                              try simp only [Act.put, List.getElem_toArray, List.getElem_cons_zero, List.getElem_cons_succ, List.setIfInBounds_toArray, List.set_cons_zero, List.set_cons_succ]
                              refine wpAnyH_take (i := 8) (oi := _) (v := ?_) rfl (by kernel_rfl) (by kernel_rfl) (by kernel_rfl) (fun _ _ _ h => h) (Or.inl ⟨by rfl, ?_⟩) (by assumption) ?_
                              rotate_left
                              · first | (intro w' hSw; (try dsimp only at hSw); go_simp; done) | (intro w' hSw; (try dsimp only at hSw); go_simp; with_reducible rfl)
                              try simp only [Act.put, List.getElem_toArray, List.getElem_cons_zero, List.getElem_cons_succ, List.setIfInBounds_toArray, List.set_cons_zero, List.set_cons_succ]
                              refine wpAnyH_take (i := 9) (oi := _) (v := ?_) rfl (by kernel_rfl) (by kernel_rfl) (by kernel_rfl) (fun _ _ _ h => h) (Or.inl ⟨by rfl, ?_⟩) (by assumption) ?_
                              rotate_left
                              · first | (intro w' hSw; (try dsimp only at hSw); go_simp; done) | (intro w' hSw; (try dsimp only at hSw); go_simp; with_reducible rfl)
                              try simp only [Act.put, List.getElem_toArray, List.getElem_cons_zero, List.getElem_cons_succ, List.setIfInBounds_toArray, List.set_cons_zero, List.set_cons_succ]
                              refine wpAnyH_take (i := 4) (oi := _) (v := ?_) rfl (by kernel_rfl) (by kernel_rfl) (by kernel_rfl) (fun _ _ _ h => h) (Or.inl ⟨by rfl, ?_⟩) (by assumption) ?_
                              rotate_left
                              · first | (intro w' hSw; (try dsimp only at hSw); go_simp; done) | (intro w' hSw; (try dsimp only at hSw); go_simp; with_reducible rfl)
                              try simp only [Act.put, List.getElem_toArray, List.getElem_cons_zero, List.getElem_cons_succ, List.setIfInBounds_toArray, List.set_cons_zero, List.set_cons_succ]
                              refine wpAnyH_take (i := 5) (oi := _) (v := ?_) rfl (by kernel_rfl) (by kernel_rfl) (by kernel_rfl) (fun _ _ _ h => h) (Or.inl ⟨by rfl, ?_⟩) (by assumption) ?_
                              rotate_left
                              · first | (intro w' hSw; (try dsimp only at hSw); go_simp; done) | (intro w' hSw; (try dsimp only at hSw); go_simp; with_reducible rfl)
                              try simp only [Act.put, List.getElem_toArray, List.getElem_cons_zero, List.getElem_cons_succ, List.setIfInBounds_toArray, List.set_cons_zero, List.set_cons_succ]
                              refine wpAnyH_take (i := 10) (oi := _) (v := ?_) rfl (by kernel_rfl) (by kernel_rfl) (by kernel_rfl) (fun _ _ _ h => h) (Or.inl ⟨by rfl, ?_⟩) (by assumption) ?_
                              rotate_left
                              · first | (intro w' hSw; (try dsimp only at hSw); go_simp; done) | (intro w' hSw; (try dsimp only at hSw); go_simp; with_reducible rfl)
                              try simp only [Act.put, List.getElem_toArray, List.getElem_cons_zero, List.getElem_cons_succ, List.setIfInBounds_toArray, List.set_cons_zero, List.set_cons_succ]
                              refine wpAnyH_take (i := 11) (oi := _) (v := ?_) rfl (by kernel_rfl) (by kernel_rfl) (by kernel_rfl) (fun _ _ _ h => h) (Or.inl ⟨by rfl, ?_⟩) (by assumption) ?_
                              rotate_left
                              · first | (intro w' hSw; (try dsimp only at hSw); go_simp; done) | (intro w' hSw; (try dsimp only at hSw); go_simp; with_reducible rfl)
                              try simp only [Act.put, List.getElem_toArray, List.getElem_cons_zero, List.getElem_cons_succ, List.setIfInBounds_toArray, List.set_cons_zero, List.set_cons_succ]
                              refine wpAnyH_take (i := 6) (oi := _) (v := ?_) rfl (by kernel_rfl) (by kernel_rfl) (by kernel_rfl) (fun _ _ _ h => h) (Or.inl ⟨by rfl, ?_⟩) (by assumption) ?_
                              rotate_left
                              · first | (intro w' hSw; (try dsimp only at hSw); go_simp; done) | (intro w' hSw; (try dsimp only at hSw); go_simp; with_reducible rfl)
                              try simp only [Act.put, List.getElem_toArray, List.getElem_cons_zero, List.getElem_cons_succ, List.setIfInBounds_toArray, List.set_cons_zero, List.set_cons_succ]
                              refine wpAnyH_take (i := 7) (oi := _) (v := ?_) rfl (by kernel_rfl) (by kernel_rfl) (by kernel_rfl) (fun _ _ _ h => h) (Or.inl ⟨by rfl, ?_⟩) (by assumption) ?_
                              rotate_left
                              · first | (intro w' hSw; (try dsimp only at hSw); go_simp; done) | (intro w' hSw; (try dsimp only at hSw); go_simp; with_reducible rfl)
                              try simp only [Act.put, List.getElem_toArray, List.getElem_cons_zero, List.getElem_cons_succ, List.setIfInBounds_toArray, List.set_cons_zero, List.set_cons_succ]
                              refine wpAnyH_take (i := 12) (oi := _) (v := ?_) rfl (by kernel_rfl) (by kernel_rfl) (by kernel_rfl) (fun _ _ _ h => h) (Or.inl ⟨by rfl, ?_⟩) (by assumption) ?_
                              rotate_left
                              · first | (intro w' hSw; (try dsimp only at hSw); go_simp; done) | (intro w' hSw; (try dsimp only at hSw); go_simp; with_reducible rfl)
                              try simp only [Act.put, List.getElem_toArray, List.getElem_cons_zero, List.getElem_cons_succ, List.setIfInBounds_toArray, List.set_cons_zero, List.set_cons_succ]
                              refine wpAnyH_take (i := 13) (oi := _) (v := ?_) rfl (by kernel_rfl) (by kernel_rfl) (by kernel_rfl) (fun _ _ _ h => h) (Or.inl ⟨by rfl, ?_⟩) (by assumption) ?_
                              rotate_left
                              · first | (intro w' hSw; (try dsimp only at hSw); go_simp; done) | (intro w' hSw; (try dsimp only at hSw); go_simp; with_reducible rfl)
                              try simp only [Act.put, List.getElem_toArray, List.getElem_cons_zero, List.getElem_cons_succ, List.setIfInBounds_toArray, List.set_cons_zero, List.set_cons_succ]
                              refine wpAnyH_ready (rs := [14]) (by kernel_rfl) (by simp) ?_
                              refine AllReadyH.cons (o := _) rfl (fun K hK => ?_) AllReadyH.nil
                              go_simp
                              have h1 := cell_keep (below_alloc wi (.cells #[.int .i64 yv] 3)) hx10
                              have h2 := cell_keep (below_alloc wi (.cells #[.int .i64 yv] 3)) hq1
                              have h3 := cell_keep (below_alloc wi (.cells #[.int .i64 yv] 3)) hv8
                              have h4 := cell_keep (below_alloc wi (.cells #[.int .i64 yv] 3)) hp1
                              refine hK.out _ _ ⟨h1, h2, h3, h4⟩ (fun hHeld => ?_)
                              clear hK K
                              try simp only [Act.put, List.getElem_toArray, List.getElem_cons_zero, List.getElem_cons_succ, List.setIfInBounds_toArray, List.set_cons_zero, List.set_cons_succ]
                              refine wpAnyH_ready (rs := [15]) (by kernel_rfl) (by simp) ?_
                              refine AllReadyH.cons (o := _) rfl (fun K hK => ?_) AllReadyH.nil
                              obtain ⟨A6, c6, w6, hrun, hob, hgr⟩ := app_own_run (wi.alloc (.cells #[.int .i64 yv] 3)).drew 26 wk.heap.size (.slice A8 ps.length c8) (.slice (some ⟨wi.heap.size, 0, none⟩) 1 1) ps [yv] (show OInts (wi.alloc (.cells #[.int .i64 yv] 3)).drew wk.heap.size (.slice A8 ps.length c8) ps from own_keep HOI8.out (map_drew (below_alloc wi _))) (show RInts (wi.alloc (.cells #[.int .i64 yv] 3)).drew (.slice (some ⟨wi.heap.size, 0, none⟩) 1 1) [yv] from (lit1s wi yv).reads) (by rw [HLEN.out]; simp; omega) (by show _ ≤ (wi.alloc _).heap.size; simp; omega)
                              refine step_append_runS (v1 := .slice A8 ps.length c8) (v2 := .slice (some ⟨wi.heap.size, 0, none⟩) 1 1) (ty := 26) (t1 := 26) (t2 := 26) rfl (.tmp 121) (.tmp 135) rfl rfl rfl rfl hrun ?_
                              have HO6 := Lib.hid (show OInts w6 wk.heap.size (.slice A6 (ps.length + 1) c6) (ps ++ [yv]) by have h := hob; rw [show (ps ++ [yv]).length = ps.length + 1 by simp] at h; exact h)
                              have hg9 : (wi.alloc (.cells #[.int .i64 yv] 3)).grownBy w6 (Value.slice A8 ps.length c8).ownBlock := ⟨hgr.os, hgr.tape, hgr.output, hgr.size, hgr.block⟩
                              have HB6 := Lib.hid (fin_below HBI.out hg9 (fun k e => (own_lt HOI8.out k e).1))
                              clear hg9
                              have k1 := cell_keep HB6.out HC4.out.1
                              have k2 := cell_keep HB6.out HC4.out.2.1
                              have k3 := cell_keep HB6.out HC4.out.2.2.1
                              have k4 := cell_keep HB6.out HC4.out.2.2.2
                              clear hrun hob hgr
                              refine hK.out _ _ ⟨k1, k2, k3, k4⟩ (fun hHeld => ?_)
                              clear hK K
                              try simp only [Act.put, List.getElem_toArray, List.getElem_cons_zero, List.getElem_cons_succ, List.setIfInBounds_toArray, List.set_cons_zero, List.set_cons_succ]
                              refine wpAnyH_take (i := 16) (oi := _) (v := ?_) rfl (by kernel_rfl) (by kernel_rfl) (by kernel_rfl) (fun _ _ _ h => h) (Or.inl ⟨by rfl, ?_⟩) (by assumption) ?_
                              rotate_left
                              · first | (intro w' hSw; (try dsimp only at hSw); go_simp; done) | (intro w' hSw; (try dsimp only at hSw); go_simp; with_reducible rfl)
                              try simp only [Act.put, List.getElem_toArray, List.getElem_cons_zero, List.getElem_cons_succ, List.setIfInBounds_toArray, List.set_cons_zero, List.set_cons_succ]
                              refine wpAnyH_done (by kernel_rfl) ?_ _
                              clear h1 h2 h3 h4 k1 k2 k3 k4 hx10 hq1 hv8 hp1
                              go_wp2
                              go_roundw
                              case rel => exact ⟨t + 1, by omega, by go_num, by rw [HLT2.out]; exact HO6.out, HB6.out⟩
                              case measure => simp [intOf]; omega
                            · have htn : t = zs.length := by omega
                              have htz' : ¬ (t : Int) < (zs.length : Int) := by omega
                              have HTA := Lib.hid (show (ledV cj takes ds).take t = ledV cj takes ds from take_all (by rw [HLN.out]; omega))
                              rw [HTA.out] at hoi
                              obtain ⟨A8, c8, rfl, -⟩ := own_reads hoi
                              generalize hls : ledV cj takes ds = ls at hoi HGS2 HRN2 HOI2
                              have HLSO := Lib.hid hoi.reads
                              obtain ⟨pb, hpb⟩ : ∃ pb : Nat, placeM 0 zs ls = (pb : Int) := ⟨(placeM 0 zs ls).toNat, by have := HOI2.out.2; omega⟩
                              have HPB := Lib.hid hpb
                              have hpbt : pb < table.length := by have := HOI2.out.2; omega
                              have hpbt' : (pb : Int) < (table.length : Int) := by omega
                              have hpb0 : (0 : Int) ≤ (pb : Int) := by omega
                              have HLIA := Lib.hid HOI2.out.1
                              have hjt' : (j : Int) < (table.length : Int) := by omega
                              have hj0 : (0 : Int) ≤ (j : Int) := by omega
                              have g2 := cell_keep HKI.out HCX.out.2.2.1
                              have g3 := cell_keep HKI.out HCX.out.2.2.2
                              have gm := cell_keep HKI.out HYM.out
                              have gr := cell_keep HKI.out HYR.out
                              obtain ⟨b8, o8, c8', e, ha8⟩ := (HMT.out.keep HKI.out).at_ hjt
                              cases e
                              obtain ⟨b9, o9, c9', e, hb8⟩ := (HMT.out.keep HKI.out).at_ hpbt
                              cases e
                              have HGT := Lib.hid (show table.getD j 0 = table[j] from getD_at _ hjt)
                              have HGT2 := Lib.hid (show table.getD (placeM 0 zs ls).toNat 0 = table[pb] by rw [hpb, Int.toNat_natCast, getD_at _ hpbt])
                              have HGN0 := Lib.hid (HGS2.out _ _ HGT.out HGT2.out)
                              have HIAB := Lib.hid (HRN2.out _ _ HGT.out HGT2.out)
                              generalize table[j] = a8 at ha8 HGN0 HIAB
                              generalize table[pb] = b8' at hb8 HGN0 HIAB
                              obtain ⟨l, hl⟩ : ∃ l : Nat, last = (l : Int) := ⟨last.toNat, by have := HLI.out; omega⟩
                              subst hl
                              have hlc : l < cj.length := by have := HLI.out; have := HCLL.out; omega
                              have hnr0 : IntKind.i64.wrap ((row.length : Int) - 1) = (nr : Int) := by have := HNR.out; rw [IntKind.wrap_i64]; omega
                              have hnr1 : (nr : Int) < (row.length : Int) := by have := HNR.out; omega
                              have HOVI := Lib.hid (HOV.out.keep hbi)
                              have HOJI := Lib.hid (HOJ.out.keep hbi)
                              have HGKI := Lib.hid (HGK.out.below hbi)
                              clear hbi hls hoi hpb
                              go_wp2_with fail
                              refine wp_region_held_drew (S := (fun w' => w'.cell? ⟨w.heap.size + 1, 0, none⟩ = some (.slice (some ⟨b5, o5, none⟩) m.sizes.length cma) ∧ w'.cell? ⟨w.heap.size + 1, 1, none⟩ = some (.slice (some ⟨bm, om, none⟩) m.tables.length cmb) ∧ w'.cell? ⟨bm, om + k, none⟩ = some (.slice (some ⟨b8, o8, none⟩) table.length dm) ∧ w'.cell? ⟨b8, o8 + j, none⟩ = some (.int .i64 a8))) (by kernel_rfl) ?_ (fun hHeld => ?_)
                              · exact ⟨g2, g3, gm, ha8⟩
                              refine wpAnyH_take (i := 0) (oi := _) (v := ?_) rfl (by kernel_rfl) (by kernel_rfl) (by kernel_rfl) (fun _ _ _ h => h) (Or.inl ⟨by rfl, ?_⟩) (by assumption) ?_
                              rotate_left
                              · first | (intro w' hSw; (try dsimp only at hSw); go_simp; done) | (intro w' hSw; (try dsimp only at hSw); go_simp; with_reducible rfl)
                              try simp only [Act.put, List.getElem_toArray, List.getElem_cons_zero, List.getElem_cons_succ, List.setIfInBounds_toArray, List.set_cons_zero, List.set_cons_succ]
                              refine wpAnyH_take (i := 1) (oi := _) (v := ?_) rfl (by kernel_rfl) (by kernel_rfl) (by kernel_rfl) (fun _ _ _ h => h) (Or.inl ⟨by rfl, ?_⟩) (by assumption) ?_
                              rotate_left
                              · first | (intro w' hSw; (try dsimp only at hSw); go_simp; done) | (intro w' hSw; (try dsimp only at hSw); go_simp; with_reducible rfl)
                              try simp only [Act.put, List.getElem_toArray, List.getElem_cons_zero, List.getElem_cons_succ, List.setIfInBounds_toArray, List.set_cons_zero, List.set_cons_succ]
                              refine wpAnyH_take (i := 2) (oi := _) (v := ?_) rfl (by kernel_rfl) (by kernel_rfl) (by kernel_rfl) (fun _ _ _ h => h) (Or.inl ⟨by rfl, ?_⟩) (by assumption) ?_
                              rotate_left
                              · first | (intro w' hSw; (try dsimp only at hSw); go_simp; done) | (intro w' hSw; (try dsimp only at hSw); go_simp; with_reducible rfl)
                              try simp only [Act.put, List.getElem_toArray, List.getElem_cons_zero, List.getElem_cons_succ, List.setIfInBounds_toArray, List.set_cons_zero, List.set_cons_succ]
                              refine wpAnyH_take (i := 3) (oi := _) (v := ?_) rfl (by kernel_rfl) (by kernel_rfl) (by kernel_rfl) (fun _ _ _ h => h) (Or.inl ⟨by rfl, ?_⟩) (by assumption) ?_
                              rotate_left
                              · first | (intro w' hSw; (try dsimp only at hSw); go_simp; done) | (intro w' hSw; (try dsimp only at hSw); go_simp; with_reducible rfl)
                              try simp only [Act.put, List.getElem_toArray, List.getElem_cons_zero, List.getElem_cons_succ, List.setIfInBounds_toArray, List.set_cons_zero, List.set_cons_succ]
                              refine wpAnyH_take (i := 4) (oi := _) (v := ?_) rfl (by kernel_rfl) (by kernel_rfl) (by kernel_rfl) (fun _ _ _ h => h) (Or.inl ⟨by rfl, ?_⟩) (by assumption) ?_
                              rotate_left
                              · first | (intro w' hSw; (try dsimp only at hSw); go_simp; done) | (intro w' hSw; (try dsimp only at hSw); go_simp; with_reducible rfl)
                              try simp only [Act.put, List.getElem_toArray, List.getElem_cons_zero, List.getElem_cons_succ, List.setIfInBounds_toArray, List.set_cons_zero, List.set_cons_succ]
                              refine wpAnyH_take (i := 5) (oi := _) (v := ?_) rfl (by kernel_rfl) (by kernel_rfl) (by kernel_rfl) (fun _ _ _ h => h) (Or.inl ⟨by rfl, ?_⟩) (by assumption) ?_
                              rotate_left
                              · first | (intro w' hSw; (try dsimp only at hSw); go_simp; done) | (intro w' hSw; (try dsimp only at hSw); go_simp; with_reducible rfl)
                              try simp only [Act.put, List.getElem_toArray, List.getElem_cons_zero, List.getElem_cons_succ, List.setIfInBounds_toArray, List.set_cons_zero, List.set_cons_succ]
                              refine wpAnyH_take (i := 6) (oi := _) (v := ?_) rfl (by kernel_rfl) (by kernel_rfl) (by kernel_rfl) (fun _ _ _ h => h) (Or.inl ⟨by rfl, ?_⟩) (by assumption) ?_
                              rotate_left
                              · first | (intro w' hSw; (try dsimp only at hSw); go_simp; done) | (intro w' hSw; (try dsimp only at hSw); go_simp; with_reducible rfl)
                              try simp only [Act.put, List.getElem_toArray, List.getElem_cons_zero, List.getElem_cons_succ, List.setIfInBounds_toArray, List.set_cons_zero, List.set_cons_succ]
                              refine wpAnyH_take (i := 7) (oi := _) (v := ?_) rfl (by kernel_rfl) (by kernel_rfl) (by kernel_rfl) (fun _ _ _ h => h) (Or.inl ⟨by rfl, ?_⟩) (by assumption) ?_
                              rotate_left
                              · first | (intro w' hSw; (try dsimp only at hSw); go_simp; done) | (intro w' hSw; (try dsimp only at hSw); go_simp; with_reducible rfl)
                              try simp only [Act.put, List.getElem_toArray, List.getElem_cons_zero, List.getElem_cons_succ, List.setIfInBounds_toArray, List.set_cons_zero, List.set_cons_succ]
                              refine wpAnyH_take (i := 8) (oi := _) (v := ?_) rfl (by kernel_rfl) (by kernel_rfl) (by kernel_rfl) (fun _ _ _ h => h) (Or.inl ⟨by rfl, ?_⟩) (by assumption) ?_
                              rotate_left
                              · first | (intro w' hSw; (try dsimp only at hSw); go_simp; done) | (intro w' hSw; (try dsimp only at hSw); go_simp; with_reducible rfl)
                              try simp only [Act.put, List.getElem_toArray, List.getElem_cons_zero, List.getElem_cons_succ, List.setIfInBounds_toArray, List.set_cons_zero, List.set_cons_succ]
                              refine wpAnyH_ready (rs := [9]) (by kernel_rfl) (by simp) ?_
                              refine AllReadyH.cons (o := _) rfl (fun K hK => ?_) AllReadyH.nil
                              go_simp
                              refine (HPA.out _ _ _ _ ds ((Hm.out.of.1.keep HKI.out).keep (map_drew (Below.refl _ _))) ((HRI.out.keep HKI.out).keep (map_drew (Below.refl _ _))) (HOVI.out.reads.keep (map_drew (Below.refl _ _))) HDI.out).mono ?_
                              rw [HPJ2.out]
                              rintro _ w7a ⟨rfl, hb7⟩
                              have hx7 := map_undrew hb7
                              have HX7a := Lib.hid hx7
                              have j2 := cell_keep hx7 g2
                              have j3 := cell_keep hx7 g3
                              have jm := cell_keep hx7 gm
                              have j8 := cell_keep hx7 ha8
                              clear hb7 hx7
                              go_wp2_with fail
                              refine hK.out _ _ ?_ (fun hHeld => ?_)
                              · exact ⟨j2, j3, jm, j8⟩
                              clear hK K
                              try simp only [Act.put, List.getElem_toArray, List.getElem_cons_zero, List.getElem_cons_succ, List.setIfInBounds_toArray, List.set_cons_zero, List.set_cons_succ]
                              refine wpAnyH_take (i := 10) (oi := _) (v := ?_) rfl (by kernel_rfl) (by kernel_rfl) (by kernel_rfl) (fun _ _ _ h => h) (Or.inl ⟨by rfl, ?_⟩) (by assumption) ?_
                              rotate_left
                              · first | (intro w' hSw; (try dsimp only at hSw); go_simp; done) | (intro w' hSw; (try dsimp only at hSw); go_simp; with_reducible rfl)
                              try simp only [Act.put, List.getElem_toArray, List.getElem_cons_zero, List.getElem_cons_succ, List.setIfInBounds_toArray, List.set_cons_zero, List.set_cons_succ]
                              refine wpAnyH_take (i := 11) (oi := _) (v := ?_) rfl (by kernel_rfl) (by kernel_rfl) (by kernel_rfl) (fun _ _ _ h => h) (Or.inl ⟨by rfl, ?_⟩) (by assumption) ?_
                              rotate_left
                              · first | (intro w' hSw; (try dsimp only at hSw); go_simp; done) | (intro w' hSw; (try dsimp only at hSw); go_simp; with_reducible rfl)
                              try simp only [Act.put, List.getElem_toArray, List.getElem_cons_zero, List.getElem_cons_succ, List.setIfInBounds_toArray, List.set_cons_zero, List.set_cons_succ]
                              refine wpAnyH_take (i := 12) (oi := _) (v := ?_) rfl (by kernel_rfl) (by kernel_rfl) (by kernel_rfl) (fun _ _ _ h => h) (Or.inl ⟨by rfl, ?_⟩) (by assumption) ?_
                              rotate_left
                              · first | (intro w' hSw; (try dsimp only at hSw); go_simp; done) | (intro w' hSw; (try dsimp only at hSw); go_simp; with_reducible rfl)
                              try simp only [Act.put, List.getElem_toArray, List.getElem_cons_zero, List.getElem_cons_succ, List.setIfInBounds_toArray, List.set_cons_zero, List.set_cons_succ]
                              refine wpAnyH_done (by kernel_rfl) ?_ _
                              
                              have hb8a := cell_keep HX7a.out hb8
                              replace HKI := Lib.hid (sz_keep HKI.out HX7a.out)
                              replace HLSO := Lib.hid (HLSO.out.keep HX7a.out)
                              replace HOVI := Lib.hid (HOVI.out.keep HX7a.out)
                              replace HOJI := Lib.hid (HOJI.out.keep HX7a.out)
                              replace HGKI := Lib.hid (HGKI.out.below HX7a.out)
                              replace gr := cell_keep HX7a.out gr
                              clear g2 g3 gm ha8 hb8
                              have g2 := j2
                              have g3 := j3
                              have gm := jm
                              clear j2 j3 jm j8
                              go_wp2_with fail
                              refine wp_region_held_drew (S := (fun w' => w'.cell? ⟨w.heap.size + 1, 0, none⟩ = some (.slice (some ⟨b5, o5, none⟩) m.sizes.length cma) ∧ w'.cell? ⟨w.heap.size + 1, 1, none⟩ = some (.slice (some ⟨bm, om, none⟩) m.tables.length cmb) ∧ w'.cell? ⟨bm, om + k, none⟩ = some (.slice (some ⟨b8, o8, none⟩) table.length dm) ∧ w'.cell? ⟨b8, o8 + pb, none⟩ = some (.int .i64 b8'))) (by kernel_rfl) ?_ (fun hHeld => ?_)
                              · exact ⟨g2, g3, gm, hb8a⟩
                              refine wpAnyH_take (i := 0) (oi := _) (v := ?_) rfl (by kernel_rfl) (by kernel_rfl) (by kernel_rfl) (fun _ _ _ h => h) (Or.inl ⟨by rfl, ?_⟩) (by assumption) ?_
                              rotate_left
                              · first | (intro w' hSw; (try dsimp only at hSw); go_simp; done) | (intro w' hSw; (try dsimp only at hSw); go_simp; with_reducible rfl)
                              try simp only [Act.put, List.getElem_toArray, List.getElem_cons_zero, List.getElem_cons_succ, List.setIfInBounds_toArray, List.set_cons_zero, List.set_cons_succ]
                              refine wpAnyH_take (i := 1) (oi := _) (v := ?_) rfl (by kernel_rfl) (by kernel_rfl) (by kernel_rfl) (fun _ _ _ h => h) (Or.inl ⟨by rfl, ?_⟩) (by assumption) ?_
                              rotate_left
                              · first | (intro w' hSw; (try dsimp only at hSw); go_simp; done) | (intro w' hSw; (try dsimp only at hSw); go_simp; with_reducible rfl)
                              try simp only [Act.put, List.getElem_toArray, List.getElem_cons_zero, List.getElem_cons_succ, List.setIfInBounds_toArray, List.set_cons_zero, List.set_cons_succ]
                              refine wpAnyH_take (i := 2) (oi := _) (v := ?_) rfl (by kernel_rfl) (by kernel_rfl) (by kernel_rfl) (fun _ _ _ h => h) (Or.inl ⟨by rfl, ?_⟩) (by assumption) ?_
                              rotate_left
                              · first | (intro w' hSw; (try dsimp only at hSw); go_simp; done) | (intro w' hSw; (try dsimp only at hSw); go_simp; with_reducible rfl)
                              try simp only [Act.put, List.getElem_toArray, List.getElem_cons_zero, List.getElem_cons_succ, List.setIfInBounds_toArray, List.set_cons_zero, List.set_cons_succ]
                              refine wpAnyH_take (i := 3) (oi := _) (v := ?_) rfl (by kernel_rfl) (by kernel_rfl) (by kernel_rfl) (fun _ _ _ h => h) (Or.inl ⟨by rfl, ?_⟩) (by assumption) ?_
                              rotate_left
                              · first | (intro w' hSw; (try dsimp only at hSw); go_simp; done) | (intro w' hSw; (try dsimp only at hSw); go_simp; with_reducible rfl)
                              try simp only [Act.put, List.getElem_toArray, List.getElem_cons_zero, List.getElem_cons_succ, List.setIfInBounds_toArray, List.set_cons_zero, List.set_cons_succ]
                              refine wpAnyH_take (i := 4) (oi := _) (v := ?_) rfl (by kernel_rfl) (by kernel_rfl) (by kernel_rfl) (fun _ _ _ h => h) (Or.inl ⟨by rfl, ?_⟩) (by assumption) ?_
                              rotate_left
                              · first | (intro w' hSw; (try dsimp only at hSw); go_simp; done) | (intro w' hSw; (try dsimp only at hSw); go_simp; with_reducible rfl)
                              try simp only [Act.put, List.getElem_toArray, List.getElem_cons_zero, List.getElem_cons_succ, List.setIfInBounds_toArray, List.set_cons_zero, List.set_cons_succ]
                              refine wpAnyH_take (i := 5) (oi := _) (v := ?_) rfl (by kernel_rfl) (by kernel_rfl) (by kernel_rfl) (fun _ _ _ h => h) (Or.inl ⟨by rfl, ?_⟩) (by assumption) ?_
                              rotate_left
                              · first | (intro w' hSw; (try dsimp only at hSw); go_simp; done) | (intro w' hSw; (try dsimp only at hSw); go_simp; with_reducible rfl)
                              try simp only [Act.put, List.getElem_toArray, List.getElem_cons_zero, List.getElem_cons_succ, List.setIfInBounds_toArray, List.set_cons_zero, List.set_cons_succ]
                              refine wpAnyH_take (i := 6) (oi := _) (v := ?_) rfl (by kernel_rfl) (by kernel_rfl) (by kernel_rfl) (fun _ _ _ h => h) (Or.inl ⟨by rfl, ?_⟩) (by assumption) ?_
                              rotate_left
                              · first | (intro w' hSw; (try dsimp only at hSw); go_simp; done) | (intro w' hSw; (try dsimp only at hSw); go_simp; with_reducible rfl)
                              try simp only [Act.put, List.getElem_toArray, List.getElem_cons_zero, List.getElem_cons_succ, List.setIfInBounds_toArray, List.set_cons_zero, List.set_cons_succ]
                              refine wpAnyH_take (i := 7) (oi := _) (v := ?_) rfl (by kernel_rfl) (by kernel_rfl) (by kernel_rfl) (fun _ _ _ h => h) (Or.inl ⟨by rfl, ?_⟩) (by assumption) ?_
                              rotate_left
                              · first | (intro w' hSw; (try dsimp only at hSw); go_simp; done) | (intro w' hSw; (try dsimp only at hSw); go_simp; with_reducible rfl)
                              try simp only [Act.put, List.getElem_toArray, List.getElem_cons_zero, List.getElem_cons_succ, List.setIfInBounds_toArray, List.set_cons_zero, List.set_cons_succ]
                              refine wpAnyH_take (i := 8) (oi := _) (v := ?_) rfl (by kernel_rfl) (by kernel_rfl) (by kernel_rfl) (fun _ _ _ h => h) (Or.inl ⟨by rfl, ?_⟩) (by assumption) ?_
                              rotate_left
                              · first | (intro w' hSw; (try dsimp only at hSw); go_simp; done) | (intro w' hSw; (try dsimp only at hSw); go_simp; with_reducible rfl)
                              try simp only [Act.put, List.getElem_toArray, List.getElem_cons_zero, List.getElem_cons_succ, List.setIfInBounds_toArray, List.set_cons_zero, List.set_cons_succ]
                              refine wpAnyH_ready (rs := [9]) (by kernel_rfl) (by simp) ?_
                              refine AllReadyH.cons (o := _) rfl (fun K hK => ?_) AllReadyH.nil
                              go_simp
                              refine (HPA.out _ _ _ _ ls ((Hm.out.of.1.keep HKI.out).keep (map_drew (Below.refl _ _))) ((HRI.out.keep HKI.out).keep (map_drew (Below.refl _ _))) (HLSO.out.keep (map_drew (Below.refl _ _))) HLIA.out).mono ?_
                              rw [HPB.out]
                              rintro _ w7b ⟨rfl, hb7⟩
                              have hx7 := map_undrew hb7
                              have HX7b := Lib.hid hx7
                              have j2 := cell_keep hx7 g2
                              have j3 := cell_keep hx7 g3
                              have jm := cell_keep hx7 gm
                              have j8 := cell_keep hx7 hb8a
                              clear hb7 hx7
                              go_wp2_with fail
                              refine hK.out _ _ ?_ (fun hHeld => ?_)
                              · exact ⟨j2, j3, jm, j8⟩
                              clear hK K
                              try simp only [Act.put, List.getElem_toArray, List.getElem_cons_zero, List.getElem_cons_succ, List.setIfInBounds_toArray, List.set_cons_zero, List.set_cons_succ]
                              refine wpAnyH_take (i := 10) (oi := _) (v := ?_) rfl (by kernel_rfl) (by kernel_rfl) (by kernel_rfl) (fun _ _ _ h => h) (Or.inl ⟨by rfl, ?_⟩) (by assumption) ?_
                              rotate_left
                              · first | (intro w' hSw; (try dsimp only at hSw); go_simp; done) | (intro w' hSw; (try dsimp only at hSw); go_simp; with_reducible rfl)
                              try simp only [Act.put, List.getElem_toArray, List.getElem_cons_zero, List.getElem_cons_succ, List.setIfInBounds_toArray, List.set_cons_zero, List.set_cons_succ]
                              refine wpAnyH_take (i := 11) (oi := _) (v := ?_) rfl (by kernel_rfl) (by kernel_rfl) (by kernel_rfl) (fun _ _ _ h => h) (Or.inl ⟨by rfl, ?_⟩) (by assumption) ?_
                              rotate_left
                              · first | (intro w' hSw; (try dsimp only at hSw); go_simp; done) | (intro w' hSw; (try dsimp only at hSw); go_simp; with_reducible rfl)
                              try simp only [Act.put, List.getElem_toArray, List.getElem_cons_zero, List.getElem_cons_succ, List.setIfInBounds_toArray, List.set_cons_zero, List.set_cons_succ]
                              refine wpAnyH_take (i := 12) (oi := _) (v := ?_) rfl (by kernel_rfl) (by kernel_rfl) (by kernel_rfl) (fun _ _ _ h => h) (Or.inl ⟨by rfl, ?_⟩) (by assumption) ?_
                              rotate_left
                              · first | (intro w' hSw; (try dsimp only at hSw); go_simp; done) | (intro w' hSw; (try dsimp only at hSw); go_simp; with_reducible rfl)
                              try simp only [Act.put, List.getElem_toArray, List.getElem_cons_zero, List.getElem_cons_succ, List.setIfInBounds_toArray, List.set_cons_zero, List.set_cons_succ]
                              refine wpAnyH_done (by kernel_rfl) ?_ _
                              
                              replace HOVI := Lib.hid (HOVI.out.keep HX7b.out)
                              replace HOJI := Lib.hid (HOJI.out.keep HX7b.out)
                              replace HGKI := Lib.hid (HGKI.out.below HX7b.out)
                              replace gr := cell_keep HX7b.out gr
                              clear g2 g3 gm hb8a j2 j3 jm j8
                              have hia := lens_in HCL.out.le HIAB.out.1
                              have hib := lens_in HCL.out.le HIAB.out.2
                              have hx0 := HIAB.out.1.2.2.1
                              have hy0 := HIAB.out.2.2.2.1
                              rw [Int.toNat_natCast, getD_at _ hlc] at hia hib
                              have hrl : cj[l].length ≤ 1000 := by
                                have a := HCL.out.le.2 l (by have := HCLL.out; omega)
                                rw [getD_at _ hlc] at a
                                have b := HF.out.sz _ (List.getElem_mem (show l < m.sizes.length by have := HCLL.out; omega))
                                omega
                              obtain ⟨gi, ci, hcell, hrow, hgi, hgil, hgig, hnew⟩ := HOJI.out.at_own2 hlc (by omega)
                              have hlq : l < cq.length := by rw [HGO.out.least.cls.le.1, ← HCLL.out]; exact hlc
                              have hlq2 : 0 < cq[l].length := by
                                have a := HGO.out.least.cls.le.2 l (by have := HCLL.out; omega)
                                rw [getD_at _ hlq] at a
                                have b := HF.out.sz _ (List.getElem_mem (show l < m.sizes.length by have := HCLL.out; omega))
                                omega
                              obtain ⟨z1, z2, z3⟩ := HGKI.out.inner HQ5.out HGW.out HOK2.out hlq hlq2 hcell
                              have HZZ := Lib.hid (And.intro z1 (And.intro z2 z3))
                              have HJ := Lib.hid (l6Join_any cj[l] l a8 b8' _ w2.heap.size g c0.length cg gi ci hcell hrow (Ne.symm hgig) (by have := HCLL.out; have := HSTL.out; omega) hrl hx0 (by omega) hy0 (by omega))
                              have HLO := Lib.hid (show (cj[l].getD a8.toNat 0 != cj[l].getD b8'.toNat 0) = (ledOne cj (l : Int) a8 != ledOne cj (l : Int) b8') by unfold ledOne; rw [Int.toNat_natCast, getD_at _ hlc])
                              have HNW := Lib.hid (show ∀ w5 : World, OInts w5 w2.heap.size (.slice (some ⟨gi, 0, none⟩) cj[l].length ci) (joinRow cj[l] a8 b8') → _ → ORows w5 w2.heap.size (.slice (some ⟨g, 0, none⟩) c0.length cg) (joinM cj (l : Int) a8 b8') from fun w5 a b => by
                                have := hnew w5 _ a b
                                unfold joinM
                                rw [Int.toNat_natCast, getD_at _ hlc]
                                exact this)
                              rw [HLO.out] at HJ
                              clear hia hib hrow hnew hrl hx0 hy0 hcell z1 z2 z3 hlq hlq2
                              go_wp2_with fail
                              refine HJ.out.mono ?_
                              rintro _ wz ⟨rfl, ho5, hg5⟩
                              have HOZ := Lib.hid (HNW.out wz ho5 hg5)
                              have HKZ := Lib.hid (HGKI.out.join hg5 HZZ.out.1 HZZ.out.2.1 HZZ.out.2.2)
                              have HG5 := Lib.hid (show gi < w5.heap.size by have := HQ5.out.size; have := HZZ.out; omega)
                              have HOVZ := Lib.hid (own_gr HOVI.out hg5 HG5.out)
                              have HPZ := Lib.hid (show ∀ (k gi n1 ci : Nat), k < (joinM cj (l : Int) a8 b8').length → wz.cell? ⟨g, k, none⟩ = some (.slice (some ⟨gi, 0, none⟩) n1 ci) → gi ≠ w5.heap.size from fun k2 gi2 n1 ci2 hk2 hc2 => by
                                rw [joinM_len] at hk2
                                have hkm : k2 < m.sizes.length := by have := HCLL.out; omega
                                have hkq : k2 < cq.length := by rw [HGO.out.least.cls.le.1]; exact hkm
                                have hkq2 : 0 < cq[k2].length := by
                                  have a := HGO.out.least.cls.le.2 k2 hkm
                                  rw [getD_at _ hkq] at a
                                  have b := HF.out.sz _ (List.getElem_mem hkm)
                                  omega
                                have := HKZ.out.inner HQ5.out HGW.out HOK2.out hkq hkq2 hc2
                                have := HQ5.out.size
                                omega)
                              clear ho5 hg5 gr HNW HJ HLO hgi hgil hgig hnr0 hnr1 hjt' hj0 hpbt' hpb0 hlc
                              cases hfl : (ledOne cj (l : Int) a8 != ledOne cj (l : Int) b8') with
                              | true =>
                                have HGN := Lib.hid HGN0.out
                                rw [hfl, Bool.or_true] at HGN
                                clear hfl
                                have HSMD := Lib.hid (dig_small HSA.out HDI.out)
                                go_wp2_with fail
                                refine (l4Next_is zs ds zs.length HDL.out w5.heap.size w5.heap.size zs.length _ _ HOVZ.out (by have := HDL.out; omega) HSMD.out (fun W' hg => ((HKZ.out.up hg (Nat.le_refl _)).own HO5.out (Nat.le_refl _)).reads) (by have := HDL.out; omega)).mono ?_
                                rw [HND.out]
                                simp only
                                have hdn : OInts wk w5.heap.size (.slice (some ⟨w5.heap.size, 0, none⟩) ds.length ds.length) ds := by rw [HDL.out]; exact HOV.out
                                have HM2 := Lib.hid (show leftM zs N w5.heap.size (.bool true) wk = N - j + 1 by
                                  unfold leftM
                                  simp only
                                  rw [readRow_own hdn, HPJ2.out]
                                  omega)
                                clear hdn
                                by_cases hlast : j + 1 < N
                                · have hflag := flag_yesS HN.out hlast
                                  rw [hflag]
                                  rintro _ w9 ⟨rfl, ho9, hg9, hz9⟩
                                  have HO9 := Lib.hid ho9
                                  have HG9 := Lib.hid (HKZ.out.up hg9 (Nat.le_refl _))
                                  have HOO9 := Lib.hid (HOZ.out.past hg9 (by have := HQ5.out.size; have := HGW.out; omega) HPZ.out)
                                  have hdn : OInts w9 w5.heap.size (.slice (some ⟨w5.heap.size, 0, none⟩) (digM zs ((j : Int) + 1)).length (digM zs ((j : Int) + 1)).length) (digM zs ((j : Int) + 1)) := by rw [digM_len]; exact ho9
                                  have HM1 := Lib.hid (show leftM zs N w5.heap.size (.bool true) w9 = N - (j + 1) + 1 by
                                    unfold leftM
                                    simp only
                                    rw [readRow_own hdn, place_dig HSA.out 0 ((j : Int) + 1) (by omega), HN.out, Int.emod_eq_of_lt (by omega) (by omega)]
                                    omega)
                                  clear ho9 hg9 hz9 hflag hdn
                                  go_wp2
                                  go_roundw
                                  case rel => exact ⟨true, j + 1, _, _, rfl, (fun _ => hlast), (fun h => absurd h (by simp)), rfl, HGN.out, HOO9.out, (fun _ => by have := HO9.out; simpa using this), HG9.out⟩
                                  case measure => rw [HM2.out, HM1.out]; omega
                                · have hflag := flag_noS HN.out (show j + 1 = N by omega)
                                  rw [hflag]
                                  rintro _ w9 ⟨rfl, ho9, hg9, hz9⟩
                                  have HG9 := Lib.hid (HKZ.out.up hg9 (Nat.le_refl _))
                                  have HOO9 := Lib.hid (HOZ.out.past hg9 (by have := HQ5.out.size; have := HGW.out; omega) HPZ.out)
                                  clear ho9 hg9 hz9 hflag
                                  go_wp2
                                  go_roundw
                                  case rel => exact ⟨false, j + 1, _, _, rfl, (fun h => absurd h (by simp)), (fun _ => by omega), rfl, HGN.out, HOO9.out, (fun h => absurd h (by simp)), HG9.out⟩
                                  case measure => rw [HM2.out]; unfold leftM; simp only; omega
                              | false =>
                                have HGN := Lib.hid HGN0.out
                                rw [hfl, Bool.or_false] at HGN
                                clear hfl
                                have HSMD := Lib.hid (dig_small HSA.out HDI.out)
                                go_wp2_with fail
                                refine (l4Next_is zs ds zs.length HDL.out w5.heap.size w5.heap.size zs.length _ _ HOVZ.out (by have := HDL.out; omega) HSMD.out (fun W' hg => ((HKZ.out.up hg (Nat.le_refl _)).own HO5.out (Nat.le_refl _)).reads) (by have := HDL.out; omega)).mono ?_
                                rw [HND.out]
                                simp only
                                have hdn : OInts wk w5.heap.size (.slice (some ⟨w5.heap.size, 0, none⟩) ds.length ds.length) ds := by rw [HDL.out]; exact HOV.out
                                have HM2 := Lib.hid (show leftM zs N w5.heap.size (.bool true) wk = N - j + 1 by
                                  unfold leftM
                                  simp only
                                  rw [readRow_own hdn, HPJ2.out]
                                  omega)
                                clear hdn
                                by_cases hlast : j + 1 < N
                                · have hflag := flag_yesS HN.out hlast
                                  rw [hflag]
                                  rintro _ w9 ⟨rfl, ho9, hg9, hz9⟩
                                  have HO9 := Lib.hid ho9
                                  have HG9 := Lib.hid (HKZ.out.up hg9 (Nat.le_refl _))
                                  have HOO9 := Lib.hid (HOZ.out.past hg9 (by have := HQ5.out.size; have := HGW.out; omega) HPZ.out)
                                  have hdn : OInts w9 w5.heap.size (.slice (some ⟨w5.heap.size, 0, none⟩) (digM zs ((j : Int) + 1)).length (digM zs ((j : Int) + 1)).length) (digM zs ((j : Int) + 1)) := by rw [digM_len]; exact ho9
                                  have HM1 := Lib.hid (show leftM zs N w5.heap.size (.bool true) w9 = N - (j + 1) + 1 by
                                    unfold leftM
                                    simp only
                                    rw [readRow_own hdn, place_dig HSA.out 0 ((j : Int) + 1) (by omega), HN.out, Int.emod_eq_of_lt (by omega) (by omega)]
                                    omega)
                                  clear ho9 hg9 hz9 hflag hdn
                                  go_wp2
                                  go_roundw
                                  case rel => exact ⟨true, j + 1, _, _, rfl, (fun _ => hlast), (fun h => absurd h (by simp)), rfl, HGN.out, HOO9.out, (fun _ => by have := HO9.out; simpa using this), HG9.out⟩
                                  case measure => rw [HM2.out, HM1.out]; omega
                                · have hflag := flag_noS HN.out (show j + 1 = N by omega)
                                  rw [hflag]
                                  rintro _ w9 ⟨rfl, ho9, hg9, hz9⟩
                                  have HG9 := Lib.hid (HKZ.out.up hg9 (Nat.le_refl _))
                                  have HOO9 := Lib.hid (HOZ.out.past hg9 (by have := HQ5.out.size; have := HGW.out; omega) HPZ.out)
                                  clear ho9 hg9 hz9 hflag
                                  go_wp2
                                  go_roundw
                                  case rel => exact ⟨false, j + 1, _, _, rfl, (fun h => absurd h (by simp)), (fun _ => by omega), rfl, HGN.out, HOO9.out, (fun h => absurd h (by simp)), HG9.out⟩
                                  case measure => rw [HM2.out]; unfold leftM; simp only; omega
                    · have hkn : k = s.ops.length := by omega
                      have hks' : ¬ (k : Int) < (s.ops.length : Int) := by omega
                      have HM1 := Lib.hid (restG_yes HOK2.out.reads)
                      cases fl with
                      | true =>
                        have HLS := Lib.hid (HGO.out.less rfl)
                        have HPO := Lib.hid (sum_pos HGO.out.least.cls)
                        clear f0 f1 f2 f3
                        have f1 := cell_keep HDW.out HCX.out.2.1
                        go_wp2
                        go_roundw
                        case rel => exact ⟨true, cq, rfl, HOK2.out, HDW.out, fun _ => HGO.out.least, fun h => by cases h⟩
                        case measure => rw [HM0.out, HM1.out]; have := HLS.out; have := HPO.out; omega
                      | false =>
                        obtain ⟨q1, q2⟩ := HGO.out.end_ hkn
                        have HSI := Lib.hid (same_is HOK.out q1 q2)
                        clear q1 q2
                        go_wp2
                        go_roundw
                        case rel => exact ⟨false, cq, rfl, HOK2.out, HDW.out, (fun h => by cases h), fun _ => HSI.out⟩
                        case measure => rw [HM0.out, restG_no]; omega
end
end Go.Proofs.Yticldaddbljleaa
