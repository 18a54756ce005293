/- FnValueOf answers true at every slice of bytes. No condition. -/
import Derived.Test.YticldaddbljleaaKce8dbba0
namespace Go.Proofs.Yticldaddbljleaa
open Go.ChangeShapes Go.WideShapes Go.ChangeAt Go.RowKit
set_option linter.unusedVariables false
set_option linter.unusedSimpArgs false

theorem lit1v (w : World) (x : Int) : OInts (w.alloc (.cells #[.int .i64 x] 3)) w.heap.size (.slice (some ⟨w.heap.size, 0, none⟩) 1 1) [x] :=
  ⟨by simp, .inr ⟨w.heap.size, 1, _, rfl, Nat.le_refl _, heap_alloc_new w _, Nat.le_refl _, by rw [maxLen_eq]; omega, by simp, by simp⟩⟩
theorem bel_moreV {a b c : World} {row : Option Nat} (hb : Below a.heap.size a b) (hg : b.grownBy c row) (hr : ∀ k, row = some k → a.heap.size ≤ k) : Below a.heap.size a c :=
  ⟨hg.os.trans hb.os, hg.tape.trans hb.tape, hg.output.trans hb.output, Nat.le_trans hb.size hg.size, fun k hk => (hg.block k (Nat.lt_of_lt_of_le hk hb.size) (fun e => by have := hr k e.symm; omega)).trans (hb.block k hk)⟩
theorem grw {w w' : World} {r : Option Nat} (h : w.drew.grownBy w' r) : w.grownBy w' r := ⟨h.os, h.tape, h.output, h.size, h.block⟩
theorem step_append_run {P : Program} {ops : Array Oper} {o : Oper} {a : Act} {w w' : World} {v' : Value} {K : Act → World → Prop} {Q : Exit → Act → World → Prop} {E : Prop} {t1 t2 : TypeId} {v1 v2 : Value} {ty : TypeId} (hgd : o.guard = none) (s x : Operand) (hs : a.eval s = v1) (hx : a.eval x = v2) (hty : o.type = ty)
    (ho : o.op = .call { callee := .builtin .append, args := #[s, x], argTypes := #[t1, t2] }) (hr : (Builtin.append_ #[t1, t2] ty #[v1, v2]).run P w = .ok v' w')
    (h : K (a.put o.dst v') w') : if Region.wanted o (yielded ops a.tmps) = true then Oper.wp P o a w K Q else E := by
  have hw : Region.wanted o (yielded ops a.tmps) = true := by simp [Region.wanted, hgd]
  rw [if_pos hw]
  unfold Oper.wp execOp
  simp only [ho, resolve, invoke, builtin, Sem.run_bind, Sem.run_pure, Result.andThen_ok, List.map_toArray, List.map_cons, List.map_nil, hs, hx, hty, hr]
  exact h
theorem value_neg {s : MSig} {m : MModel} {vars t vals : List Int} (h : valueM s m vars t vals < 0) : valueM s m vars t vals = -1 := by
  rcases Int.lt_or_le (valueM s m vars t vals) 0 with h0 | h0
  · unfold valueM at h0 ⊢
    cases ht : termM s vars t with
    | none => rfl
    | some tm =>
      rw [ht] at h0
      simp only at h0 ⊢
      by_cases hvb : valsB s m vars vals = true
      · rw [if_pos hvb] at h0
        obtain ⟨hv1, hm1, hvo⟩ := vals_facts hvb
        obtain ⟨-, h30, hw, -⟩ := termM_to ht
        have := (valT_in (model_facts hm1) hvo tm hw).1
        omega
      · rw [if_neg hvb]
  · omega
theorem value_letters {s : MSig} {m : MModel} {vars t vals : List Int} (h : 0 ≤ valueM s m vars t vals) : t.length ≤ 30 ∧ vars.length ≤ 4 ∧ vals.length = vars.length := by
  unfold valueM at h
  cases ht : termM s vars t with
  | none => rw [ht] at h; simp at h
  | some tm =>
    rw [ht] at h
    simp only at h
    by_cases hvb : valsB s m vars vals = true
    · obtain ⟨hv1, hm1, hvo⟩ := vals_facts hvb
      obtain ⟨-, h30, hw, -⟩ := termM_to ht
      exact ⟨h30, (vars_valid hv1).2.1, hvo.1⟩
    · rw [if_neg hvb] at h; omega
set_option maxHeartbeats 40000000 in
set_option maxRecDepth 100000 in
theorem walk_FnValueOf (v : Value) (bs : List Int) (w : World) (h : RBytes w w.heap.size v bs) :
    Calls Try.prog 3 #[v] w fun e w' => e = .returned (.bool true) ∧ Below w.heap.size w w' := by
  have HW := Lib.hid h
  obtain ⟨A, c, rfl, hc1, hc2, -⟩ := h
  rw [maxLen_eq] at hc2
  by_cases hl : 1048576 < bs.length
  · go_enter Try.func3, Try.ntmps3
    go_wp2
    go_ret
    exact ⟨rfl, Below.refl _ _⟩
  go_enter Try.func3, Try.ntmps3
  go_wp2_with fail
  refine (drawValueOf_any _ bs _ HW.out).mono ?_
  rintro e w1 ⟨sv, mv, vv, tv, lv, s, m, vars, t, vals, rfl, hh1, hh2, hv, hvl, ht, hst, hlv, hll, hb1⟩
  have HLLN := Lib.hid hll
  have HVLN := Lib.hid hvl
  clear hll hvl
  have HB1 := Lib.hid hb1
  have HST := Lib.hid hst
  obtain ⟨Av, cv, rfl, -⟩ := hv.form
  obtain ⟨At, ct, rfl, hct1, hct2⟩ := ht.form
  obtain ⟨Al, cl, rfl, -⟩ := hlv.form
  have HVV0 := Lib.hid hv
  have HTT0 := Lib.hid ht
  have HLL0 := Lib.hid hlv
  clear hb1 hst hv ht hlv
  obtain ⟨Asa, csa, rfl⟩ := hh1.form
  obtain ⟨Ama, cma, Amb, cmb, rfl⟩ := hh2.form
  have hb : Below w1.heap.size w1 ((w1.alloc (.cells #[.int .i64 s.sorts, .slice Asa s.ops.length csa] 25)).alloc (.cells #[.slice Ama m.sizes.length cma, .slice Amb m.tables.length cmb] 28)) := (below_alloc _ _).alloc (by simp) _
  have HB := Lib.hid hb
  have hsz : ((w1.alloc (.cells #[.int .i64 s.sorts, .slice Asa s.ops.length csa] 25)).alloc (.cells #[.slice Ama m.sizes.length cma, .slice Amb m.tables.length cmb] 28)).heap.size = w1.heap.size + 2 := by simp
  have Hs := Lib.hid (hh1.keep hb)
  have s0 := cell_keep (below_alloc (w1.alloc (.cells #[.int .i64 s.sorts, .slice Asa s.ops.length csa] 25)) (.cells #[.slice Ama m.sizes.length cma, .slice Amb m.tables.length cmb] 28)) (bx_at (w1) #[.int .i64 s.sorts, .slice Asa s.ops.length csa] 25 (k := 0) rfl)
  have s1 := cell_keep (below_alloc (w1.alloc (.cells #[.int .i64 s.sorts, .slice Asa s.ops.length csa] 25)) (.cells #[.slice Ama m.sizes.length cma, .slice Amb m.tables.length cmb] 28)) (bx_at (w1) #[.int .i64 s.sorts, .slice Asa s.ops.length csa] 25 (k := 1) rfl)
  have Hm := Lib.hid (hh2.keep hb)
  have m0 := bx_at (w1.alloc (.cells #[.int .i64 s.sorts, .slice Asa s.ops.length csa] 25)) #[.slice Ama m.sizes.length cma, .slice Amb m.tables.length cmb] 28 (k := 0) rfl
  have m1 := bx_at (w1.alloc (.cells #[.int .i64 s.sorts, .slice Asa s.ops.length csa] 25)) #[.slice Ama m.sizes.length cma, .slice Amb m.tables.length cmb] 28 (k := 1) rfl
  simp only [World.size_alloc] at m0 m1
  generalize hW : (w1.alloc (.cells #[.int .i64 s.sorts, .slice Asa s.ops.length csa] 25)).alloc (.cells #[.slice Ama m.sizes.length cma, .slice Amb m.tables.length cmb] 28) = W at HB hsz Hs s0 s1 Hm m0 m1
  clear hb hh1 hh2
  have HVV := Lib.hid (HVV0.out.keep HB.out)
  have HTT := Lib.hid (HTT0.out.keep HB.out)
  have HLL := Lib.hid (HLL0.out.keep HB.out)
  obtain ⟨v, hv⟩ : ∃ v, valueM s m vars t vals = v := ⟨_, rfl⟩
  have HV := Lib.hid hv
  have hvv : (v != v) = false := by simp
  clear hv hsz
  go_wp2_with fail
  clear hW
  refine (valueOf_any s m vars t vals _ _ _ _ _ _ HST.out Hs.out Hm.out HVV.out HTT.out HLL.out).mono ?_
  rw [HV.out]
  rintro e w2 ⟨rfl, hb⟩
  replace HB := Lib.hid (sz_keep HB.out hb)
  replace s0 := cell_keep hb s0
  replace s1 := cell_keep hb s1
  replace m0 := cell_keep hb m0
  replace m1 := cell_keep hb m1
  replace Hs := Lib.hid (Hs.out.keep hb)
  replace Hm := Lib.hid (Hm.out.keep hb)
  replace HVV := Lib.hid (HVV.out.keep hb)
  replace HTT := Lib.hid (HTT.out.keep hb)
  replace HLL := Lib.hid (HLL.out.keep hb)
  clear hb
  go_wp2_with fail
  refine (specValueOf_any s m vars t vals _ _ _ _ _ _ Hs.out Hm.out HVV.out HTT.out HLL.out).mono ?_
  rw [HV.out]
  rintro e w3 ⟨rfl, hb⟩
  replace HB := Lib.hid (sz_keep HB.out hb)
  replace s0 := cell_keep hb s0
  replace s1 := cell_keep hb s1
  replace m0 := cell_keep hb m0
  replace m1 := cell_keep hb m1
  replace Hs := Lib.hid (Hs.out.keep hb)
  replace Hm := Lib.hid (Hm.out.keep hb)
  replace HVV := Lib.hid (HVV.out.keep hb)
  replace HTT := Lib.hid (HTT.out.keep hb)
  replace HLL := Lib.hid (HLL.out.keep hb)
  clear hb
  by_cases hneg : v < 0
  · have hm1 : v = -1 := by
      have h1 := HV.out
      have h2 := value_neg (s := s) (m := m) (vars := vars) (t := t) (vals := vals) (by omega)
      omega
    subst hm1
    clear hneg hvv s0 s1 m0 m1
    go_wp2_with fail
    refine (alive_any _).mono ?_
    rintro z w9 ⟨rfl, hb⟩
    replace HB := Lib.hid (sz_keep HB.out hb)
    clear hb
    go_wp2
    go_ret
    exact ⟨rfl, sz_keep HB1.out HB.out⟩
  have hv0 : 0 ≤ v := by omega
  obtain ⟨so0, hso0, hsk, hlt0⟩ := value_in (s := s) (m := m) (vars := vars) (t := t) (vals := vals) (by rw [HV.out]; exact hv0)
  rw [HV.out] at hlt0
  obtain ⟨ht30, hv4, hvlen⟩ := value_letters (s := s) (m := m) (vars := vars) (t := t) (vals := vals) (by rw [HV.out]; exact hv0)
  have HSO := Lib.hid hso0
  have HVL := Lib.hid hvlen
  clear hso0 hvlen
  go_wp2_with fail
  refine (specTermSort_any s vars t _ _ _ _ Hs.out HVV.out HTT.out).mono ?_
  rw [HSO.out]
  rintro e w4 ⟨rfl, hb⟩
  replace HB := Lib.hid (sz_keep HB.out hb)
  replace s0 := cell_keep hb s0
  replace s1 := cell_keep hb s1
  replace m0 := cell_keep hb m0
  replace m1 := cell_keep hb m1
  replace Hs := Lib.hid (Hs.out.keep hb)
  replace Hm := Lib.hid (Hm.out.keep hb)
  replace HVV := Lib.hid (HVV.out.keep hb)
  replace HTT := Lib.hid (HTT.out.keep hb)
  replace HLL := Lib.hid (HLL.out.keep hb)
  clear hb
  have HC := Lib.hid (And.intro s0 (And.intro s1 (And.intro m0 m1)))
  have hle4 : t.length ≤ 30 := ht30
  clear s0 s1 m0 m1
  go_wp2
  go_loopw [10, 11, 12, 13, 14, 15] (fun i s11 s12 s13 s14 s15 wr => ∃ k : Nat, k ≤ t.length ∧ i = .int .i64 k ∧ Below w4.heap.size w4 wr) (fun i _ _ _ _ _ _ => t.length - (intOf i).toNat)
  case atStart => exact ⟨0, Nat.zero_le _, rfl, Below.refl _ _⟩
  case round =>
    obtain ⟨k, hk, rfl, hd⟩ := hrel
    have HD := Lib.hid hd
    have s0 := cell_keep hd HC.out.1
    have s1 := cell_keep hd HC.out.2.1
    have m0 := cell_keep hd HC.out.2.2.1
    have m1 := cell_keep hd HC.out.2.2.2
    replace Hs := Lib.hid (Hs.out.keep hd)
    replace Hm := Lib.hid (Hm.out.keep hd)
    replace HVV := Lib.hid (HVV.out.keep hd)
    replace HTT := Lib.hid (HTT.out.keep hd)
    replace HLL := Lib.hid (HLL.out.keep hd)
    by_cases hgo : k < t.length ∧ vars.length < 4
    · obtain ⟨hlt, hv3⟩ := hgo
      have hlt' : (k : Int) < (t.length : Int) := by omega
      have hv3' : (vars.length : Int) < 4 := by omega
      obtain ⟨p, so, x, hat, hpne, hp30, hsp, hso1, hso2, hxv, hx0, hx3, o, hsw, hvo⟩ := value_part (s := s) (m := m) (vars := vars) (t := t) (vals := vals) (by rw [HV.out]; exact hv0) hlt hv3
      rw [HV.out] at hvo
      have HSP := Lib.hid (show Small p by rw [← hat]; exact at_small HST.out)
      have HSO1 := Lib.hid (show Small o by
        have h := swapM_small (s := s) (vars := vars ++ [so]) (t := t) (a := (k : Int)) (u := [100 + (vars.length : Int)]) HST.out (fun y hy => by simp at hy; omega)
        rw [hsw] at h; exact h)
      have HAT := Lib.hid hat
      have HSORT := Lib.hid hsp
      have HXV := Lib.hid hxv
      have HSW := Lib.hid hsw
      have HVO := Lib.hid hvo
      clear hd hat hpne hsp hxv hsw hvo
      go_wp2_with fail
      refine (termAt_any s vars t _ _ _ _ _ HST.out Hs.out HVV.out HTT.out).mono ?_
      rw [HAT.out]
      rintro e w5 ⟨u, rfl, hop, hb⟩
      obtain ⟨Ap, cp, rfl, -⟩ := own_reads hop
      have HPP := Lib.hid hop.reads
      replace HD := Lib.hid (sz_keep HD.out hb)
      replace s0 := cell_keep hb s0
      replace s1 := cell_keep hb s1
      replace m0 := cell_keep hb m0
      replace m1 := cell_keep hb m1
      replace Hs := Lib.hid (Hs.out.keep hb)
      replace Hm := Lib.hid (Hm.out.keep hb)
      replace HVV := Lib.hid (HVV.out.keep hb)
      replace HTT := Lib.hid (HTT.out.keep hb)
      replace HLL := Lib.hid (HLL.out.keep hb)
      clear hb hop
      go_wp2_with fail
      have s0_a := s0
      have s1_a := s1
      have m0_a := m0
      have m1_a := m1
      have Hs_a := Hs
      have Hm_a := Hm
      have HVV_a := HVV
      have HTT_a := HTT
      have HLL_a := HLL
      have HPP_a := HPP
      refine wp_region_held_drew (S := (fun w' => w'.cell? ⟨w1.heap.size, 0, none⟩ = some (.int .i64 s.sorts) ∧ w'.cell? ⟨w1.heap.size, 1, none⟩ = some (.slice Asa s.ops.length csa) ∧ w'.cell? ⟨w1.heap.size + 1, 0, none⟩ = some (.slice Ama m.sizes.length cma) ∧ w'.cell? ⟨w1.heap.size + 1, 1, none⟩ = some (.slice Amb m.tables.length cmb))) (by kernel_rfl) ?_ (fun hHeld => ?_)
      · exact ⟨s0, s1, m0, m1⟩
      refine wpAnyH_take (i := 1) (oi := _) (v := ?_) rfl (by kernel_rfl) (by kernel_rfl) (by kernel_rfl) (fun _ _ _ h => h) (Or.inl ⟨by rfl, ?_⟩) (by assumption) ?_
      rotate_left
      · first | (intro w' hSw; (try dsimp only at hSw); go_simp; done) | (intro w' hSw; (try dsimp only at hSw); go_simp; with_reducible rfl)
      try simp only [Act.put, List.getElem_toArray, List.getElem_cons_zero, List.getElem_cons_succ, List.setIfInBounds_toArray, List.set_cons_zero, List.set_cons_succ]
      refine wpAnyH_take (i := 3) (oi := _) (v := ?_) rfl (by kernel_rfl) (by kernel_rfl) (by kernel_rfl) (fun _ _ _ h => h) (Or.inl ⟨by rfl, ?_⟩) (by assumption) ?_
      rotate_left
      · first | (intro w' hSw; (try dsimp only at hSw); go_simp; done) | (intro w' hSw; (try dsimp only at hSw); go_simp; with_reducible rfl)
      try simp only [Act.put, List.getElem_toArray, List.getElem_cons_zero, List.getElem_cons_succ, List.setIfInBounds_toArray, List.set_cons_zero, List.set_cons_succ]
      refine wpAnyH_take (i := 4) (oi := _) (v := ?_) rfl (by kernel_rfl) (by kernel_rfl) (by kernel_rfl) (fun _ _ _ h => h) (Or.inl ⟨by rfl, ?_⟩) (by assumption) ?_
      rotate_left
      · first | (intro w' hSw; (try dsimp only at hSw); go_simp; done) | (intro w' hSw; (try dsimp only at hSw); go_simp; with_reducible rfl)
      try simp only [Act.put, List.getElem_toArray, List.getElem_cons_zero, List.getElem_cons_succ, List.setIfInBounds_toArray, List.set_cons_zero, List.set_cons_succ]
      refine wpAnyH_take (i := 5) (oi := _) (v := ?_) rfl (by kernel_rfl) (by kernel_rfl) (by kernel_rfl) (fun _ _ _ h => h) (Or.inl ⟨by rfl, ?_⟩) (by assumption) ?_
      rotate_left
      · first | (intro w' hSw; (try dsimp only at hSw); go_simp; done) | (intro w' hSw; (try dsimp only at hSw); go_simp; with_reducible rfl)
      try simp only [Act.put, List.getElem_toArray, List.getElem_cons_zero, List.getElem_cons_succ, List.setIfInBounds_toArray, List.set_cons_zero, List.set_cons_succ]
      refine wpAnyH_ready (rs := [0]) (by kernel_rfl) (by simp) ?_
      refine AllReadyH.cons (o := _) rfl (fun K hK => ?_) AllReadyH.nil
      go_simp
      have hb := below_alloc w5 (.cells #[] 3)
      have hn := own_empty w5
      generalize hWA : w5.alloc (.cells #[] 3) = waa at hb hn ⊢
      clear hWA
      have HNa := Lib.hid hn
      have HXa := Lib.hid hb
      replace s0 := cell_keep HXa.out s0_a
      replace s1 := cell_keep HXa.out s1_a
      replace m0 := cell_keep HXa.out m0_a
      replace m1 := cell_keep HXa.out m1_a
      replace Hs := Lib.hid (Hs_a.out.keep HXa.out)
      replace Hm := Lib.hid (Hm_a.out.keep HXa.out)
      replace HVV := Lib.hid (HVV_a.out.keep HXa.out)
      replace HTT := Lib.hid (HTT_a.out.keep HXa.out)
      replace HLL := Lib.hid (HLL_a.out.keep HXa.out)
      replace HPP := Lib.hid (HPP_a.out.keep HXa.out)
      clear hb hn
      refine hK.out _ _ ⟨s0, s1, m0, m1⟩ (fun hHeld => ?_)
      clear hK K
      try simp only [Act.put, List.getElem_toArray, List.getElem_cons_zero, List.getElem_cons_succ, List.setIfInBounds_toArray, List.set_cons_zero, List.set_cons_succ]
      refine wpAnyH_ready (rs := [2]) (by kernel_rfl) (by simp) ?_
      refine AllReadyH.cons (o := _) rfl (fun K hK => ?_) AllReadyH.nil
      obtain ⟨Aoa, coa, wba, hrun, hob, hgr⟩ := app_own_run waa.drew 26 w5.heap.size (.slice (some ⟨w5.heap.size, 0, none⟩) 0 0) (.slice Av vars.length cv) [] vars HNa.out HVV.out (by have := HVL.out; simp; omega) HXa.out.size
      refine step_append_run (v1 := .slice (some ⟨w5.heap.size, 0, none⟩) 0 0) (v2 := .slice Av vars.length cv) (ty := 26) (t1 := 26) (t2 := 26) rfl (.tmp 68) (.tmp 69) rfl rfl rfl rfl hrun ?_
      have HOa := Lib.hid (show OInts wba w5.heap.size (.slice Aoa vars.length coa) vars from hob)
      replace HXa := Lib.hid (bel_moreV HXa.out (grw hgr) (fun k e => (own_lt HNa.out k e).1))
      replace s0 := cell_keep HXa.out s0_a
      replace s1 := cell_keep HXa.out s1_a
      replace m0 := cell_keep HXa.out m0_a
      replace m1 := cell_keep HXa.out m1_a
      replace Hs := Lib.hid (Hs_a.out.keep HXa.out)
      replace Hm := Lib.hid (Hm_a.out.keep HXa.out)
      replace HVV := Lib.hid (HVV_a.out.keep HXa.out)
      replace HTT := Lib.hid (HTT_a.out.keep HXa.out)
      replace HLL := Lib.hid (HLL_a.out.keep HXa.out)
      replace HPP := Lib.hid (HPP_a.out.keep HXa.out)
      clear hob hrun hgr
      refine hK.out _ _ ⟨s0, s1, m0, m1⟩ (fun hHeld => ?_)
      clear hK K
      try simp only [Act.put, List.getElem_toArray, List.getElem_cons_zero, List.getElem_cons_succ, List.setIfInBounds_toArray, List.set_cons_zero, List.set_cons_succ]
      refine wpAnyH_ready (rs := [6]) (by kernel_rfl) (by simp) ?_
      refine AllReadyH.cons (o := _) rfl (fun K hK => ?_) AllReadyH.nil
      go_simp
      refine (termSort_any s vars p _ _ _ _ HSP.out Hs.out HVV.out HPP.out).mono ?_
      rw [HSORT.out]
      rintro z wca ⟨rfl, hb⟩
      replace HOa := Lib.hid (HOa.out.keep hb)
      replace HXa := Lib.hid (sz_keep HXa.out hb)
      replace s0 := cell_keep HXa.out s0_a
      replace s1 := cell_keep HXa.out s1_a
      replace m0 := cell_keep HXa.out m0_a
      replace m1 := cell_keep HXa.out m1_a
      replace Hs := Lib.hid (Hs_a.out.keep HXa.out)
      replace Hm := Lib.hid (Hm_a.out.keep HXa.out)
      replace HVV := Lib.hid (HVV_a.out.keep HXa.out)
      replace HTT := Lib.hid (HTT_a.out.keep HXa.out)
      replace HLL := Lib.hid (HLL_a.out.keep HXa.out)
      replace HPP := Lib.hid (HPP_a.out.keep HXa.out)
      clear hb
      go_wp2_with fail
      refine hK.out _ _ ⟨s0, s1, m0, m1⟩ (fun hHeld => ?_)
      clear hK K
      try simp only [Act.put, List.getElem_toArray, List.getElem_cons_zero, List.getElem_cons_succ, List.setIfInBounds_toArray, List.set_cons_zero, List.set_cons_succ]
      refine wpAnyH_ready (rs := [7]) (by kernel_rfl) (by simp) ?_
      refine AllReadyH.cons (o := _) rfl (fun K hK => ?_) AllReadyH.nil
      go_simp
      have hb := below_alloc wca (.cells #[.int .i64 so] 3)
      have hn := lit1v wca so
      generalize hWA : wca.alloc (.cells #[.int .i64 so] 3) = wda at hb hn ⊢
      clear hWA
      have HLa := Lib.hid hn.reads
      replace HOa := Lib.hid (HOa.out.keep hb)
      replace HXa := Lib.hid (sz_keep HXa.out hb)
      replace s0 := cell_keep HXa.out s0_a
      replace s1 := cell_keep HXa.out s1_a
      replace m0 := cell_keep HXa.out m0_a
      replace m1 := cell_keep HXa.out m1_a
      replace Hs := Lib.hid (Hs_a.out.keep HXa.out)
      replace Hm := Lib.hid (Hm_a.out.keep HXa.out)
      replace HVV := Lib.hid (HVV_a.out.keep HXa.out)
      replace HTT := Lib.hid (HTT_a.out.keep HXa.out)
      replace HLL := Lib.hid (HLL_a.out.keep HXa.out)
      replace HPP := Lib.hid (HPP_a.out.keep HXa.out)
      clear hb hn
      refine hK.out _ _ ⟨s0, s1, m0, m1⟩ (fun hHeld => ?_)
      clear hK K
      try simp only [Act.put, List.getElem_toArray, List.getElem_cons_zero, List.getElem_cons_succ, List.setIfInBounds_toArray, List.set_cons_zero, List.set_cons_succ]
      refine wpAnyH_ready (rs := [8]) (by kernel_rfl) (by simp) ?_
      refine AllReadyH.cons (o := _) rfl (fun K hK => ?_) AllReadyH.nil
      obtain ⟨Ara, cra, wea, hrun, hob, hgr⟩ := app_own_run wda 26 w5.heap.size (.slice Aoa vars.length coa) (.slice (some ⟨wca.heap.size, 0, none⟩) 1 1) vars [so] HOa.out HLa.out (by have := HVL.out; simp; omega) HXa.out.size
      refine step_append_run (v1 := .slice Aoa vars.length coa) (v2 := .slice (some ⟨wca.heap.size, 0, none⟩) 1 1) (ty := 26) (t1 := 26) (t2 := 26) rfl (.tmp 70) (.tmp 75) rfl rfl rfl rfl hrun ?_
      replace HXa := Lib.hid (bel_moreV HXa.out hgr (fun k e => (own_lt HOa.out k e).1))
      have HRa := Lib.hid hob
      replace s0 := cell_keep HXa.out s0_a
      replace s1 := cell_keep HXa.out s1_a
      replace m0 := cell_keep HXa.out m0_a
      replace m1 := cell_keep HXa.out m1_a
      replace Hs := Lib.hid (Hs_a.out.keep HXa.out)
      replace Hm := Lib.hid (Hm_a.out.keep HXa.out)
      replace HVV := Lib.hid (HVV_a.out.keep HXa.out)
      replace HTT := Lib.hid (HTT_a.out.keep HXa.out)
      replace HLL := Lib.hid (HLL_a.out.keep HXa.out)
      replace HPP := Lib.hid (HPP_a.out.keep HXa.out)
      clear hob hrun hgr
      refine hK.out _ _ ⟨s0, s1, m0, m1⟩ (fun hHeld => ?_)
      clear hK K
      try simp only [Act.put, List.getElem_toArray, List.getElem_cons_zero, List.getElem_cons_succ, List.setIfInBounds_toArray, List.set_cons_zero, List.set_cons_succ]
      refine wpAnyH_take (i := 9) (oi := _) (v := ?_) rfl (by kernel_rfl) (by kernel_rfl) (by kernel_rfl) (fun _ _ _ h => h) (Or.inl ⟨by rfl, ?_⟩) (by assumption) ?_
      rotate_left
      · first | (intro w' hSw; (try dsimp only at hSw); go_simp; done) | (intro w' hSw; (try dsimp only at hSw); go_simp; with_reducible rfl)
      try simp only [Act.put, List.getElem_toArray, List.getElem_cons_zero, List.getElem_cons_succ, List.setIfInBounds_toArray, List.set_cons_zero, List.set_cons_succ]
      refine wpAnyH_done (by kernel_rfl) ?_ _
      clear s0_a s1_a m0_a m1_a Hs_a Hm_a HVV_a HTT_a HLL_a HPP_a
      replace HD := Lib.hid (sz_keep HD.out HXa.out)
      have HOT := Lib.hid (show RInts wea (.slice Ara (vars.length + 1) cra) (vars ++ [so]) from by have h := HRa.out.reads; rw [show (vars ++ [so]).length = vars.length + 1 by simp] at h; exact h)
      have hw100 : IntKind.i64.wrap (100 + (vars.length : Int)) = 100 + (vars.length : Int) := by rw [IntKind.wrap_i64]; omega
      have hb := below_alloc wea (.cells #[.int .i64 (100 + (vars.length : Int))] 3)
      have hn := lit1v wea (100 + (vars.length : Int))
      generalize hWB : wea.alloc (.cells #[.int .i64 (100 + (vars.length : Int))] 3) = w6 at hb hn
      have HLT := Lib.hid hn.reads
      replace HD := Lib.hid (sz_keep HD.out hb)
      replace HOT := Lib.hid (HOT.out.keep hb)
      replace s0 := cell_keep hb s0
      replace s1 := cell_keep hb s1
      replace m0 := cell_keep hb m0
      replace m1 := cell_keep hb m1
      replace Hs := Lib.hid (Hs.out.keep hb)
      replace Hm := Lib.hid (Hm.out.keep hb)
      replace HVV := Lib.hid (HVV.out.keep hb)
      replace HTT := Lib.hid (HTT.out.keep hb)
      replace HLL := Lib.hid (HLL.out.keep hb)
      replace HPP := Lib.hid (HPP.out.keep hb)
      clear hb hn HRa HNa HOa HLa HXa
      generalize hoth : vars ++ [so] = others at HOT HSW HVO
      have HOTH := Lib.hid hoth
      clear hoth
      go_wp2_with fail
      clear hWB
      refine (termSwap_any s others t _ [100 + (vars.length : Int)] _ _ _ _ _ HST.out (fun y hy => by simp at hy; omega) Hs.out HOT.out HTT.out HLT.out).mono ?_
      rw [HSW.out]
      rintro e w7 ⟨u7, rfl, hoo, hb⟩
      obtain ⟨Ao, co, rfl, -⟩ := own_reads hoo
      have HOO := Lib.hid hoo.reads
      replace HD := Lib.hid (sz_keep HD.out hb)
      replace HOT := Lib.hid (HOT.out.keep hb)
      replace s0 := cell_keep hb s0
      replace s1 := cell_keep hb s1
      replace m0 := cell_keep hb m0
      replace m1 := cell_keep hb m1
      replace Hs := Lib.hid (Hs.out.keep hb)
      replace Hm := Lib.hid (Hm.out.keep hb)
      replace HVV := Lib.hid (HVV.out.keep hb)
      replace HTT := Lib.hid (HTT.out.keep hb)
      replace HLL := Lib.hid (HLL.out.keep hb)
      replace HPP := Lib.hid (HPP.out.keep hb)
      clear hb hoo HLT
      go_wp2_with fail
      have s0_b := s0
      have s1_b := s1
      have m0_b := m0
      have m1_b := m1
      have Hs_b := Hs
      have Hm_b := Hm
      have HVV_b := HVV
      have HTT_b := HTT
      have HLL_b := HLL
      have HPP_b := HPP
      refine wp_region_held_drew (S := (fun w' => w'.cell? ⟨w1.heap.size, 0, none⟩ = some (.int .i64 s.sorts) ∧ w'.cell? ⟨w1.heap.size, 1, none⟩ = some (.slice Asa s.ops.length csa) ∧ w'.cell? ⟨w1.heap.size + 1, 0, none⟩ = some (.slice Ama m.sizes.length cma) ∧ w'.cell? ⟨w1.heap.size + 1, 1, none⟩ = some (.slice Amb m.tables.length cmb))) (by kernel_rfl) ?_ (fun hHeld => ?_)
      · exact ⟨s0, s1, m0, m1⟩
      refine wpAnyH_take (i := 1) (oi := _) (v := ?_) rfl (by kernel_rfl) (by kernel_rfl) (by kernel_rfl) (fun _ _ _ h => h) (Or.inl ⟨by rfl, ?_⟩) (by assumption) ?_
      rotate_left
      · first | (intro w' hSw; (try dsimp only at hSw); go_simp; done) | (intro w' hSw; (try dsimp only at hSw); go_simp; with_reducible rfl)
      try simp only [Act.put, List.getElem_toArray, List.getElem_cons_zero, List.getElem_cons_succ, List.setIfInBounds_toArray, List.set_cons_zero, List.set_cons_succ]
      refine wpAnyH_take (i := 3) (oi := _) (v := ?_) rfl (by kernel_rfl) (by kernel_rfl) (by kernel_rfl) (fun _ _ _ h => h) (Or.inl ⟨by rfl, ?_⟩) (by assumption) ?_
      rotate_left
      · first | (intro w' hSw; (try dsimp only at hSw); go_simp; done) | (intro w' hSw; (try dsimp only at hSw); go_simp; with_reducible rfl)
      try simp only [Act.put, List.getElem_toArray, List.getElem_cons_zero, List.getElem_cons_succ, List.setIfInBounds_toArray, List.set_cons_zero, List.set_cons_succ]
      refine wpAnyH_take (i := 4) (oi := _) (v := ?_) rfl (by kernel_rfl) (by kernel_rfl) (by kernel_rfl) (fun _ _ _ h => h) (Or.inl ⟨by rfl, ?_⟩) (by assumption) ?_
      rotate_left
      · first | (intro w' hSw; (try dsimp only at hSw); go_simp; done) | (intro w' hSw; (try dsimp only at hSw); go_simp; with_reducible rfl)
      try simp only [Act.put, List.getElem_toArray, List.getElem_cons_zero, List.getElem_cons_succ, List.setIfInBounds_toArray, List.set_cons_zero, List.set_cons_succ]
      refine wpAnyH_take (i := 5) (oi := _) (v := ?_) rfl (by kernel_rfl) (by kernel_rfl) (by kernel_rfl) (fun _ _ _ h => h) (Or.inl ⟨by rfl, ?_⟩) (by assumption) ?_
      rotate_left
      · first | (intro w' hSw; (try dsimp only at hSw); go_simp; done) | (intro w' hSw; (try dsimp only at hSw); go_simp; with_reducible rfl)
      try simp only [Act.put, List.getElem_toArray, List.getElem_cons_zero, List.getElem_cons_succ, List.setIfInBounds_toArray, List.set_cons_zero, List.set_cons_succ]
      refine wpAnyH_take (i := 6) (oi := _) (v := ?_) rfl (by kernel_rfl) (by kernel_rfl) (by kernel_rfl) (fun _ _ _ h => h) (Or.inl ⟨by rfl, ?_⟩) (by assumption) ?_
      rotate_left
      · first | (intro w' hSw; (try dsimp only at hSw); go_simp; done) | (intro w' hSw; (try dsimp only at hSw); go_simp; with_reducible rfl)
      try simp only [Act.put, List.getElem_toArray, List.getElem_cons_zero, List.getElem_cons_succ, List.setIfInBounds_toArray, List.set_cons_zero, List.set_cons_succ]
      refine wpAnyH_take (i := 7) (oi := _) (v := ?_) rfl (by kernel_rfl) (by kernel_rfl) (by kernel_rfl) (fun _ _ _ h => h) (Or.inl ⟨by rfl, ?_⟩) (by assumption) ?_
      rotate_left
      · first | (intro w' hSw; (try dsimp only at hSw); go_simp; done) | (intro w' hSw; (try dsimp only at hSw); go_simp; with_reducible rfl)
      try simp only [Act.put, List.getElem_toArray, List.getElem_cons_zero, List.getElem_cons_succ, List.setIfInBounds_toArray, List.set_cons_zero, List.set_cons_succ]
      refine wpAnyH_ready (rs := [0]) (by kernel_rfl) (by simp) ?_
      refine AllReadyH.cons (o := _) rfl (fun K hK => ?_) AllReadyH.nil
      go_simp
      have hb := below_alloc w7 (.cells #[] 3)
      have hn := own_empty w7
      generalize hWA : w7.alloc (.cells #[] 3) = wab at hb hn ⊢
      clear hWA
      have HNb := Lib.hid hn
      have HXb := Lib.hid hb
      replace s0 := cell_keep HXb.out s0_b
      replace s1 := cell_keep HXb.out s1_b
      replace m0 := cell_keep HXb.out m0_b
      replace m1 := cell_keep HXb.out m1_b
      replace Hs := Lib.hid (Hs_b.out.keep HXb.out)
      replace Hm := Lib.hid (Hm_b.out.keep HXb.out)
      replace HVV := Lib.hid (HVV_b.out.keep HXb.out)
      replace HTT := Lib.hid (HTT_b.out.keep HXb.out)
      replace HLL := Lib.hid (HLL_b.out.keep HXb.out)
      replace HPP := Lib.hid (HPP_b.out.keep HXb.out)
      clear hb hn
      refine hK.out _ _ ⟨s0, s1, m0, m1⟩ (fun hHeld => ?_)
      clear hK K
      try simp only [Act.put, List.getElem_toArray, List.getElem_cons_zero, List.getElem_cons_succ, List.setIfInBounds_toArray, List.set_cons_zero, List.set_cons_succ]
      refine wpAnyH_ready (rs := [2]) (by kernel_rfl) (by simp) ?_
      refine AllReadyH.cons (o := _) rfl (fun K hK => ?_) AllReadyH.nil
      obtain ⟨Aob, cob, wbb, hrun, hob, hgr⟩ := app_own_run wab.drew 26 w7.heap.size (.slice (some ⟨w7.heap.size, 0, none⟩) 0 0) (.slice Al vals.length cl) [] vals HNb.out HLL.out (by have := HVL.out; simp; omega) HXb.out.size
      refine step_append_run (v1 := .slice (some ⟨w7.heap.size, 0, none⟩) 0 0) (v2 := .slice Al vals.length cl) (ty := 26) (t1 := 26) (t2 := 26) rfl (.tmp 89) (.tmp 90) rfl rfl rfl rfl hrun ?_
      have HOb := Lib.hid (show OInts wbb w7.heap.size (.slice Aob vals.length cob) vals from hob)
      replace HXb := Lib.hid (bel_moreV HXb.out (grw hgr) (fun k e => (own_lt HNb.out k e).1))
      replace s0 := cell_keep HXb.out s0_b
      replace s1 := cell_keep HXb.out s1_b
      replace m0 := cell_keep HXb.out m0_b
      replace m1 := cell_keep HXb.out m1_b
      replace Hs := Lib.hid (Hs_b.out.keep HXb.out)
      replace Hm := Lib.hid (Hm_b.out.keep HXb.out)
      replace HVV := Lib.hid (HVV_b.out.keep HXb.out)
      replace HTT := Lib.hid (HTT_b.out.keep HXb.out)
      replace HLL := Lib.hid (HLL_b.out.keep HXb.out)
      replace HPP := Lib.hid (HPP_b.out.keep HXb.out)
      clear hob hrun hgr
      refine hK.out _ _ ⟨s0, s1, m0, m1⟩ (fun hHeld => ?_)
      clear hK K
      try simp only [Act.put, List.getElem_toArray, List.getElem_cons_zero, List.getElem_cons_succ, List.setIfInBounds_toArray, List.set_cons_zero, List.set_cons_succ]
      refine wpAnyH_ready (rs := [8]) (by kernel_rfl) (by simp) ?_
      refine AllReadyH.cons (o := _) rfl (fun K hK => ?_) AllReadyH.nil
      go_simp
      refine (valueOf_any s m vars p vals _ _ _ _ _ _ HSP.out Hs.out Hm.out HVV.out HPP.out HLL.out).mono ?_
      rw [HXV.out]
      rintro z wcb ⟨rfl, hb⟩
      replace HOb := Lib.hid (HOb.out.keep hb)
      replace HXb := Lib.hid (sz_keep HXb.out hb)
      replace s0 := cell_keep HXb.out s0_b
      replace s1 := cell_keep HXb.out s1_b
      replace m0 := cell_keep HXb.out m0_b
      replace m1 := cell_keep HXb.out m1_b
      replace Hs := Lib.hid (Hs_b.out.keep HXb.out)
      replace Hm := Lib.hid (Hm_b.out.keep HXb.out)
      replace HVV := Lib.hid (HVV_b.out.keep HXb.out)
      replace HTT := Lib.hid (HTT_b.out.keep HXb.out)
      replace HLL := Lib.hid (HLL_b.out.keep HXb.out)
      replace HPP := Lib.hid (HPP_b.out.keep HXb.out)
      clear hb
      go_wp2_with fail
      refine hK.out _ _ ⟨s0, s1, m0, m1⟩ (fun hHeld => ?_)
      clear hK K
      try simp only [Act.put, List.getElem_toArray, List.getElem_cons_zero, List.getElem_cons_succ, List.setIfInBounds_toArray, List.set_cons_zero, List.set_cons_succ]
      refine wpAnyH_ready (rs := [9]) (by kernel_rfl) (by simp) ?_
      refine AllReadyH.cons (o := _) rfl (fun K hK => ?_) AllReadyH.nil
      go_simp
      have hb := below_alloc wcb (.cells #[.int .i64 x] 3)
      have hn := lit1v wcb x
      generalize hWA : wcb.alloc (.cells #[.int .i64 x] 3) = wdb at hb hn ⊢
      clear hWA
      have HLb := Lib.hid hn.reads
      replace HOb := Lib.hid (HOb.out.keep hb)
      replace HXb := Lib.hid (sz_keep HXb.out hb)
      replace s0 := cell_keep HXb.out s0_b
      replace s1 := cell_keep HXb.out s1_b
      replace m0 := cell_keep HXb.out m0_b
      replace m1 := cell_keep HXb.out m1_b
      replace Hs := Lib.hid (Hs_b.out.keep HXb.out)
      replace Hm := Lib.hid (Hm_b.out.keep HXb.out)
      replace HVV := Lib.hid (HVV_b.out.keep HXb.out)
      replace HTT := Lib.hid (HTT_b.out.keep HXb.out)
      replace HLL := Lib.hid (HLL_b.out.keep HXb.out)
      replace HPP := Lib.hid (HPP_b.out.keep HXb.out)
      clear hb hn
      refine hK.out _ _ ⟨s0, s1, m0, m1⟩ (fun hHeld => ?_)
      clear hK K
      try simp only [Act.put, List.getElem_toArray, List.getElem_cons_zero, List.getElem_cons_succ, List.setIfInBounds_toArray, List.set_cons_zero, List.set_cons_succ]
      refine wpAnyH_ready (rs := [10]) (by kernel_rfl) (by simp) ?_
      refine AllReadyH.cons (o := _) rfl (fun K hK => ?_) AllReadyH.nil
      obtain ⟨Arb, crb, web, hrun, hob, hgr⟩ := app_own_run wdb 26 w7.heap.size (.slice Aob vals.length cob) (.slice (some ⟨wcb.heap.size, 0, none⟩) 1 1) vals [x] HOb.out HLb.out (by have := HVL.out; simp; omega) HXb.out.size
      refine step_append_run (v1 := .slice Aob vals.length cob) (v2 := .slice (some ⟨wcb.heap.size, 0, none⟩) 1 1) (ty := 26) (t1 := 26) (t2 := 26) rfl (.tmp 91) (.tmp 98) rfl rfl rfl rfl hrun ?_
      replace HXb := Lib.hid (bel_moreV HXb.out hgr (fun k e => (own_lt HOb.out k e).1))
      have HRb := Lib.hid hob
      replace s0 := cell_keep HXb.out s0_b
      replace s1 := cell_keep HXb.out s1_b
      replace m0 := cell_keep HXb.out m0_b
      replace m1 := cell_keep HXb.out m1_b
      replace Hs := Lib.hid (Hs_b.out.keep HXb.out)
      replace Hm := Lib.hid (Hm_b.out.keep HXb.out)
      replace HVV := Lib.hid (HVV_b.out.keep HXb.out)
      replace HTT := Lib.hid (HTT_b.out.keep HXb.out)
      replace HLL := Lib.hid (HLL_b.out.keep HXb.out)
      replace HPP := Lib.hid (HPP_b.out.keep HXb.out)
      clear hob hrun hgr
      refine hK.out _ _ ⟨s0, s1, m0, m1⟩ (fun hHeld => ?_)
      clear hK K
      try simp only [Act.put, List.getElem_toArray, List.getElem_cons_zero, List.getElem_cons_succ, List.setIfInBounds_toArray, List.set_cons_zero, List.set_cons_succ]
      refine wpAnyH_take (i := 11) (oi := _) (v := ?_) rfl (by kernel_rfl) (by kernel_rfl) (by kernel_rfl) (fun _ _ _ h => h) (Or.inl ⟨by rfl, ?_⟩) (by assumption) ?_
      rotate_left
      · first | (intro w' hSw; (try dsimp only at hSw); go_simp; done) | (intro w' hSw; (try dsimp only at hSw); go_simp; with_reducible rfl)
      try simp only [Act.put, List.getElem_toArray, List.getElem_cons_zero, List.getElem_cons_succ, List.setIfInBounds_toArray, List.set_cons_zero, List.set_cons_succ]
      refine wpAnyH_done (by kernel_rfl) ?_ _
      clear s0_b s1_b m0_b m1_b Hs_b Hm_b HVV_b HTT_b HLL_b HPP_b
      replace HD := Lib.hid (sz_keep HD.out HXb.out)
      have HGV := Lib.hid (show RInts web (.slice Arb (vals.length + 1) crb) (vals ++ [x]) from by have h := HRb.out.reads; rw [show (vals ++ [x]).length = vals.length + 1 by simp] at h; exact h)
      replace HOT := Lib.hid (HOT.out.keep HXb.out)
      replace HOO := Lib.hid (HOO.out.keep HXb.out)
      clear HRb HNb HOb HLb HXb
      generalize hgv : vals ++ [x] = given at HGV HVO
      clear hgv
      go_wp2_with fail
      refine (valueOf_any s m others o given _ _ _ _ _ _ HSO1.out Hs.out Hm.out HOT.out HOO.out HGV.out).mono ?_
      rw [HVO.out]
      rintro e w9 ⟨rfl, hb⟩
      replace HD := Lib.hid (sz_keep HD.out hb)
      clear hb s0 s1 m0 m1
      go_wp2
      go_roundw
      case rel => exact ⟨k + 1, by omega, by go_num, HD.out⟩
      case measure => simp [intOf]; omega
    · obtain ⟨b7, o7, c7, e7, hz⟩ := Hm.out.of.1.at_ hsk
      cases e7
      have hlt9 : v < m.sizes[so0] := hlt0
      have hkl : ((so0 : Nat) : Int).toNat < m.sizes.length := by omega
      generalize m.sizes[so0] = z at hz hlt9
      clear hlt0 hd
      by_cases hlt : k < t.length
      · have hlt' : (k : Int) < (t.length : Int) := by omega
        have hv3' : ¬ (vars.length : Int) < 4 := by omega
        go_wp2
        go_ret
        exact ⟨rfl, sz_keep HB1.out (sz_keep HB.out HD.out)⟩
      · have hlt' : ¬ (k : Int) < (t.length : Int) := by omega
        go_wp2
        go_ret
        exact ⟨rfl, sz_keep HB1.out (sz_keep HB.out HD.out)⟩

set_option maxRecDepth 100000 in
theorem lifted_FnValueOf (os : Os) (started : os.Started) (H : Type) (enc : TypeId × Value → H) :
    ReturnsInHanded {} Try.checked os 3 .any (Rows.fnValueOfSpec.pre6 enc Try.prog Try.f3 Rows.fnValueOfRow.domain false) (Rows.fnValueOfSpec.post enc Try.prog Try.f3 false true false false) := by
  refine returnsInHanded_of_change (C := Try.checked) own started (by kernel_rfl) Try.func3
    (ChangeSpec.witness6 (enc := enc) (C := Try.checked) false ⟨#[], #[.slice none 0 0], []⟩ 8 (by kernel_rfl) (by kernel_rfl) (by kernel_rfl) (by kernel_rfl)) ?_
  intro W base args ds gs before hval0 hW hcnd _
  have hval : ∀ (j : Nat) t v, Try.f3.params[j]? = some t → args[j]? = some v → Value.okWide Try.prog W .any base t v := hval0
  have hW' := hW
  obtain ⟨p, q, hA0, hV, rfl, hfz, hnd⟩ := hW
  have hA : DataW.TrodAll enc Try.prog W 0 (fun _ => true) true Try.f3.params.toList args.toList ds p := hA0
  rw [Try.params3] at hA hval
  obtain ⟨v0, vs0, d0, ds0, p0, q0, hargs, rfl, rfl, h0, r0⟩ := trodAll_cons hA
  obtain ⟨rfl, rfl, rfl⟩ := trodAll_nil r0
  obtain rfl : args = #[v0] := by cases args; simp_all
  obtain ⟨rfl, rfl⟩ := trodVars_none hV
  obtain ⟨a0, len0, cap0, rfl⟩ := okWide_slice Try.underlying22 (hval 0 22 v0 rfl rfl)
  have k0 := h0
  have lt0 : ∀ x ∈ p0, x.block < W.heap.size := by obtain ⟨m, hm⟩ := k0; exact DataW.trod_lt m _ _ _ hm
  obtain ⟨bs, w0⟩ : ∃ bs, RBytes W W.heap.size (.slice a0 len0 cap0) bs := by
    obtain ⟨fuel, hf⟩ := h0
    rcases open_ints Try.underlying22 Try.underlying5 (by kernel_rfl) hf with ⟨hcs, _⟩ | ⟨x, l, c, zs, hcs, _, hl, hm, hz, _, hcell, hwz⟩
    · simp [Value.cells] at hcs
      obtain ⟨rfl, rfl, rfl⟩ := hcs
      exact ⟨[], bytes_nil _ _⟩
    · simp [Value.cells] at hcs
      obtain ⟨rfl, rfl, rfl⟩ := hcs
      exact ⟨_, bytes_of hl hm (by simpa using hz) hcell hwz⟩
  clear hA0 hval0
  refine (walk_FnValueOf _ bs W w0).mono fun e W' ⟨he, bel⟩ => ?_
  subst he
  exact ⟨_, rfl, _, _, _, [], _, [], hW', trodAll_mk1 (shut_bool Try.underlying4 _), (trodAll_cons_mk (Below.trod laidOut (by kernel_rfl) (of_decide_eq_true (by kernel_rfl)) k0 bel lt0) trodAll_mk0), rfl, bel.frame _, fun h => by cases h⟩

theorem over_FnValueOf : Rows.fnValueOfRow.holds Try.pinned (OpenSpec.ofChange Rows.fnValueOfSpec) :=
  OpenClaim.holds_of_wide 3 Try.f3 rfl rfl rfl rfl rfl rfl rfl ⟨rfl, rfl, rfl, rfl, rfl⟩ rfl rfl rfl rfl rfl (by kernel_rfl) Try.func3 (by kernel_rfl)
    (of_decide_eq_true (by kernel_rfl)) (by unfold Func.isWrapper; first | (rw [if_pos (by decide +kernel)]; kernel_rfl) | (rw [if_neg (by decide +kernel)]; exact ⟨rfl, rfl⟩))
    (fun os started H enc _ => lifted_FnValueOf os started H enc)

theorem proved_FnValueOf : Rows.FnValueOfSaid := over_FnValueOf
end Go.Proofs.Yticldaddbljleaa
