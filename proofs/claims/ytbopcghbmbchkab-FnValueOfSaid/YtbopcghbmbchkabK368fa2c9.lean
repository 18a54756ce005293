/- A part of a term replaced by one more letter that has its value: the value of the term stays. No walk. · ValuesOk of both packages. · numberOf of package impl; two rows that are filled at once. · valueIn of package impl: the value of a term that was read. By recursion on the term. -/
import Derived.Test.YtbopcghbmbchkabK9a697567
import Derived.Deep.AppendLies
import Derived.Deep.RegionHeld3
import Derived.Deep.DeepCutAuto
namespace Go.Proofs.Ytbopcghbmbchkab
section
open Go.RowKit
set_option linter.unusedVariables false
set_option linter.unusedSimpArgs false

theorem getD_left {l r : List Int} {k : Nat} (h : k < l.length) : (l ++ r).getD k 0 = l.getD k 0 := by
  rw [List.getD_eq_getElem?_getD, List.getElem?_append_left h, ← List.getD_eq_getElem?_getD]
theorem getD_one {l : List Int} {y : Int} {k : Nat} (h : k = l.length) : (l ++ [y]).getD k 0 = y := by
  subst h
  rw [List.getD_eq_getElem?_getD, List.getElem?_append_right (Nat.le_refl _)]; simp
mutual
theorem weak_t {s : MSig} {vars : List Int} {x : Int} : ∀ tm : Tm, wfT s vars tm → wfT s (vars ++ [x]) tm
  | .leaf k of, h => by
    unfold wfT at h ⊢
    exact ⟨by simp; omega, by rw [getD_left h.1]; exact h.2⟩
  | .node op lv ts, h => by
    unfold wfT at h ⊢
    exact ⟨h.1, h.2.1, weak_ts ts _ h.2.2⟩
theorem weak_ts {s : MSig} {vars : List Int} {x : Int} : ∀ (ts : List Tm) (ss : List Int), wfTs s vars ss ts → wfTs s (vars ++ [x]) ss ts
  | [], ss, h => by unfold wfTs at h ⊢; exact h
  | t :: ts, ss, h => by
    unfold wfTs at h ⊢
    obtain ⟨y, ss', h1, h2, h3, h4⟩ := h
    exact ⟨y, ss', h1, h2, weak_t t h3, weak_ts ts ss' h4⟩
end
mutual
theorem weak_v {s : MSig} {m : MModel} {vars vals : List Int} {y : Int} (hl : vals.length = vars.length) : ∀ tm : Tm, wfT s vars tm → valT m (vals ++ [y]) tm = valT m vals tm
  | .leaf k of, h => by
    unfold wfT at h
    simp only [valT]
    exact getD_left (by omega)
  | .node op lv ts, h => by
    unfold wfT at h
    rw [valT_node, valT_node, weak_vs hl ts _ h.2.2]
theorem weak_vs {s : MSig} {m : MModel} {vars vals : List Int} {y : Int} (hl : vals.length = vars.length) : ∀ (ts : List Tm) (ss : List Int), wfTs s vars ss ts → valTs m (vals ++ [y]) ts = valTs m vals ts
  | [], ss, h => by simp [valTs]
  | t :: ts, ss, h => by
    unfold wfTs at h
    obtain ⟨z, ss', h1, h2, h3, h4⟩ := h
    simp only [valTs]
    rw [weak_v hl t h3, weak_vs hl ts ss' h4]
end
mutual
theorem hole_v {s : MSig} {m : MModel} {vars : List Int} {x : Int} : ∀ (tm : Tm) (at_ : Nat), wfT s vars tm → at_ < tm.row.length →
    ∃ (pre : List Int) (sub : Tm) (post : List Int), tm.row = pre ++ sub.row ++ post ∧ pre.length = at_ ∧ wfT s vars sub ∧ ∀ u : Tm, wfT s (vars ++ [x]) u → u.sort = sub.sort → ∃ tm' : Tm, wfT s (vars ++ [x]) tm' ∧ tm'.sort = tm.sort ∧ tm'.row = pre ++ u.row ++ post ∧
      ∀ (vals : List Int) (y : Int), vals.length = vars.length → valT m (vals ++ [y]) u = valT m vals sub → valT m (vals ++ [y]) tm' = valT m vals tm
  | .leaf k of, at_, hw, ha => by
    simp only [Tm.row, List.length_singleton] at ha
    refine ⟨[], .leaf k of, [], by simp, by simp; omega, hw, fun u hu hs => ⟨u, hu, hs, by simp, fun vals y hl h => h⟩⟩
  | .node op lv ts, 0, hw, ha => ⟨[], .node op lv ts, [], by simp, rfl, hw, fun u hu hs => ⟨u, hu, hs, by simp, fun vals y hl h => h⟩⟩
  | .node op lv ts, n + 1, hw, ha => by
    unfold wfT at hw
    simp only [Tm.row, List.length_cons] at ha
    obtain ⟨pre, sub, post, h1, h2, h3, h4⟩ := hole_vs (m := m) (x := x) ts n _ hw.2.2 (by omega)
    refine ⟨(op : Int) :: pre, sub, post, by simp only [Tm.row]; rw [h1]; simp, by simp [h2], h3, fun u hu hs => ?_⟩
    obtain ⟨ts', a, b, c⟩ := h4 u hu hs
    refine ⟨.node op lv ts', ?_, rfl, by simp only [Tm.row]; rw [b]; simp, fun vals y hl h => ?_⟩
    · unfold wfT
      exact ⟨hw.1, hw.2.1, a⟩
    · obtain ⟨c1, c2⟩ := c vals y hl h
      rw [valT_node, valT_node, c1, c2]
theorem hole_vs {s : MSig} {m : MModel} {vars : List Int} {x : Int} : ∀ (ts : List Tm) (at_ : Nat) (ss : List Int), wfTs s vars ss ts → at_ < (rowsOf ts).length →
    ∃ (pre : List Int) (sub : Tm) (post : List Int), rowsOf ts = pre ++ sub.row ++ post ∧ pre.length = at_ ∧ wfT s vars sub ∧ ∀ u : Tm, wfT s (vars ++ [x]) u → u.sort = sub.sort → ∃ ts' : List Tm, wfTs s (vars ++ [x]) ss ts' ∧ rowsOf ts' = pre ++ u.row ++ post ∧
      ∀ (vals : List Int) (y : Int), vals.length = vars.length → valT m (vals ++ [y]) u = valT m vals sub → valTs m (vals ++ [y]) ts' = valTs m vals ts ∧ sizesT m ts' = sizesT m ts
  | [], at_, ss, hw, ha => by simp [rowsOf] at ha
  | t :: ts, at_, ss, hw, ha => by
    unfold wfTs at hw
    obtain ⟨z, ss', rfl, h1, h2, h3⟩ := hw
    by_cases hlt : at_ < t.row.length
    · obtain ⟨pre, sub, post, a, b, c, d⟩ := hole_v (m := m) (x := x) t at_ h2 hlt
      refine ⟨pre, sub, post ++ rowsOf ts, by simp only [rowsOf]; rw [a]; simp, b, c, fun u hu hs => ?_⟩
      obtain ⟨t', e1, e2, e3, e4⟩ := d u hu hs
      refine ⟨t' :: ts, ?_, by simp only [rowsOf]; rw [e3]; simp, fun vals y hl h => ⟨?_, ?_⟩⟩
      · unfold wfTs
        exact ⟨z, ss', rfl, by rw [e2, h1], e1, weak_ts ts _ h3⟩
      · simp only [valTs]
        rw [e4 vals y hl h, weak_vs hl ts _ h3]
      · simp only [sizesT, List.map_cons, e2]
    · simp only [rowsOf, List.length_append] at ha
      obtain ⟨pre, sub, post, a, b, c, d⟩ := hole_vs (m := m) (x := x) ts (at_ - t.row.length) ss' h3 (by omega)
      refine ⟨t.row ++ pre, sub, post, by simp only [rowsOf]; rw [a]; simp, by simp [b]; omega, c, fun u hu hs => ?_⟩
      obtain ⟨ts', e1, e2, e3⟩ := d u hu hs
      refine ⟨t :: ts', ?_, by simp only [rowsOf]; rw [e2]; simp, fun vals y hl h => ?_⟩
      · unfold wfTs
        exact ⟨z, ss', rfl, h1, weak_t t h2, e1⟩
      · obtain ⟨c1, c2⟩ := e3 vals y hl h
        refine ⟨?_, ?_⟩
        · simp only [valTs]
          rw [c1, weak_v hl t h2]
        · simp only [sizesT, List.map_cons] at c2 ⊢
          rw [c2]
end
/-- with one more letter that has the value of a part, at the place of this part -/
theorem value_part {s : MSig} {m : MModel} {vars t vals : List Int} {k : Nat} (h : 0 ≤ valueM s m vars t vals) (hk : k < t.length) (hv : vars.length < 4) :
    ∃ (p : List Int) (so v : Int), atM s vars t (k : Int) = p ∧ p ≠ [] ∧ p.length ≤ 30 ∧ sortM s vars p = so ∧ 0 ≤ so ∧ so < s.sorts ∧ valueM s m vars p vals = v ∧ 0 ≤ v ∧ v ≤ 3 ∧
      ∃ o : List Int, swapM s (vars ++ [so]) t (k : Int) [100 + (vars.length : Int)] = (o, true) ∧ valueM s m (vars ++ [so]) o (vals ++ [v]) = valueM s m vars t vals := by
  unfold valueM at h
  cases ht : termM s vars t with
  | none => rw [ht] at h; simp at h
  | some tm =>
    rw [ht] at h
    simp only at h
    by_cases hvb : valsB s m vars vals = true
    · rw [if_pos hvb] at h
      obtain ⟨hv1, hm1, hvo⟩ := vals_facts hvb
      have hm := model_facts hm1
      obtain ⟨-, h30, hw, rfl⟩ := termM_to ht
      have hsm : sortM s vars tm.row = tm.sort := sortM_of hv1 h30 hw
      have hs0 := (sort_ok hv1 hw).1
      obtain ⟨pre, sub0, post, a0, b0, c0, -⟩ := hole_v (m := m) (x := 0) tm k hw hk
      obtain ⟨pre1, sub, post1, a, b, c, d⟩ := hole_v (m := m) (x := sub0.sort) tm k hw hk
      have hf0 : firstM s vars 30 (tm.row.drop k) = some (sub0, post) := by
        rw [show tm.row.drop k = sub0.row ++ post by rw [a0, List.append_assoc, ← b0]; simp]
        exact firstM_full (ops_few (vars_valid hv1).1) sub0 30 post c0 (by have : pre.length + sub0.row.length + post.length = tm.row.length := by rw [a0]; simp; omega
                                                                           omega)
      have hf : firstM s vars 30 (tm.row.drop k) = some (sub, post1) := by
        rw [show tm.row.drop k = sub.row ++ post1 by rw [a, List.append_assoc, ← b]; simp]
        exact firstM_full (ops_few (vars_valid hv1).1) sub 30 post1 c (by have : pre1.length + sub.row.length + post1.length = tm.row.length := by rw [a]; simp; omega
                                                                          omega)
      obtain ⟨rfl, rfl⟩ : sub0 = sub ∧ post = post1 := by rw [hf0] at hf; injection hf with hf; injection hf with h1 h2; exact ⟨h1, h2⟩
      have hl : pre1.length + sub0.row.length + post.length = tm.row.length := by rw [a]; simp; omega
      have hsub30 : sub0.row.length ≤ 30 := by omega
      have hss := sort_ok hv1 c0
      have hpos := row_pos sub0
      have hpart : atM s vars tm.row (k : Int) = sub0.row := by
        rw [atM_yes (by rw [hsm]; exact hs0) (by omega)]
        unfold partM
        rw [hf0]
      have hvs := valT_in hm hvo sub0 c0
      have hval : valueM s m vars sub0.row vals = valT m vals sub0 := by
        unfold valueM
        rw [termM_of hv1 hsub30 c0]
        simp only [hvb, if_true]
      have hsz : m.sizes.getD sub0.sort.toNat 0 ≤ 3 := by
        obtain ⟨hx, e1, -, e3⟩ := hm.size hss.1 hss.2
        rw [e1]; exact e3
      have hvo1 : varsB s (vars ++ [sub0.sort]) = true := by
        obtain ⟨q1, q2, q3⟩ := vars_valid hv1
        unfold varsB belowB
        rw [q1, decide_eq_true (by simp; omega)]
        simp only [Bool.and_self, Bool.true_and, List.all_append, Bool.and_eq_true, List.all_eq_true]
        refine ⟨fun z hz => ?_, fun z hz => ?_⟩
        · obtain ⟨i, hi, rfl⟩ := List.getElem_of_mem hz
          simpa using q3 i hi
        · simp at hz; subst hz; simpa using hss
      obtain ⟨tm', w1, w2, w3, w4⟩ := d (.leaf vars.length sub0.sort) (by unfold wfT; exact ⟨by simp, by rw [getD_one rfl]⟩) rfl
      have hrow : (Tm.leaf vars.length sub0.sort).row = [100 + (vars.length : Int)] := by simp [Tm.row]
      rw [hrow] at w3
      have hlen : (pre1 ++ [100 + (vars.length : Int)] ++ post).length ≤ 30 := by simp; omega
      have hat2 : atM s (vars ++ [sub0.sort]) tm.row (k : Int) = sub0.row := by
        rw [atM_yes (by rw [sortM_of hvo1 h30 (weak_t tm hw)]; exact hs0) (by omega)]
        unfold partM
        have e : tm.row.drop k = sub0.row ++ post := by rw [a, List.append_assoc, ← b]; simp
        rw [e, firstM_full (ops_few (vars_valid hv1).1) sub0 30 post (weak_t sub0 c0) (by omega)]
      have hsr : swapRow s (vars ++ [sub0.sort]) tm.row (k : Int) [100 + (vars.length : Int)] = pre1 ++ [100 + (vars.length : Int)] ++ post := by
        unfold swapRow
        rw [hat2, Int.toNat_natCast]
        rw [show tm.row.take k = pre1 by rw [a]; exact take_pre b, show tm.row.drop (k + sub0.row.length) = post by rw [a]; exact drop_post b]
      have hleaf : sortM s (vars ++ [sub0.sort]) [100 + (vars.length : Int)] = sub0.sort := by
        rw [← hrow]
        exact sortM_of hvo1 (by rw [hrow]; simp) (by unfold wfT; exact ⟨by simp, by rw [getD_one rfl]⟩)
      refine ⟨sub0.row, sub0.sort, valT m vals sub0, hpart, row_ne2 sub0, hsub30, sortM_of hv1 hsub30 c0, hss.1, hss.2, hval, hvs.1, by omega, pre1 ++ [100 + (vars.length : Int)] ++ post, ?_, ?_⟩
      · rw [swapM_yes ⟨by rw [hat2]; exact row_ne2 sub0, by rw [hleaf, hat2, sortM_of hvo1 hsub30 (weak_t sub0 c0)], by rw [hsr]; exact hlen⟩, hsr]
      · have hvals : valsB s m (vars ++ [sub0.sort]) (vals ++ [valT m vals sub0]) = true := by
          refine vals_yes hvo1 hm1 (by simp [hvo.1]) ?_
          unfold allVal
          rw [List.all_eq_true]
          intro j hj
          have hj := List.mem_range.1 hj
          simp only [List.length_append, List.length_singleton] at hj
          unfold valOkAt
          by_cases hjl : j < vals.length
          · rw [getD_left hjl, getD_left (show j < vars.length by have := hvo.1; omega)]
            have hjv : j < vars.length := by have := hvo.1; omega
            have := hvo.2 j hjv hjl
            rw [getD_at _ hjl, getD_at _ hjv]
            simpa using this
          · rw [getD_one (show j = vals.length by omega), getD_one (show j = vars.length by have := hvo.1; omega)]
            simpa using hvs
        have hv4 := w4 vals (valT m vals sub0) hvo.1 (by simp only [valT]; exact getD_one hvo.1.symm)
        have e1 : valueM s m vars tm.row vals = valT m vals tm := by unfold valueM; rw [ht]; simp only [hvb, if_true]
        rw [e1, ← hv4]
        unfold valueM
        rw [← w3, termM_of hvo1 (by rw [w3]; exact hlen) w1]
        simp only [hvals, if_true]
    · rw [if_neg hvb] at h; omega
/-- a value of a term is one of its sort -/
theorem value_in {s : MSig} {m : MModel} {vars t vals : List Int} (h : 0 ≤ valueM s m vars t vals) : ∃ so : Nat, sortM s vars t = (so : Int) ∧ ∃ hk : so < m.sizes.length, valueM s m vars t vals < m.sizes[so] := by
  unfold valueM at h ⊢
  cases ht : termM s vars t with
  | none => rw [ht] at h; simp at h
  | some tm =>
    rw [ht] at h
    simp only at h ⊢
    by_cases hvb : valsB s m vars vals = true
    · rw [if_pos hvb] at h ⊢
      obtain ⟨hv1, hm1, hvo⟩ := vals_facts hvb
      have hm := model_facts hm1
      obtain ⟨-, h30, hw, rfl⟩ := termM_to ht
      have hss := sort_ok hv1 hw
      obtain ⟨hx, e1, -, -⟩ := hm.size hss.1 hss.2
      have := (valT_in hm hvo tm hw).2
      rw [e1] at this
      exact ⟨tm.sort.toNat, by rw [sortM_of hv1 h30 hw]; omega, hx, this⟩
    · rw [if_neg hvb] at h; omega
end

section
open Go.RowKit
set_option linter.unusedVariables false
set_option linter.unusedSimpArgs false

theorem valOkAt_eq {m : MModel} {vars vals : List Int} {k : Nat} (hk : k < vars.length) (hk' : k < vals.length) : valOkAt m vars vals k = inSize (m.sizes.getD (vars[k]).toNat 0) vals[k] := by
  unfold valOkAt inSize; rw [getD_at _ hk', getD_at _ hk]

set_option maxHeartbeats 1600000 in
set_option maxRecDepth 100000 in
theorem valuesOk_any (s : MSig) (m : MModel) (vars vals : List Int) (w : World) (v v' v2 v3 : Value) (h1 : RSig w v s) (h2 : RModel w v' m) (h3 : RInts w v2 vars) (h4 : RInts w v3 vals) :
    Calls Try.prog 70 #[v, v', v2, v3] w fun e w' => e = .returned (.bool (valsB s m vars vals)) ∧ Below w.heap.size w w' := by
  obtain ⟨Asa, csa, rfl⟩ := h1.form
  obtain ⟨Ama, cma, Amb, cmb, rfl⟩ := h2.form
  have hb : Below w.heap.size w ((w.alloc (.cells #[.int .i64 s.sorts, .slice Asa s.ops.length csa] 25)).alloc (.cells #[.slice Ama m.sizes.length cma, .slice Amb m.tables.length cmb] 30)) := (below_alloc _ _).alloc (by simp) _
  have HB := Lib.hid hb
  have hsz : ((w.alloc (.cells #[.int .i64 s.sorts, .slice Asa s.ops.length csa] 25)).alloc (.cells #[.slice Ama m.sizes.length cma, .slice Amb m.tables.length cmb] 30)).heap.size = w.heap.size + 2 := by simp
  have Hs := Lib.hid (h1.keep hb)
  have s0 := cell_keep (below_alloc (w.alloc (.cells #[.int .i64 s.sorts, .slice Asa s.ops.length csa] 25)) (.cells #[.slice Ama m.sizes.length cma, .slice Amb m.tables.length cmb] 30)) (bx_at (w) #[.int .i64 s.sorts, .slice Asa s.ops.length csa] 25 (k := 0) rfl)
  have s1 := cell_keep (below_alloc (w.alloc (.cells #[.int .i64 s.sorts, .slice Asa s.ops.length csa] 25)) (.cells #[.slice Ama m.sizes.length cma, .slice Amb m.tables.length cmb] 30)) (bx_at (w) #[.int .i64 s.sorts, .slice Asa s.ops.length csa] 25 (k := 1) rfl)
  have Hm := Lib.hid (h2.keep hb)
  have m0 := bx_at (w.alloc (.cells #[.int .i64 s.sorts, .slice Asa s.ops.length csa] 25)) #[.slice Ama m.sizes.length cma, .slice Amb m.tables.length cmb] 30 (k := 0) rfl
  have m1 := bx_at (w.alloc (.cells #[.int .i64 s.sorts, .slice Asa s.ops.length csa] 25)) #[.slice Ama m.sizes.length cma, .slice Amb m.tables.length cmb] 30 (k := 1) rfl
  simp only [World.size_alloc] at m0 m1
  generalize hW : (w.alloc (.cells #[.int .i64 s.sorts, .slice Asa s.ops.length csa] 25)).alloc (.cells #[.slice Ama m.sizes.length cma, .slice Amb m.tables.length cmb] 30) = W at HB hsz Hs s0 s1 Hm m0 m1
  clear hb h1 h2
  have H3 := Lib.hid (h3.keep HB.out)
  have H4 := Lib.hid (h4.keep HB.out)
  have hl3 := h3.len
  have hl4 := h4.len
  obtain ⟨A3, d3, rfl, -⟩ := h3.form
  obtain ⟨A4, d4, rfl, -⟩ := h4.form
  clear h3 h4
  cases hv : varsB s vars with
  | false =>
    have HV := Lib.hid hv
    have HE := Lib.hid (vals_no1 (m := m) (vals := vals) hv)
    clear hv
    go_enter Try.func70, Try.ntmps70
    go_wp2_with fail
    clear hW
    refine (varsOk_any _ _ s vars _ Hs.out H3.out).mono ?_
    rw [HV.out]
    rintro e w1 ⟨rfl, hb⟩
    replace HB := Lib.hid (sz_keep HB.out hb)
    replace s0 := cell_keep hb s0
    replace s1 := cell_keep hb s1
    replace m0 := cell_keep hb m0
    replace m1 := cell_keep hb m1
    replace Hs := Lib.hid (Hs.out.keep hb)
    replace Hm := Lib.hid (Hm.out.keep hb)
    clear hb
    go_wp2
    go_ret
    exact ⟨ret_bool HE.out.symm, HB.out⟩
  | true =>
    have HV := Lib.hid hv
    have HVF := Lib.hid (vars_valid hv).2.2
    clear hv
    cases hm : modelB s m with
    | false =>
      have HM := Lib.hid hm
      have HE := Lib.hid (vals_no2 (vars := vars) (vals := vals) hm)
      clear hm
      go_enter Try.func70, Try.ntmps70
      go_wp2_with fail
      clear hW
      refine (varsOk_any _ _ s vars _ Hs.out H3.out).mono ?_
      rw [HV.out]
      rintro e w1 ⟨rfl, hb⟩
      replace HB := Lib.hid (sz_keep HB.out hb)
      replace s0 := cell_keep hb s0
      replace s1 := cell_keep hb s1
      replace m0 := cell_keep hb m0
      replace m1 := cell_keep hb m1
      replace Hs := Lib.hid (Hs.out.keep hb)
      replace Hm := Lib.hid (Hm.out.keep hb)
      clear hb
      go_wp2_with fail
      refine (modelOk_any s m _ _ _ Hs.out Hm.out).mono ?_
      rw [HM.out]
      rintro e w2 ⟨rfl, hb⟩
      replace HB := Lib.hid (sz_keep HB.out hb)
      replace s0 := cell_keep hb s0
      replace s1 := cell_keep hb s1
      replace m0 := cell_keep hb m0
      replace m1 := cell_keep hb m1
      replace Hs := Lib.hid (Hs.out.keep hb)
      replace Hm := Lib.hid (Hm.out.keep hb)
      clear hb
      go_wp2
      go_ret
      exact ⟨ret_bool HE.out.symm, HB.out⟩
    | true =>
      have HM := Lib.hid hm
      have HMF := Lib.hid (model_facts hm)
      clear hm
      by_cases hl : vals.length = vars.length
      · have e1 : ((vals.length : Int) != (vars.length : Int)) = false := by simp [hl]
        have HL := Lib.hid hl
        have hle : vals.length ≤ vars.length := by omega
        clear hl
        go_enter Try.func70, Try.ntmps70
        go_wp2_with fail
        clear hW
        refine (varsOk_any _ _ s vars _ Hs.out H3.out).mono ?_
        rw [HV.out]
        rintro e w1 ⟨rfl, hb⟩
        replace HB := Lib.hid (sz_keep HB.out hb)
        replace s0 := cell_keep hb s0
        replace s1 := cell_keep hb s1
        replace m0 := cell_keep hb m0
        replace m1 := cell_keep hb m1
        replace Hs := Lib.hid (Hs.out.keep hb)
        replace Hm := Lib.hid (Hm.out.keep hb)
        replace H3 := Lib.hid (H3.out.keep hb)
        replace H4 := Lib.hid (H4.out.keep hb)
        clear hb
        go_wp2_with fail
        refine (modelOk_any s m _ _ _ Hs.out Hm.out).mono ?_
        rw [HM.out]
        rintro e w2 ⟨rfl, hb⟩
        replace HB := Lib.hid (sz_keep HB.out hb)
        replace s0 := cell_keep hb s0
        replace s1 := cell_keep hb s1
        replace m0 := cell_keep hb m0
        replace m1 := cell_keep hb m1
        replace Hs := Lib.hid (Hs.out.keep hb)
        replace Hm := Lib.hid (Hm.out.keep hb)
        replace H3 := Lib.hid (H3.out.keep hb)
        replace H4 := Lib.hid (H4.out.keep hb)
        clear hb
        have HC := Lib.hid (And.intro m0 m1)
        go_wp2
        clear s0 s1 m0 m1
        go_loopw [9, 10, 30] (fun _ _ i wr => ∃ k : Nat, k ≤ vals.length ∧ i = .int .i64 k ∧ allVal m vars vals k = true ∧ Below w2.heap.size w2 wr) (fun _ _ i _ => vals.length - (intOf i).toNat)
        case atStart => exact ⟨0, Nat.zero_le _, rfl, allVal_zero _ _ _, Below.refl _ _⟩
        case round =>
          obtain ⟨k, hk, rfl, hal, hd⟩ := hrel
          have HAL := Lib.hid hal
          have HD := Lib.hid hd
          have f0 := cell_keep hd HC.out.1
          have f1 := cell_keep hd HC.out.2
          clear hal hd
          by_cases hlt : k < vals.length
          · have hlt' : (k : Int) < (vals.length : Int) := by omega
            have hkv : k < vars.length := by omega
            have hkv' : (k : Int) < (vars.length : Int) := by omega
            obtain ⟨b7, o7, c7, e, hx⟩ := (H4.out.keep HD.out).at_ hlt
            cases e
            obtain ⟨b8, o8, c8, e, hy⟩ := (H3.out.keep HD.out).at_ hkv
            cases e
            have hin := HVF.out k hkv
            have hms : vars[k] < (m.sizes.length : Int) := by have := HMF.out.sl; omega
            have HSUC := Lib.hid (allVal_succ m vars vals k)
            have HAT := Lib.hid (valOkAt_eq (m := m) hkv hlt)
            have HBAD := Lib.hid (fun h => vals_no4 (s := s) (m := m) (vars := vars) hlt h)
            generalize vars[k] = x at hy hin hms HAT
            generalize vals[k] = y at hx HAT
            obtain ⟨r, hr⟩ : ∃ r, inSize (m.sizes.getD x.toNat 0) y = r := ⟨_, rfl⟩
            have HR := Lib.hid hr
            have hx0 := hin.1
            clear hr hin
            go_wp2_with fail
            refine wp_region_held_drew (S := (fun w' => w'.cell? ⟨w.heap.size + 1, 0, none⟩ = some (.slice Ama m.sizes.length cma) ∧ w'.cell? ⟨w.heap.size + 1, 1, none⟩ = some (.slice Amb m.tables.length cmb) ∧ w'.cell? ⟨b8, o8 + k, none⟩ = some (.int .i64 x))) (by kernel_rfl) ?_ (fun hHeld => ?_)
            · exact ⟨f0, f1, hy⟩
            refine wpAnyH_take (i := 0) (oi := _) (v := ?_) rfl (by kernel_rfl) (by kernel_rfl) (by kernel_rfl) (fun _ _ _ h => h) (Or.inl ⟨by rfl, ?_⟩) (by assumption) ?_
            rotate_left
            · first | (intro w' hSw; (try dsimp only at hSw); go_simp; done) | (intro w' hSw; (try dsimp only at hSw); go_simp; with_reducible rfl)
            try simp only [Act.put, List.getElem_toArray, List.getElem_cons_zero, List.getElem_cons_succ, List.setIfInBounds_toArray, List.set_cons_zero, List.set_cons_succ]
            refine wpAnyH_take (i := 1) (oi := _) (v := ?_) rfl (by kernel_rfl) (by kernel_rfl) (by kernel_rfl) (fun _ _ _ h => h) (Or.inl ⟨by rfl, ?_⟩) (by assumption) ?_
            rotate_left
            · first | (intro w' hSw; (try dsimp only at hSw); go_simp; done) | (intro w' hSw; (try dsimp only at hSw); go_simp; with_reducible rfl)
            try simp only [Act.put, List.getElem_toArray, List.getElem_cons_zero, List.getElem_cons_succ, List.setIfInBounds_toArray, List.set_cons_zero, List.set_cons_succ]
            refine wpAnyH_take (i := 2) (oi := _) (v := ?_) rfl (by kernel_rfl) (by kernel_rfl) (by kernel_rfl) (fun _ _ _ h => h) (Or.inl ⟨by rfl, ?_⟩) (by assumption) ?_
            rotate_left
            · first | (intro w' hSw; (try dsimp only at hSw); go_simp; done) | (intro w' hSw; (try dsimp only at hSw); go_simp; with_reducible rfl)
            try simp only [Act.put, List.getElem_toArray, List.getElem_cons_zero, List.getElem_cons_succ, List.setIfInBounds_toArray, List.set_cons_zero, List.set_cons_succ]
            refine wpAnyH_take (i := 3) (oi := _) (v := ?_) rfl (by kernel_rfl) (by kernel_rfl) (by kernel_rfl) (fun _ _ _ h => h) (Or.inl ⟨by rfl, ?_⟩) (by assumption) ?_
            rotate_left
            · first | (intro w' hSw; (try dsimp only at hSw); go_simp; done) | (intro w' hSw; (try dsimp only at hSw); go_simp; with_reducible rfl)
            try simp only [Act.put, List.getElem_toArray, List.getElem_cons_zero, List.getElem_cons_succ, List.setIfInBounds_toArray, List.set_cons_zero, List.set_cons_succ]
            refine wpAnyH_take (i := 4) (oi := _) (v := ?_) rfl (by kernel_rfl) (by kernel_rfl) (by kernel_rfl) (fun _ _ _ h => h) (Or.inl ⟨by rfl, ?_⟩) (by assumption) ?_
            rotate_left
            · first | (intro w' hSw; (try dsimp only at hSw); go_simp; done) | (intro w' hSw; (try dsimp only at hSw); go_simp; with_reducible rfl)
            try simp only [Act.put, List.getElem_toArray, List.getElem_cons_zero, List.getElem_cons_succ, List.setIfInBounds_toArray, List.set_cons_zero, List.set_cons_succ]
            refine wpAnyH_take (i := 5) (oi := _) (v := ?_) rfl (by kernel_rfl) (by kernel_rfl) (by kernel_rfl) (fun _ _ _ h => h) (Or.inl ⟨by rfl, ?_⟩) (by assumption) ?_
            rotate_left
            · first | (intro w' hSw; (try dsimp only at hSw); go_simp; done) | (intro w' hSw; (try dsimp only at hSw); go_simp; with_reducible rfl)
            try simp only [Act.put, List.getElem_toArray, List.getElem_cons_zero, List.getElem_cons_succ, List.setIfInBounds_toArray, List.set_cons_zero, List.set_cons_succ]
            refine wpAnyH_ready (rs := [6]) (by kernel_rfl) (by simp) ?_
            refine AllReadyH.cons (o := _) rfl (fun K hK => ?_) AllReadyH.nil
            go_simp
            refine (isValue_any m x y _ _ ((Hm.out.keep HD.out).keep (map_drew (Below.refl _ _))) hx0 hms).mono ?_
            rw [HR.out]
            rintro x w6 ⟨rfl, hb6⟩
            have hx6 := map_undrew hb6
            have HX6 := Lib.hid (sz_keep HD.out hx6)
            have j1 := cell_keep hx6 f0
            have j2 := cell_keep hx6 f1
            have j3 := cell_keep hx6 hy
            clear hb6 hx6
            go_wp2_with fail
            refine hK.out _ _ ?_ (fun hHeld => ?_)
            · exact ⟨j1, j2, j3⟩
            clear hK K
            try simp only [Act.put, List.getElem_toArray, List.getElem_cons_zero, List.getElem_cons_succ, List.setIfInBounds_toArray, List.set_cons_zero, List.set_cons_succ]
            refine wpAnyH_take (i := 7) (oi := _) (v := ?_) rfl (by kernel_rfl) (by kernel_rfl) (by kernel_rfl) (fun _ _ _ h => h) (Or.inl ⟨by rfl, ?_⟩) (by assumption) ?_
            rotate_left
            · first | (intro w' hSw; (try dsimp only at hSw); go_simp; done) | (intro w' hSw; (try dsimp only at hSw); go_simp; with_reducible rfl)
            try simp only [Act.put, List.getElem_toArray, List.getElem_cons_zero, List.getElem_cons_succ, List.setIfInBounds_toArray, List.set_cons_zero, List.set_cons_succ]
            refine wpAnyH_done (by kernel_rfl) ?_ _
            clear f0 f1 j1 j2 j3 hx hy
            cases r with
            | true =>
              go_wp2
              go_roundw
              case rel => exact ⟨k + 1, by omega, by go_num, by rw [HSUC.out, HAL.out, HAT.out, HR.out]; rfl, HX6.out⟩
              case measure => simp [intOf]; omega
            | false =>
              have HF := Lib.hid (HBAD.out (HAT.out.trans HR.out))
              go_wp2
              go_ret
              exact ⟨ret_bool HF.out.symm, sz_keep HB.out HX6.out⟩
          · have hkn : k = vals.length := by omega
            have hlt' : ¬ (k : Int) < (vals.length : Int) := by omega
            have HE := Lib.hid (vals_yes HV.out HM.out HL.out (by rw [← hkn]; exact HAL.out))
            clear f0 f1
            go_wp2
            go_ret
            exact ⟨ret_bool HE.out.symm, sz_keep HB.out HD.out⟩
      · have e1 : ((vals.length : Int) != (vars.length : Int)) = true := by simp; omega
        have HE := Lib.hid (vals_no3 (s := s) (m := m) hl)
        clear hl
        go_enter Try.func70, Try.ntmps70
        go_wp2_with fail
        clear hW
        refine (varsOk_any _ _ s vars _ Hs.out H3.out).mono ?_
        rw [HV.out]
        rintro e w1 ⟨rfl, hb⟩
        replace HB := Lib.hid (sz_keep HB.out hb)
        replace s0 := cell_keep hb s0
        replace s1 := cell_keep hb s1
        replace m0 := cell_keep hb m0
        replace m1 := cell_keep hb m1
        replace Hs := Lib.hid (Hs.out.keep hb)
        replace Hm := Lib.hid (Hm.out.keep hb)
        clear hb
        go_wp2_with fail
        refine (modelOk_any s m _ _ _ Hs.out Hm.out).mono ?_
        rw [HM.out]
        rintro e w2 ⟨rfl, hb⟩
        replace HB := Lib.hid (sz_keep HB.out hb)
        replace s0 := cell_keep hb s0
        replace s1 := cell_keep hb s1
        replace m0 := cell_keep hb m0
        replace m1 := cell_keep hb m1
        replace Hs := Lib.hid (Hs.out.keep hb)
        replace Hm := Lib.hid (Hm.out.keep hb)
        clear hb
        go_wp2
        go_ret
        exact ⟨ret_bool HE.out.symm, HB.out⟩

set_option maxHeartbeats 1600000 in
set_option maxRecDepth 100000 in
theorem specValuesOk_any (s : MSig) (m : MModel) (vars vals : List Int) (w : World) (v v' v2 v3 : Value) (h1 : RSig w v s) (h2 : RModel w v' m) (h3 : RInts w v2 vars) (h4 : RInts w v3 vals) :
    Calls Try.prog 72 #[v, v', v2, v3] w fun e w' => e = .returned (.bool (valsB s m vars vals)) ∧ Below w.heap.size w w' := by
  obtain ⟨Asa, csa, rfl⟩ := h1.form
  obtain ⟨Ama, cma, Amb, cmb, rfl⟩ := h2.form
  have hb : Below w.heap.size w ((w.alloc (.cells #[.int .i64 s.sorts, .slice Asa s.ops.length csa] 25)).alloc (.cells #[.slice Ama m.sizes.length cma, .slice Amb m.tables.length cmb] 30)) := (below_alloc _ _).alloc (by simp) _
  have HB := Lib.hid hb
  have hsz : ((w.alloc (.cells #[.int .i64 s.sorts, .slice Asa s.ops.length csa] 25)).alloc (.cells #[.slice Ama m.sizes.length cma, .slice Amb m.tables.length cmb] 30)).heap.size = w.heap.size + 2 := by simp
  have Hs := Lib.hid (h1.keep hb)
  have s0 := cell_keep (below_alloc (w.alloc (.cells #[.int .i64 s.sorts, .slice Asa s.ops.length csa] 25)) (.cells #[.slice Ama m.sizes.length cma, .slice Amb m.tables.length cmb] 30)) (bx_at (w) #[.int .i64 s.sorts, .slice Asa s.ops.length csa] 25 (k := 0) rfl)
  have s1 := cell_keep (below_alloc (w.alloc (.cells #[.int .i64 s.sorts, .slice Asa s.ops.length csa] 25)) (.cells #[.slice Ama m.sizes.length cma, .slice Amb m.tables.length cmb] 30)) (bx_at (w) #[.int .i64 s.sorts, .slice Asa s.ops.length csa] 25 (k := 1) rfl)
  have Hm := Lib.hid (h2.keep hb)
  have m0 := bx_at (w.alloc (.cells #[.int .i64 s.sorts, .slice Asa s.ops.length csa] 25)) #[.slice Ama m.sizes.length cma, .slice Amb m.tables.length cmb] 30 (k := 0) rfl
  have m1 := bx_at (w.alloc (.cells #[.int .i64 s.sorts, .slice Asa s.ops.length csa] 25)) #[.slice Ama m.sizes.length cma, .slice Amb m.tables.length cmb] 30 (k := 1) rfl
  simp only [World.size_alloc] at m0 m1
  generalize hW : (w.alloc (.cells #[.int .i64 s.sorts, .slice Asa s.ops.length csa] 25)).alloc (.cells #[.slice Ama m.sizes.length cma, .slice Amb m.tables.length cmb] 30) = W at HB hsz Hs s0 s1 Hm m0 m1
  clear hb h1 h2
  have H3 := Lib.hid (h3.keep HB.out)
  have H4 := Lib.hid (h4.keep HB.out)
  have hl3 := h3.len
  have hl4 := h4.len
  have hlm := Hm.out.of.1.len
  obtain ⟨A3, d3, rfl, -⟩ := h3.form
  obtain ⟨A4, d4, rfl, -⟩ := h4.form
  clear h3 h4
  cases hm : modelB s m with
  | false =>
    have HM := Lib.hid hm
    have HE := Lib.hid (vals_no2 (vars := vars) (vals := vals) hm)
    clear hm
    go_enter Try.func72, Try.ntmps72
    go_wp2_with fail
    clear hW
    refine (specModelOk_any s m _ _ _ Hs.out Hm.out).mono ?_
    rw [HM.out]
    rintro e w2 ⟨rfl, hb⟩
    replace HB := Lib.hid (sz_keep HB.out hb)
    replace s0 := cell_keep hb s0
    replace s1 := cell_keep hb s1
    replace m0 := cell_keep hb m0
    replace m1 := cell_keep hb m1
    replace Hs := Lib.hid (Hs.out.keep hb)
    replace Hm := Lib.hid (Hm.out.keep hb)
    clear hb
    go_wp2
    go_ret
    exact ⟨ret_bool HE.out.symm, HB.out⟩
  | true =>
    have HM := Lib.hid hm
    have HMF := Lib.hid (model_facts hm)
    clear hm
    cases hv : varsB s vars with
    | false =>
      have HV := Lib.hid hv
      have HE := Lib.hid (vals_no1 (m := m) (vals := vals) hv)
      clear hv
      go_enter Try.func72, Try.ntmps72
      go_wp2_with fail
      clear hW
      refine (specModelOk_any s m _ _ _ Hs.out Hm.out).mono ?_
      rw [HM.out]
      rintro e w1 ⟨rfl, hb⟩
      replace HB := Lib.hid (sz_keep HB.out hb)
      replace s0 := cell_keep hb s0
      replace s1 := cell_keep hb s1
      replace m0 := cell_keep hb m0
      replace m1 := cell_keep hb m1
      replace Hs := Lib.hid (Hs.out.keep hb)
      replace Hm := Lib.hid (Hm.out.keep hb)
      replace H3 := Lib.hid (H3.out.keep hb)
      clear hb
      go_wp2_with fail
      refine (specVarsOk_any _ _ s vars _ Hs.out H3.out).mono ?_
      rw [HV.out]
      rintro e w2 ⟨rfl, hb⟩
      replace HB := Lib.hid (sz_keep HB.out hb)
      replace s0 := cell_keep hb s0
      replace s1 := cell_keep hb s1
      replace m0 := cell_keep hb m0
      replace m1 := cell_keep hb m1
      replace Hs := Lib.hid (Hs.out.keep hb)
      replace Hm := Lib.hid (Hm.out.keep hb)
      clear hb
      go_wp2
      go_ret
      exact ⟨ret_bool HE.out.symm, HB.out⟩
    | true =>
      have HV := Lib.hid hv
      have HVF := Lib.hid (vars_valid hv).2.2
      clear hv
      by_cases hl : vals.length = vars.length
      · have e1 : ((vals.length : Int) != (vars.length : Int)) = false := by simp [hl]
        have HL := Lib.hid hl
        have hle : vals.length ≤ vars.length := by omega
        clear hl
        go_enter Try.func72, Try.ntmps72
        go_wp2_with fail
        clear hW
        refine (specModelOk_any s m _ _ _ Hs.out Hm.out).mono ?_
        rw [HM.out]
        rintro e w1 ⟨rfl, hb⟩
        replace HB := Lib.hid (sz_keep HB.out hb)
        replace s0 := cell_keep hb s0
        replace s1 := cell_keep hb s1
        replace m0 := cell_keep hb m0
        replace m1 := cell_keep hb m1
        replace Hs := Lib.hid (Hs.out.keep hb)
        replace Hm := Lib.hid (Hm.out.keep hb)
        replace H3 := Lib.hid (H3.out.keep hb)
        replace H4 := Lib.hid (H4.out.keep hb)
        clear hb
        go_wp2_with fail
        refine (specVarsOk_any _ _ s vars _ Hs.out H3.out).mono ?_
        rw [HV.out]
        rintro e w2 ⟨rfl, hb⟩
        replace HB := Lib.hid (sz_keep HB.out hb)
        replace s0 := cell_keep hb s0
        replace s1 := cell_keep hb s1
        replace m0 := cell_keep hb m0
        replace m1 := cell_keep hb m1
        replace Hs := Lib.hid (Hs.out.keep hb)
        replace Hm := Lib.hid (Hm.out.keep hb)
        replace H3 := Lib.hid (H3.out.keep hb)
        replace H4 := Lib.hid (H4.out.keep hb)
        clear hb
        have HC := Lib.hid (And.intro m0 m1)
        go_wp2
        clear s0 s1 m0 m1
        go_loopw [9] (fun i wr => ∃ k : Nat, k ≤ vals.length ∧ i = .int .i64 k ∧ allVal m vars vals k = true ∧ Below w2.heap.size w2 wr) (fun i _ => vals.length - (intOf i).toNat)
        case atStart => exact ⟨0, Nat.zero_le _, rfl, allVal_zero _ _ _, Below.refl _ _⟩
        case round =>
          obtain ⟨k, hk, rfl, hal, hd⟩ := hrel
          have HAL := Lib.hid hal
          have HD := Lib.hid hd
          have f0 := cell_keep hd HC.out.1
          clear hal hd
          by_cases hlt : k < vals.length
          · have hlt' : (k : Int) < (vals.length : Int) := by omega
            have hkv : k < vars.length := by omega
            have hkv' : (k : Int) < (vars.length : Int) := by omega
            obtain ⟨b7, o7, c7, e, hx⟩ := (H4.out.keep HD.out).at_ hlt
            cases e
            obtain ⟨b8, o8, c8, e, hy⟩ := (H3.out.keep HD.out).at_ hkv
            cases e
            have hin := HVF.out k hkv
            have hms : vars[k] < (m.sizes.length : Int) := by have := HMF.out.sl; omega
            have HSUC := Lib.hid (allVal_succ m vars vals k)
            have HAT := Lib.hid (valOkAt_eq (m := m) hkv hlt)
            have HBAD := Lib.hid (fun h => vals_no4 (s := s) (m := m) (vars := vars) hlt h)
            generalize vars[k] = x at hy hin hms HAT
            generalize vals[k] = y at hx HAT
            obtain ⟨t, rfl⟩ : ∃ t : Nat, x = (t : Int) := ⟨x.toNat, by omega⟩
            have htm : t < m.sizes.length := by omega
            have htm' : (t : Int) < (m.sizes.length : Int) := by omega
            obtain ⟨b2, o2, c2, e, hz⟩ := (Hm.out.of.1.keep HD.out).at_ htm
            cases e
            have hz13 := HMF.out.sz _ (List.getElem_mem htm)
            replace HAT := Lib.hid (show valOkAt m vars vals k = inSize m.sizes[t] y by rw [HAT.out, Int.toNat_natCast, getD_at _ htm])
            generalize m.sizes[t] = z at hz hz13 HAT
            obtain ⟨r, hr⟩ : ∃ r, inSize z y = r := ⟨_, rfl⟩
            have HR := Lib.hid hr
            have hw2 : IntKind.i64.wrap (z - 1) = z - 1 := by rw [IntKind.wrap_i64]; omega
            clear hr hin hms
            go_wp2_with fail
            refine wp_region_held_drew (S := (fun w' => w'.cell? ⟨w.heap.size + 1, 0, none⟩ = some (.slice (some ⟨b2, o2, none⟩) m.sizes.length cma) ∧ w'.cell? ⟨b8, o8 + k, none⟩ = some (.int .i64 (t : Int)) ∧ w'.cell? ⟨b2, o2 + t, none⟩ = some (.int .i64 z) ∧ w'.cell? ⟨b7, o7 + k, none⟩ = some (.int .i64 y))) (by kernel_rfl) ?_ (fun hHeld => ?_)
            · exact ⟨f0, hy, hz, hx⟩
            refine wpAnyH_take (i := 0) (oi := _) (v := ?_) rfl (by kernel_rfl) (by kernel_rfl) (by kernel_rfl) (fun _ _ _ h => h) (Or.inl ⟨by rfl, ?_⟩) (by assumption) ?_
            rotate_left
            · first | (intro w' hSw; (try dsimp only at hSw); go_simp; done) | (intro w' hSw; (try dsimp only at hSw); go_simp; with_reducible rfl)
            try simp only [Act.put, List.getElem_toArray, List.getElem_cons_zero, List.getElem_cons_succ, List.setIfInBounds_toArray, List.set_cons_zero, List.set_cons_succ]
            refine wpAnyH_take (i := 1) (oi := _) (v := ?_) rfl (by kernel_rfl) (by kernel_rfl) (by kernel_rfl) (fun _ _ _ h => h) (Or.inl ⟨by rfl, ?_⟩) (by assumption) ?_
            rotate_left
            · first | (intro w' hSw; (try dsimp only at hSw); go_simp; done) | (intro w' hSw; (try dsimp only at hSw); go_simp; with_reducible rfl)
            try simp only [Act.put, List.getElem_toArray, List.getElem_cons_zero, List.getElem_cons_succ, List.setIfInBounds_toArray, List.set_cons_zero, List.set_cons_succ]
            refine wpAnyH_take (i := 2) (oi := _) (v := ?_) rfl (by kernel_rfl) (by kernel_rfl) (by kernel_rfl) (fun _ _ _ h => h) (Or.inl ⟨by rfl, ?_⟩) (by assumption) ?_
            rotate_left
            · first | (intro w' hSw; (try dsimp only at hSw); go_simp; done) | (intro w' hSw; (try dsimp only at hSw); go_simp; with_reducible rfl)
            try simp only [Act.put, List.getElem_toArray, List.getElem_cons_zero, List.getElem_cons_succ, List.setIfInBounds_toArray, List.set_cons_zero, List.set_cons_succ]
            refine wpAnyH_take (i := 3) (oi := _) (v := ?_) rfl (by kernel_rfl) (by kernel_rfl) (by kernel_rfl) (fun _ _ _ h => h) (Or.inl ⟨by rfl, ?_⟩) (by assumption) ?_
            rotate_left
            · first | (intro w' hSw; (try dsimp only at hSw); go_simp; done) | (intro w' hSw; (try dsimp only at hSw); go_simp; with_reducible rfl)
            try simp only [Act.put, List.getElem_toArray, List.getElem_cons_zero, List.getElem_cons_succ, List.setIfInBounds_toArray, List.set_cons_zero, List.set_cons_succ]
            refine wpAnyH_take (i := 4) (oi := _) (v := ?_) rfl (by kernel_rfl) (by kernel_rfl) (by kernel_rfl) (fun _ _ _ h => h) (Or.inl ⟨by rfl, ?_⟩) (by assumption) ?_
            rotate_left
            · first | (intro w' hSw; (try dsimp only at hSw); go_simp; done) | (intro w' hSw; (try dsimp only at hSw); go_simp; with_reducible rfl)
            try simp only [Act.put, List.getElem_toArray, List.getElem_cons_zero, List.getElem_cons_succ, List.setIfInBounds_toArray, List.set_cons_zero, List.set_cons_succ]
            refine wpAnyH_take (i := 5) (oi := _) (v := ?_) rfl (by kernel_rfl) (by kernel_rfl) (by kernel_rfl) (fun _ _ _ h => h) (Or.inl ⟨by rfl, ?_⟩) (by assumption) ?_
            rotate_left
            · first | (intro w' hSw; (try dsimp only at hSw); go_simp; done) | (intro w' hSw; (try dsimp only at hSw); go_simp; with_reducible rfl)
            try simp only [Act.put, List.getElem_toArray, List.getElem_cons_zero, List.getElem_cons_succ, List.setIfInBounds_toArray, List.set_cons_zero, List.set_cons_succ]
            refine wpAnyH_take (i := 6) (oi := _) (v := ?_) rfl (by kernel_rfl) (by kernel_rfl) (by kernel_rfl) (fun _ _ _ h => h) (Or.inl ⟨by rfl, ?_⟩) (by assumption) ?_
            rotate_left
            · first | (intro w' hSw; (try dsimp only at hSw); go_simp; done) | (intro w' hSw; (try dsimp only at hSw); go_simp; with_reducible rfl)
            try simp only [Act.put, List.getElem_toArray, List.getElem_cons_zero, List.getElem_cons_succ, List.setIfInBounds_toArray, List.set_cons_zero, List.set_cons_succ]
            refine wpAnyH_take (i := 7) (oi := _) (v := ?_) rfl (by kernel_rfl) (by kernel_rfl) (by kernel_rfl) (fun _ _ _ h => h) (Or.inl ⟨by rfl, ?_⟩) (by assumption) ?_
            rotate_left
            · first | (intro w' hSw; (try dsimp only at hSw); go_simp; done) | (intro w' hSw; (try dsimp only at hSw); go_simp; with_reducible rfl)
            try simp only [Act.put, List.getElem_toArray, List.getElem_cons_zero, List.getElem_cons_succ, List.setIfInBounds_toArray, List.set_cons_zero, List.set_cons_succ]
            refine wpAnyH_take (i := 8) (oi := _) (v := ?_) rfl (by kernel_rfl) (by kernel_rfl) (by kernel_rfl) (fun _ _ _ h => h) (Or.inl ⟨by rfl, ?_⟩) (by assumption) ?_
            rotate_left
            · first | (intro w' hSw; (try dsimp only at hSw); go_simp; done) | (intro w' hSw; (try dsimp only at hSw); go_simp; with_reducible rfl)
            try simp only [Act.put, List.getElem_toArray, List.getElem_cons_zero, List.getElem_cons_succ, List.setIfInBounds_toArray, List.set_cons_zero, List.set_cons_succ]
            refine wpAnyH_take (i := 9) (oi := _) (v := ?_) rfl (by kernel_rfl) (by kernel_rfl) (by kernel_rfl) (fun _ _ _ h => h) (Or.inl ⟨by rfl, ?_⟩) (by assumption) ?_
            rotate_left
            · first | (intro w' hSw; (try dsimp only at hSw); go_simp; done) | (intro w' hSw; (try dsimp only at hSw); go_simp; with_reducible rfl)
            try simp only [Act.put, List.getElem_toArray, List.getElem_cons_zero, List.getElem_cons_succ, List.setIfInBounds_toArray, List.set_cons_zero, List.set_cons_succ]
            refine wpAnyH_take (i := 10) (oi := _) (v := ?_) rfl (by kernel_rfl) (by kernel_rfl) (by kernel_rfl) (fun _ _ _ h => h) (Or.inl ⟨by rfl, ?_⟩) (by assumption) ?_
            rotate_left
            · first | (intro w' hSw; (try dsimp only at hSw); go_simp; done) | (intro w' hSw; (try dsimp only at hSw); go_simp; with_reducible rfl)
            try simp only [Act.put, List.getElem_toArray, List.getElem_cons_zero, List.getElem_cons_succ, List.setIfInBounds_toArray, List.set_cons_zero, List.set_cons_succ]
            refine wpAnyH_take (i := 11) (oi := _) (v := ?_) rfl (by kernel_rfl) (by kernel_rfl) (by kernel_rfl) (fun _ _ _ h => h) (Or.inl ⟨by rfl, ?_⟩) (by assumption) ?_
            rotate_left
            · first | (intro w' hSw; (try dsimp only at hSw); go_simp; done) | (intro w' hSw; (try dsimp only at hSw); go_simp; with_reducible rfl)
            try simp only [Act.put, List.getElem_toArray, List.getElem_cons_zero, List.getElem_cons_succ, List.setIfInBounds_toArray, List.set_cons_zero, List.set_cons_succ]
            refine wpAnyH_take (i := 12) (oi := _) (v := ?_) rfl (by kernel_rfl) (by kernel_rfl) (by kernel_rfl) (fun _ _ _ h => h) (Or.inl ⟨by rfl, ?_⟩) (by assumption) ?_
            rotate_left
            · first | (intro w' hSw; (try dsimp only at hSw); go_simp; done) | (intro w' hSw; (try dsimp only at hSw); go_simp; with_reducible rfl)
            try simp only [Act.put, List.getElem_toArray, List.getElem_cons_zero, List.getElem_cons_succ, List.setIfInBounds_toArray, List.set_cons_zero, List.set_cons_succ]
            refine wpAnyH_ready (rs := [13]) (by kernel_rfl) (by simp) ?_
            refine AllReadyH.cons (o := _) rfl (fun K hK => ?_) AllReadyH.nil
            go_simp
            refine (l1In_is y 0 (z - 1) _ r (by rw [inSize_inB rfl]; exact HR.out)).mono ?_
            rintro x w6 ⟨rfl, rfl⟩
            go_wp2_with fail
            refine hK.out _ _ ?_ (fun hHeld => ?_)
            · exact ⟨f0, hy, hz, hx⟩
            clear hK K
            try simp only [Act.put, List.getElem_toArray, List.getElem_cons_zero, List.getElem_cons_succ, List.setIfInBounds_toArray, List.set_cons_zero, List.set_cons_succ]
            refine wpAnyH_take (i := 14) (oi := _) (v := ?_) rfl (by kernel_rfl) (by kernel_rfl) (by kernel_rfl) (fun _ _ _ h => h) (Or.inl ⟨by rfl, ?_⟩) (by assumption) ?_
            rotate_left
            · first | (intro w' hSw; (try dsimp only at hSw); go_simp; done) | (intro w' hSw; (try dsimp only at hSw); go_simp; with_reducible rfl)
            try simp only [Act.put, List.getElem_toArray, List.getElem_cons_zero, List.getElem_cons_succ, List.setIfInBounds_toArray, List.set_cons_zero, List.set_cons_succ]
            refine wpAnyH_done (by kernel_rfl) ?_ _
            have HX6 := Lib.hid (map_drew HD.out)
            clear f0 hx hy hz
            cases r with
            | true =>
              go_wp2
              go_roundw
              case rel => exact ⟨k + 1, by omega, by go_num, by rw [HSUC.out, HAL.out, HAT.out, HR.out]; rfl, HX6.out⟩
              case measure => simp [intOf]; omega
            | false =>
              have HF := Lib.hid (HBAD.out (HAT.out.trans HR.out))
              go_wp2
              go_ret
              exact ⟨ret_bool HF.out.symm, sz_keep HB.out HX6.out⟩
          · have hkn : k = vals.length := by omega
            have hlt' : ¬ (k : Int) < (vals.length : Int) := by omega
            have HE := Lib.hid (vals_yes HV.out HM.out HL.out (by rw [← hkn]; exact HAL.out))
            clear f0
            go_wp2
            go_ret
            exact ⟨ret_bool HE.out.symm, sz_keep HB.out HD.out⟩
      · have e1 : ((vals.length : Int) != (vars.length : Int)) = true := by simp; omega
        have HE := Lib.hid (vals_no3 (s := s) (m := m) hl)
        clear hl
        go_enter Try.func72, Try.ntmps72
        go_wp2_with fail
        clear hW
        refine (specModelOk_any s m _ _ _ Hs.out Hm.out).mono ?_
        rw [HM.out]
        rintro e w1 ⟨rfl, hb⟩
        replace HB := Lib.hid (sz_keep HB.out hb)
        replace s0 := cell_keep hb s0
        replace s1 := cell_keep hb s1
        replace m0 := cell_keep hb m0
        replace m1 := cell_keep hb m1
        replace Hs := Lib.hid (Hs.out.keep hb)
        replace Hm := Lib.hid (Hm.out.keep hb)
        replace H3 := Lib.hid (H3.out.keep hb)
        clear hb
        go_wp2_with fail
        refine (specVarsOk_any _ _ s vars _ Hs.out H3.out).mono ?_
        rw [HV.out]
        rintro e w2 ⟨rfl, hb⟩
        replace HB := Lib.hid (sz_keep HB.out hb)
        replace s0 := cell_keep hb s0
        replace s1 := cell_keep hb s1
        replace m0 := cell_keep hb m0
        replace m1 := cell_keep hb m1
        replace Hs := Lib.hid (Hs.out.keep hb)
        replace Hm := Lib.hid (Hm.out.keep hb)
        clear hb
        go_wp2
        go_ret
        exact ⟨ret_bool HE.out.symm, HB.out⟩
end

section
open Go.RowKit
set_option linter.unusedVariables false
set_option linter.unusedSimpArgs false

theorem vb_alloc {a w : World} (h : Below a.heap.size a w) (o : Obj) : Below a.heap.size a (w.alloc o) := h.alloc h.size o
theorem vb_drew {a w : World} (h : Below a.heap.size a w) : Below a.heap.size a w.drew := ⟨h.os, h.tape, h.output, h.size, h.block⟩
theorem vb_undrew {w w' : World} (h : Below w.drew.heap.size w.drew w') : Below w.heap.size w w' := ⟨h.os, h.tape, h.output, h.size, h.block⟩
theorem va_far {w : World} {b rb : Nat} (h : b ≠ rb) (i o : Nat) (u : Value) : (w.setCell ⟨rb, i, none⟩ u).cell? ⟨b, o, none⟩ = w.cell? ⟨b, o, none⟩ := World.cell?_of_block (Below.heap_setCell w ⟨rb, i, none⟩ u b h)
theorem place_wrap {zs vs : List Int} (hz : Sizes zs) (hl : zs.length ≤ 4) (h : InAll zs vs) {k : Nat} (hk : k < zs.length) (hk' : k < vs.length) :
    ∃ a, IntKind.i64.wrap (placeM 0 (zs.take k) (vs.take k) * zs[k]) = a ∧ IntKind.i64.wrap (a + vs[k]) = placeM 0 (zs.take (k + 1)) (vs.take (k + 1)) := by
  have h1 := ways_few (hz.take (k + 1)) (by simp; omega)
  obtain ⟨h2, h3⟩ := place_in (hz.take (k + 1)) (h.take (k + 1))
  have h4 := h.2 k hk hk'
  have h5 := hz _ (List.getElem_mem hk)
  rw [placeM_take hk hk'] at h2 h3 ⊢
  generalize placeM 0 (zs.take k) (vs.take k) * zs[k] = q at h2 h3 ⊢
  generalize vs[k] = v at h2 h3 h4 ⊢
  refine ⟨q, ?_, ?_⟩ <;> (rw [IntKind.wrap_i64]; omega)

set_option maxRecDepth 100000 in
theorem numberOf_any (zs vs : List Int) (w : World) (v v' : Value) (h : RInts w v zs) (h' : RInts w v' vs) (hz : Sizes zs) (hl : zs.length ≤ 4) (hin : InAll zs vs) :
    Calls Try.prog 119 #[v, v'] w fun e w' => e = .returned (.int .i64 (placeM 0 zs vs)) ∧ w = w' := by
  have H := Lib.hid h
  have H' := Lib.hid h'
  obtain ⟨A, c, rfl, -⟩ := h.form
  obtain ⟨A', c', rfl, -⟩ := h'.form
  have HW := Lib.hid (fun (k : Nat) (hk : k < zs.length) (hk' : k < vs.length) => place_wrap hz hl hin hk hk')
  have HL := Lib.hid hin.1
  have hvl : vs.length ≤ 4 := by rw [hin.1]; exact hl
  clear h h' hz hin
  go_enter Try.func119, Try.ntmps119
  go_wp2
  go_loopw [5, 6, 7, 10] (fun p _ _ i wr => ∃ k : Nat, k ≤ vs.length ∧ i = .int .i64 k ∧ p = .int .i64 (placeM 0 (zs.take k) (vs.take k)) ∧ w = wr) (fun _ _ _ i _ => vs.length - (intOf i).toNat)
  case atStart => exact ⟨0, Nat.zero_le _, rfl, rfl, rfl⟩
  case round =>
    obtain ⟨k, hk, rfl, rfl, rfl⟩ := hrel
    by_cases hlt : k < vs.length
    · obtain ⟨b, o, c2, e, hx⟩ := H'.out.at_ hlt
      cases e
      have hlt' : (k : Int) < (vs.length : Int) := by omega
      have hkz : k < zs.length := by rw [← HL.out]; exact hlt
      have hkz' : (k : Int) < (zs.length : Int) := by omega
      obtain ⟨b2, o2, c3, e, hy⟩ := H.out.at_ hkz
      cases e
      obtain ⟨a, hw1, hw2⟩ := HW.out k hkz hlt
      generalize vs[k] = x at hx hw2
      generalize zs[k] = z at hy hw1
      generalize hq : placeM 0 (zs.take (k + 1)) (vs.take (k + 1)) = q at hw2
      have HQ := Lib.hid hq
      clear hq
      go_wp2
      go_roundw
      case rel => exact ⟨k + 1, by omega, by go_num, by rw [HQ.out], by first | trivial | rfl⟩
      case measure => simp [intOf]; omega
    · have hkn : k = vs.length := by omega
      have hlt' : ¬ (k : Int) < (vs.length : Int) := by omega
      have HT := Lib.hid (show zs.take k = zs from take_all (by rw [← HL.out]; omega))
      have HT2 := Lib.hid (show vs.take k = vs from take_all (by omega))
      rw [HT.out, HT2.out]
      go_wp2
      go_ret
      exact ⟨rfl, rfl⟩

/-- two rows that are being filled at once: k of their places are done -/
def TwoAt (W2 wr : World) (bs bt n : Nat) (xs ys : List Int) (k : Nat) : Prop :=
  ∃ cs ds : Array Value, wr.heap[bs]? = some (.cells cs 3 (0, 0)) ∧ wr.heap[bt]? = some (.cells ds 3 (0, 0)) ∧ cs.size = n ∧ ds.size = n ∧ (∀ j, j < k → cs[j]? = (xs[j]?).map (Value.int .i64)) ∧ (∀ j, j < k → ds[j]? = (ys[j]?).map (Value.int .i64)) ∧
    bs ≠ bt ∧ W2.heap.size ≤ bs ∧ W2.heap.size ≤ bt ∧ Below W2.heap.size W2 wr
section
variable {W2 wr w6 : World} {bs bt n k : Nat} {xs ys : List Int} {x y : Int}
theorem TwoAt.bel (h : TwoAt W2 wr bs bt n xs ys k) : Below W2.heap.size W2 wr := by obtain ⟨_, _, _, _, _, _, _, _, _, _, _, hb⟩ := h; exact hb
theorem TwoAt.ne (h : TwoAt W2 wr bs bt n xs ys k) : bs ≠ bt ∧ W2.heap.size ≤ bs ∧ W2.heap.size ≤ bt := by obtain ⟨_, _, _, _, _, _, _, _, a, b, c, _⟩ := h; exact ⟨a, b, c⟩
theorem two_put {cs : Array Value} {zs : List Int} {z : Int} (hs : cs.size = n) (hk : k < n) (hd : ∀ j, j < k → cs[j]? = (zs[j]?).map (Value.int .i64)) (hz : zs[k]? = some z) : ∀ j, j < k + 1 → (cs.setIfInBounds k (.int .i64 z))[j]? = (zs[j]?).map (Value.int .i64) := by
  intro j hj
  rw [Array.getElem?_setIfInBounds]
  by_cases hjk : k = j
  · subst hjk
    rw [if_pos rfl, if_pos (by omega), hz]
    rfl
  · rw [if_neg hjk]
    exact hd j (by omega)
theorem TwoAt.step (h : TwoAt W2 wr bs bt n xs ys k) (hb : Below wr.heap.size wr w6) (hk : k < n) (hx : xs[k]? = some x) (hy : ys[k]? = some y) :
    TwoAt W2 ((w6.setCell ⟨bs, k, none⟩ (.int .i64 x)).setCell ⟨bt, k, none⟩ (.int .i64 y)) bs bt n xs ys (k + 1) := by
  obtain ⟨cs, ds, a1, a2, a3, a4, a5, a6, a7, a8, a9, a10⟩ := h
  have b1 := (hb.block _ (Array.getElem?_eq_some_iff.1 a1).1).trans a1
  have b2 := (hb.block _ (Array.getElem?_eq_some_iff.1 a2).1).trans a2
  refine ⟨_, _, (Below.heap_setCell _ ⟨bt, k, none⟩ _ bs (by show bs ≠ bt; exact a7)).trans (blk_set b1 k _), blk_set ((Below.heap_setCell _ ⟨bs, k, none⟩ _ bt (by show bt ≠ bs; exact fun e => a7 e.symm)).trans b2) k _, by simpa using a3, by simpa using a4, two_put a3 hk a5 hx, two_put a4 hk a6 hy, a7, a8, a9,
    ((a10.trans (hb.mono a10.size)).setCell (p := ⟨bs, k, none⟩) a8 _).setCell (p := ⟨bt, k, none⟩) a9 _⟩
theorem TwoAt.cells (h : TwoAt W2 wr bs bt n xs ys k) (hb : Below wr.heap.size wr w6) (hk : k < n) (X : Value) :
    (∃ u, w6.cell? ⟨bs, k, none⟩ = some u) ∧ w6.frozen? ⟨bs, k, none⟩ = false ∧ (∃ u, (w6.setCell ⟨bs, k, none⟩ X).cell? ⟨bt, k, none⟩ = some u) ∧ (w6.setCell ⟨bs, k, none⟩ X).frozen? ⟨bt, k, none⟩ = false := by
  obtain ⟨cs, ds, a1, a2, a3, a4, a5, a6, a7, a8, a9, a10⟩ := h
  have b1 := (hb.block _ (Array.getElem?_eq_some_iff.1 a1).1).trans a1
  have b2 := (hb.block _ (Array.getElem?_eq_some_iff.1 a2).1).trans a2
  have b3 := (Below.heap_setCell w6 ⟨bs, k, none⟩ X bt (by show bt ≠ bs; exact fun e => a7 e.symm)).trans b2
  exact ⟨⟨cs[k]'(by omega), (blk_cell b1 k).trans (Array.getElem?_eq_getElem (by omega))⟩, blk_free b1 k, ⟨ds[k]'(by omega), (blk_cell b3 k).trans (Array.getElem?_eq_getElem (by omega))⟩, blk_free b3 k⟩
theorem TwoAt.done (h : TwoAt W2 wr bs bt n xs ys n) (hx : xs.length = n) (hy : ys.length = n) (hm : n ≤ 9223372036854775807) : RInts wr (.slice (some ⟨bs, 0, none⟩) n n) xs ∧ RInts wr (.slice (some ⟨bt, 0, none⟩) n n) ys := by
  obtain ⟨cs, ds, a1, a2, a3, a4, a5, a6, a7, a8, a9, a10⟩ := h
  refine ⟨⟨_, n, by rw [hx], by omega, by rw [maxLen_eq]; exact hm, fun j x hj => ⟨bs, 0, rfl, ?_⟩⟩, ⟨_, n, by rw [hy], by omega, by rw [maxLen_eq]; exact hm, fun j x hj => ⟨bt, 0, rfl, ?_⟩⟩⟩
  · have hl := (List.getElem?_eq_some_iff.1 hj).1
    rw [Nat.zero_add, blk_cell a1, a5 j (by omega), hj]; rfl
  · have hl := (List.getElem?_eq_some_iff.1 hj).1
    rw [Nat.zero_add, blk_cell a2, a6 j (by omega), hj]; rfl
theorem two_start {W wx : World} {o : Array Value} (hh : wx.heap = ((W.alloc (.cells o 3)).alloc (.cells o 3)).heap) (ho : wx.os = W.os) (ht : wx.tape = W.tape) (hp : wx.output = W.output) (hn : o.size = n) (xs ys : List Int) :
    TwoAt W wx W.heap.size (W.heap.size + 1) n xs ys 0 ∧ TwoAt W wx (W.heap.size + 1) W.heap.size n xs ys 0 := by
  have h1 : ((W.alloc (.cells o 3)).alloc (.cells o 3)).heap[W.heap.size]? = some (.cells o 3 (0, 0)) := by
    rw [heap_alloc_old _ _ (by simp)]; exact heap_alloc_new W _
  have h2 : ((W.alloc (.cells o 3)).alloc (.cells o 3)).heap[W.heap.size + 1]? = some (.cells o 3 (0, 0)) :=
    (congrArg (fun i => ((W.alloc (.cells o 3)).alloc (.cells o 3)).heap[i]?) (by simp)).trans (heap_alloc_new (W.alloc (.cells o 3)) _)
  have hb : Below W.heap.size W ((W.alloc (.cells o 3)).alloc (.cells o 3)) := (below_alloc _ _).alloc (by simp) _
  have hb' : Below W.heap.size W wx := ⟨ho, ht, hp, by rw [hh]; exact hb.size, fun n hn => by rw [hh]; exact hb.block n hn⟩
  rw [← hh] at h1 h2
  exact ⟨⟨o, o, h1, h2, hn, hn, fun j hj => by omega, fun j hj => by omega, by omega, by omega, by omega, hb'⟩, ⟨o, o, h2, h1, hn, hn, fun j hj => by omega, fun j hj => by omega, by omega, by omega, by omega, hb'⟩⟩
end
end

section
open Go.RowKit
set_option linter.unusedVariables false
set_option linter.unusedSimpArgs false

theorem ta_letter (v : Value) (w : World) : (Instr.typeAssert (.iface 140 v) 94 140 true).run Try.prog w = .ok (.tuple #[v, .bool true]) w := by kernel_rfl
theorem ta_op (v : Value) (w : World) : (Instr.typeAssert (.iface 143 v) 94 143 true).run Try.prog w = .ok (.tuple #[v, .bool true]) w := by kernel_rfl
theorem ta_not (v : Value) (w : World) : (Instr.typeAssert (.iface 143 v) 94 140 true).run Try.prog w = .ok (.tuple #[.agg #[.int .i64 0, .int .i64 0], .bool false]) w := by kernel_rfl
def ValAt (m : MModel) (vals : List Int) (tm : Tm) : Prop := ∀ (w : World) (v vt vv : Value) (M : Nat → Prop), RModel w v m → RTerm w M vt tm → RInts w vv vals →
  Calls Try.prog 71 #[v, vt, vv] w fun e w' => e = .returned (.int .i64 (valT m vals tm)) ∧ Below w.heap.size w w'

set_option maxRecDepth 100000 in
theorem val_leaf (m : MModel) (vals : List Int) (k : Nat) (of : Int) (hk : k < vals.length) : ValAt m vals (.leaf k of) := by
  intro w v vt vv M h1 h2 h3
  unfold RTerm at h2
  subst h2
  obtain ⟨Ama, cma, Amb, cmb, rfl⟩ := h1.form
  have hb : Below w.heap.size w (w.alloc (.cells #[.slice Ama m.sizes.length cma, .slice Amb m.tables.length cmb] 30)) := below_alloc _ _
  have HB := Lib.hid hb
  have hsz : (w.alloc (.cells #[.slice Ama m.sizes.length cma, .slice Amb m.tables.length cmb] 30)).heap.size = w.heap.size + 1 := by simp
  have Hm := Lib.hid (h1.keep hb)
  have m0 := bx_at (w) #[.slice Ama m.sizes.length cma, .slice Amb m.tables.length cmb] 30 (k := 0) rfl
  have m1 := bx_at (w) #[.slice Ama m.sizes.length cma, .slice Amb m.tables.length cmb] 30 (k := 1) rfl
  generalize hW : w.alloc (.cells #[.slice Ama m.sizes.length cma, .slice Amb m.tables.length cmb] 30) = W at HB hsz Hm m0 m1
  clear hb h1
  obtain ⟨b, o, c, e, hx⟩ := (h3.keep HB.out).at_ hk
  cases e
  have HR := Lib.hid (show valT m vals (.leaf k of) = vals[k] by simp only [valT]; exact getD_at _ hk)
  generalize vals[k] = x at hx HR
  have hk' : (k : Int) < (vals.length : Int) := by omega
  have hba := below_alloc W (.cells #[.int .i64 (k : Int), .int .i64 of] 140)
  have hx2 := cell_keep hba hx
  have hb1 := (box_cells W (.int .i64 (k : Int)) (.int .i64 of) 140).1
  have HB2 := Lib.hid (sz_keep HB.out hba)
  have hw9 := World.new_ne W _ hx
  rw [hsz] at hb1
  have ta1 := ta_letter
  clear h3 m0 m1 hba
  go_enter Try.func71, Try.ntmps71
  go_wp2
  go_ret
  exact ⟨ret_int HR.out.symm, HB2.out⟩

set_option maxHeartbeats 3200000 in
set_option maxRecDepth 100000 in
theorem val_node (s : MSig) (m : MModel) (vars vals : List Int) (hf : ModFacts s m) (hv : ValsOk m vars vals) (op : Nat) (lv : Int) (ts : List Tm) (hw : wfT s vars (.node op lv ts)) (ih : ∀ (k : Nat) (h : k < ts.length), ValAt m vals ts[k]) : ValAt m vals (.node op lv ts) := by
  intro w v vt vv M h1 h2 h3
  have HST := Lib.hid (sizesT_taken hf hw)
  obtain ⟨pn, hop, hpn, hpl, hval⟩ := place_table hf hv hw
  have hw0 := hw
  unfold wfT at hw0
  obtain ⟨hk, -, hts⟩ := hw0
  have HIN := Lib.hid (valTs_in hf hv ts _ hts)
  have HSZ := Lib.hid (show Sizes (sizesT m ts) by rw [HST.out]; exact (hf.taken hk).1)
  have hl2 : ts.length ≤ 2 := by
    have := (hf.taken hk).2
    rw [← HST.out, sizesT_len] at this
    exact this
  have HSO := Lib.hid (show ∀ (k : Nat) (h : k < ts.length), 0 ≤ ts[k].sort ∧ ts[k].sort < (m.sizes.length : Int) from fun k h => by
    have hs := wfTs_sorts hts
    have hm : ts[k].sort ∈ (opRow s op).dropLast := by rw [hs]; exact List.mem_map_of_mem (List.getElem_mem h)
    have := (opRow_valid hf.va hk).2.2 _ (List.mem_of_mem_dropLast' hm)
    have := hf.sl
    omega)
  have HIH := Lib.hid ih
  have HPL := Lib.hid hpl
  have HVAL := Lib.hid hval
  clear hw hts hpl hval hf hv ih
  obtain ⟨Ama, cma, Amb, cmb, rfl⟩ := h1.form
  have hb : Below w.heap.size w (w.alloc (.cells #[.slice Ama m.sizes.length cma, .slice Amb m.tables.length cmb] 30)) := below_alloc _ _
  have HB := Lib.hid hb
  have hsz : (w.alloc (.cells #[.slice Ama m.sizes.length cma, .slice Amb m.tables.length cmb] 30)).heap.size = w.heap.size + 1 := by simp
  have Hm := Lib.hid (h1.keep hb)
  have m0 := bx_at (w) #[.slice Ama m.sizes.length cma, .slice Amb m.tables.length cmb] 30 (k := 0) rfl
  have m1 := bx_at (w) #[.slice Ama m.sizes.length cma, .slice Amb m.tables.length cmb] 30 (k := 1) rfl
  generalize hW : w.alloc (.cells #[.slice Ama m.sizes.length cma, .slice Amb m.tables.length cmb] 30) = W at HB hsz Hm m0 m1
  clear hb h1
  have hml := Hm.out.of.2.len
  have H2 := Lib.hid (h2.below HB.out)
  have H3 := Lib.hid (h3.keep HB.out)
  unfold RTerm at h2
  obtain ⟨A, c, us, rfl, hc1, hc2, hul, hat, hrt⟩ := h2
  have HRT := Lib.hid (show RTerms W M us ts from hrt.below HB.out)
  have HAT := Lib.hid (show ∀ (j : Nat) (u : Value), us[j]? = some u → ∃ b o, A = some ⟨b, o, none⟩ ∧ W.cell? ⟨b, o + j, none⟩ = some u from fun j u hj => by obtain ⟨b, o, e, -, hcc⟩ := hat j u hj; exact ⟨b, o, e, cell_keep HB.out hcc⟩)
  have HUL := Lib.hid hul
  obtain ⟨Av, cv, rfl, -⟩ := h3.form
  obtain ⟨b7, o7, c7, u7, e, ht7, hr7⟩ := Hm.out.of.2.at_ hop
  cases e
  have HR7 := Lib.hid hr7
  obtain ⟨b8, o8, c8, e, ht8⟩ := hr7.at_ hpn
  subst e
  generalize m.tables[op][pn] = y at ht8 HVAL
  clear hr7
  generalize m.tables[op].length = tl at ht7 hpn
  have hop' : (op : Int) < (m.tables.length : Int) := by omega
  have hpn' : (pn : Int) < (tl : Int) := by omega
  have hba := below_alloc W (.cells #[.int .i64 (op : Int), .int .i64 lv, .slice A ts.length c] 143)
  obtain ⟨z0, z1, z2⟩ := three_cells W (.int .i64 (op : Int)) (.int .i64 lv) (.slice A ts.length c) 143
  have HBW := Lib.hid hba
  have hsz2 : (W.alloc (.cells #[.int .i64 (op : Int), .int .i64 lv, .slice A ts.length c] 143)).heap.size = w.heap.size + 2 := by rw [World.size_alloc, hsz]
  rw [hsz] at z0 z1 z2
  have HC := Lib.hid (And.intro m0 (And.intro m1 (And.intro ht7 ht8)))
  generalize hW2 : W.alloc (.cells #[.int .i64 (op : Int), .int .i64 lv, .slice A ts.length c] 143) = W2 at z0 z1 z2 HBW hsz2
  have HZ := Lib.hid (And.intro z0 z2)
  have hmk := run_make_row' (P := Try.prog) 26 3 (.int .i64 0) 8 Try.underlying26 Try.tinfo_int rfl .i64 .i64 ts.length (by omega) (by omega)
  clear h3 hc2 hul hat hrt hba m0 m1 ht7 ht8 z0 z1 hk
  have ta2 := ta_not
  have ta3 := ta_op
  go_enter Try.func71, Try.ntmps71
  go_wp2_with fail
  clear hW hW2
  go_cut [9, 10] (fun s9 s10 wx => ∃ bs bt : Nat, s9 = .slice (some ⟨bs, 0, none⟩) ts.length ts.length ∧ s10 = .slice (some ⟨bt, 0, none⟩) ts.length ts.length ∧ TwoAt W2 wx bs bt ts.length (sizesT m ts) (valTs m vals ts) 0)
  case first =>
    go_region_held3 (fun w' => w'.cell? ⟨w.heap.size + 1, 2, none⟩ = some (.slice A ts.length c)) (first | (refine cell_keep (w := W2) ?_ z2; repeat (first | exact Below.refl _ _ | apply vb_drew | apply vb_alloc))) (first | fail)
    all_goals
      go_wp2_with fail
      go_meet
      case rel =>
        obtain ⟨p0, p1⟩ := two_start (W := W2) (n := ts.length) (wx := ((W2.alloc (.cells (madeCells #[.int .i64 0] ts.length) 3)).alloc (.cells (madeCells #[.int .i64 0] ts.length) 3)).drew) rfl rfl rfl rfl (by simp [madeCells]) (sizesT m ts) (valTs m vals ts)
        rw [hsz2] at p0 p1
        refine ⟨_, _, rfl, rfl, ?_⟩
        first | exact p0 | exact p1
  case rest =>
  obtain ⟨bs, bt, rfl, rfl, h2at⟩ := hcut
  have HT0 := Lib.hid h2at
  have n2 := cell_keep h2at.bel HZ.out.2
  clear hmk z2 h2at
  go_wp2
  clear n2
  go_loopw [11, 12, 36] (fun _ _ i wr => ∃ k : Nat, k ≤ ts.length ∧ i = .int .i64 k ∧ TwoAt W2 wr bs bt ts.length (sizesT m ts) (valTs m vals ts) k) (fun _ _ i _ => ts.length - (intOf i).toNat)
  case atStart => exact ⟨0, Nat.zero_le _, rfl, HT0.out⟩
  case round =>
    clear HT0
    obtain ⟨k, hk, rfl, hta⟩ := hrel
    have HT := Lib.hid hta
    have HBR := Lib.hid (show Below W.heap.size W wr from HBW.out.trans (hta.bel.mono HBW.out.size))
    clear hta
    have f0 := cell_keep HBR.out HC.out.1
    have f1 := cell_keep HBR.out HC.out.2.1
    by_cases hlt : k < ts.length
    · have hlt' : (k : Int) < (ts.length : Int) := by omega
      obtain ⟨u, hu, hru⟩ := HRT.out.at_ hlt
      obtain ⟨b9, o9, e9, hcu⟩ := HAT.out k u hu
      subst e9
      have f2 := cell_keep HBR.out hcu
      have hso := HSO.out k hlt
      have HIK := Lib.hid (HIH.out k hlt)
      have HXK := Lib.hid (show (sizesT m ts)[k]? = some (m.sizes.getD ts[k].sort.toNat 0) by unfold sizesT; rw [List.getElem?_map, List.getElem?_eq_getElem hlt]; rfl)
      have HYK := Lib.hid (show (valTs m vals ts)[k]? = some (valT m vals ts[k]) by rw [valTs_map, List.getElem?_map, List.getElem?_eq_getElem hlt]; rfl)
      obtain ⟨T, y9, fid, rfl, hms, hcf, hsc⟩ := hru.sorts
      have HSC := Lib.hid hsc
      have HRU := Lib.hid hru
      clear hu hru hcu hsc
      generalize ts[k] = t at hso HIK HXK HYK HSC HRU
      obtain ⟨n, hn⟩ : ∃ n : Nat, t.sort = (n : Int) := ⟨t.sort.toNat, by omega⟩
      rw [hn] at hso
      have hnl : n < m.sizes.length := by omega
      have hnl' : (n : Int) < (m.sizes.length : Int) := by omega
      obtain ⟨b6, o6, c6, e6, hz6⟩ := Hm.out.of.1.at_ hnl
      cases e6
      replace HXK := Lib.hid (show (sizesT m ts)[k]? = some m.sizes[n] by rw [HXK.out, hn, Int.toNat_natCast, getD_at _ hnl])
      have HSC := Lib.hid (show ∀ w' : World, Calls Try.prog fid #[y9] w' fun e w'' => e = .returned (.int .i64 (n : Int)) ∧ Below w'.heap.size w' w'' by rw [← hn]; exact HSC.out)
      generalize m.sizes[n] = z at hz6 HXK
      have f3 := cell_keep HBR.out hz6
      have g6 := World.block_lt_of_cell? W _ hz6
      obtain ⟨nb1, nb2, nb3⟩ := HT.out.ne
      simp only at g6
      have hd1 : w.heap.size ≠ bs := by omega
      have hd2 : w.heap.size ≠ bt := by omega
      have hd3 : b6 ≠ bs := by omega
      have hd4 : b6 ≠ bt := by omega
      clear hn hz6 hso g6
      go_wp2_with fail
      refine wp_region_held_drew (S := (fun w' => w'.cell? ⟨w.heap.size, 0, none⟩ = some (.slice (some ⟨b6, o6, none⟩) m.sizes.length cma) ∧ w'.cell? ⟨w.heap.size, 1, none⟩ = some (.slice (some ⟨b7, o7, none⟩) m.tables.length cmb) ∧ w'.cell? ⟨b6, o6 + n, none⟩ = some (.int .i64 z))) (by kernel_rfl) ?_ (fun hHeld => ?_)
      · exact ⟨f0, f1, f3⟩
      refine wpAnyH_take (i := 0) (oi := _) (v := ?_) rfl (by kernel_rfl) (by kernel_rfl) (by kernel_rfl) (fun _ _ _ h => h) (Or.inl ⟨by rfl, ?_⟩) (by assumption) ?_
      rotate_left
      · first | (intro w' hSw; (try dsimp only at hSw); go_simp; done) | (intro w' hSw; (try dsimp only at hSw); go_simp; with_reducible rfl)
      try simp only [Act.put, List.getElem_toArray, List.getElem_cons_zero, List.getElem_cons_succ, List.setIfInBounds_toArray, List.set_cons_zero, List.set_cons_succ]
      refine wpAnyH_take (i := 1) (oi := _) (v := ?_) rfl (by kernel_rfl) (by kernel_rfl) (by kernel_rfl) (fun _ _ _ h => h) (Or.inl ⟨by rfl, ?_⟩) (by assumption) ?_
      rotate_left
      · first | (intro w' hSw; (try dsimp only at hSw); go_simp; done) | (intro w' hSw; (try dsimp only at hSw); go_simp; with_reducible rfl)
      try simp only [Act.put, List.getElem_toArray, List.getElem_cons_zero, List.getElem_cons_succ, List.setIfInBounds_toArray, List.set_cons_zero, List.set_cons_succ]
      refine wpAnyH_take (i := 2) (oi := _) (v := ?_) rfl (by kernel_rfl) (by kernel_rfl) (by kernel_rfl) (fun _ _ _ h => h) (Or.inl ⟨by rfl, ?_⟩) (by assumption) ?_
      rotate_left
      · first | (intro w' hSw; (try dsimp only at hSw); go_simp; done) | (intro w' hSw; (try dsimp only at hSw); go_simp; with_reducible rfl)
      try simp only [Act.put, List.getElem_toArray, List.getElem_cons_zero, List.getElem_cons_succ, List.setIfInBounds_toArray, List.set_cons_zero, List.set_cons_succ]
      refine wpAnyH_take (i := 3) (oi := _) (v := ?_) rfl (by kernel_rfl) (by kernel_rfl) (by kernel_rfl) (fun _ _ _ h => h) (Or.inl ⟨by rfl, ?_⟩) (by assumption) ?_
      rotate_left
      · first | (intro w' hSw; (try dsimp only at hSw); go_simp; done) | (intro w' hSw; (try dsimp only at hSw); go_simp; with_reducible rfl)
      try simp only [Act.put, List.getElem_toArray, List.getElem_cons_zero, List.getElem_cons_succ, List.setIfInBounds_toArray, List.set_cons_zero, List.set_cons_succ]
      refine wpAnyH_take (i := 4) (oi := _) (v := ?_) rfl (by kernel_rfl) (by kernel_rfl) (by kernel_rfl) (fun _ _ _ h => h) (Or.inl ⟨by rfl, ?_⟩) (by assumption) ?_
      rotate_left
      · first | (intro w' hSw; (try dsimp only at hSw); go_simp; done) | (intro w' hSw; (try dsimp only at hSw); go_simp; with_reducible rfl)
      try simp only [Act.put, List.getElem_toArray, List.getElem_cons_zero, List.getElem_cons_succ, List.setIfInBounds_toArray, List.set_cons_zero, List.set_cons_succ]
      refine wpAnyH_take (i := 5) (oi := _) (v := ?_) rfl (by kernel_rfl) (by kernel_rfl) (by kernel_rfl) (fun _ _ _ h => h) (Or.inl ⟨by rfl, ?_⟩) (by assumption) ?_
      rotate_left
      · first | (intro w' hSw; (try dsimp only at hSw); go_simp; done) | (intro w' hSw; (try dsimp only at hSw); go_simp; with_reducible rfl)
      try simp only [Act.put, List.getElem_toArray, List.getElem_cons_zero, List.getElem_cons_succ, List.setIfInBounds_toArray, List.set_cons_zero, List.set_cons_succ]
      refine wpAnyH_take (i := 6) (oi := _) (v := ?_) rfl (by kernel_rfl) (by kernel_rfl) (by kernel_rfl) (fun _ _ _ h => h) (Or.inl ⟨by rfl, ?_⟩) (by assumption) ?_
      rotate_left
      · first | (intro w' hSw; (try dsimp only at hSw); go_simp; done) | (intro w' hSw; (try dsimp only at hSw); go_simp; with_reducible rfl)
      try simp only [Act.put, List.getElem_toArray, List.getElem_cons_zero, List.getElem_cons_succ, List.setIfInBounds_toArray, List.set_cons_zero, List.set_cons_succ]
      refine wpAnyH_take (i := 10) (oi := _) (v := ?_) rfl (by kernel_rfl) (by kernel_rfl) (by kernel_rfl) (fun _ _ _ h => h) (Or.inl ⟨by rfl, ?_⟩) (by assumption) ?_
      rotate_left
      · first | (intro w' hSw; (try dsimp only at hSw); go_simp; done) | (intro w' hSw; (try dsimp only at hSw); go_simp; with_reducible rfl)
      try simp only [Act.put, List.getElem_toArray, List.getElem_cons_zero, List.getElem_cons_succ, List.setIfInBounds_toArray, List.set_cons_zero, List.set_cons_succ]
      refine wpAnyH_take (i := 11) (oi := _) (v := ?_) rfl (by kernel_rfl) (by kernel_rfl) (by kernel_rfl) (fun _ _ _ h => h) (Or.inl ⟨by rfl, ?_⟩) (by assumption) ?_
      rotate_left
      · first | (intro w' hSw; (try dsimp only at hSw); go_simp; done) | (intro w' hSw; (try dsimp only at hSw); go_simp; with_reducible rfl)
      try simp only [Act.put, List.getElem_toArray, List.getElem_cons_zero, List.getElem_cons_succ, List.setIfInBounds_toArray, List.set_cons_zero, List.set_cons_succ]
      refine wpAnyH_take (i := 12) (oi := _) (v := ?_) rfl (by kernel_rfl) (by kernel_rfl) (by kernel_rfl) (fun _ _ _ h => h) (Or.inl ⟨by rfl, ?_⟩) (by assumption) ?_
      rotate_left
      · first | (intro w' hSw; (try dsimp only at hSw); go_simp; done) | (intro w' hSw; (try dsimp only at hSw); go_simp; with_reducible rfl)
      try simp only [Act.put, List.getElem_toArray, List.getElem_cons_zero, List.getElem_cons_succ, List.setIfInBounds_toArray, List.set_cons_zero, List.set_cons_succ]
      refine wpAnyH_ready (rs := [7]) (by kernel_rfl) (by simp) ?_
      refine AllReadyH.cons (o := _) rfl (fun K hK => ?_) AllReadyH.nil
      go_simp
      (with_reducible (show Calls _ _ _ _ _))
      refine (HSC.out wr.drew).mono ?_
      rintro x w4 ⟨rfl, hb4⟩
      have hx4 := vb_undrew hb4
      have HX4 := Lib.hid hx4
      have j1 := cell_keep hx4 f0
      have j2 := cell_keep hx4 f1
      have j3 := cell_keep hx4 f3
      clear hb4 hx4
      go_wp2_with fail
      refine hK.out _ _ ?_ (fun hHeld => ?_)
      · exact ⟨j1, j2, j3⟩
      clear hK K
      try simp only [Act.put, List.getElem_toArray, List.getElem_cons_zero, List.getElem_cons_succ, List.setIfInBounds_toArray, List.set_cons_zero, List.set_cons_succ]
      refine wpAnyH_take (i := 8) (oi := _) (v := ?_) rfl (by kernel_rfl) (by kernel_rfl) (by kernel_rfl) (fun _ _ _ h => h) (Or.inl ⟨by rfl, ?_⟩) (by assumption) ?_
      rotate_left
      · first | (intro w' hSw; (try dsimp only at hSw); go_simp; done) | (intro w' hSw; (try dsimp only at hSw); go_simp; with_reducible rfl)
      try simp only [Act.put, List.getElem_toArray, List.getElem_cons_zero, List.getElem_cons_succ, List.setIfInBounds_toArray, List.set_cons_zero, List.set_cons_succ]
      refine wpAnyH_take (i := 9) (oi := _) (v := ?_) rfl (by kernel_rfl) (by kernel_rfl) (by kernel_rfl) (fun _ _ _ h => h) (Or.inl ⟨by rfl, ?_⟩) (by assumption) ?_
      rotate_left
      · first | (intro w' hSw; (try dsimp only at hSw); go_simp; done) | (intro w' hSw; (try dsimp only at hSw); go_simp; with_reducible rfl)
      try simp only [Act.put, List.getElem_toArray, List.getElem_cons_zero, List.getElem_cons_succ, List.setIfInBounds_toArray, List.set_cons_zero, List.set_cons_succ]
      refine wpAnyH_ready (rs := [13]) (by kernel_rfl) (by simp) ?_
      refine AllReadyH.cons (o := _) rfl (fun K hK => ?_) AllReadyH.nil
      go_simp
      refine (HIK.out w4 _ _ _ M ((Hm.out.keep HBR.out).keep HX4.out) ((HRU.out.below HBR.out).below HX4.out) ((H3.out.keep HBR.out).keep HX4.out)).mono ?_
      rintro x w6 ⟨rfl, hb6⟩
      have HX6 := Lib.hid (sz_keep HX4.out hb6)
      have q1 := cell_keep hb6 j1
      have q2 := cell_keep hb6 j2
      have q3 := cell_keep hb6 j3
      obtain ⟨⟨u1, e1⟩, e2, ⟨u2, e3⟩, e4⟩ := HT.out.cells HX6.out hlt (.int .i64 z)
      clear hb6
      go_wp2_with fail
      refine hK.out _ _ ?_ (fun hHeld => ?_)
      · exact ⟨q1, q2, q3⟩
      clear hK K
      try simp only [Act.put, List.getElem_toArray, List.getElem_cons_zero, List.getElem_cons_succ, List.setIfInBounds_toArray, List.set_cons_zero, List.set_cons_succ]
      refine wpAnyH_take (i := 14) (oi := _) (v := ?_) rfl (by kernel_rfl) (by kernel_rfl) (by kernel_rfl) (fun _ _ _ h => h) (Or.inl ⟨by rfl, ?_⟩) (by assumption) ?_
      rotate_left
      · first | (intro w' hSw; (try dsimp only at hSw); go_simp; done) | (intro w' hSw; (try dsimp only at hSw); go_simp; with_reducible rfl)
      try simp only [Act.put, List.getElem_toArray, List.getElem_cons_zero, List.getElem_cons_succ, List.setIfInBounds_toArray, List.set_cons_zero, List.set_cons_succ]
      refine wpAnyH_ready (rs := [15]) (by kernel_rfl) (by simp) ?_
      refine AllReadyH.cons (o := _) rfl (fun K hK => ?_) AllReadyH.nil
      go_simp
      skip
      go_wp2_with fail
      refine hK.out _ _ ?_ (fun hHeld => ?_)
      · exact ⟨(va_far hd1 _ _ _).trans q1, (va_far hd1 _ _ _).trans q2, (va_far hd3 _ _ _).trans q3⟩
      clear hK K
      try simp only [Act.put, List.getElem_toArray, List.getElem_cons_zero, List.getElem_cons_succ, List.setIfInBounds_toArray, List.set_cons_zero, List.set_cons_succ]
      refine wpAnyH_take (i := 16) (oi := _) (v := ?_) rfl (by kernel_rfl) (by kernel_rfl) (by kernel_rfl) (fun _ _ _ h => h) (Or.inl ⟨by rfl, ?_⟩) (by assumption) ?_
      rotate_left
      · first | (intro w' hSw; (try dsimp only at hSw); go_simp; done) | (intro w' hSw; (try dsimp only at hSw); go_simp; with_reducible rfl)
      try simp only [Act.put, List.getElem_toArray, List.getElem_cons_zero, List.getElem_cons_succ, List.setIfInBounds_toArray, List.set_cons_zero, List.set_cons_succ]
      refine wpAnyH_ready (rs := [17]) (by kernel_rfl) (by simp) ?_
      refine AllReadyH.cons (o := _) rfl (fun K hK => ?_) AllReadyH.nil
      go_simp
      skip
      go_wp2_with fail
      refine hK.out _ _ ?_ (fun hHeld => ?_)
      · exact ⟨(va_far hd2 _ _ _).trans ((va_far hd1 _ _ _).trans q1), (va_far hd2 _ _ _).trans ((va_far hd1 _ _ _).trans q2), (va_far hd4 _ _ _).trans ((va_far hd3 _ _ _).trans q3)⟩
      clear hK K
      try simp only [Act.put, List.getElem_toArray, List.getElem_cons_zero, List.getElem_cons_succ, List.setIfInBounds_toArray, List.set_cons_zero, List.set_cons_succ]
      refine wpAnyH_done (by kernel_rfl) ?_ _
      have HTN := Lib.hid (HT.out.step HX6.out hlt HXK.out HYK.out)
      clear f0 f1 f2 f3 j1 j2 j3 q1 q2 q3 e1 e2 e3 e4
      go_wp2
      go_roundw
      case rel => exact ⟨k + 1, by omega, by go_num, HTN.out⟩
      case measure => simp [intOf]; omega
    · have hkn : k = ts.length := by omega
      have hlt' : ¬ (k : Int) < (ts.length : Int) := by omega
      rw [hkn] at HT
      have HD := Lib.hid (HT.out.done (sizesT_len m ts) (valTs_len m vals ts) (by omega))
      have g2 := cell_keep HT.out.bel HZ.out.1
      have g3 := cell_keep HBR.out HC.out.2.2.1
      have g4 := cell_keep HBR.out HC.out.2.2.2
      have hop0 : (0 : Int) ≤ (op : Int) := by omega
      have hpn0 : (0 : Int) ≤ (pn : Int) := by omega
      clear f0
      go_wp2_with fail
      refine wp_region_held_drew (S := (fun w' => w'.cell? ⟨w.heap.size, 1, none⟩ = some (.slice (some ⟨b7, o7, none⟩) m.tables.length cmb) ∧ w'.cell? ⟨w.heap.size + 1, 0, none⟩ = some (.int .i64 (op : Int)) ∧ w'.cell? ⟨b7, o7 + op, none⟩ = some (.slice (some ⟨b8, o8, none⟩) tl c8) ∧ w'.cell? ⟨b8, o8 + pn, none⟩ = some (.int .i64 y))) (by kernel_rfl) ?_ (fun hHeld => ?_)
      · exact ⟨f1, g2, g3, g4⟩
      refine wpAnyH_take (i := 0) (oi := _) (v := ?_) rfl (by kernel_rfl) (by kernel_rfl) (by kernel_rfl) (fun _ _ _ h => h) (Or.inl ⟨by rfl, ?_⟩) (by assumption) ?_
      rotate_left
      · first | (intro w' hSw; (try dsimp only at hSw); go_simp; done) | (intro w' hSw; (try dsimp only at hSw); go_simp; with_reducible rfl)
      try simp only [Act.put, List.getElem_toArray, List.getElem_cons_zero, List.getElem_cons_succ, List.setIfInBounds_toArray, List.set_cons_zero, List.set_cons_succ]
      refine wpAnyH_take (i := 1) (oi := _) (v := ?_) rfl (by kernel_rfl) (by kernel_rfl) (by kernel_rfl) (fun _ _ _ h => h) (Or.inl ⟨by rfl, ?_⟩) (by assumption) ?_
      rotate_left
      · first | (intro w' hSw; (try dsimp only at hSw); go_simp; done) | (intro w' hSw; (try dsimp only at hSw); go_simp; with_reducible rfl)
      try simp only [Act.put, List.getElem_toArray, List.getElem_cons_zero, List.getElem_cons_succ, List.setIfInBounds_toArray, List.set_cons_zero, List.set_cons_succ]
      refine wpAnyH_take (i := 2) (oi := _) (v := ?_) rfl (by kernel_rfl) (by kernel_rfl) (by kernel_rfl) (fun _ _ _ h => h) (Or.inl ⟨by rfl, ?_⟩) (by assumption) ?_
      rotate_left
      · first | (intro w' hSw; (try dsimp only at hSw); go_simp; done) | (intro w' hSw; (try dsimp only at hSw); go_simp; with_reducible rfl)
      try simp only [Act.put, List.getElem_toArray, List.getElem_cons_zero, List.getElem_cons_succ, List.setIfInBounds_toArray, List.set_cons_zero, List.set_cons_succ]
      refine wpAnyH_take (i := 3) (oi := _) (v := ?_) rfl (by kernel_rfl) (by kernel_rfl) (by kernel_rfl) (fun _ _ _ h => h) (Or.inl ⟨by rfl, ?_⟩) (by assumption) ?_
      rotate_left
      · first | (intro w' hSw; (try dsimp only at hSw); go_simp; done) | (intro w' hSw; (try dsimp only at hSw); go_simp; with_reducible rfl)
      try simp only [Act.put, List.getElem_toArray, List.getElem_cons_zero, List.getElem_cons_succ, List.setIfInBounds_toArray, List.set_cons_zero, List.set_cons_succ]
      refine wpAnyH_take (i := 4) (oi := _) (v := ?_) rfl (by kernel_rfl) (by kernel_rfl) (by kernel_rfl) (fun _ _ _ h => h) (Or.inl ⟨by rfl, ?_⟩) (by assumption) ?_
      rotate_left
      · first | (intro w' hSw; (try dsimp only at hSw); go_simp; done) | (intro w' hSw; (try dsimp only at hSw); go_simp; with_reducible rfl)
      try simp only [Act.put, List.getElem_toArray, List.getElem_cons_zero, List.getElem_cons_succ, List.setIfInBounds_toArray, List.set_cons_zero, List.set_cons_succ]
      refine wpAnyH_take (i := 5) (oi := _) (v := ?_) rfl (by kernel_rfl) (by kernel_rfl) (by kernel_rfl) (fun _ _ _ h => h) (Or.inl ⟨by rfl, ?_⟩) (by assumption) ?_
      rotate_left
      · first | (intro w' hSw; (try dsimp only at hSw); go_simp; done) | (intro w' hSw; (try dsimp only at hSw); go_simp; with_reducible rfl)
      try simp only [Act.put, List.getElem_toArray, List.getElem_cons_zero, List.getElem_cons_succ, List.setIfInBounds_toArray, List.set_cons_zero, List.set_cons_succ]
      refine wpAnyH_take (i := 6) (oi := _) (v := ?_) rfl (by kernel_rfl) (by kernel_rfl) (by kernel_rfl) (fun _ _ _ h => h) (Or.inl ⟨by rfl, ?_⟩) (by assumption) ?_
      rotate_left
      · first | (intro w' hSw; (try dsimp only at hSw); go_simp; done) | (intro w' hSw; (try dsimp only at hSw); go_simp; with_reducible rfl)
      try simp only [Act.put, List.getElem_toArray, List.getElem_cons_zero, List.getElem_cons_succ, List.setIfInBounds_toArray, List.set_cons_zero, List.set_cons_succ]
      refine wpAnyH_take (i := 7) (oi := _) (v := ?_) rfl (by kernel_rfl) (by kernel_rfl) (by kernel_rfl) (fun _ _ _ h => h) (Or.inl ⟨by rfl, ?_⟩) (by assumption) ?_
      rotate_left
      · first | (intro w' hSw; (try dsimp only at hSw); go_simp; done) | (intro w' hSw; (try dsimp only at hSw); go_simp; with_reducible rfl)
      try simp only [Act.put, List.getElem_toArray, List.getElem_cons_zero, List.getElem_cons_succ, List.setIfInBounds_toArray, List.set_cons_zero, List.set_cons_succ]
      refine wpAnyH_ready (rs := [8]) (by kernel_rfl) (by simp) ?_
      refine AllReadyH.cons (o := _) rfl (fun K hK => ?_) AllReadyH.nil
      go_simp
      refine (numberOf_any (sizesT m ts) (valTs m vals ts) _ _ _ (HD.out.1.keep (vb_drew (Below.refl _ _))) (HD.out.2.keep (vb_drew (Below.refl _ _))) HSZ.out (by rw [sizesT_len]; omega) HIN.out).mono ?_
      rw [HPL.out]
      rintro x w5 ⟨rfl, rfl⟩
      go_wp2_with fail
      refine hK.out _ _ ?_ (fun hHeld => ?_)
      · exact ⟨f1, g2, g3, g4⟩
      clear hK K
      try simp only [Act.put, List.getElem_toArray, List.getElem_cons_zero, List.getElem_cons_succ, List.setIfInBounds_toArray, List.set_cons_zero, List.set_cons_succ]
      refine wpAnyH_take (i := 9) (oi := _) (v := ?_) rfl (by kernel_rfl) (by kernel_rfl) (by kernel_rfl) (fun _ _ _ h => h) (Or.inl ⟨by rfl, ?_⟩) (by assumption) ?_
      rotate_left
      · first | (intro w' hSw; (try dsimp only at hSw); go_simp; done) | (intro w' hSw; (try dsimp only at hSw); go_simp; with_reducible rfl)
      try simp only [Act.put, List.getElem_toArray, List.getElem_cons_zero, List.getElem_cons_succ, List.setIfInBounds_toArray, List.set_cons_zero, List.set_cons_succ]
      refine wpAnyH_take (i := 10) (oi := _) (v := ?_) rfl (by kernel_rfl) (by kernel_rfl) (by kernel_rfl) (fun _ _ _ h => h) (Or.inl ⟨by rfl, ?_⟩) (by assumption) ?_
      rotate_left
      · first | (intro w' hSw; (try dsimp only at hSw); go_simp; done) | (intro w' hSw; (try dsimp only at hSw); go_simp; with_reducible rfl)
      try simp only [Act.put, List.getElem_toArray, List.getElem_cons_zero, List.getElem_cons_succ, List.setIfInBounds_toArray, List.set_cons_zero, List.set_cons_succ]
      refine wpAnyH_take (i := 11) (oi := _) (v := ?_) rfl (by kernel_rfl) (by kernel_rfl) (by kernel_rfl) (fun _ _ _ h => h) (Or.inl ⟨by rfl, ?_⟩) (by assumption) ?_
      rotate_left
      · first | (intro w' hSw; (try dsimp only at hSw); go_simp; done) | (intro w' hSw; (try dsimp only at hSw); go_simp; with_reducible rfl)
      try simp only [Act.put, List.getElem_toArray, List.getElem_cons_zero, List.getElem_cons_succ, List.setIfInBounds_toArray, List.set_cons_zero, List.set_cons_succ]
      refine wpAnyH_done (by kernel_rfl) ?_ _
      clear f1 g2 g3 g4
      go_wp2
      go_ret
      exact ⟨ret_int HVAL.out.symm, sz_keep HB.out (vb_drew HBR.out)⟩

mutual
theorem val_any {s : MSig} {m : MModel} {vars vals : List Int} (hf : ModFacts s m) (hv : ValsOk m vars vals) : ∀ tm : Tm, wfT s vars tm → ValAt m vals tm
  | .leaf k of, hw => by
    unfold wfT at hw
    exact val_leaf m vals k of (by rw [hv.1]; exact hw.1)
  | .node op lv ts, hw => val_node s m vars vals hf hv op lv ts hw (by
    have hw2 := hw
    unfold wfT at hw2
    exact val_all hf hv ts _ hw2.2.2)
theorem val_all {s : MSig} {m : MModel} {vars vals : List Int} (hf : ModFacts s m) (hv : ValsOk m vars vals) : ∀ (ts : List Tm) (ss : List Int), wfTs s vars ss ts → ∀ (k : Nat) (h : k < ts.length), ValAt m vals ts[k]
  | [], ss, hw, k, h => by simp at h
  | t :: ts, ss, hw, 0, h => by
    unfold wfTs at hw
    obtain ⟨x, ss', rfl, rfl, h1, h2⟩ := hw
    exact val_any hf hv t h1
  | t :: ts, ss, hw, k + 1, h => by
    unfold wfTs at hw
    obtain ⟨x, ss', rfl, rfl, h1, h2⟩ := hw
    exact val_all hf hv ts _ h2 k (by simpa using h)
end
end
end Go.Proofs.Ytbopcghbmbchkab
