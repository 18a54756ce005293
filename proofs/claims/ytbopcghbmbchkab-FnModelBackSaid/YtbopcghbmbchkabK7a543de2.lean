/- Where an equation fails: what both walks need of the plain functions. No walk. · A model along a map: it is one, and an equation holds in it exactly if the equation along the map holds in the model. No walk. · ModelOk of package impl. · ModelBack of both packages. -/
import Derived.Test.YtbopcghbmbchkabK32f8a85f
import Derived.Deep.RegionLaw
namespace Go.Proofs.Ytbopcghbmbchkab
section
open Go.RowKit
set_option linter.unusedVariables false
set_option linter.unusedSimpArgs false

theorem fails_no1 {s : MSig} {m : MModel} {e : MEq} (h : eqOkB s e = false) : failsM s m e = ([], false) := by unfold failsM; rw [h]; rfl
theorem fails_no2 {s : MSig} {m : MModel} {e : MEq} (h : modelB s m = false) : failsM s m e = ([], false) := by unfold failsM; rw [h, Bool.and_false]; rfl
/-- both sides of an equation that is ok are terms -/
theorem eq_terms {s : MSig} {e : MEq} (h : eqOkB s e = true) : varsB s e.vars = true ∧ ∃ l r : Tm, termM s e.vars e.left = some l ∧ termM s e.vars e.right = some r ∧ wfT s e.vars l ∧ wfT s e.vars r ∧ l.row = e.left ∧ r.row = e.right ∧ e.left.length ≤ 30 ∧ e.right.length ≤ 30 := by
  unfold eqOkB at h
  simp only [Bool.and_eq_true, decide_eq_true_eq] at h
  obtain ⟨h1, h2⟩ := h
  have hr : 0 ≤ sortM s e.vars e.right := by rw [h2]; exact h1
  have f : ∀ {t : List Int}, 0 ≤ sortM s e.vars t → ∃ tm, termM s e.vars t = some tm := fun {t} h => by
    unfold sortM at h
    cases ht : termM s e.vars t with
    | none => rw [ht] at h; simp at h
    | some tm => exact ⟨tm, rfl⟩
  obtain ⟨l, hl⟩ := f h1
  obtain ⟨r, hr⟩ := f hr
  obtain ⟨a1, a2, a3, a4⟩ := termM_to hl
  obtain ⟨b1, b2, b3, b4⟩ := termM_to hr
  exact ⟨a1, l, r, hl, hr, a3, b3, a4, b4, a2, b2⟩
theorem fails_yes {s : MSig} {m : MModel} {e : MEq} {l r : Tm} (h1 : eqOkB s e = true) (h2 : modelB s m = true) (hl : termM s e.vars e.left = some l) (hr : termM s e.vars e.right = some r) :
    failsM s m e = match failRow m (ledM m.sizes e.vars) l r with
      | some row => (row, true)
      | none => ([], false) := by
  unfold failsM; rw [h1, h2, hl, hr]; rfl
/-- n rounds have found nothing -/
def NoFail (m : MModel) (zs : List Int) (l r : Tm) (n : Nat) : Prop := n ≤ (waysM zs).toNat ∧ failRow m zs l r = failFrom m zs l r ((waysM zs).toNat - n) n
theorem noFail_zero (m : MModel) (zs : List Int) (l r : Tm) : NoFail m zs l r 0 := ⟨Nat.zero_le _, rfl⟩
theorem NoFail.step {m : MModel} {zs : List Int} {l r : Tm} {n : Nat} (h : NoFail m zs l r n) (hn : n < (waysM zs).toNat) (hf : valT m (digM zs n) l = valT m (digM zs n) r) : NoFail m zs l r (n + 1) := by
  refine ⟨hn, h.2.trans ?_⟩
  obtain ⟨f, hfe⟩ : ∃ f, (waysM zs).toNat - n = f + 1 := ⟨(waysM zs).toNat - n - 1, by omega⟩
  rw [hfe, failFrom_step (by unfold failAt; simp [hf]), show (waysM zs).toNat - (n + 1) = f by omega]
theorem NoFail.hit {m : MModel} {zs : List Int} {l r : Tm} {n : Nat} (h : NoFail m zs l r n) (hn : n < (waysM zs).toNat) (hf : ¬ valT m (digM zs n) l = valT m (digM zs n) r) : failRow m zs l r = some (digM zs n) := by
  refine h.2.trans ?_
  obtain ⟨f, hfe⟩ : ∃ f, (waysM zs).toNat - n = f + 1 := ⟨(waysM zs).toNat - n - 1, by omega⟩
  rw [hfe, failFrom_hit (by unfold failAt; simp [hf])]
theorem NoFail.none {m : MModel} {zs : List Int} {l r : Tm} {n : Nat} (h : NoFail m zs l r n) (hn : n = (waysM zs).toNat) : failRow m zs l r = none := by
  refine h.2.trans ?_
  rw [hn, Nat.sub_self]
  rfl
end

section
open Go.RowKit
set_option linter.unusedVariables false
set_option linter.unusedSimpArgs false

/-- the model along a map that is one -/
def backOf (f : MMap) (m : MModel) : MModel := ⟨ledM m.sizes f.sorts, f.ops.map fun o => m.tables.getD o.toNat []⟩
theorem modBackM_of {a b : MSig} {f : MMap} {m : MModel} (h1 : mapOkB a b f = true) (h2 : modelB b m = true) : modBackM a b f m = backOf f m := by
  unfold modBackM; rw [h1, h2]; rfl
theorem back_size {a b : MSig} {f : MMap} {m : MModel} (hf : MapFacts a b f) {x : Int} (h0 : 0 ≤ x) (h1 : x < a.sorts) : (backOf f m).sizes.getD x.toNat 0 = m.sizes.getD (f.sorts.getD x.toNat 0).toNat 0 := by
  have hk : x.toNat < f.sorts.length := by have := hf.sl; omega
  show (ledM m.sizes f.sorts).getD x.toNat 0 = _
  rw [led_getD hk (hf.ss _ (List.getElem_mem hk)), getD_at _ hk]
theorem back_table {a b : MSig} {f : MMap} {m : MModel} (hf : MapFacts a b f) {k : Nat} (hk : k < a.ops.length) : ∃ h : k < f.ops.length, (backOf f m).tables.getD k [] = m.tables.getD (f.ops[k]).toNat [] := by
  have h : k < f.ops.length := by rw [hf.ol]; exact hk
  refine ⟨h, ?_⟩
  show (f.ops.map fun o => m.tables.getD o.toNat []).getD k [] = _
  rw [List.getD_eq_getElem?_getD, List.getElem?_map, List.getElem?_eq_getElem h]
  rfl
/-- the sizes of a row of sorts -/
theorem back_led {a b : MSig} {f : MMap} {m : MModel} (hf : MapFacts a b f) {row : List Int} (hr : ∀ x ∈ row, 0 ≤ x ∧ x < a.sorts) : ledM (backOf f m).sizes row = ledM m.sizes (ledM f.sorts row) :=
  (ledM_led (hf.sorts_in hr) hf.ss).symm
theorem back_model {a b : MSig} {f : MMap} {m : MModel} (hf : MapFacts a b f) (hm : ModFacts b m) : ModFacts a (backOf f m) := by
  have hv := valid_sorts hf.va
  refine ⟨hf.va, ?_, ?_, ?_, fun k hk => ?_⟩
  · show ((ledM m.sizes f.sorts).length : Int) = _
    rw [ledM_len]; exact hf.sl
  · show (f.ops.map _).length = _
    rw [List.length_map]; exact hf.ol
  · exact hm.led hf.sb
  · obtain ⟨h, e⟩ := back_table (m := m) hf hk
    have hb := hf.ob _ (List.getElem_mem h)
    have hbl : (f.ops[k]).toNat < b.ops.length := by omega
    have ho := hf.oo k hk h
    rw [List.getElem?_eq_getElem hbl] at ho
    injection ho with ho
    have ht := hm.tb _ hbl
    have hr := valid_row hf.va hk
    unfold tableB at ht ⊢
    rw [e, opRow_at hk, back_led hf (fun x hx => hr.2.2 x (List.mem_of_mem_dropLast' hx))]
    rw [opRow_at hbl, ho, led_drop] at ht
    rw [led_last (by omega) (fun x hx => by have := hr.2.2 x hx; omega)] at ht
    have hl : 0 ≤ a.ops[k].getLastD (-1) ∧ a.ops[k].getLastD (-1) < a.sorts := by
      rw [last_at (by omega)]; exact hr.2.2 _ (List.getElem_mem _)
    rw [back_size hf hl.1 hl.2]
    exact ht
/-- a term along a map, and its value -/
theorem sort_in {s : MSig} {vars : List Int} (hs : validB s = true) (hv : ∀ x ∈ vars, 0 ≤ x ∧ x < s.sorts) {t : Tm} (h : wfT s vars t) : 0 ≤ t.sort ∧ t.sort < s.sorts := by
  cases t with
  | leaf k of =>
    unfold wfT at h
    obtain ⟨hk, rfl⟩ := h
    simp only [Tm.sort]
    rw [getD_at _ hk]
    exact hv _ (List.getElem_mem hk)
  | node op lv us =>
    unfold wfT at h
    obtain ⟨hk, rfl, -⟩ := h
    simp only [Tm.sort]
    have hr := valid_row hs hk
    rw [opRow_at hk, last_at (by omega)]
    exact hr.2.2 _ (List.getElem_mem (show s.ops[op].length - 1 < s.ops[op].length by omega))
mutual
theorem val_led {a b : MSig} {f : MMap} {m : MModel} (hf : MapFacts a b f) {vars : List Int} (hv : ∀ x ∈ vars, 0 ≤ x ∧ x < a.sorts) : ∀ tm : Tm, wfT a vars tm → ∃ tm' : Tm, wfT b (ledM f.sorts vars) tm' ∧ tm'.sort = f.sorts.getD tm.sort.toNat 0 ∧ tm'.row = ledM f.ops tm.row ∧ ∀ vals, valT m vals tm' = valT (backOf f m) vals tm
  | .leaf k of, hw => by
    unfold wfT at hw
    obtain ⟨hk, rfl⟩ := hw
    have hx : vars[k] < 100 := by have := hv _ (List.getElem_mem hk); have := valid_sorts hf.va; omega
    refine ⟨.leaf k (f.sorts.getD (vars.getD k 0).toNat 0), ?_, rfl, ?_, fun vals => by simp [valT]⟩
    · unfold wfT
      refine ⟨by rw [ledM_len]; exact hk, ?_⟩
      rw [led_getD hk hx, getD_at _ hk]
    · simp only [Tm.row, ledM, List.map_cons, List.map_nil]
      rw [if_neg (by omega)]
  | .node op lv ts, hw => by
    unfold wfT at hw
    obtain ⟨ho, hl, hts⟩ := hw
    have hvr := valid_row hf.va ho
    have hs := valid_sorts hf.va
    obtain ⟨hom, htab⟩ := back_table (m := m) hf ho
    have e := hf.oo op ho hom
    have hob := hf.ob _ (List.getElem_mem hom)
    have hob2 := hf.os _ (List.getElem_mem hom)
    have hbl : (f.ops[op]).toNat < b.ops.length := by omega
    have hrow : opRow b (f.ops[op]).toNat = ledM f.sorts (opRow a op) := by
      rw [opRow_at hbl, opRow_at ho]
      rw [List.getElem?_eq_getElem hbl] at e
      injection e
    rw [opRow_at ho] at hl hts
    obtain ⟨ts', h1, h2, h3, h4⟩ := val_leds hf hv ts _ hts
    refine ⟨.node (f.ops[op]).toNat (f.sorts.getD lv.toNat 0) ts', ?_, rfl, ?_, fun vals => ?_⟩
    · unfold wfT
      refine ⟨hbl, ?_, ?_⟩
      · rw [hrow, opRow_at ho, led_last (by omega) (fun x hx => by have := hvr.2.2 x hx; omega), hl]
      · rw [hrow, opRow_at ho, led_drop]; exact h1
    · simp only [Tm.row]
      rw [led_cons (by have := valid_sorts hf.va; omega), Int.toNat_natCast, getD_at _ hom, h2, Int.toNat_of_nonneg hob.1]
    · rw [valT_node, valT_node, h3 vals, h4, htab]
theorem val_leds {a b : MSig} {f : MMap} {m : MModel} (hf : MapFacts a b f) {vars : List Int} (hv : ∀ x ∈ vars, 0 ≤ x ∧ x < a.sorts) : ∀ (ts : List Tm) (ss : List Int), wfTs a vars ss ts → ∃ ts' : List Tm, wfTs b (ledM f.sorts vars) (ledM f.sorts ss) ts' ∧ rowsOf ts' = ledM f.ops (rowsOf ts) ∧ (∀ vals, valTs m vals ts' = valTs (backOf f m) vals ts) ∧ sizesT m ts' = sizesT (backOf f m) ts
  | [], ss, hw => by
    unfold wfTs at hw
    subst hw
    exact ⟨[], by unfold wfTs; rfl, rfl, fun vals => by simp [valTs], rfl⟩
  | t :: ts, ss, hw => by
    unfold wfTs at hw
    obtain ⟨x, ss', rfl, h1, h2, h3⟩ := hw
    obtain ⟨t', q1, q2, q3, q6⟩ := val_led hf hv t h2
    obtain ⟨ts', q4, q5, q7, q8⟩ := val_leds hf hv ts ss' h3
    have hx := sort_in hf.va hv h2
    have hs := valid_sorts hf.va
    refine ⟨t' :: ts', ?_, by simp only [rowsOf]; rw [q3, q5, led_append], fun vals => by simp only [valTs]; rw [q6, q7], ?_⟩
    · unfold wfTs
      refine ⟨f.sorts.getD x.toNat 0, ledM f.sorts ss', led_cons (by omega), by rw [q2, h1], q1, q4⟩
    · have e : sizesT m (t' :: ts') = m.sizes.getD t'.sort.toNat 0 :: sizesT m ts' := rfl
      have e2 : sizesT (backOf f m) (t :: ts) = (backOf f m).sizes.getD t.sort.toNat 0 :: sizesT (backOf f m) ts := rfl
      rw [e, e2, q8, q2, back_size hf hx.1 hx.2]
end
theorem eqOkB_led2 {a b : MSig} {f : MMap} (hf : MapFacts a b f) {e : MEq} (h : eqOkB a e = true) : eqOkB b (ledE f e) = true := by
  unfold eqOkB at h ⊢
  simp only [Bool.and_eq_true, decide_eq_true_eq] at h ⊢
  obtain ⟨h1, h2⟩ := h
  obtain ⟨p1, p2⟩ := sortM_led hf h1
  obtain ⟨p3, p4⟩ := sortM_led hf (show 0 ≤ sortM a e.vars e.right by omega)
  show 0 ≤ sortM b (ledM f.sorts e.vars) (ledM f.ops e.left) ∧ sortM b (ledM f.sorts e.vars) (ledM f.ops e.right) = sortM b (ledM f.sorts e.vars) (ledM f.ops e.left)
  rw [p1, p3, h2]
  exact ⟨sorts_nonneg hf p2, rfl⟩
theorem failFrom_same {m m' : MModel} {zs : List Int} {l r l' r' : Tm} (h1 : ∀ vals, valT m vals l = valT m' vals l') (h2 : ∀ vals, valT m vals r = valT m' vals r') : ∀ (f n : Nat), failFrom m zs l r f n = failFrom m' zs l' r' f n
  | 0, _ => rfl
  | f + 1, n => by
    have e : failAt m zs l r n = failAt m' zs l' r' n := by unfold failAt; rw [h1, h2]
    simp only [failFrom, e, failFrom_same h1 h2 f (n + 1)]
/-- an equation holds here exactly if it holds there -/
theorem holds_back {a b : MSig} {f : MMap} {m : MModel} {e : MEq} (h1 : mapOkB a b f = true) (h2 : modelB b m = true) (h3 : eqOkB a e = true) : holdsB b m (ledE f e) = holdsB a (modBackM a b f m) e ∧ modelB a (modBackM a b f m) = true := by
  have hf := mapOk_facts h1
  have hm := model_facts h2
  have hbm : modelB a (backOf f m) = true := facts_model (back_model hf hm)
  rw [modBackM_of h1 h2]
  refine ⟨?_, hbm⟩
  obtain ⟨hv, l, r, tl, tr, wl, wr, el, er, ll, lr⟩ := eq_terms h3
  have hvm := vars_mem hv
  obtain ⟨l', l1, l2, l3, l4⟩ := val_led (m := m) hf hvm l wl
  obtain ⟨r', r1, r2, r3, r4⟩ := val_led (m := m) hf hvm r wr
  have hvb := varsB_led hf hv
  have tl' : termM b (ledM f.sorts e.vars) (ledM f.ops e.left) = some l' := by
    rw [← el, ← l3]
    exact termM_of hvb (by rw [l3, ledM_len, el]; exact ll) l1
  have tr' : termM b (ledM f.sorts e.vars) (ledM f.ops e.right) = some r' := by
    rw [← er, ← r3]
    exact termM_of hvb (by rw [r3, ledM_len, er]; exact lr) r1
  have hz : ledM (backOf f m).sizes e.vars = ledM m.sizes (ledM f.sorts e.vars) := back_led hf hvm
  have hff := failFrom_same (zs := ledM m.sizes (ledM f.sorts e.vars)) l4 r4 (waysM (ledM m.sizes (ledM f.sorts e.vars))).toNat 0
  unfold holdsB failsM
  rw [eqOkB_led2 hf h3, h3, h2, hbm]
  show (true && !(_ : List Int × Bool).2) = (true && !(_ : List Int × Bool).2)
  simp only [Bool.and_self, if_true]
  show (true && !(match termM b (ledM f.sorts e.vars) (ledM f.ops e.left), termM b (ledM f.sorts e.vars) (ledM f.ops e.right) with
    | some l, some r =>
      match failRow m (ledM m.sizes (ledM f.sorts e.vars)) l r with
      | some row => (row, true)
      | none => ([], false)
    | _, _ => ([], false) : List Int × Bool).2) = _
  rw [tl', tr', tl, tr]
  simp only
  unfold failRow
  rw [hz, hff]
  cases failFrom (backOf f m) (ledM m.sizes (ledM f.sorts e.vars)) l r (waysM (ledM m.sizes (ledM f.sorts e.vars))).toNat 0 <;> rfl
end

section
open Go.RowKit
set_option linter.unusedVariables false
set_option linter.unusedSimpArgs false

theorem inB13_low {z : Int} (h : z < 1) : inB z 1 3 = false := by unfold inB; simp; omega
theorem inB13_high {z : Int} (h : 3 < z) : inB z 1 3 = false := by unfold inB; simp; omega
theorem inB13_yes {z : Int} (h1 : 1 ≤ z) (h2 : z ≤ 3) : inB z 1 3 = true := by unfold inB; simp [h1, h2]
theorem tabB_at {s : MSig} {m : MModel} {k : Nat} (hs : k < s.ops.length) (hm : k < m.tables.length) : tabB s m k = tableB m.sizes s.ops[k] m.tables[k] := by
  unfold tabB; rw [getD_at _ hs, getD_at _ hm]

set_option maxHeartbeats 3200000 in
set_option maxRecDepth 100000 in
theorem modelOk_any (s : MSig) (m : MModel) (w : World) (v v' : Value) (h1 : RSig w v s) (h2 : RModel w v' m) :
    Calls Try.prog 17 #[v, v'] w fun e w' => e = .returned (.bool (modelB s m)) ∧ Below w.heap.size w w' := by
  obtain ⟨Asa, csa, rfl⟩ := h1.form
  obtain ⟨Ama, cma, Amb, cmb, rfl⟩ := h2.form
  have hb : Below w.heap.size w ((w.alloc (.cells #[.int .i64 s.sorts, .slice Asa s.ops.length csa] 25)).alloc (.cells #[.slice Ama m.sizes.length cma, .slice Amb m.tables.length cmb] 30)) := (below_alloc _ _).alloc (by simp) _
  have HB := Lib.hid hb
  have hsz : ((w.alloc (.cells #[.int .i64 s.sorts, .slice Asa s.ops.length csa] 25)).alloc (.cells #[.slice Ama m.sizes.length cma, .slice Amb m.tables.length cmb] 30)).heap.size = w.heap.size + 2 := by simp
  have Hs := Lib.hid (h1.keep hb)
  have s0 := cell_keep (below_alloc (w.alloc (.cells #[.int .i64 s.sorts, .slice Asa s.ops.length csa] 25)) (.cells #[.slice Ama m.sizes.length cma, .slice Amb m.tables.length cmb] 30)) (bx_at (w) #[.int .i64 s.sorts, .slice Asa s.ops.length csa] 25 (k := 0) rfl)
  have s1 := cell_keep (below_alloc (w.alloc (.cells #[.int .i64 s.sorts, .slice Asa s.ops.length csa] 25)) (.cells #[.slice Ama m.sizes.length cma, .slice Amb m.tables.length cmb] 30)) (bx_at (w) #[.int .i64 s.sorts, .slice Asa s.ops.length csa] 25 (k := 1) rfl)
  have Hm := Lib.hid (h2.keep hb)
  have m0 := bx_at (w.alloc (.cells #[.int .i64 s.sorts, .slice Asa s.ops.length csa] 25)) #[.slice Ama m.sizes.length cma, .slice Amb m.tables.length cmb] 30 (k := 0) rfl
  have m1 := bx_at (w.alloc (.cells #[.int .i64 s.sorts, .slice Asa s.ops.length csa] 25)) #[.slice Ama m.sizes.length cma, .slice Amb m.tables.length cmb] 30 (k := 1) rfl
  simp only [World.size_alloc] at m0 m1
  generalize hW : (w.alloc (.cells #[.int .i64 s.sorts, .slice Asa s.ops.length csa] 25)).alloc (.cells #[.slice Ama m.sizes.length cma, .slice Amb m.tables.length cmb] 30) = W at HB hsz Hs s0 s1 Hm m0 m1
  clear hb h1 h2
  have hl1 := Hs.out.of.2.len
  have hl2 := Hm.out.of.1.len
  have hl3 := Hm.out.of.2.len
  cases hv : validB s with
  | false =>
    have HV := Lib.hid hv
    have HE := Lib.hid (model_no1 (m := m) hv)
    clear hv
    go_enter Try.func17, Try.ntmps17
    go_wp2_with fail
    clear hW
    refine (sigValid_any _ s _ Hs.out).mono ?_
    rw [HV.out]
    rintro e w1 ⟨rfl, hb⟩
    replace HB := Lib.hid (sz_keep HB.out hb)
    replace s0 := cell_keep hb s0
    replace s1 := cell_keep hb s1
    replace m0 := cell_keep hb m0
    replace m1 := cell_keep hb m1
    replace Hs := Lib.hid (Hs.out.keep hb)
    replace Hm := Lib.hid (Hm.out.keep hb)
    clear hb
    go_wp2
    go_ret
    exact ⟨ret_bool HE.out.symm, HB.out⟩
  | true =>
    have HV := Lib.hid hv
    have hsv := valid_sorts hv
    clear hv
    by_cases hs : (m.sizes.length : Int) = s.sorts
    · have e1 : ((m.sizes.length : Int) != s.sorts) = false := by simp [hs]
      have HSL := Lib.hid hs
      have hms3 : m.sizes.length ≤ 3 := by omega
      by_cases ho : m.tables.length = s.ops.length
      · have e2 : ((m.tables.length : Int) != (s.ops.length : Int)) = false := by simp [ho]
        have HOL := Lib.hid ho
        have hle : m.tables.length ≤ s.ops.length := by omega
        clear ho hs
        go_enter Try.func17, Try.ntmps17
        go_wp2_with fail
        clear hW
        refine (sigValid_any _ s _ Hs.out).mono ?_
        rw [HV.out]
        rintro e w1 ⟨rfl, hb⟩
        replace HB := Lib.hid (sz_keep HB.out hb)
        replace s0 := cell_keep hb s0
        replace s1 := cell_keep hb s1
        replace m0 := cell_keep hb m0
        replace m1 := cell_keep hb m1
        replace Hs := Lib.hid (Hs.out.keep hb)
        replace Hm := Lib.hid (Hm.out.keep hb)
        clear hb
        have HC := Lib.hid (And.intro s0 (And.intro s1 (And.intro m0 m1)))
        go_wp2
        clear s0 s1 m0 m1
        go_loopw [6, 32] (fun p i wr => ∃ k : Nat, k ≤ m.sizes.length ∧ i = .int .i64 k ∧ sizesB (m.sizes.take k) = true ∧ w1 = wr) (fun _ i _ => m.sizes.length - (intOf i).toNat)
        case atStart => exact ⟨0, Nat.zero_le _, rfl, rfl, rfl⟩
        case round =>
          obtain ⟨k, hk, rfl, hb0, rfl⟩ := hrel
          have HB0 := Lib.hid hb0
          clear hb0
          by_cases hlt : k < m.sizes.length
          · obtain ⟨b3, o3, c3, e, hx⟩ := Hm.out.of.1.at_ hlt
            cases e
            have hlt' : (k : Int) < (m.sizes.length : Int) := by omega
            have HT := Lib.hid (all_take (p := fun z => inB z 1 3) hlt)
            have HN := Lib.hid (sizesB_bad hlt)
            generalize m.sizes[k] = z at hx HT HN
            by_cases hz1 : z < 1
            · have HF := Lib.hid (model_no4 (s := s) (HN.out (inB13_low hz1)))
              go_wp2
              go_ret
              exact ⟨ret_bool HF.out.symm, HB.out⟩
            · by_cases hz3 : 3 < z
              · have HF := Lib.hid (model_no4 (s := s) (HN.out (inB13_high hz3)))
                go_wp2
                go_ret
                exact ⟨ret_bool HF.out.symm, HB.out⟩
              · have hz1' : 1 ≤ z := by omega
                have hz3' : z ≤ 3 := by omega
                have HR := Lib.hid (inB13_yes hz1' hz3')
                go_wp2
                go_roundw
                case rel => exact ⟨k + 1, by omega, by go_num, by unfold sizesB; rw [HT.out, HR.out]; have := HB0.out; unfold sizesB at this; rw [this]; rfl, by first | trivial | rfl⟩
                case measure => simp [intOf]; omega
          · have hkn : k = m.sizes.length := by omega
            have hlt' : ¬ (k : Int) < (m.sizes.length : Int) := by omega
            have HT := Lib.hid (show m.sizes.take k = m.sizes from take_all (by omega))
            rw [HT.out] at HB0
            have HZ := Lib.hid (sizesB_iff.1 HB0.out)
            have m1 := HC.out.2.2.2
            go_wp2
            clear m1
            go_loopw [7, 8, 46] (fun p q i wr => ∃ k : Nat, k ≤ m.tables.length ∧ i = .int .i64 k ∧ allTab s m k = true ∧ Below w1.heap.size w1 wr) (fun _ _ i _ => m.tables.length - (intOf i).toNat)
            case atStart => exact ⟨0, Nat.zero_le _, rfl, allTab_zero _ _, Below.refl _ _⟩
            case round =>
              obtain ⟨j, hj, rfl, hal, hd⟩ := hrel
              have HAL := Lib.hid hal
              have HD := Lib.hid hd
              have f1 := cell_keep hd HC.out.2.1
              have f2 := cell_keep hd HC.out.2.2.1
              have f3 := cell_keep hd HC.out.2.2.2
              clear hal hd
              by_cases hjl : j < m.tables.length
              · have hjl' : (j : Int) < (m.tables.length : Int) := by omega
                have hja : j < s.ops.length := by omega
                have hja' : (j : Int) < (s.ops.length : Int) := by omega
                have hj0 : (0 : Int) ≤ (j : Int) := by omega
                obtain ⟨b7, o7, c7, u7, e, hra, hri⟩ := (Hs.out.of.2.keep HD.out).at_ hja
                cases e
                obtain ⟨b8, o8, c8, u8, e, hrb, hrj⟩ := (Hm.out.of.2.keep HD.out).at_ hjl
                cases e
                have hvr := valid_row HV.out hja
                have HIN := Lib.hid (show ∀ x ∈ s.ops[j], 0 ≤ x ∧ x < (m.sizes.length : Int) from fun y hy => by have := hvr.2.2 y hy; have := HSL.out; omega)
                have HR13 := Lib.hid (And.intro hvr.1 hvr.2.1)
                have HTA := Lib.hid (tabB_at hja hjl)
                have HBAD := Lib.hid (fun h => model_no5 (s := s) hjl h)
                have HSUC := Lib.hid (allTab_succ s m j)
                generalize s.ops[j] = row at hri hra HIN HTA HR13
                generalize m.tables[j] = table at hrj hrb HTA
                have HRI := Lib.hid hri
                have HRJ := Lib.hid hrj
                obtain ⟨A7, d7, rfl, -⟩ := hri.form
                obtain ⟨A8, d8, rfl, -⟩ := hrj.form
                obtain ⟨r, hr⟩ : ∃ r, tableB m.sizes row table = r := ⟨_, rfl⟩
                rw [hr] at HTA
                have HR := Lib.hid hr
                clear hr hri hrj hvr
                go_wp2_with fail
                refine wp_region_held_drew (S := (fun w' => w'.cell? ⟨w.heap.size, 1, none⟩ = some (.slice (some ⟨b7, o7, none⟩) s.ops.length csa) ∧ w'.cell? ⟨w.heap.size + 1, 0, none⟩ = some (.slice Ama m.sizes.length cma) ∧ w'.cell? ⟨w.heap.size + 1, 1, none⟩ = some (.slice (some ⟨b8, o8, none⟩) m.tables.length cmb) ∧ w'.cell? ⟨b7, o7 + j, none⟩ = some (.slice A7 row.length d7))) (by kernel_rfl) ?_ (fun hHeld => ?_)
                · exact ⟨f1, f2, f3, hra⟩
                refine wpAnyH_take (i := 0) (oi := _) (v := ?_) rfl (by kernel_rfl) (by kernel_rfl) (by kernel_rfl) (fun _ _ _ h => h) (Or.inl ⟨by rfl, ?_⟩) (by assumption) ?_
                rotate_left
                · first | (intro w' hSw; (try dsimp only at hSw); go_simp; done) | (intro w' hSw; (try dsimp only at hSw); go_simp; with_reducible rfl)
                try simp only [Act.put, List.getElem_toArray, List.getElem_cons_zero, List.getElem_cons_succ, List.setIfInBounds_toArray, List.set_cons_zero, List.set_cons_succ]
                refine wpAnyH_take (i := 1) (oi := _) (v := ?_) rfl (by kernel_rfl) (by kernel_rfl) (by kernel_rfl) (fun _ _ _ h => h) (Or.inl ⟨by rfl, ?_⟩) (by assumption) ?_
                rotate_left
                · first | (intro w' hSw; (try dsimp only at hSw); go_simp; done) | (intro w' hSw; (try dsimp only at hSw); go_simp; with_reducible rfl)
                try simp only [Act.put, List.getElem_toArray, List.getElem_cons_zero, List.getElem_cons_succ, List.setIfInBounds_toArray, List.set_cons_zero, List.set_cons_succ]
                refine wpAnyH_take (i := 2) (oi := _) (v := ?_) rfl (by kernel_rfl) (by kernel_rfl) (by kernel_rfl) (fun _ _ _ h => h) (Or.inl ⟨by rfl, ?_⟩) (by assumption) ?_
                rotate_left
                · first | (intro w' hSw; (try dsimp only at hSw); go_simp; done) | (intro w' hSw; (try dsimp only at hSw); go_simp; with_reducible rfl)
                try simp only [Act.put, List.getElem_toArray, List.getElem_cons_zero, List.getElem_cons_succ, List.setIfInBounds_toArray, List.set_cons_zero, List.set_cons_succ]
                refine wpAnyH_take (i := 3) (oi := _) (v := ?_) rfl (by kernel_rfl) (by kernel_rfl) (by kernel_rfl) (fun _ _ _ h => h) (Or.inl ⟨by rfl, ?_⟩) (by assumption) ?_
                rotate_left
                · first | (intro w' hSw; (try dsimp only at hSw); go_simp; done) | (intro w' hSw; (try dsimp only at hSw); go_simp; with_reducible rfl)
                try simp only [Act.put, List.getElem_toArray, List.getElem_cons_zero, List.getElem_cons_succ, List.setIfInBounds_toArray, List.set_cons_zero, List.set_cons_succ]
                refine wpAnyH_take (i := 4) (oi := _) (v := ?_) rfl (by kernel_rfl) (by kernel_rfl) (by kernel_rfl) (fun _ _ _ h => h) (Or.inl ⟨by rfl, ?_⟩) (by assumption) ?_
                rotate_left
                · first | (intro w' hSw; (try dsimp only at hSw); go_simp; done) | (intro w' hSw; (try dsimp only at hSw); go_simp; with_reducible rfl)
                try simp only [Act.put, List.getElem_toArray, List.getElem_cons_zero, List.getElem_cons_succ, List.setIfInBounds_toArray, List.set_cons_zero, List.set_cons_succ]
                refine wpAnyH_take (i := 5) (oi := _) (v := ?_) rfl (by kernel_rfl) (by kernel_rfl) (by kernel_rfl) (fun _ _ _ h => h) (Or.inl ⟨by rfl, ?_⟩) (by assumption) ?_
                rotate_left
                · first | (intro w' hSw; (try dsimp only at hSw); go_simp; done) | (intro w' hSw; (try dsimp only at hSw); go_simp; with_reducible rfl)
                try simp only [Act.put, List.getElem_toArray, List.getElem_cons_zero, List.getElem_cons_succ, List.setIfInBounds_toArray, List.set_cons_zero, List.set_cons_succ]
                refine wpAnyH_take (i := 6) (oi := _) (v := ?_) rfl (by kernel_rfl) (by kernel_rfl) (by kernel_rfl) (fun _ _ _ h => h) (Or.inl ⟨by rfl, ?_⟩) (by assumption) ?_
                rotate_left
                · first | (intro w' hSw; (try dsimp only at hSw); go_simp; done) | (intro w' hSw; (try dsimp only at hSw); go_simp; with_reducible rfl)
                try simp only [Act.put, List.getElem_toArray, List.getElem_cons_zero, List.getElem_cons_succ, List.setIfInBounds_toArray, List.set_cons_zero, List.set_cons_succ]
                refine wpAnyH_ready (rs := [7]) (by kernel_rfl) (by simp) ?_
                refine AllReadyH.cons (o := _) rfl (fun K hK => ?_) AllReadyH.nil
                go_simp
                refine (tableOk_any m row table _ _ _ _ ((Hm.out.keep HD.out).keep (map_drew (Below.refl _ _))) (HRI.out.keep (map_drew (Below.refl _ _))) (HRJ.out.keep (map_drew (Below.refl _ _))) HR13.out.1 HR13.out.2 HZ.out HIN.out hms3).mono ?_
                rw [HR.out]
                rintro x w5 ⟨rfl, hb5⟩
                have hx5 := map_undrew hb5
                have HX5 := Lib.hid (sz_keep HD.out hx5)
                have q1 := cell_keep hx5 f1
                have q2 := cell_keep hx5 f2
                have q3 := cell_keep hx5 f3
                have q4 := cell_keep hx5 hra
                clear hx5 hb5
                go_wp2_with fail
                refine hK.out _ _ ?_ (fun hHeld => ?_)
                · exact ⟨q1, q2, q3, q4⟩
                clear hK K
                try simp only [Act.put, List.getElem_toArray, List.getElem_cons_zero, List.getElem_cons_succ, List.setIfInBounds_toArray, List.set_cons_zero, List.set_cons_succ]
                refine wpAnyH_take (i := 8) (oi := _) (v := ?_) rfl (by kernel_rfl) (by kernel_rfl) (by kernel_rfl) (fun _ _ _ h => h) (Or.inl ⟨by rfl, ?_⟩) (by assumption) ?_
                rotate_left
                · first | (intro w' hSw; (try dsimp only at hSw); go_simp; done) | (intro w' hSw; (try dsimp only at hSw); go_simp; with_reducible rfl)
                try simp only [Act.put, List.getElem_toArray, List.getElem_cons_zero, List.getElem_cons_succ, List.setIfInBounds_toArray, List.set_cons_zero, List.set_cons_succ]
                refine wpAnyH_done (by kernel_rfl) ?_ _
                clear f1 f2 f3 hra hrb q1 q2 q3 q4
                cases r with
                | true =>
                  go_wp2
                  go_roundw
                  case rel => exact ⟨j + 1, by omega, by go_num, by rw [HSUC.out, HAL.out, HTA.out]; rfl, HX5.out⟩
                  case measure => simp [intOf]; omega
                | false =>
                  have HF := Lib.hid (HBAD.out HTA.out)
                  go_wp2
                  go_ret
                  exact ⟨ret_bool HF.out.symm, sz_keep HB.out HX5.out⟩
              · have hkn2 : j = m.tables.length := by omega
                have hlt2 : ¬ (j : Int) < (m.tables.length : Int) := by omega
                have HE := Lib.hid (model_yes HV.out HSL.out HOL.out (sizesB_iff.2 HZ.out) (by rw [← hkn2]; exact HAL.out))
                clear f1 f2 f3
                go_wp2
                go_ret
                exact ⟨ret_bool HE.out.symm, sz_keep HB.out HD.out⟩
      · have e2 : ((m.tables.length : Int) != (s.ops.length : Int)) = true := by simp; omega
        have HE := Lib.hid (model_no3 ho)
        clear ho hs
        go_enter Try.func17, Try.ntmps17
        go_wp2_with fail
        clear hW
        refine (sigValid_any _ s _ Hs.out).mono ?_
        rw [HV.out]
        rintro e w1 ⟨rfl, hb⟩
        replace HB := Lib.hid (sz_keep HB.out hb)
        replace s0 := cell_keep hb s0
        replace s1 := cell_keep hb s1
        replace m0 := cell_keep hb m0
        replace m1 := cell_keep hb m1
        replace Hs := Lib.hid (Hs.out.keep hb)
        replace Hm := Lib.hid (Hm.out.keep hb)
        clear hb
        go_wp2
        go_ret
        exact ⟨ret_bool HE.out.symm, HB.out⟩
    · have e1 : ((m.sizes.length : Int) != s.sorts) = true := by simpa using hs
      have HE := Lib.hid (model_no2 hs)
      clear hs
      go_enter Try.func17, Try.ntmps17
      go_wp2_with fail
      clear hW
      refine (sigValid_any _ s _ Hs.out).mono ?_
      rw [HV.out]
      rintro e w1 ⟨rfl, hb⟩
      replace HB := Lib.hid (sz_keep HB.out hb)
      replace s0 := cell_keep hb s0
      replace s1 := cell_keep hb s1
      replace m0 := cell_keep hb m0
      replace m1 := cell_keep hb m1
      replace Hs := Lib.hid (Hs.out.keep hb)
      replace Hm := Lib.hid (Hm.out.keep hb)
      clear hb
      go_wp2
      go_ret
      exact ⟨ret_bool HE.out.symm, HB.out⟩
end

section
open Go.RowKit
set_option linter.unusedVariables false
set_option linter.unusedSimpArgs false

theorem nil_model (w : World) (B : Nat) : OModel w B (.agg #[.slice none 0 0, .slice none 0 0]) ⟨[], []⟩ := ⟨_, _, rfl, OInts.nil _ _, B, Nat.le_refl _, fun k e => by simp [Value.ownBlock] at e, ORows.nil _ _⟩
def tabsM (m : MModel) (os : List Int) : List (List Int) := os.map fun o => m.tables.getD o.toNat []
theorem tabsM_take {m : MModel} {os : List Int} {k : Nat} (hk : k < os.length) : tabsM m (os.take (k + 1)) = tabsM m (os.take k) ++ [m.tables.getD (os[k]).toNat []] := by
  unfold tabsM; rw [List.take_succ_eq_append_getElem hk, List.map_append]; rfl
theorem tabsM_len (m : MModel) (os : List Int) : (tabsM m os).length = os.length := by simp [tabsM]
theorem table_len {s : MSig} {m : MModel} (h : ModFacts s m) {k : Nat} (hk : k < m.tables.length) : 1 ≤ m.tables[k].length ∧ m.tables[k].length ≤ 9 := by
  have hk2 : k < s.ops.length := by rw [← h.tl]; exact hk
  obtain ⟨hk', e, hl, hx⟩ := h.table hk2
  obtain ⟨h1, h2⟩ := h.taken hk2
  have a := ways_pos h1
  have b := ways_le h1
  have : ∀ n : Nat, n ≤ 2 → (3 : Int) ^ n ≤ 9 := by
    intro n hn
    match n, hn with
    | 0, _ => decide
    | 1, _ => decide
    | 2, _ => decide
  have := this _ h2
  omega

set_option maxHeartbeats 6400000 in
set_option maxRecDepth 100000 in
theorem modelBack_any (a b : MSig) (f : MMap) (m : MModel) (w : World) (va vb vf vm : Value) (h1 : RSig w va a) (h2 : RSig w vb b) (h3 : RMap w vf f) (h4 : RModel w vm m) :
    Calls Try.prog 10 #[va, vb, vf, vm] w fun e w' => ∃ u, e = .returned u ∧ OModel w' w.heap.size u (modBackM a b f m) ∧ Below w.heap.size w w' := by
  obtain ⟨Aaa, caa, rfl⟩ := h1.form
  obtain ⟨Aba, cba, rfl⟩ := h2.form
  obtain ⟨Afa, cfa, Afb, cfb, rfl⟩ := h3.form
  obtain ⟨Ama, cma, Amb, cmb, rfl⟩ := h4.form
  have hb : Below w.heap.size w (((((w.alloc (.cells #[.int .i64 a.sorts, .slice Aaa a.ops.length caa] 25)).alloc (.cells #[.int .i64 b.sorts, .slice Aba b.ops.length cba] 25)).alloc (.cells #[.slice Afa f.sorts.length cfa, .slice Afb f.ops.length cfb] 28)).alloc (.cells #[.slice Ama m.sizes.length cma, .slice Amb m.tables.length cmb] 30)).alloc (.cells #[.slice none 0 0, .slice none 0 0] 30)) := ((((below_alloc _ _).alloc (by simp) _).alloc (by simp; omega) _).alloc (by simp; omega) _).alloc (by simp; omega) _
  have HB := Lib.hid hb
  have hsz : (((((w.alloc (.cells #[.int .i64 a.sorts, .slice Aaa a.ops.length caa] 25)).alloc (.cells #[.int .i64 b.sorts, .slice Aba b.ops.length cba] 25)).alloc (.cells #[.slice Afa f.sorts.length cfa, .slice Afb f.ops.length cfb] 28)).alloc (.cells #[.slice Ama m.sizes.length cma, .slice Amb m.tables.length cmb] 30)).alloc (.cells #[.slice none 0 0, .slice none 0 0] 30)).heap.size = w.heap.size + 5 := by simp
  have Ha := Lib.hid (h1.keep hb)
  have a0 := cell_keep (below_alloc ((((w.alloc (.cells #[.int .i64 a.sorts, .slice Aaa a.ops.length caa] 25)).alloc (.cells #[.int .i64 b.sorts, .slice Aba b.ops.length cba] 25)).alloc (.cells #[.slice Afa f.sorts.length cfa, .slice Afb f.ops.length cfb] 28)).alloc (.cells #[.slice Ama m.sizes.length cma, .slice Amb m.tables.length cmb] 30)) (.cells #[.slice none 0 0, .slice none 0 0] 30)) (cell_keep (below_alloc (((w.alloc (.cells #[.int .i64 a.sorts, .slice Aaa a.ops.length caa] 25)).alloc (.cells #[.int .i64 b.sorts, .slice Aba b.ops.length cba] 25)).alloc (.cells #[.slice Afa f.sorts.length cfa, .slice Afb f.ops.length cfb] 28)) (.cells #[.slice Ama m.sizes.length cma, .slice Amb m.tables.length cmb] 30)) (cell_keep (below_alloc ((w.alloc (.cells #[.int .i64 a.sorts, .slice Aaa a.ops.length caa] 25)).alloc (.cells #[.int .i64 b.sorts, .slice Aba b.ops.length cba] 25)) (.cells #[.slice Afa f.sorts.length cfa, .slice Afb f.ops.length cfb] 28)) (cell_keep (below_alloc (w.alloc (.cells #[.int .i64 a.sorts, .slice Aaa a.ops.length caa] 25)) (.cells #[.int .i64 b.sorts, .slice Aba b.ops.length cba] 25)) (bx_at (w) #[.int .i64 a.sorts, .slice Aaa a.ops.length caa] 25 (k := 0) rfl))))
  have a1 := cell_keep (below_alloc ((((w.alloc (.cells #[.int .i64 a.sorts, .slice Aaa a.ops.length caa] 25)).alloc (.cells #[.int .i64 b.sorts, .slice Aba b.ops.length cba] 25)).alloc (.cells #[.slice Afa f.sorts.length cfa, .slice Afb f.ops.length cfb] 28)).alloc (.cells #[.slice Ama m.sizes.length cma, .slice Amb m.tables.length cmb] 30)) (.cells #[.slice none 0 0, .slice none 0 0] 30)) (cell_keep (below_alloc (((w.alloc (.cells #[.int .i64 a.sorts, .slice Aaa a.ops.length caa] 25)).alloc (.cells #[.int .i64 b.sorts, .slice Aba b.ops.length cba] 25)).alloc (.cells #[.slice Afa f.sorts.length cfa, .slice Afb f.ops.length cfb] 28)) (.cells #[.slice Ama m.sizes.length cma, .slice Amb m.tables.length cmb] 30)) (cell_keep (below_alloc ((w.alloc (.cells #[.int .i64 a.sorts, .slice Aaa a.ops.length caa] 25)).alloc (.cells #[.int .i64 b.sorts, .slice Aba b.ops.length cba] 25)) (.cells #[.slice Afa f.sorts.length cfa, .slice Afb f.ops.length cfb] 28)) (cell_keep (below_alloc (w.alloc (.cells #[.int .i64 a.sorts, .slice Aaa a.ops.length caa] 25)) (.cells #[.int .i64 b.sorts, .slice Aba b.ops.length cba] 25)) (bx_at (w) #[.int .i64 a.sorts, .slice Aaa a.ops.length caa] 25 (k := 1) rfl))))
  have Hb := Lib.hid (h2.keep hb)
  have b0 := cell_keep (below_alloc ((((w.alloc (.cells #[.int .i64 a.sorts, .slice Aaa a.ops.length caa] 25)).alloc (.cells #[.int .i64 b.sorts, .slice Aba b.ops.length cba] 25)).alloc (.cells #[.slice Afa f.sorts.length cfa, .slice Afb f.ops.length cfb] 28)).alloc (.cells #[.slice Ama m.sizes.length cma, .slice Amb m.tables.length cmb] 30)) (.cells #[.slice none 0 0, .slice none 0 0] 30)) (cell_keep (below_alloc (((w.alloc (.cells #[.int .i64 a.sorts, .slice Aaa a.ops.length caa] 25)).alloc (.cells #[.int .i64 b.sorts, .slice Aba b.ops.length cba] 25)).alloc (.cells #[.slice Afa f.sorts.length cfa, .slice Afb f.ops.length cfb] 28)) (.cells #[.slice Ama m.sizes.length cma, .slice Amb m.tables.length cmb] 30)) (cell_keep (below_alloc ((w.alloc (.cells #[.int .i64 a.sorts, .slice Aaa a.ops.length caa] 25)).alloc (.cells #[.int .i64 b.sorts, .slice Aba b.ops.length cba] 25)) (.cells #[.slice Afa f.sorts.length cfa, .slice Afb f.ops.length cfb] 28)) (bx_at (w.alloc (.cells #[.int .i64 a.sorts, .slice Aaa a.ops.length caa] 25)) #[.int .i64 b.sorts, .slice Aba b.ops.length cba] 25 (k := 0) rfl)))
  have b1 := cell_keep (below_alloc ((((w.alloc (.cells #[.int .i64 a.sorts, .slice Aaa a.ops.length caa] 25)).alloc (.cells #[.int .i64 b.sorts, .slice Aba b.ops.length cba] 25)).alloc (.cells #[.slice Afa f.sorts.length cfa, .slice Afb f.ops.length cfb] 28)).alloc (.cells #[.slice Ama m.sizes.length cma, .slice Amb m.tables.length cmb] 30)) (.cells #[.slice none 0 0, .slice none 0 0] 30)) (cell_keep (below_alloc (((w.alloc (.cells #[.int .i64 a.sorts, .slice Aaa a.ops.length caa] 25)).alloc (.cells #[.int .i64 b.sorts, .slice Aba b.ops.length cba] 25)).alloc (.cells #[.slice Afa f.sorts.length cfa, .slice Afb f.ops.length cfb] 28)) (.cells #[.slice Ama m.sizes.length cma, .slice Amb m.tables.length cmb] 30)) (cell_keep (below_alloc ((w.alloc (.cells #[.int .i64 a.sorts, .slice Aaa a.ops.length caa] 25)).alloc (.cells #[.int .i64 b.sorts, .slice Aba b.ops.length cba] 25)) (.cells #[.slice Afa f.sorts.length cfa, .slice Afb f.ops.length cfb] 28)) (bx_at (w.alloc (.cells #[.int .i64 a.sorts, .slice Aaa a.ops.length caa] 25)) #[.int .i64 b.sorts, .slice Aba b.ops.length cba] 25 (k := 1) rfl)))
  have Hf := Lib.hid (h3.keep hb)
  have f0 := cell_keep (below_alloc ((((w.alloc (.cells #[.int .i64 a.sorts, .slice Aaa a.ops.length caa] 25)).alloc (.cells #[.int .i64 b.sorts, .slice Aba b.ops.length cba] 25)).alloc (.cells #[.slice Afa f.sorts.length cfa, .slice Afb f.ops.length cfb] 28)).alloc (.cells #[.slice Ama m.sizes.length cma, .slice Amb m.tables.length cmb] 30)) (.cells #[.slice none 0 0, .slice none 0 0] 30)) (cell_keep (below_alloc (((w.alloc (.cells #[.int .i64 a.sorts, .slice Aaa a.ops.length caa] 25)).alloc (.cells #[.int .i64 b.sorts, .slice Aba b.ops.length cba] 25)).alloc (.cells #[.slice Afa f.sorts.length cfa, .slice Afb f.ops.length cfb] 28)) (.cells #[.slice Ama m.sizes.length cma, .slice Amb m.tables.length cmb] 30)) (bx_at ((w.alloc (.cells #[.int .i64 a.sorts, .slice Aaa a.ops.length caa] 25)).alloc (.cells #[.int .i64 b.sorts, .slice Aba b.ops.length cba] 25)) #[.slice Afa f.sorts.length cfa, .slice Afb f.ops.length cfb] 28 (k := 0) rfl))
  have f1 := cell_keep (below_alloc ((((w.alloc (.cells #[.int .i64 a.sorts, .slice Aaa a.ops.length caa] 25)).alloc (.cells #[.int .i64 b.sorts, .slice Aba b.ops.length cba] 25)).alloc (.cells #[.slice Afa f.sorts.length cfa, .slice Afb f.ops.length cfb] 28)).alloc (.cells #[.slice Ama m.sizes.length cma, .slice Amb m.tables.length cmb] 30)) (.cells #[.slice none 0 0, .slice none 0 0] 30)) (cell_keep (below_alloc (((w.alloc (.cells #[.int .i64 a.sorts, .slice Aaa a.ops.length caa] 25)).alloc (.cells #[.int .i64 b.sorts, .slice Aba b.ops.length cba] 25)).alloc (.cells #[.slice Afa f.sorts.length cfa, .slice Afb f.ops.length cfb] 28)) (.cells #[.slice Ama m.sizes.length cma, .slice Amb m.tables.length cmb] 30)) (bx_at ((w.alloc (.cells #[.int .i64 a.sorts, .slice Aaa a.ops.length caa] 25)).alloc (.cells #[.int .i64 b.sorts, .slice Aba b.ops.length cba] 25)) #[.slice Afa f.sorts.length cfa, .slice Afb f.ops.length cfb] 28 (k := 1) rfl))
  have Hm := Lib.hid (h4.keep hb)
  have m0 := cell_keep (below_alloc ((((w.alloc (.cells #[.int .i64 a.sorts, .slice Aaa a.ops.length caa] 25)).alloc (.cells #[.int .i64 b.sorts, .slice Aba b.ops.length cba] 25)).alloc (.cells #[.slice Afa f.sorts.length cfa, .slice Afb f.ops.length cfb] 28)).alloc (.cells #[.slice Ama m.sizes.length cma, .slice Amb m.tables.length cmb] 30)) (.cells #[.slice none 0 0, .slice none 0 0] 30)) (bx_at (((w.alloc (.cells #[.int .i64 a.sorts, .slice Aaa a.ops.length caa] 25)).alloc (.cells #[.int .i64 b.sorts, .slice Aba b.ops.length cba] 25)).alloc (.cells #[.slice Afa f.sorts.length cfa, .slice Afb f.ops.length cfb] 28)) #[.slice Ama m.sizes.length cma, .slice Amb m.tables.length cmb] 30 (k := 0) rfl)
  have m1 := cell_keep (below_alloc ((((w.alloc (.cells #[.int .i64 a.sorts, .slice Aaa a.ops.length caa] 25)).alloc (.cells #[.int .i64 b.sorts, .slice Aba b.ops.length cba] 25)).alloc (.cells #[.slice Afa f.sorts.length cfa, .slice Afb f.ops.length cfb] 28)).alloc (.cells #[.slice Ama m.sizes.length cma, .slice Amb m.tables.length cmb] 30)) (.cells #[.slice none 0 0, .slice none 0 0] 30)) (bx_at (((w.alloc (.cells #[.int .i64 a.sorts, .slice Aaa a.ops.length caa] 25)).alloc (.cells #[.int .i64 b.sorts, .slice Aba b.ops.length cba] 25)).alloc (.cells #[.slice Afa f.sorts.length cfa, .slice Afb f.ops.length cfb] 28)) #[.slice Ama m.sizes.length cma, .slice Amb m.tables.length cmb] 30 (k := 1) rfl)
  have HZr := Lib.hid (show (((((w.alloc (.cells #[.int .i64 a.sorts, .slice Aaa a.ops.length caa] 25)).alloc (.cells #[.int .i64 b.sorts, .slice Aba b.ops.length cba] 25)).alloc (.cells #[.slice Afa f.sorts.length cfa, .slice Afb f.ops.length cfb] 28)).alloc (.cells #[.slice Ama m.sizes.length cma, .slice Amb m.tables.length cmb] 30)).alloc (.cells #[.slice none 0 0, .slice none 0 0] 30)).heap[w.heap.size + 1 + 1 + 1 + 1]? = some (.cells #[.slice none 0 0, .slice none 0 0] 30 (0, 0)) from (congrArg (fun i => (((((w.alloc (.cells #[.int .i64 a.sorts, .slice Aaa a.ops.length caa] 25)).alloc (.cells #[.int .i64 b.sorts, .slice Aba b.ops.length cba] 25)).alloc (.cells #[.slice Afa f.sorts.length cfa, .slice Afb f.ops.length cfb] 28)).alloc (.cells #[.slice Ama m.sizes.length cma, .slice Amb m.tables.length cmb] 30)).alloc (.cells #[.slice none 0 0, .slice none 0 0] 30)).heap[i]?) (by simp)).trans (heap_alloc_new ((((w.alloc (.cells #[.int .i64 a.sorts, .slice Aaa a.ops.length caa] 25)).alloc (.cells #[.int .i64 b.sorts, .slice Aba b.ops.length cba] 25)).alloc (.cells #[.slice Afa f.sorts.length cfa, .slice Afb f.ops.length cfb] 28)).alloc (.cells #[.slice Ama m.sizes.length cma, .slice Amb m.tables.length cmb] 30)) _))
  simp only [World.size_alloc] at b0 b1 f0 f1 m0 m1
  generalize hW : ((((w.alloc (.cells #[.int .i64 a.sorts, .slice Aaa a.ops.length caa] 25)).alloc (.cells #[.int .i64 b.sorts, .slice Aba b.ops.length cba] 25)).alloc (.cells #[.slice Afa f.sorts.length cfa, .slice Afb f.ops.length cfb] 28)).alloc (.cells #[.slice Ama m.sizes.length cma, .slice Amb m.tables.length cmb] 30)).alloc (.cells #[.slice none 0 0, .slice none 0 0] 30) = W at HB hsz Ha a0 a1 Hb b0 b1 Hf f0 f1 Hm m0 m1 HZr
  clear hb h1 h2 h3 h4
  have hl1 := Hf.out.of.1.len
  have hl2 := Hf.out.of.2.len
  have hl3 := Hm.out.of.1.len
  have hl4 := Hm.out.of.2.len
  cases hok : mapOkB a b f with
  | false =>
    have HOK := Lib.hid hok
    have HE := Lib.hid (show modBackM a b f m = ⟨[], []⟩ by unfold modBackM; rw [hok]; rfl)
    clear hok
    go_enter Try.func10, Try.ntmps10
    go_wp2_with fail
    clear hW
    refine (mapOk_any a b f _ _ _ _ Ha.out Hb.out Hf.out).mono ?_
    rw [HOK.out]
    rintro x w1 ⟨rfl, hb⟩
    replace HZr := Lib.hid (blk_held HZr.out hb)
    replace HB := Lib.hid (sz_keep HB.out hb)
    replace a0 := cell_keep hb a0
    replace a1 := cell_keep hb a1
    replace b0 := cell_keep hb b0
    replace b1 := cell_keep hb b1
    replace f0 := cell_keep hb f0
    replace f1 := cell_keep hb f1
    replace m0 := cell_keep hb m0
    replace m1 := cell_keep hb m1
    replace Ha := Lib.hid (Ha.out.keep hb)
    replace Hb := Lib.hid (Hb.out.keep hb)
    replace Hf := Lib.hid (Hf.out.keep hb)
    replace Hm := Lib.hid (Hm.out.keep hb)
    clear hb
    have j0 := blk_cell HZr.out 0
    have j1 := blk_cell HZr.out 1
    have jf0 := blk_free HZr.out 0
    have jf1 := blk_free HZr.out 1
    simp at j0 j1
    go_wp2
    have d1 := blk_set (blk_set HZr.out 0 (.slice none 0 0)) 1 (.slice none 0 0)
    have hbz := ((HB.out.setCell (p := ⟨w.heap.size + 1 + 1 + 1 + 1, 0, none⟩) (by show w.heap.size ≤ w.heap.size + 1 + 1 + 1 + 1; omega) (.slice none 0 0)).setCell (p := ⟨w.heap.size + 1 + 1 + 1 + 1, 1, none⟩) (by show w.heap.size ≤ w.heap.size + 1 + 1 + 1 + 1; omega) (.slice none 0 0))
    generalize (w1.setCell ⟨w.heap.size + 1 + 1 + 1 + 1, 0, none⟩ (.slice none 0 0)).setCell ⟨w.heap.size + 1 + 1 + 1 + 1, 1, none⟩ (.slice none 0 0) = wz at d1 hbz ⊢
    have k0 := blk_cell d1 0
    have k1 := blk_cell d1 1
    simp at k0 k1
    clear j0 j1 jf0 jf1
    refine bodyPost_ret (v := .agg #[.slice none 0 0, .slice none 0 0]) (by simp [results, Try.results10, go_sem, k0, k1]) rfl ?_
    exact ⟨_, rfl, by rw [HE.out]; exact nil_model _ _, hbz⟩
  | true =>
    have HOK := Lib.hid hok
    cases hmo : modelB b m with
    | false =>
      have HMO := Lib.hid hmo
      have HE := Lib.hid (show modBackM a b f m = ⟨[], []⟩ by unfold modBackM; rw [hok, hmo]; rfl)
      clear hok hmo
      go_enter Try.func10, Try.ntmps10
      go_wp2_with fail
      clear hW
      refine (mapOk_any a b f _ _ _ _ Ha.out Hb.out Hf.out).mono ?_
      rw [HOK.out]
      rintro x w1 ⟨rfl, hb⟩
      replace HZr := Lib.hid (blk_held HZr.out hb)
      replace HB := Lib.hid (sz_keep HB.out hb)
      replace a0 := cell_keep hb a0
      replace a1 := cell_keep hb a1
      replace b0 := cell_keep hb b0
      replace b1 := cell_keep hb b1
      replace f0 := cell_keep hb f0
      replace f1 := cell_keep hb f1
      replace m0 := cell_keep hb m0
      replace m1 := cell_keep hb m1
      replace Ha := Lib.hid (Ha.out.keep hb)
      replace Hb := Lib.hid (Hb.out.keep hb)
      replace Hf := Lib.hid (Hf.out.keep hb)
      replace Hm := Lib.hid (Hm.out.keep hb)
      clear hb
      go_wp2_with fail
      refine (modelOk_any b m _ _ _ Hb.out Hm.out).mono ?_
      rw [HMO.out]
      rintro x w2 ⟨rfl, hb⟩
      replace HZr := Lib.hid (blk_held HZr.out hb)
      replace HB := Lib.hid (sz_keep HB.out hb)
      replace a0 := cell_keep hb a0
      replace a1 := cell_keep hb a1
      replace b0 := cell_keep hb b0
      replace b1 := cell_keep hb b1
      replace f0 := cell_keep hb f0
      replace f1 := cell_keep hb f1
      replace m0 := cell_keep hb m0
      replace m1 := cell_keep hb m1
      replace Ha := Lib.hid (Ha.out.keep hb)
      replace Hb := Lib.hid (Hb.out.keep hb)
      replace Hf := Lib.hid (Hf.out.keep hb)
      replace Hm := Lib.hid (Hm.out.keep hb)
      clear hb
      have j0 := blk_cell HZr.out 0
      have j1 := blk_cell HZr.out 1
      have jf0 := blk_free HZr.out 0
      have jf1 := blk_free HZr.out 1
      simp at j0 j1
      go_wp2
      have d1 := blk_set (blk_set HZr.out 0 (.slice none 0 0)) 1 (.slice none 0 0)
      have hbz := ((HB.out.setCell (p := ⟨w.heap.size + 1 + 1 + 1 + 1, 0, none⟩) (by show w.heap.size ≤ w.heap.size + 1 + 1 + 1 + 1; omega) (.slice none 0 0)).setCell (p := ⟨w.heap.size + 1 + 1 + 1 + 1, 1, none⟩) (by show w.heap.size ≤ w.heap.size + 1 + 1 + 1 + 1; omega) (.slice none 0 0))
      generalize (w2.setCell ⟨w.heap.size + 1 + 1 + 1 + 1, 0, none⟩ (.slice none 0 0)).setCell ⟨w.heap.size + 1 + 1 + 1 + 1, 1, none⟩ (.slice none 0 0) = wz at d1 hbz ⊢
      have k0 := blk_cell d1 0
      have k1 := blk_cell d1 1
      simp at k0 k1
      clear j0 j1 jf0 jf1
      refine bodyPost_ret (v := .agg #[.slice none 0 0, .slice none 0 0]) (by simp [results, Try.results10, go_sem, k0, k1]) rfl ?_
      exact ⟨_, rfl, by rw [HE.out]; exact nil_model _ _, hbz⟩
    | true =>
      have HMO := Lib.hid hmo
      have HE := Lib.hid (show modBackM a b f m = ⟨ledM m.sizes f.sorts, f.ops.map fun o => m.tables.getD o.toNat []⟩ by unfold modBackM; rw [hok, hmo]; rfl)
      have HMF := Lib.hid (mapOk_facts hok)
      have HMD := Lib.hid (model_facts hmo)
      have hsa := valid_sorts HMF.out.va
      have hfs : f.sorts.length ≤ 3 := by have := HMF.out.sl; omega
      have hfo : f.ops.length ≤ 6 := by have := HMF.out.ol; omega
      clear hok hmo hsa
      go_enter Try.func10, Try.ntmps10
      go_wp2_with fail
      clear hW
      refine (mapOk_any a b f _ _ _ _ Ha.out Hb.out Hf.out).mono ?_
      rw [HOK.out]
      rintro x w1 ⟨rfl, hb⟩
      replace HZr := Lib.hid (blk_held HZr.out hb)
      replace HB := Lib.hid (sz_keep HB.out hb)
      replace a0 := cell_keep hb a0
      replace a1 := cell_keep hb a1
      replace b0 := cell_keep hb b0
      replace b1 := cell_keep hb b1
      replace f0 := cell_keep hb f0
      replace f1 := cell_keep hb f1
      replace m0 := cell_keep hb m0
      replace m1 := cell_keep hb m1
      replace Ha := Lib.hid (Ha.out.keep hb)
      replace Hb := Lib.hid (Hb.out.keep hb)
      replace Hf := Lib.hid (Hf.out.keep hb)
      replace Hm := Lib.hid (Hm.out.keep hb)
      clear hb
      go_wp2_with fail
      refine (modelOk_any b m _ _ _ Hb.out Hm.out).mono ?_
      rw [HMO.out]
      rintro x w2 ⟨rfl, hb⟩
      replace HZr := Lib.hid (blk_held HZr.out hb)
      replace HB := Lib.hid (sz_keep HB.out hb)
      replace a0 := cell_keep hb a0
      replace a1 := cell_keep hb a1
      replace b0 := cell_keep hb b0
      replace b1 := cell_keep hb b1
      replace f0 := cell_keep hb f0
      replace f1 := cell_keep hb f1
      replace m0 := cell_keep hb m0
      replace m1 := cell_keep hb m1
      replace Ha := Lib.hid (Ha.out.keep hb)
      replace Hb := Lib.hid (Hb.out.keep hb)
      replace Hf := Lib.hid (Hf.out.keep hb)
      replace Hm := Lib.hid (Hm.out.keep hb)
      clear hb
      have hwr2 : w.heap.size + 1 + 1 + 1 + 1 < w2.heap.size := (Array.getElem?_eq_some_iff.1 HZr.out).1
      go_wp2_with fail
      refine (sizesOf_any m f.sorts _ _ _ Hm.out Hf.out.of.1 (HMD.out.into HMF.out.sb) (by omega)).mono ?_
      rintro x w5 ⟨u5, rfl, ho5, hb⟩
      have hz25 := hb.size
      replace HZr := Lib.hid (blk_held HZr.out hb)
      obtain ⟨Au, cu, rfl, -⟩ := ho5.reads.form
      have HOU := Lib.hid ho5
      clear ho5
      replace HB := Lib.hid (sz_keep HB.out hb)
      replace a0 := cell_keep hb a0
      replace a1 := cell_keep hb a1
      replace b0 := cell_keep hb b0
      replace b1 := cell_keep hb b1
      replace f0 := cell_keep hb f0
      replace f1 := cell_keep hb f1
      replace m0 := cell_keep hb m0
      replace m1 := cell_keep hb m1
      replace Ha := Lib.hid (Ha.out.keep hb)
      replace Hb := Lib.hid (Hb.out.keep hb)
      replace Hf := Lib.hid (Hf.out.keep hb)
      replace Hm := Lib.hid (Hm.out.keep hb)
      clear hb
      obtain ⟨i1, hj, hy0, hy1, hy2⟩ := info_parts Try.tinfo_ints
      have HC0 := Lib.hid (And.intro f1 m1)
      have hb3 := below_alloc w5 (.cells #[.slice none 0 0, .slice none 0 0] 30)
      have hl3 : (w5.alloc (.cells #[.slice none 0 0, .slice none 0 0] 30)).heap[w5.heap.size]? = some (.cells #[.slice none 0 0, .slice none 0 0] 30 (0, 0)) := heap_alloc_new w5 _
      generalize hW3 : w5.alloc (.cells #[.slice none 0 0, .slice none 0 0] 30) = W3 at hb3 hl3
      have hl4 : ((W3.setCell ⟨w5.heap.size, 0, none⟩ (.slice Au (ledM m.sizes f.sorts).length cu)).setCell ⟨w5.heap.size, 1, none⟩ (.slice none 0 0)).heap[w5.heap.size]? = some (.cells #[.slice Au (ledM m.sizes f.sorts).length cu, .slice none 0 0] 30 (0, 0)) := blk_set (blk_set hl3 0 (.slice Au (ledM m.sizes f.sorts).length cu)) 1 (.slice none 0 0)
      have hb4 : Below w5.heap.size w5 ((W3.setCell ⟨w5.heap.size, 0, none⟩ (.slice Au (ledM m.sizes f.sorts).length cu)).setCell ⟨w5.heap.size, 1, none⟩ (.slice none 0 0)) := (hb3.setCell (p := ⟨w5.heap.size, 0, none⟩) (Nat.le_refl _) _).setCell (p := ⟨w5.heap.size, 1, none⟩) (Nat.le_refl _) _
      have j0 := blk_cell hl3 0
      have j1 := blk_cell hl3 1
      have jf0 := blk_free hl3 0
      have jf1 := blk_free hl3 1
      simp at j0 j1
      generalize hW4 : (W3.setCell ⟨w5.heap.size, 0, none⟩ (.slice Au (ledM m.sizes f.sorts).length cu)).setCell ⟨w5.heap.size, 1, none⟩ (.slice none 0 0) = W4 at hl4 hb4
      have HL4 := Lib.hid hl4
      have HB4 := Lib.hid hb4
      have hlt4 : w5.heap.size < W4.heap.size := (Array.getElem?_eq_some_iff.1 hl4).1
      have OU4 := Lib.hid (HOU.out.keep hb4)
      have HUL := Lib.hid (show ∀ k, (Value.slice Au (ledM m.sizes f.sorts).length cu).ownBlock = some k → k < W4.heap.size from fun k e => by have := (own_lt HOU.out k e).2; omega)
      have HNE := Lib.hid (show (Value.slice Au (ledM m.sizes f.sorts).length cu).ownBlock ≠ some w5.heap.size from fun e => by have := (own_lt HOU.out _ e).2; omega)
      replace f1 := cell_keep hb4 f1
      clear hb3 hl3 hl4 hb4
      go_wp2
      clear hW3 hW4 j0 j1 jf0 jf1 a0 a1 b0 b1 f0 f1 m0 m1
      go_loopw [11, 32] (fun _ i wr => ∃ k : Nat, ∃ u, k ≤ f.ops.length ∧ i = .int .i64 k ∧ LocR 30 W4 wr w5.heap.size #[.slice Au (ledM m.sizes f.sorts).length cu, u] u (tabsM m (f.ops.take k))) (fun _ i _ => f.ops.length - (intOf i).toNat)
      case atStart => exact ⟨0, _, Nat.zero_le _, rfl, LocR.start HL4.out⟩
      case round =>
        obtain ⟨k, u, hk, rfl, hloc⟩ := hrel
        have HLOC := Lib.hid hloc
        have HBW := Lib.hid (hloc.below HB4.out (Nat.le_refl _))
        obtain ⟨us, hu1, hu2, hu3, hu4⟩ := hloc.own
        have HLT := Lib.hid (show (tabsM m (f.ops.take k)).length = k by rw [tabsM_len, List.length_take]; omega)
        have HTAB := Lib.hid (fun (h : k < f.ops.length) => tabsM_take (m := m) h)
        have HPE := Lib.hid (fun (h : k = f.ops.length) => show tabsM m (f.ops.take k) = tabsM m f.ops by rw [take_all (by omega)])
        generalize tabsM m (f.ops.take k) = ps at HLOC hloc hu1 hu2 hu3 hu4 HLT HTAB HPE
        obtain ⟨Av, cv, rfl, -⟩ := own_reads hu1
        have HU1 := Lib.hid hu1
        have HU2 := Lib.hid hu2
        have HU3 := Lib.hid hu3
        have HU4 := Lib.hid hu4
        have g1 := cell_keep HBW.out HC0.out.2
        have l1 := blk_cell hloc.loc 1
        simp at l1
        have hs3 := hloc.gr.size
        clear hloc hu1 hu2 hu3 hu4
        by_cases hlt : k < f.ops.length
        · have hlt' : (k : Int) < (f.ops.length : Int) := by omega
          obtain ⟨b7, o7, c7, e, hx⟩ := (Hf.out.of.2.keep HBW.out).at_ hlt
          cases e
          have HTK := Lib.hid (HTAB.out hlt)
          have hin := HMF.out.ob _ (List.getElem_mem hlt)
          generalize f.ops[k] = x at hx HTK hin
          obtain ⟨q, rfl⟩ : ∃ q : Nat, x = (q : Int) := ⟨x.toNat, by omega⟩
          have hqm : q < m.tables.length := by rw [HMD.out.tl]; omega
          have hqm' : (q : Int) < (m.tables.length : Int) := by omega
          have hq0 : (0 : Int) ≤ (q : Int) := by omega
          obtain ⟨b8, o8, c8, u8, e, ht, hrt⟩ := (Hm.out.of.2.keep HBW.out).at_ hqm
          cases e
          have htl := table_len HMD.out hqm
          have HGD := Lib.hid (show m.tables.getD (q : Int).toNat [] = m.tables[q] by rw [Int.toNat_natCast, getD_at _ hqm])
          generalize m.tables[q] = tb at ht hrt htl HGD
          have HRT := Lib.hid hrt
          obtain ⟨A8, d8, rfl, -⟩ := hrt.form
          have HL7 := Lib.hid (show ps.length + 1 ≤ maxLen ∧ (ps.length + 1) * 24 ≤ 140737488355328 by rw [HLT.out, maxLen_eq]; omega)
          clear hrt hin
          go_wp2_with fail
          go_region_law (first
            | (go_simp; go_at_call 55; refine (cloneAll _ tb wr.drew (HRT.out.keep (map_drew (Below.refl _ _))) (by omega)).mono ?_; rintro e w6 ⟨u6, rfl, ho6, hb6⟩; obtain ⟨A6, c6, rfl, -⟩ := ho6.reads.form; have HB6 := Lib.hid (map_undrew hb6); have HO6 := Lib.hid (show OInts w6 wr.heap.size (.slice A6 tb.length c6) tb from ho6); clear ho6 hb6; have HOV := Lib.hid ((own_keep HU1.out HB6.out).alloc (.cells #[.slice A6 tb.length c6] 26)); have HN6 := Lib.hid (news_one5 w6 (.slice A6 tb.length c6) 26); have m1 := cell_keep HB6.out l1; have m2 : w5.heap.size < w6.heap.size := World.block_lt_of_cell? w6 _ m1; have HZ6 := Lib.hid (show W4.heap.size ≤ (w6.alloc (.cells #[.slice A6 tb.length c6] 26)).heap.size by have := HB6.out.size; simp; omega))
            | (refine step_append_own rfl (.tmp 37) (.tmp 44) 23 rfl W4.heap.size 26 i1 (.slice none 0 0) 1 24 Try.underlying23 hj hy0 hy1 hy2 rfl (by omega) _ _ _ rfl HOV.out ⟨w6.heap.size, 0, none⟩ 1 1 [.slice A6 tb.length c6] rfl rfl HN6.out (rows_one5 _) HL7.out.1 HL7.out.2 HZ6.out ?_; intro v7 w7 hv7 hg7; obtain ⟨A7, c7, rfl, -⟩ := own_reads hv7; have HP := Lib.hid (HLOC.out.push (cs' := #[.slice Au (ledM m.sizes f.sorts).length cu, .slice A7 (ps.length + 1) c7]) HB6.out HO6.out HU1.out HU2.out HU3.out HU4.out hv7 hg7 1 rfl); clear hv7 hg7; have q1 := blk_cell HP.out.2 1; have q2 := blk_free HP.out.2 1; simp at q1))
          all_goals
            clear l1 m1 m2 q1 q2 g1 hx ht
            go_wp2
            go_roundw
            case rel => exact ⟨k + 1, _, by omega, by go_num, by rw [HTK.out, HGD.out]; exact HP.out.1⟩
            case measure => simp [intOf]; omega
        · have hkn : k = f.ops.length := by omega
          have hlt' : ¬ (k : Int) < (f.ops.length : Int) := by omega
          have HPS := Lib.hid (HPE.out hkn)
          have OU9 := Lib.hid (HLOC.out.other OU4.out HNE.out)
          have OV := Lib.hid HLOC.out.own
          have HL9 := Lib.hid HLOC.out.loc
          replace HB := Lib.hid (sz_keep HB.out HBW.out)
          have HZ9 := Lib.hid (blk_held HZr.out HBW.out)
          have l0 := blk_cell HL9.out 0
          have l1 := blk_cell HL9.out 1
          simp at l0 l1
          have j0 := blk_cell HZ9.out 0
          have j1 := blk_cell HZ9.out 1
          have jf0 := blk_free HZ9.out 0
          have jf1 := blk_free HZ9.out 1
          simp at j0 j1
          clear g1
          go_wp2
          have d1 := blk_set (blk_set HZ9.out 0 (.slice Au (ledM m.sizes f.sorts).length cu)) 1 (.slice Av ps.length cv)
          have n0 := (OU9.out.setLow (b := w.heap.size + 1 + 1 + 1 + 1) (by omega) 0 (.slice Au (ledM m.sizes f.sorts).length cu)).setLow (b := w.heap.size + 1 + 1 + 1 + 1) (by omega) 1 (.slice Av ps.length cv)
          have n1 := (OV.out.setLow' (b := w.heap.size + 1 + 1 + 1 + 1) (by omega) 0 (.slice Au (ledM m.sizes f.sorts).length cu)).setLow' (b := w.heap.size + 1 + 1 + 1 + 1) (by omega) 1 (.slice Av ps.length cv)
          have hbz := ((HB.out.setCell (p := ⟨w.heap.size + 1 + 1 + 1 + 1, 0, none⟩) (by show w.heap.size ≤ w.heap.size + 1 + 1 + 1 + 1; omega) (.slice Au (ledM m.sizes f.sorts).length cu)).setCell (p := ⟨w.heap.size + 1 + 1 + 1 + 1, 1, none⟩) (by show w.heap.size ≤ w.heap.size + 1 + 1 + 1 + 1; omega) (.slice Av ps.length cv))
          generalize (wr.setCell ⟨w.heap.size + 1 + 1 + 1 + 1, 0, none⟩ (.slice Au (ledM m.sizes f.sorts).length cu)).setCell ⟨w.heap.size + 1 + 1 + 1 + 1, 1, none⟩ (.slice Av ps.length cv) = wz at d1 hbz n0 n1 ⊢
          have k0 := blk_cell d1 0
          have k1 := blk_cell d1 1
          simp at k0 k1
          clear j0 j1 jf0 jf1 l0 l1
          refine bodyPost_ret (v := .agg #[.slice Au (ledM m.sizes f.sorts).length cu, .slice Av ps.length cv]) (by simp [results, Try.results10, go_sem, k0, k1]) rfl ?_
          exact ⟨_, rfl, by rw [HE.out]; exact ⟨_, _, rfl, n0.base (by omega), W4.heap.size, by omega, HUL.out, by show ORows _ _ _ (tabsM m f.ops); rw [← HPS.out]; exact n1⟩, hbz⟩
end
end Go.Proofs.Ytbopcghbmbchkab
