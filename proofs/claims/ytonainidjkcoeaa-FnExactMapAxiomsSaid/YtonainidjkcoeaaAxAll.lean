/- Axioms along a map: the plain functions. No walk. · firstEq of package impl: slices.IndexFunc with a function of its own. · l4Find of package spec. · MapAxioms of package impl. · MapAxioms of package spec. -/
import Derived.Test.YtonainidjkcoeaaMapP
import Derived.Test.YtonainidjkcoeaaSlEq
import Derived.Test.YtonainidjkcoeaaL1
import Derived.Test.YtonainidjkcoeaaMapFn
import Derived.Test.YtonainidjkcoeaaThyOk
import Derived.Test.YtonainidjkcoeaaMapFnS
import Derived.Deep.DeepCutAuto
namespace Go.Proofs.Ytonainidjkcoeaa
section
open Go.RowKit
set_option linter.unusedVariables false
set_option linter.unusedSimpArgs false

def findFrom (e : MEq) : Nat → List MEq → Int
  | _, [] => -1
  | k, x :: xs => if sameE x e then (k : Int) else findFrom e (k + 1) xs
/-- the number of the first equation that is this one; -1 if there is none -/
def findE (es : List MEq) (e : MEq) : Int := findFrom e 0 es
theorem findFrom_at (e : MEq) : ∀ (es : List MEq) (k0 j : Nat) (hj : j < es.length), (∀ i (hi : i < j), sameE (es[i]'(by omega)) e = false) → sameE es[j] e = true → findFrom e k0 es = ((k0 + j : Nat) : Int)
  | [], k0, j, hj, _, _ => by simp at hj
  | x :: xs, k0, 0, hj, _, h => by
    simp only [List.getElem_cons_zero] at h
    simp [findFrom, h]
  | x :: xs, k0, j + 1, hj, hb, h => by
    have h0 := hb 0 (by omega)
    simp only [List.getElem_cons_zero] at h0
    simp only [findFrom, h0, Bool.false_eq_true, if_false]
    rw [findFrom_at e xs (k0 + 1) j (by simpa using hj) (fun i hi => by have := hb (i + 1) (by omega); simpa using this) (by simpa using h)]
    congr 1; omega
theorem findFrom_none (e : MEq) : ∀ (es : List MEq) (k0 : Nat), (∀ i (hi : i < es.length), sameE es[i] e = false) → findFrom e k0 es = -1
  | [], k0, _ => rfl
  | x :: xs, k0, hb => by
    have h0 := hb 0 (by simp)
    simp only [List.getElem_cons_zero] at h0
    simp only [findFrom, h0, Bool.false_eq_true, if_false]
    exact findFrom_none e xs (k0 + 1) (fun i hi => by have := hb (i + 1) (by simpa using hi); simpa using this)
theorem findE_at {es : List MEq} {e : MEq} {j : Nat} (hj : j < es.length) (hb : ∀ i (hi : i < j), sameE (es[i]'(by omega)) e = false) (h : sameE es[j] e = true) : findE es e = (j : Int) := by
  unfold findE; rw [findFrom_at e es 0 j hj hb h]; simp
theorem findE_none {es : List MEq} {e : MEq} (hb : ∀ i (hi : i < es.length), sameE es[i] e = false) : findE es e = -1 := findFrom_none e es 0 hb
/-- none of the first k is it -/
def NoneTo (es : List MEq) (e : MEq) (k : Nat) : Prop := ∀ i (hi : i < es.length), i < k → sameE es[i] e = false
theorem NoneTo.zero (es : List MEq) (e : MEq) : NoneTo es e 0 := fun i _ h => by omega
theorem NoneTo.succ {es : List MEq} {e : MEq} {k : Nat} (h : NoneTo es e k) (hk : k < es.length) (hn : sameE es[k] e = false) : NoneTo es e (k + 1) := fun i hi hlt => by
  by_cases he : i = k
  · subst he; exact hn
  · exact h i hi (by omega)
theorem NoneTo.found {es : List MEq} {e : MEq} {k : Nat} (h : NoneTo es e k) (hk : k < es.length) (hn : sameE es[k] e = true) : findE es e = (k : Int) := findE_at hk (fun i hi => h i (by omega) hi) hn
theorem NoneTo.all {es : List MEq} {e : MEq} {k : Nat} (h : NoneTo es e k) (hk : es.length ≤ k) : findE es e = -1 := findE_none (fun i hi => h i hi (by omega))
theorem findFrom_lt (e : MEq) : ∀ (es : List MEq) (k0 : Nat), -1 ≤ findFrom e k0 es ∧ findFrom e k0 es < ((k0 + es.length : Nat) : Int) + 1
  | [], k0 => by simp [findFrom]; omega
  | x :: xs, k0 => by
    have := findFrom_lt e xs (k0 + 1)
    simp only [findFrom, List.length_cons]
    split
    · omega
    · omega
theorem findE_lt (es : List MEq) (e : MEq) : -1 ≤ findE es e ∧ findE es e ≤ (es.length : Int) := by
  have := findFrom_lt e es 0
  unfold findE; omega
def axL (b : List MEq) (m : MMap) (a : List MEq) : List Int := a.map fun e => findE b (ledE m e)
theorem axL_len (b : List MEq) (m : MMap) (a : List MEq) : (axL b m a).length = a.length := by simp [axL]
theorem axL_at {b a : List MEq} {m : MMap} {k : Nat} (hk : k < a.length) : (axL b m a)[k]? = some (findE b (ledE m a[k])) := by simp [axL, List.getElem?_eq_getElem hk]
theorem axL_take {b a : List MEq} {m : MMap} {k : Nat} (hk : k < a.length) : axL b m (a.take (k + 1)) = axL b m (a.take k) ++ [findE b (ledE m a[k])] := by
  rw [List.take_succ_eq_append_getElem hk]; unfold axL; rw [List.map_append]; rfl
def allIn (xs : List Int) : Bool := xs.all fun x => decide (0 ≤ x)
def mapAxM (a b : MThy) (m : MMap) : List Int × Bool :=
  if ((thyB a && thyB b) && mapOkB a.over b.over m) && allIn (axL b.eqs m a.eqs) then (axL b.eqs m a.eqs, true) else ([], false)
theorem mapAx_no1 {a b : MThy} {m : MMap} (h : thyB a = false) : mapAxM a b m = ([], false) := by unfold mapAxM; simp [h]
theorem mapAx_no2 {a b : MThy} {m : MMap} (h : thyB b = false) : mapAxM a b m = ([], false) := by unfold mapAxM; simp [h]
theorem mapAx_no3 {a b : MThy} {m : MMap} (h : mapOkB a.over b.over m = false) : mapAxM a b m = ([], false) := by unfold mapAxM; simp [h]
theorem mapAx_no4 {a b : MThy} {m : MMap} {k : Nat} (hk : k < a.eqs.length) (h : findE b.eqs (ledE m a.eqs[k]) < 0) : mapAxM a b m = ([], false) := by
  have : allIn (axL b.eqs m a.eqs) = false := by
    unfold allIn axL
    rw [List.all_eq_false]
    exact ⟨_, List.mem_map_of_mem (List.getElem_mem hk), by simp; omega⟩
  unfold mapAxM; simp [this]
theorem mapAx_yes {a b : MThy} {m : MMap} (h1 : thyB a = true) (h2 : thyB b = true) (h3 : mapOkB a.over b.over m = true) (h4 : allIn (axL b.eqs m a.eqs) = true) : mapAxM a b m = (axL b.eqs m a.eqs, true) := by
  unfold mapAxM; simp [h1, h2, h3, h4]
theorem allIn_take {xs : List Int} {k : Nat} (hk : k < xs.length) : allIn (xs.take (k + 1)) = (allIn (xs.take k) && decide (0 ≤ xs[k])) := by
  unfold allIn; rw [all_take hk]
theorem allIn_snoc (xs : List Int) (x : Int) : allIn (xs ++ [x]) = (allIn xs && decide (0 ≤ x)) := by unfold allIn; rw [List.all_append]; simp
theorem thy_eq {t : MThy} (h : thyB t = true) {k : Nat} (hk : k < t.eqs.length) : eqOkB t.over t.eqs[k] = true := by
  unfold thyB at h
  simp only [Bool.and_eq_true, List.all_eq_true] at h
  exact h.2 _ (List.getElem_mem hk)
theorem thy_few {t : MThy} (h : thyB t = true) : t.eqs.length ≤ 6 := by
  unfold thyB at h
  simp only [Bool.and_eq_true, decide_eq_true_eq] at h
  exact h.1.2
end

section
open Go.RowKit
set_option linter.unusedVariables false
set_option linter.unusedSimpArgs false

set_option maxHeartbeats 1600000 in
set_option maxRecDepth 100000 in
theorem firstEqFn_any (x e : MEq) (w : World) (v : Value) (be : Nat) (a b c : Value) (h : REq w v x) (he : REq w (.agg #[a, b, c]) e) (q0 : w.cell? ⟨be, 0, none⟩ = some a) (q1 : w.cell? ⟨be, 1, none⟩ = some b) (q2 : w.cell? ⟨be, 2, none⟩ = some c) :
    Calls Try.prog 75 #[v, .pointer (some ⟨be, 0, none⟩)] w fun r w' => r = .returned (.bool (sameE x e)) ∧ Below w.heap.size w w' := by
  obtain ⟨g0, g1, g2⟩ := he.of
  obtain ⟨E0, k0, rfl, -⟩ := g0.form
  obtain ⟨E1, k1, rfl, -⟩ := g1.form
  obtain ⟨E2, k2, rfl, -⟩ := g2.form
  clear g0 g1 g2
  obtain ⟨Axa, cxa, Axb, cxb, Axc, cxc, rfl⟩ := h.form
  have hb : Below w.heap.size w (w.alloc (.cells #[.slice Axa x.vars.length cxa, .slice Axb x.left.length cxb, .slice Axc x.right.length cxc] 54)) := below_alloc _ _
  have HB := Lib.hid hb
  have hsz : (w.alloc (.cells #[.slice Axa x.vars.length cxa, .slice Axb x.left.length cxb, .slice Axc x.right.length cxc] 54)).heap.size = w.heap.size + 1 := by simp
  have Hx := Lib.hid (h.keep hb)
  have x0 := bx_at (w) #[.slice Axa x.vars.length cxa, .slice Axb x.left.length cxb, .slice Axc x.right.length cxc] 54 (k := 0) rfl
  have x1 := bx_at (w) #[.slice Axa x.vars.length cxa, .slice Axb x.left.length cxb, .slice Axc x.right.length cxc] 54 (k := 1) rfl
  have x2 := bx_at (w) #[.slice Axa x.vars.length cxa, .slice Axb x.left.length cxb, .slice Axc x.right.length cxc] 54 (k := 2) rfl
  generalize hW : w.alloc (.cells #[.slice Axa x.vars.length cxa, .slice Axb x.left.length cxb, .slice Axc x.right.length cxc] 54) = W at HB hsz Hx x0 x1 x2
  clear hb h
  obtain ⟨g0, g1, g2⟩ := (he.keep HB.out).of
  replace q0 := cell_keep HB.out q0
  replace q1 := cell_keep HB.out q1
  replace q2 := cell_keep HB.out q2
  have HE0 := Lib.hid g0
  have HE1 := Lib.hid g1
  have HE2 := Lib.hid g2
  have HX0 := Lib.hid Hx.out.of.1
  have HX1 := Lib.hid Hx.out.of.2.1
  have HX2 := Lib.hid Hx.out.of.2.2
  clear g0 g1 g2 he Hx hsz
  cases d0 : decide (x.vars = e.vars) with
  | false =>
    have D0 := Lib.hid d0
    have HSE : Hid (sameE x e = false) := by unfold Hid sameE sameI; simp [d0]
    clear d0
    go_enter Try.func75, Try.ntmps75
    go_wp2_with fail
    clear hW
    refine (slEqual_any _ _ x.vars e.vars _ HX0.out HE0.out).mono ?_
    rw [D0.out]
    rintro r z0 ⟨rfl, hd⟩
    have hb := hd.below
    replace HB := Lib.hid (sz_keep HB.out hb)
    replace x1 := cell_keep hb x1
    replace q1 := cell_keep hb q1
    replace HX1 := Lib.hid (HX1.out.keep hb)
    replace HE1 := Lib.hid (HE1.out.keep hb)
    replace x2 := cell_keep hb x2
    replace q2 := cell_keep hb q2
    replace HX2 := Lib.hid (HX2.out.keep hb)
    replace HE2 := Lib.hid (HE2.out.keep hb)
    clear hd hb x0 q0 HX0 HE0
    clear x1 q1 HX1 HE1
    clear x2 q2 HX2 HE2
    go_wp2
    go_ret
    exact ⟨ret_bool HSE.out.symm, HB.out⟩
  | true =>
    have D0 := Lib.hid d0
    cases d1 : decide (x.left = e.left) with
    | false =>
      have D1 := Lib.hid d1
      have HSE : Hid (sameE x e = false) := by unfold Hid sameE sameI; simp [d1]
      clear d0 d1
      go_enter Try.func75, Try.ntmps75
      go_wp2_with fail
      clear hW
      refine (slEqual_any _ _ x.vars e.vars _ HX0.out HE0.out).mono ?_
      rw [D0.out]
      rintro r z0 ⟨rfl, hd⟩
      have hb := hd.below
      replace HB := Lib.hid (sz_keep HB.out hb)
      replace x1 := cell_keep hb x1
      replace q1 := cell_keep hb q1
      replace HX1 := Lib.hid (HX1.out.keep hb)
      replace HE1 := Lib.hid (HE1.out.keep hb)
      replace x2 := cell_keep hb x2
      replace q2 := cell_keep hb q2
      replace HX2 := Lib.hid (HX2.out.keep hb)
      replace HE2 := Lib.hid (HE2.out.keep hb)
      clear hd hb x0 q0 HX0 HE0
      go_wp2_with fail
      refine (slEqual_any _ _ x.left e.left _ HX1.out HE1.out).mono ?_
      rw [D1.out]
      rintro r z1 ⟨rfl, hd⟩
      have hb := hd.below
      replace HB := Lib.hid (sz_keep HB.out hb)
      replace x2 := cell_keep hb x2
      replace q2 := cell_keep hb q2
      replace HX2 := Lib.hid (HX2.out.keep hb)
      replace HE2 := Lib.hid (HE2.out.keep hb)
      clear hd hb x1 q1 HX1 HE1
      clear x2 q2 HX2 HE2
      go_wp2
      go_ret
      exact ⟨ret_bool HSE.out.symm, HB.out⟩
    | true =>
      have D1 := Lib.hid d1
      cases d2 : decide (x.right = e.right) with
      | false =>
        have D2 := Lib.hid d2
        have HSE : Hid (sameE x e = false) := by unfold Hid sameE sameI; simp [d2]
        clear d0 d1 d2
        go_enter Try.func75, Try.ntmps75
        go_wp2_with fail
        clear hW
        refine (slEqual_any _ _ x.vars e.vars _ HX0.out HE0.out).mono ?_
        rw [D0.out]
        rintro r z0 ⟨rfl, hd⟩
        have hb := hd.below
        replace HB := Lib.hid (sz_keep HB.out hb)
        replace x1 := cell_keep hb x1
        replace q1 := cell_keep hb q1
        replace HX1 := Lib.hid (HX1.out.keep hb)
        replace HE1 := Lib.hid (HE1.out.keep hb)
        replace x2 := cell_keep hb x2
        replace q2 := cell_keep hb q2
        replace HX2 := Lib.hid (HX2.out.keep hb)
        replace HE2 := Lib.hid (HE2.out.keep hb)
        clear hd hb x0 q0 HX0 HE0
        go_wp2_with fail
        refine (slEqual_any _ _ x.left e.left _ HX1.out HE1.out).mono ?_
        rw [D1.out]
        rintro r z1 ⟨rfl, hd⟩
        have hb := hd.below
        replace HB := Lib.hid (sz_keep HB.out hb)
        replace x2 := cell_keep hb x2
        replace q2 := cell_keep hb q2
        replace HX2 := Lib.hid (HX2.out.keep hb)
        replace HE2 := Lib.hid (HE2.out.keep hb)
        clear hd hb x1 q1 HX1 HE1
        go_wp2_with fail
        refine (slEqual_any _ _ x.right e.right _ HX2.out HE2.out).mono ?_
        rw [D2.out]
        rintro r z2 ⟨rfl, hd⟩
        have hb := hd.below
        replace HB := Lib.hid (sz_keep HB.out hb)
        clear hd hb x2 q2 HX2 HE2
        go_wp2
        go_ret
        exact ⟨ret_bool HSE.out.symm, HB.out⟩
      | true =>
        have D2 := Lib.hid d2
        have HSE : Hid (sameE x e = true) := by unfold Hid sameE sameI; simp [d0, d1, d2]
        clear d0 d1 d2
        go_enter Try.func75, Try.ntmps75
        go_wp2_with fail
        clear hW
        refine (slEqual_any _ _ x.vars e.vars _ HX0.out HE0.out).mono ?_
        rw [D0.out]
        rintro r z0 ⟨rfl, hd⟩
        have hb := hd.below
        replace HB := Lib.hid (sz_keep HB.out hb)
        replace x1 := cell_keep hb x1
        replace q1 := cell_keep hb q1
        replace HX1 := Lib.hid (HX1.out.keep hb)
        replace HE1 := Lib.hid (HE1.out.keep hb)
        replace x2 := cell_keep hb x2
        replace q2 := cell_keep hb q2
        replace HX2 := Lib.hid (HX2.out.keep hb)
        replace HE2 := Lib.hid (HE2.out.keep hb)
        clear hd hb x0 q0 HX0 HE0
        go_wp2_with fail
        refine (slEqual_any _ _ x.left e.left _ HX1.out HE1.out).mono ?_
        rw [D1.out]
        rintro r z1 ⟨rfl, hd⟩
        have hb := hd.below
        replace HB := Lib.hid (sz_keep HB.out hb)
        replace x2 := cell_keep hb x2
        replace q2 := cell_keep hb q2
        replace HX2 := Lib.hid (HX2.out.keep hb)
        replace HE2 := Lib.hid (HE2.out.keep hb)
        clear hd hb x1 q1 HX1 HE1
        go_wp2_with fail
        refine (slEqual_any _ _ x.right e.right _ HX2.out HE2.out).mono ?_
        rw [D2.out]
        rintro r z2 ⟨rfl, hd⟩
        have hb := hd.below
        replace HB := Lib.hid (sz_keep HB.out hb)
        clear hd hb x2 q2 HX2 HE2
        go_wp2
        go_ret
        exact ⟨ret_bool HSE.out.symm, HB.out⟩
set_option maxHeartbeats 1600000 in
set_option maxRecDepth 100000 in
theorem indexEq_any (es : List MEq) (e : MEq) (w : World) (v : Value) (be : Nat) (a b c : Value) (h : REqs w v es) (he : REq w (.agg #[a, b, c]) e) (q0 : w.cell? ⟨be, 0, none⟩ = some a) (q1 : w.cell? ⟨be, 1, none⟩ = some b) (q2 : w.cell? ⟨be, 2, none⟩ = some c) :
    Calls Try.prog 74 #[v, .func (Fn.func 75) #[] #[.pointer (some ⟨be, 0, none⟩)]] w fun r w' => r = .returned (.int .i64 (findE es e)) ∧ Below w.heap.size w w' := by
  have H := Lib.hid h
  have HE := Lib.hid he
  have HQ := Lib.hid (And.intro q0 (And.intro q1 q2))
  have hlen := h.len
  obtain ⟨A, d, rfl, -⟩ := h.form
  clear h he q0 q1 q2
  go_enter Try.func74, Try.ntmps74
  go_wp2
  go_loopw [5, 8] (fun p i wr => ∃ k : Nat, k ≤ es.length ∧ i = .int .i64 k ∧ NoneTo es e k ∧ Below w.heap.size w wr) (fun _ i _ => es.length - (intOf i).toNat)
  case atStart => exact ⟨0, Nat.zero_le _, rfl, NoneTo.zero _ _, Below.refl _ _⟩
  case round =>
    obtain ⟨k, hk, rfl, hn, hd⟩ := hrel
    have HN := Lib.hid hn
    have HD := Lib.hid hd
    clear hn hd
    by_cases hlt : k < es.length
    · have hlt' : (k : Int) < (es.length : Int) := by omega
      obtain ⟨b4, o4, c4, x0, x1, x2, e4, c00, c01, c02, r0, r1, r2⟩ := (H.out.keep HD.out).at_ hlt
      cases e4
      have HSU := Lib.hid (fun h => HN.out.succ hlt h)
      have HFO := Lib.hid (fun h => HN.out.found hlt h)
      generalize es[k] = x at r0 r1 r2 HSU HFO
      have HX := Lib.hid (show REq wr (.agg #[x0, x1, x2]) x from ⟨x0, x1, x2, rfl, r0, r1, r2⟩)
      obtain ⟨A0, g0, rfl, -⟩ := r0.form
      obtain ⟨A1, g1, rfl, -⟩ := r1.form
      obtain ⟨A2, g2, rfl, -⟩ := r2.form
      obtain ⟨r, hr⟩ : ∃ r, sameE x e = r := ⟨_, rfl⟩
      have HR := Lib.hid hr
      clear r0 r1 r2 hr
      go_wp2_with fail
      refine (firstEqFn_any x e wr _ be a b c HX.out (HE.out.keep HD.out) (cell_keep HD.out HQ.out.1) (cell_keep HD.out HQ.out.2.1) (cell_keep HD.out HQ.out.2.2)).mono ?_
      rw [HR.out]
      rintro q w2 ⟨rfl, hb⟩
      have HB2 := Lib.hid (sz_keep HD.out hb)
      clear hb c00 c01 c02
      cases r with
      | false =>
        go_wp2
        go_roundw
        case rel => exact ⟨k + 1, by omega, by go_num, HSU.out HR.out, HB2.out⟩
        case measure => simp [intOf]; omega
      | true =>
        go_wp2
        go_ret
        exact ⟨ret_int (HFO.out HR.out).symm, HB2.out⟩
    · have hlt' : ¬ (k : Int) < (es.length : Int) := by omega
      have HA := Lib.hid (HN.out.all (by omega))
      go_wp2
      go_ret
      exact ⟨ret_int HA.out.symm, HD.out⟩

set_option maxRecDepth 100000 in
theorem firstEq_any (es : List MEq) (e : MEq) (w : World) (v ve : Value) (h : REqs w v es) (he : REq w ve e) :
    Calls Try.prog 68 #[v, ve] w fun r w' => r = .returned (.int .i64 (findE es e)) ∧ Below w.heap.size w w' := by
  obtain ⟨A0, c0, rfl, -⟩ := h.form
  obtain ⟨Aea, cea, Aeb, ceb, Aec, cec, rfl⟩ := he.form
  have hb : Below w.heap.size w (w.alloc (.cells #[.slice Aea e.vars.length cea, .slice Aeb e.left.length ceb, .slice Aec e.right.length cec] 54)) := below_alloc _ _
  have HB := Lib.hid hb
  have hsz : (w.alloc (.cells #[.slice Aea e.vars.length cea, .slice Aeb e.left.length ceb, .slice Aec e.right.length cec] 54)).heap.size = w.heap.size + 1 := by simp
  have He := Lib.hid (he.keep hb)
  have e0 := bx_at (w) #[.slice Aea e.vars.length cea, .slice Aeb e.left.length ceb, .slice Aec e.right.length cec] 54 (k := 0) rfl
  have e1 := bx_at (w) #[.slice Aea e.vars.length cea, .slice Aeb e.left.length ceb, .slice Aec e.right.length cec] 54 (k := 1) rfl
  have e2 := bx_at (w) #[.slice Aea e.vars.length cea, .slice Aeb e.left.length ceb, .slice Aec e.right.length cec] 54 (k := 2) rfl
  generalize hW : w.alloc (.cells #[.slice Aea e.vars.length cea, .slice Aeb e.left.length ceb, .slice Aec e.right.length cec] 54) = W at HB hsz He e0 e1 e2
  clear hb he
  have HV := Lib.hid (h.keep HB.out)
  have HC := Lib.hid (And.intro e0 (And.intro e1 e2))
  clear h e0 e1 e2
  go_enter Try.func68, Try.ntmps68
  go_wp2_with fail
  clear hW
  refine (indexEq_any es e _ _ w.heap.size _ _ _ HV.out He.out HC.out.1 HC.out.2.1 HC.out.2.2).mono ?_
  rintro r w1 ⟨rfl, hb⟩
  have HB1 := Lib.hid (sz_keep HB.out hb)
  clear hb
  go_wp2
  go_ret
  exact ⟨rfl, HB1.out⟩
end

section
open Go.RowKit
set_option linter.unusedVariables false
set_option linter.unusedSimpArgs false

set_option maxHeartbeats 1600000 in
set_option maxRecDepth 100000 in
theorem l4Find_any (t : MThy) (e : MEq) (w : World) (v ve : Value) (h : RThy w v t) (he : REq w ve e) :
    Calls Try.prog 65 #[v, ve] w fun r w' => r = .returned (.int .i64 (findE t.eqs e)) ∧ Below w.heap.size w w' := by
  obtain ⟨Ata, cta, Atb, ctb, rfl⟩ := h.form
  obtain ⟨Aea, cea, Aeb, ceb, Aec, cec, rfl⟩ := he.form
  have hb : Below w.heap.size w ((w.alloc (.cells #[.int .i64 t.over.sorts, .slice Ata t.over.ops.length cta, .slice Atb t.eqs.length ctb] 69)).alloc (.cells #[.slice Aea e.vars.length cea, .slice Aeb e.left.length ceb, .slice Aec e.right.length cec] 54)) := (below_alloc _ _).alloc (by simp) _
  have HB := Lib.hid hb
  have hsz : ((w.alloc (.cells #[.int .i64 t.over.sorts, .slice Ata t.over.ops.length cta, .slice Atb t.eqs.length ctb] 69)).alloc (.cells #[.slice Aea e.vars.length cea, .slice Aeb e.left.length ceb, .slice Aec e.right.length cec] 54)).heap.size = w.heap.size + 2 := by simp
  have Ht := Lib.hid (h.keep hb)
  have t0 := cell_keep (below_alloc (w.alloc (.cells #[.int .i64 t.over.sorts, .slice Ata t.over.ops.length cta, .slice Atb t.eqs.length ctb] 69)) (.cells #[.slice Aea e.vars.length cea, .slice Aeb e.left.length ceb, .slice Aec e.right.length cec] 54)) (bx_at (w) #[.int .i64 t.over.sorts, .slice Ata t.over.ops.length cta, .slice Atb t.eqs.length ctb] 69 (k := 0) rfl)
  have t1 := cell_keep (below_alloc (w.alloc (.cells #[.int .i64 t.over.sorts, .slice Ata t.over.ops.length cta, .slice Atb t.eqs.length ctb] 69)) (.cells #[.slice Aea e.vars.length cea, .slice Aeb e.left.length ceb, .slice Aec e.right.length cec] 54)) (bx_at (w) #[.int .i64 t.over.sorts, .slice Ata t.over.ops.length cta, .slice Atb t.eqs.length ctb] 69 (k := 1) rfl)
  have t2 := cell_keep (below_alloc (w.alloc (.cells #[.int .i64 t.over.sorts, .slice Ata t.over.ops.length cta, .slice Atb t.eqs.length ctb] 69)) (.cells #[.slice Aea e.vars.length cea, .slice Aeb e.left.length ceb, .slice Aec e.right.length cec] 54)) (bx_at (w) #[.int .i64 t.over.sorts, .slice Ata t.over.ops.length cta, .slice Atb t.eqs.length ctb] 69 (k := 2) rfl)
  have He := Lib.hid (he.keep hb)
  have e0 := bx_at (w.alloc (.cells #[.int .i64 t.over.sorts, .slice Ata t.over.ops.length cta, .slice Atb t.eqs.length ctb] 69)) #[.slice Aea e.vars.length cea, .slice Aeb e.left.length ceb, .slice Aec e.right.length cec] 54 (k := 0) rfl
  have e1 := bx_at (w.alloc (.cells #[.int .i64 t.over.sorts, .slice Ata t.over.ops.length cta, .slice Atb t.eqs.length ctb] 69)) #[.slice Aea e.vars.length cea, .slice Aeb e.left.length ceb, .slice Aec e.right.length cec] 54 (k := 1) rfl
  have e2 := bx_at (w.alloc (.cells #[.int .i64 t.over.sorts, .slice Ata t.over.ops.length cta, .slice Atb t.eqs.length ctb] 69)) #[.slice Aea e.vars.length cea, .slice Aeb e.left.length ceb, .slice Aec e.right.length cec] 54 (k := 2) rfl
  simp only [World.size_alloc] at e0 e1 e2
  generalize hW : (w.alloc (.cells #[.int .i64 t.over.sorts, .slice Ata t.over.ops.length cta, .slice Atb t.eqs.length ctb] 69)).alloc (.cells #[.slice Aea e.vars.length cea, .slice Aeb e.left.length ceb, .slice Aec e.right.length cec] 54) = W at HB hsz Ht t0 t1 t2 He e0 e1 e2
  clear hb h he
  have HQ := Lib.hid Ht.out.of.2.2
  have hlen := HQ.out.len
  have HC := Lib.hid (And.intro t2 (And.intro e0 (And.intro e1 e2)))
  have HBW := Lib.hid HB.out
  clear t0 t1 t2 e0 e1 e2 hsz
  go_enter Try.func65, Try.ntmps65
  go_wp2
  clear hW
  go_loopw [5, 6] (fun i p wr => ∃ k : Nat, k ≤ t.eqs.length ∧ i = .int .i64 k ∧ NoneTo t.eqs e k ∧ Below W.heap.size W wr) (fun i _ _ => t.eqs.length - (intOf i).toNat)
  case atStart => exact ⟨0, Nat.zero_le _, rfl, NoneTo.zero _ _, Below.refl _ _⟩
  case round =>
    obtain ⟨k, hk, rfl, hn, hd⟩ := hrel
    have HN := Lib.hid hn
    have HD := Lib.hid hd
    have t2 := cell_keep hd HC.out.1
    clear hn hd
    by_cases hlt : k < t.eqs.length
    · have hlt' : (k : Int) < (t.eqs.length : Int) := by omega
      obtain ⟨b4, o4, c4, y0, y1, y2, e4, c00, c01, c02, r0, r1, r2⟩ := (HQ.out.keep HD.out).at_ hlt
      cases e4
      have HSU := Lib.hid (fun h => HN.out.succ hlt h)
      have HFO := Lib.hid (fun h => HN.out.found hlt h)
      generalize t.eqs[k] = x at r0 r1 r2 HSU HFO
      obtain ⟨A0, g0, rfl, -⟩ := r0.form
      obtain ⟨A1, g1, rfl, -⟩ := r1.form
      obtain ⟨A2, g2, rfl, -⟩ := r2.form
      have hb := below_alloc wr (.cells #[.slice A0 x.vars.length g0, .slice A1 x.left.length g1, .slice A2 x.right.length g2] 54)
      have x0 := bx_at wr #[.slice A0 x.vars.length g0, .slice A1 x.left.length g1, .slice A2 x.right.length g2] 54 (k := 0) rfl
      have x1 := bx_at wr #[.slice A0 x.vars.length g0, .slice A1 x.left.length g1, .slice A2 x.right.length g2] 54 (k := 1) rfl
      have x2 := bx_at wr #[.slice A0 x.vars.length g0, .slice A1 x.left.length g1, .slice A2 x.right.length g2] 54 (k := 2) rfl
      generalize hW2 : wr.alloc (.cells #[.slice A0 x.vars.length g0, .slice A1 x.left.length g1, .slice A2 x.right.length g2] 54) = W2 at hb x0 x1 x2
      have HX0 := Lib.hid (r0.keep hb)
      have HX1 := Lib.hid (r1.keep hb)
      have HX2 := Lib.hid (r2.keep hb)
      have hbw := sz_keep HD.out hb
      have HE0 := Lib.hid (He.out.of.1.keep hbw)
      have HE1 := Lib.hid (He.out.of.2.1.keep hbw)
      have HE2 := Lib.hid (He.out.of.2.2.keep hbw)
      have q0 := cell_keep hbw HC.out.2.1
      have q1 := cell_keep hbw HC.out.2.2.1
      have q2 := cell_keep hbw HC.out.2.2.2
      have HB := Lib.hid hbw
      clear r0 r1 r2 hb hbw
      cases d0 : decide (x.vars = e.vars) with
      | false =>
        have D0 := Lib.hid d0
        have HSE : Hid (sameE x e = false) := by unfold Hid sameE sameI; simp [d0]
        clear d0
        go_wp2_with fail
        clear hW2 c00 c01 c02 t2
        refine (l1Same_any _ _ x.vars e.vars _ HX0.out HE0.out).mono ?_
        rw [D0.out]
        rintro r z0 ⟨rfl, hd⟩
        have hb := hd.below
        replace HB := Lib.hid (sz_keep HB.out hb)
        replace x1 := cell_keep hb x1
        replace q1 := cell_keep hb q1
        replace HX1 := Lib.hid (HX1.out.keep hb)
        replace HE1 := Lib.hid (HE1.out.keep hb)
        replace x2 := cell_keep hb x2
        replace q2 := cell_keep hb q2
        replace HX2 := Lib.hid (HX2.out.keep hb)
        replace HE2 := Lib.hid (HE2.out.keep hb)
        clear hd hb x0 q0 HX0 HE0
        clear x1 q1 HX1 HE1
        clear x2 q2 HX2 HE2
        go_wp2
        go_roundw
        case rel => exact ⟨k + 1, by omega, by go_num, HSU.out HSE.out, HB.out⟩
        case measure => simp [intOf]; omega
      | true =>
        have D0 := Lib.hid d0
        cases d1 : decide (x.left = e.left) with
        | false =>
          have D1 := Lib.hid d1
          have HSE : Hid (sameE x e = false) := by unfold Hid sameE sameI; simp [d1]
          clear d0 d1
          go_wp2_with fail
          clear hW2 c00 c01 c02 t2
          refine (l1Same_any _ _ x.vars e.vars _ HX0.out HE0.out).mono ?_
          rw [D0.out]
          rintro r z0 ⟨rfl, hd⟩
          have hb := hd.below
          replace HB := Lib.hid (sz_keep HB.out hb)
          replace x1 := cell_keep hb x1
          replace q1 := cell_keep hb q1
          replace HX1 := Lib.hid (HX1.out.keep hb)
          replace HE1 := Lib.hid (HE1.out.keep hb)
          replace x2 := cell_keep hb x2
          replace q2 := cell_keep hb q2
          replace HX2 := Lib.hid (HX2.out.keep hb)
          replace HE2 := Lib.hid (HE2.out.keep hb)
          clear hd hb x0 q0 HX0 HE0
          go_wp2_with fail
          refine (l1Same_any _ _ x.left e.left _ HX1.out HE1.out).mono ?_
          rw [D1.out]
          rintro r z1 ⟨rfl, hd⟩
          have hb := hd.below
          replace HB := Lib.hid (sz_keep HB.out hb)
          replace x2 := cell_keep hb x2
          replace q2 := cell_keep hb q2
          replace HX2 := Lib.hid (HX2.out.keep hb)
          replace HE2 := Lib.hid (HE2.out.keep hb)
          clear hd hb x1 q1 HX1 HE1
          clear x2 q2 HX2 HE2
          go_wp2
          go_roundw
          case rel => exact ⟨k + 1, by omega, by go_num, HSU.out HSE.out, HB.out⟩
          case measure => simp [intOf]; omega
        | true =>
          have D1 := Lib.hid d1
          cases d2 : decide (x.right = e.right) with
          | false =>
            have D2 := Lib.hid d2
            have HSE : Hid (sameE x e = false) := by unfold Hid sameE sameI; simp [d2]
            clear d0 d1 d2
            go_wp2_with fail
            clear hW2 c00 c01 c02 t2
            refine (l1Same_any _ _ x.vars e.vars _ HX0.out HE0.out).mono ?_
            rw [D0.out]
            rintro r z0 ⟨rfl, hd⟩
            have hb := hd.below
            replace HB := Lib.hid (sz_keep HB.out hb)
            replace x1 := cell_keep hb x1
            replace q1 := cell_keep hb q1
            replace HX1 := Lib.hid (HX1.out.keep hb)
            replace HE1 := Lib.hid (HE1.out.keep hb)
            replace x2 := cell_keep hb x2
            replace q2 := cell_keep hb q2
            replace HX2 := Lib.hid (HX2.out.keep hb)
            replace HE2 := Lib.hid (HE2.out.keep hb)
            clear hd hb x0 q0 HX0 HE0
            go_wp2_with fail
            refine (l1Same_any _ _ x.left e.left _ HX1.out HE1.out).mono ?_
            rw [D1.out]
            rintro r z1 ⟨rfl, hd⟩
            have hb := hd.below
            replace HB := Lib.hid (sz_keep HB.out hb)
            replace x2 := cell_keep hb x2
            replace q2 := cell_keep hb q2
            replace HX2 := Lib.hid (HX2.out.keep hb)
            replace HE2 := Lib.hid (HE2.out.keep hb)
            clear hd hb x1 q1 HX1 HE1
            go_wp2_with fail
            refine (l1Same_any _ _ x.right e.right _ HX2.out HE2.out).mono ?_
            rw [D2.out]
            rintro r z2 ⟨rfl, hd⟩
            have hb := hd.below
            replace HB := Lib.hid (sz_keep HB.out hb)
            clear hd hb x2 q2 HX2 HE2
            go_wp2
            go_roundw
            case rel => exact ⟨k + 1, by omega, by go_num, HSU.out HSE.out, HB.out⟩
            case measure => simp [intOf]; omega
          | true =>
            have D2 := Lib.hid d2
            have HSE : Hid (sameE x e = true) := by unfold Hid sameE sameI; simp [d0, d1, d2]
            clear d0 d1 d2
            go_wp2_with fail
            clear hW2 c00 c01 c02 t2
            refine (l1Same_any _ _ x.vars e.vars _ HX0.out HE0.out).mono ?_
            rw [D0.out]
            rintro r z0 ⟨rfl, hd⟩
            have hb := hd.below
            replace HB := Lib.hid (sz_keep HB.out hb)
            replace x1 := cell_keep hb x1
            replace q1 := cell_keep hb q1
            replace HX1 := Lib.hid (HX1.out.keep hb)
            replace HE1 := Lib.hid (HE1.out.keep hb)
            replace x2 := cell_keep hb x2
            replace q2 := cell_keep hb q2
            replace HX2 := Lib.hid (HX2.out.keep hb)
            replace HE2 := Lib.hid (HE2.out.keep hb)
            clear hd hb x0 q0 HX0 HE0
            go_wp2_with fail
            refine (l1Same_any _ _ x.left e.left _ HX1.out HE1.out).mono ?_
            rw [D1.out]
            rintro r z1 ⟨rfl, hd⟩
            have hb := hd.below
            replace HB := Lib.hid (sz_keep HB.out hb)
            replace x2 := cell_keep hb x2
            replace q2 := cell_keep hb q2
            replace HX2 := Lib.hid (HX2.out.keep hb)
            replace HE2 := Lib.hid (HE2.out.keep hb)
            clear hd hb x1 q1 HX1 HE1
            go_wp2_with fail
            refine (l1Same_any _ _ x.right e.right _ HX2.out HE2.out).mono ?_
            rw [D2.out]
            rintro r z2 ⟨rfl, hd⟩
            have hb := hd.below
            replace HB := Lib.hid (sz_keep HB.out hb)
            clear hd hb x2 q2 HX2 HE2
            go_wp2
            go_ret
            exact ⟨ret_int (HFO.out HSE.out).symm, sz_keep HBW.out HB.out⟩
    · have hlt' : ¬ (k : Int) < (t.eqs.length : Int) := by omega
      have HA := Lib.hid (HN.out.all (by omega))
      go_wp2
      go_ret
      exact ⟨ret_int HA.out.symm, sz_keep HBW.out HD.out⟩
end

section
open Go.RowKit
set_option linter.unusedVariables false
set_option linter.unusedSimpArgs false

theorem Filling.kept {w wr w1 : World} {zs : List Int} {k : Nat} (h : Filling w wr zs k) (hb : Below wr.heap.size wr w1) : Filling w w1 zs k := by
  obtain ⟨cur, h1, h2, h3, h4⟩ := h
  exact ⟨cur, (hb.block _ (Array.getElem?_eq_some_iff.1 h1).1).trans h1, h2, h3, h4.trans (hb.mono h4.size)⟩
theorem Filling.last {w wr : World} {zs : List Int} {k : Nat} {x : Int} (h : Filling w wr zs (k + 1)) (hk : zs[k]? = some x) : wr.cell? ⟨w.heap.size, k, none⟩ = some (.int .i64 x) := by
  obtain ⟨cur, h1, h2, h3, h4⟩ := h
  have := h3 k (by omega)
  rw [hk] at this
  exact (blk_cell h1 k).trans this
theorem Filling.lt {w wr : World} {zs : List Int} {k : Nat} (h : Filling w wr zs k) : w.heap.size < wr.heap.size := by
  obtain ⟨cur, h1, h2, h3, h4⟩ := h
  exact (Array.getElem?_eq_some_iff.1 h1).1
set_option maxHeartbeats 3200000 in
set_option maxRecDepth 100000 in
theorem mapAxioms_any (a b : MThy) (m : MMap) (w : World) (va vb vm : Value) (hsa : SmallT a) (hsb : SmallT b) (h1 : RThy w va a) (h2 : RThy w vb b) (h3 : RMap w vm m) :
    Calls Try.prog 40 #[va, vb, vm] w fun x w' => ∃ u, x = .returned (.tuple #[u, .bool (mapAxM a b m).2]) ∧ OInts w' w.heap.size u (mapAxM a b m).1 ∧ Below w.heap.size w w' := by
  obtain ⟨Aaa, caa, Aab, cab, rfl⟩ := h1.form
  obtain ⟨Aba, cba, Abb, cbb, rfl⟩ := h2.form
  obtain ⟨Ama, cma, Amb, cmb, rfl⟩ := h3.form
  have hb : Below w.heap.size w (((w.alloc (.cells #[.int .i64 a.over.sorts, .slice Aaa a.over.ops.length caa, .slice Aab a.eqs.length cab] 69)).alloc (.cells #[.int .i64 b.over.sorts, .slice Aba b.over.ops.length cba, .slice Abb b.eqs.length cbb] 69)).alloc (.cells #[.slice Ama m.sorts.length cma, .slice Amb m.ops.length cmb] 33)) := ((below_alloc _ _).alloc (by simp) _).alloc (by simp; omega) _
  have HB := Lib.hid hb
  have hsz : (((w.alloc (.cells #[.int .i64 a.over.sorts, .slice Aaa a.over.ops.length caa, .slice Aab a.eqs.length cab] 69)).alloc (.cells #[.int .i64 b.over.sorts, .slice Aba b.over.ops.length cba, .slice Abb b.eqs.length cbb] 69)).alloc (.cells #[.slice Ama m.sorts.length cma, .slice Amb m.ops.length cmb] 33)).heap.size = w.heap.size + 3 := by simp
  have Ha := Lib.hid (h1.keep hb)
  have a0 := cell_keep (below_alloc ((w.alloc (.cells #[.int .i64 a.over.sorts, .slice Aaa a.over.ops.length caa, .slice Aab a.eqs.length cab] 69)).alloc (.cells #[.int .i64 b.over.sorts, .slice Aba b.over.ops.length cba, .slice Abb b.eqs.length cbb] 69)) (.cells #[.slice Ama m.sorts.length cma, .slice Amb m.ops.length cmb] 33)) (cell_keep (below_alloc (w.alloc (.cells #[.int .i64 a.over.sorts, .slice Aaa a.over.ops.length caa, .slice Aab a.eqs.length cab] 69)) (.cells #[.int .i64 b.over.sorts, .slice Aba b.over.ops.length cba, .slice Abb b.eqs.length cbb] 69)) (bx_at (w) #[.int .i64 a.over.sorts, .slice Aaa a.over.ops.length caa, .slice Aab a.eqs.length cab] 69 (k := 0) rfl))
  have a1 := cell_keep (below_alloc ((w.alloc (.cells #[.int .i64 a.over.sorts, .slice Aaa a.over.ops.length caa, .slice Aab a.eqs.length cab] 69)).alloc (.cells #[.int .i64 b.over.sorts, .slice Aba b.over.ops.length cba, .slice Abb b.eqs.length cbb] 69)) (.cells #[.slice Ama m.sorts.length cma, .slice Amb m.ops.length cmb] 33)) (cell_keep (below_alloc (w.alloc (.cells #[.int .i64 a.over.sorts, .slice Aaa a.over.ops.length caa, .slice Aab a.eqs.length cab] 69)) (.cells #[.int .i64 b.over.sorts, .slice Aba b.over.ops.length cba, .slice Abb b.eqs.length cbb] 69)) (bx_at (w) #[.int .i64 a.over.sorts, .slice Aaa a.over.ops.length caa, .slice Aab a.eqs.length cab] 69 (k := 1) rfl))
  have a2 := cell_keep (below_alloc ((w.alloc (.cells #[.int .i64 a.over.sorts, .slice Aaa a.over.ops.length caa, .slice Aab a.eqs.length cab] 69)).alloc (.cells #[.int .i64 b.over.sorts, .slice Aba b.over.ops.length cba, .slice Abb b.eqs.length cbb] 69)) (.cells #[.slice Ama m.sorts.length cma, .slice Amb m.ops.length cmb] 33)) (cell_keep (below_alloc (w.alloc (.cells #[.int .i64 a.over.sorts, .slice Aaa a.over.ops.length caa, .slice Aab a.eqs.length cab] 69)) (.cells #[.int .i64 b.over.sorts, .slice Aba b.over.ops.length cba, .slice Abb b.eqs.length cbb] 69)) (bx_at (w) #[.int .i64 a.over.sorts, .slice Aaa a.over.ops.length caa, .slice Aab a.eqs.length cab] 69 (k := 2) rfl))
  have Hb := Lib.hid (h2.keep hb)
  have b0 := cell_keep (below_alloc ((w.alloc (.cells #[.int .i64 a.over.sorts, .slice Aaa a.over.ops.length caa, .slice Aab a.eqs.length cab] 69)).alloc (.cells #[.int .i64 b.over.sorts, .slice Aba b.over.ops.length cba, .slice Abb b.eqs.length cbb] 69)) (.cells #[.slice Ama m.sorts.length cma, .slice Amb m.ops.length cmb] 33)) (bx_at (w.alloc (.cells #[.int .i64 a.over.sorts, .slice Aaa a.over.ops.length caa, .slice Aab a.eqs.length cab] 69)) #[.int .i64 b.over.sorts, .slice Aba b.over.ops.length cba, .slice Abb b.eqs.length cbb] 69 (k := 0) rfl)
  have b1 := cell_keep (below_alloc ((w.alloc (.cells #[.int .i64 a.over.sorts, .slice Aaa a.over.ops.length caa, .slice Aab a.eqs.length cab] 69)).alloc (.cells #[.int .i64 b.over.sorts, .slice Aba b.over.ops.length cba, .slice Abb b.eqs.length cbb] 69)) (.cells #[.slice Ama m.sorts.length cma, .slice Amb m.ops.length cmb] 33)) (bx_at (w.alloc (.cells #[.int .i64 a.over.sorts, .slice Aaa a.over.ops.length caa, .slice Aab a.eqs.length cab] 69)) #[.int .i64 b.over.sorts, .slice Aba b.over.ops.length cba, .slice Abb b.eqs.length cbb] 69 (k := 1) rfl)
  have b2 := cell_keep (below_alloc ((w.alloc (.cells #[.int .i64 a.over.sorts, .slice Aaa a.over.ops.length caa, .slice Aab a.eqs.length cab] 69)).alloc (.cells #[.int .i64 b.over.sorts, .slice Aba b.over.ops.length cba, .slice Abb b.eqs.length cbb] 69)) (.cells #[.slice Ama m.sorts.length cma, .slice Amb m.ops.length cmb] 33)) (bx_at (w.alloc (.cells #[.int .i64 a.over.sorts, .slice Aaa a.over.ops.length caa, .slice Aab a.eqs.length cab] 69)) #[.int .i64 b.over.sorts, .slice Aba b.over.ops.length cba, .slice Abb b.eqs.length cbb] 69 (k := 2) rfl)
  have Hm := Lib.hid (h3.keep hb)
  have m0 := bx_at ((w.alloc (.cells #[.int .i64 a.over.sorts, .slice Aaa a.over.ops.length caa, .slice Aab a.eqs.length cab] 69)).alloc (.cells #[.int .i64 b.over.sorts, .slice Aba b.over.ops.length cba, .slice Abb b.eqs.length cbb] 69)) #[.slice Ama m.sorts.length cma, .slice Amb m.ops.length cmb] 33 (k := 0) rfl
  have m1 := bx_at ((w.alloc (.cells #[.int .i64 a.over.sorts, .slice Aaa a.over.ops.length caa, .slice Aab a.eqs.length cab] 69)).alloc (.cells #[.int .i64 b.over.sorts, .slice Aba b.over.ops.length cba, .slice Abb b.eqs.length cbb] 69)) #[.slice Ama m.sorts.length cma, .slice Amb m.ops.length cmb] 33 (k := 1) rfl
  simp only [World.size_alloc] at b0 b1 b2 m0 m1
  generalize hW : ((w.alloc (.cells #[.int .i64 a.over.sorts, .slice Aaa a.over.ops.length caa, .slice Aab a.eqs.length cab] 69)).alloc (.cells #[.int .i64 b.over.sorts, .slice Aba b.over.ops.length cba, .slice Abb b.eqs.length cbb] 69)).alloc (.cells #[.slice Ama m.sorts.length cma, .slice Amb m.ops.length cmb] 33) = W at HB hsz Ha a0 a1 a2 Hb b0 b1 b2 Hm m0 m1
  clear hb h1 h2 h3
  have hla := Ha.out.of.2.2.len
  have hlb := Hb.out.of.2.2.len
  clear hsz
  have HSM := Lib.hid (And.intro hsa hsb)
  clear hsa hsb
  cases hva : thyB a with
  | false =>
    have HA := Lib.hid hva
    have HE := Lib.hid (mapAx_no1 (b := b) (m := m) hva)
    clear hva
    go_enter Try.func40, Try.ntmps40
    go_wp2_with fail
    clear hW
    refine (theoryOk_any a _ _ HSM.out.1 Ha.out).mono ?_
    rw [HA.out]
    rintro e w1 ⟨rfl, hb⟩
    clear a0 a1 a2 b0 b1 b2 m0 m1
    replace HB := Lib.hid (sz_keep HB.out hb)
    clear hb
    go_wp2
    refine bodyPost_ret (v := .tuple #[.slice none 0 0, .bool false]) (by simp [results, Try.results40, go_sem]) rfl ?_
    exact ⟨_, by rw [HE.out], by rw [HE.out]; exact OInts.nil _ _, HB.out⟩
  | true =>
    have HA := Lib.hid hva
    clear hva
    cases hvb : thyB b with
    | false =>
      have HV := Lib.hid hvb
      have HE := Lib.hid (mapAx_no2 (a := a) (m := m) hvb)
      clear hvb
      go_enter Try.func40, Try.ntmps40
      go_wp2_with fail
      clear hW
      refine (theoryOk_any a _ _ HSM.out.1 Ha.out).mono ?_
      rw [HA.out]
      rintro e w1 ⟨rfl, hb⟩
      replace HB := Lib.hid (sz_keep HB.out hb)
      replace a0 := cell_keep hb a0
      replace a1 := cell_keep hb a1
      replace a2 := cell_keep hb a2
      replace b0 := cell_keep hb b0
      replace b1 := cell_keep hb b1
      replace b2 := cell_keep hb b2
      replace m0 := cell_keep hb m0
      replace m1 := cell_keep hb m1
      replace Ha := Lib.hid (Ha.out.keep hb)
      replace Hb := Lib.hid (Hb.out.keep hb)
      replace Hm := Lib.hid (Hm.out.keep hb)
      clear hb
      go_wp2_with fail
      refine (theoryOk_any b _ _ HSM.out.2 Hb.out).mono ?_
      rw [HV.out]
      rintro e w2 ⟨rfl, hb⟩
      clear a0 a1 a2 b0 b1 b2 m0 m1
      replace HB := Lib.hid (sz_keep HB.out hb)
      clear hb
      go_wp2
      refine bodyPost_ret (v := .tuple #[.slice none 0 0, .bool false]) (by simp [results, Try.results40, go_sem]) rfl ?_
      exact ⟨_, by rw [HE.out], by rw [HE.out]; exact OInts.nil _ _, HB.out⟩
    | true =>
      have HV := Lib.hid hvb
      clear hvb
      cases hm : mapOkB a.over b.over m with
      | false =>
        have HM := Lib.hid hm
        have HE := Lib.hid (mapAx_no3 hm)
        clear hm
        go_enter Try.func40, Try.ntmps40
        go_wp2_with fail
        clear hW
        refine (theoryOk_any a _ _ HSM.out.1 Ha.out).mono ?_
        rw [HA.out]
        rintro e w1 ⟨rfl, hb⟩
        replace HB := Lib.hid (sz_keep HB.out hb)
        replace a0 := cell_keep hb a0
        replace a1 := cell_keep hb a1
        replace a2 := cell_keep hb a2
        replace b0 := cell_keep hb b0
        replace b1 := cell_keep hb b1
        replace b2 := cell_keep hb b2
        replace m0 := cell_keep hb m0
        replace m1 := cell_keep hb m1
        replace Ha := Lib.hid (Ha.out.keep hb)
        replace Hb := Lib.hid (Hb.out.keep hb)
        replace Hm := Lib.hid (Hm.out.keep hb)
        clear hb
        go_wp2_with fail
        refine (theoryOk_any b _ _ HSM.out.2 Hb.out).mono ?_
        rw [HV.out]
        rintro e w2 ⟨rfl, hb⟩
        replace HB := Lib.hid (sz_keep HB.out hb)
        replace a0 := cell_keep hb a0
        replace a1 := cell_keep hb a1
        replace a2 := cell_keep hb a2
        replace b0 := cell_keep hb b0
        replace b1 := cell_keep hb b1
        replace b2 := cell_keep hb b2
        replace m0 := cell_keep hb m0
        replace m1 := cell_keep hb m1
        replace Ha := Lib.hid (Ha.out.keep hb)
        replace Hb := Lib.hid (Hb.out.keep hb)
        replace Hm := Lib.hid (Hm.out.keep hb)
        clear hb
        go_wp2_with fail
        refine (mapOk_any a.over b.over m _ _ _ _ (show RSig _ (.agg #[.int .i64 a.over.sorts, .slice Aaa a.over.ops.length caa]) a.over from ⟨_, rfl, Ha.out.of.2.1⟩) (show RSig _ (.agg #[.int .i64 b.over.sorts, .slice Aba b.over.ops.length cba]) b.over from ⟨_, rfl, Hb.out.of.2.1⟩) Hm.out).mono ?_
        rw [HM.out]
        rintro e w3 ⟨rfl, hb⟩
        replace HB := Lib.hid (sz_keep HB.out hb)
        replace a0 := cell_keep hb a0
        replace a1 := cell_keep hb a1
        replace a2 := cell_keep hb a2
        replace b0 := cell_keep hb b0
        replace b1 := cell_keep hb b1
        replace b2 := cell_keep hb b2
        replace m0 := cell_keep hb m0
        replace m1 := cell_keep hb m1
        replace Ha := Lib.hid (Ha.out.keep hb)
        replace Hb := Lib.hid (Hb.out.keep hb)
        replace Hm := Lib.hid (Hm.out.keep hb)
        clear hb
        clear a0 a1 a2 b0 b1 b2 m0 m1
        go_wp2
        refine bodyPost_ret (v := .tuple #[.slice none 0 0, .bool false]) (by simp [results, Try.results40, go_sem]) rfl ?_
        exact ⟨_, by rw [HE.out], by rw [HE.out]; exact OInts.nil _ _, HB.out⟩
      | true =>
        have HM := Lib.hid hm
        have h6 := thy_few HA.out
        have HF := Lib.hid (mapOk_facts hm)
        clear hm
        have hmk := run_make_row' (P := Try.prog) 25 3 (.int .i64 0) 8 Try.underlying25 Try.tinfo_int rfl .i64 .i64 a.eqs.length (by omega) (by omega)
        go_enter Try.func40, Try.ntmps40
        go_wp2_with fail
        clear hW
        refine (theoryOk_any a _ _ HSM.out.1 Ha.out).mono ?_
        rw [HA.out]
        rintro e w1 ⟨rfl, hb⟩
        replace HB := Lib.hid (sz_keep HB.out hb)
        replace a0 := cell_keep hb a0
        replace a1 := cell_keep hb a1
        replace a2 := cell_keep hb a2
        replace b0 := cell_keep hb b0
        replace b1 := cell_keep hb b1
        replace b2 := cell_keep hb b2
        replace m0 := cell_keep hb m0
        replace m1 := cell_keep hb m1
        replace Ha := Lib.hid (Ha.out.keep hb)
        replace Hb := Lib.hid (Hb.out.keep hb)
        replace Hm := Lib.hid (Hm.out.keep hb)
        clear hb
        go_wp2_with fail
        refine (theoryOk_any b _ _ HSM.out.2 Hb.out).mono ?_
        rw [HV.out]
        rintro e w2 ⟨rfl, hb⟩
        replace HB := Lib.hid (sz_keep HB.out hb)
        replace a0 := cell_keep hb a0
        replace a1 := cell_keep hb a1
        replace a2 := cell_keep hb a2
        replace b0 := cell_keep hb b0
        replace b1 := cell_keep hb b1
        replace b2 := cell_keep hb b2
        replace m0 := cell_keep hb m0
        replace m1 := cell_keep hb m1
        replace Ha := Lib.hid (Ha.out.keep hb)
        replace Hb := Lib.hid (Hb.out.keep hb)
        replace Hm := Lib.hid (Hm.out.keep hb)
        clear hb
        go_wp2_with fail
        refine (mapOk_any a.over b.over m _ _ _ _ (show RSig _ (.agg #[.int .i64 a.over.sorts, .slice Aaa a.over.ops.length caa]) a.over from ⟨_, rfl, Ha.out.of.2.1⟩) (show RSig _ (.agg #[.int .i64 b.over.sorts, .slice Aba b.over.ops.length cba]) b.over from ⟨_, rfl, Hb.out.of.2.1⟩) Hm.out).mono ?_
        rw [HM.out]
        rintro e w3 ⟨rfl, hb⟩
        replace HB := Lib.hid (sz_keep HB.out hb)
        replace a0 := cell_keep hb a0
        replace a1 := cell_keep hb a1
        replace a2 := cell_keep hb a2
        replace b0 := cell_keep hb b0
        replace b1 := cell_keep hb b1
        replace b2 := cell_keep hb b2
        replace m0 := cell_keep hb m0
        replace m1 := cell_keep hb m1
        replace Ha := Lib.hid (Ha.out.keep hb)
        replace Hb := Lib.hid (Hb.out.keep hb)
        replace Hm := Lib.hid (Hm.out.keep hb)
        clear hb
        have HC := Lib.hid (And.intro a2 (And.intro b2 (And.intro m0 m1)))
        have hsw := HB.out.size
        have hxa := World.block_lt_of_cell? w3 _ m0
        simp only at hxa
        have hxb : w.heap.size < w3.heap.size := by omega
        go_wp2
        clear a0 a1 a2 b0 b1 b2 m0 m1 hmk
        go_loopw [9, 10, 35] (fun p q i wr => ∃ k : Nat, k ≤ a.eqs.length ∧ i = .int .i64 k ∧ allIn (axL b.eqs m (a.eqs.take k)) = true ∧ Filling w3 wr (axL b.eqs m a.eqs) k) (fun _ _ i _ => a.eqs.length - (intOf i).toNat)
        case atStart => exact ⟨0, Nat.zero_le _, rfl, rfl, Filling.start w3 _ _ (by rw [axL_len]; simp [madeCells])⟩
        case round =>
          obtain ⟨k, hk, rfl, hal, hf⟩ := hrel
          have HAL := Lib.hid hal
          have HF2 := Lib.hid hf
          have hd := filling_below hf
          have HD := Lib.hid hd
          clear hal hf
          by_cases hlt : k < a.eqs.length
          · have hlt' : (k : Int) < (a.eqs.length : Int) := by omega
            obtain ⟨b4, o4, c4, y0, y1, y2, e4, c00, c01, c02, r0, r1, r2⟩ := (Ha.out.of.2.2.keep hd).at_ hlt
            cases e4
            have HIN := Lib.hid (eqIn_of HF.out (thy_eq HA.out hlt))
            have HAT := Lib.hid (axL_at (b := b.eqs) (m := m) hlt)
            have HTK := Lib.hid (axL_take (b := b.eqs) (m := m) hlt)
            have HNO := Lib.hid (fun h => mapAx_no4 (a := a) (b := b) (m := m) hlt h)
            generalize a.eqs[k] = e at r0 r1 r2 HIN HAT HTK HNO
            obtain ⟨A0, g0, rfl, -⟩ := r0.form
            obtain ⟨A1, g1, rfl, -⟩ := r1.form
            obtain ⟨A2, g2, rfl, -⟩ := r2.form
            have hlw := HF2.out.lt
            have hb := below_alloc wr (.cells #[.slice A0 e.vars.length g0, .slice A1 e.left.length g1, .slice A2 e.right.length g2] 54)
            have x0 := bx_at wr #[.slice A0 e.vars.length g0, .slice A1 e.left.length g1, .slice A2 e.right.length g2] 54 (k := 0) rfl
            have x1 := bx_at wr #[.slice A0 e.vars.length g0, .slice A1 e.left.length g1, .slice A2 e.right.length g2] 54 (k := 1) rfl
            have x2 := bx_at wr #[.slice A0 e.vars.length g0, .slice A1 e.left.length g1, .slice A2 e.right.length g2] 54 (k := 2) rfl
            generalize hW2 : wr.alloc (.cells #[.slice A0 e.vars.length g0, .slice A1 e.left.length g1, .slice A2 e.right.length g2] 54) = W2 at hb x0 x1 x2
            have HEQ := Lib.hid ((show REq wr (.agg #[.slice A0 e.vars.length g0, .slice A1 e.left.length g1, .slice A2 e.right.length g2]) e from ⟨_, _, _, rfl, r0, r1, r2⟩).keep hb)
            have hbw := sz_keep hd hb
            have HF3 := Lib.hid (HF2.out.kept hb)
            have HMM := Lib.hid (Hm.out.keep hbw)
            have HBE := Lib.hid (Hb.out.of.2.2.keep hbw)
            have f2 := cell_keep hbw HC.out.2.1
            have f3 := cell_keep hbw HC.out.2.2.1
            have f4 := cell_keep hbw HC.out.2.2.2
            have HBW := Lib.hid hbw
            obtain ⟨x, hx⟩ : ∃ x, findE b.eqs (ledE m e) = x := ⟨_, rfl⟩
            have HXX := Lib.hid hx
            rw [hx] at HAT HTK HNO
            clear r0 r1 r2 hb hbw hd hx
            go_wp2_with fail
            clear hW2 c00 c01 c02
            refine wp_region_held_drew (S := (fun w' => w'.cell? ⟨w.heap.size + 1, 2, none⟩ = some (.slice Abb b.eqs.length cbb) ∧ w'.cell? ⟨w.heap.size + 1 + 1, 0, none⟩ = some (.slice Ama m.sorts.length cma) ∧ w'.cell? ⟨w.heap.size + 1 + 1, 1, none⟩ = some (.slice Amb m.ops.length cmb) ∧ w'.cell? ⟨wr.heap.size, 0, none⟩ = some (.slice A0 e.vars.length g0) ∧ w'.cell? ⟨wr.heap.size, 1, none⟩ = some (.slice A1 e.left.length g1) ∧ w'.cell? ⟨wr.heap.size, 2, none⟩ = some (.slice A2 e.right.length g2))) (by kernel_rfl) ?_ (fun hHeld => ?_)
            · exact ⟨f2, f3, f4, x0, x1, x2⟩
            refine wpAnyH_take (i := 0) (oi := _) (v := ?_) rfl (by kernel_rfl) (by kernel_rfl) (by kernel_rfl) (fun _ _ _ h => h) (Or.inl ⟨by rfl, ?_⟩) (by assumption) ?_
            rotate_left
            · first | (intro w' hSw; (try dsimp only at hSw); go_simp; done) | (intro w' hSw; (try dsimp only at hSw); go_simp; with_reducible rfl)
            try simp only [Act.put, List.getElem_toArray, List.getElem_cons_zero, List.getElem_cons_succ, List.setIfInBounds_toArray, List.set_cons_zero, List.set_cons_succ]
            refine wpAnyH_take (i := 1) (oi := _) (v := ?_) rfl (by kernel_rfl) (by kernel_rfl) (by kernel_rfl) (fun _ _ _ h => h) (Or.inl ⟨by rfl, ?_⟩) (by assumption) ?_
            rotate_left
            · first | (intro w' hSw; (try dsimp only at hSw); go_simp; done) | (intro w' hSw; (try dsimp only at hSw); go_simp; with_reducible rfl)
            try simp only [Act.put, List.getElem_toArray, List.getElem_cons_zero, List.getElem_cons_succ, List.setIfInBounds_toArray, List.set_cons_zero, List.set_cons_succ]
            refine wpAnyH_take (i := 2) (oi := _) (v := ?_) rfl (by kernel_rfl) (by kernel_rfl) (by kernel_rfl) (fun _ _ _ h => h) (Or.inl ⟨by rfl, ?_⟩) (by assumption) ?_
            rotate_left
            · first | (intro w' hSw; (try dsimp only at hSw); go_simp; done) | (intro w' hSw; (try dsimp only at hSw); go_simp; with_reducible rfl)
            try simp only [Act.put, List.getElem_toArray, List.getElem_cons_zero, List.getElem_cons_succ, List.setIfInBounds_toArray, List.set_cons_zero, List.set_cons_succ]
            refine wpAnyH_take (i := 3) (oi := _) (v := ?_) rfl (by kernel_rfl) (by kernel_rfl) (by kernel_rfl) (fun _ _ _ h => h) (Or.inl ⟨by rfl, ?_⟩) (by assumption) ?_
            rotate_left
            · first | (intro w' hSw; (try dsimp only at hSw); go_simp; done) | (intro w' hSw; (try dsimp only at hSw); go_simp; with_reducible rfl)
            try simp only [Act.put, List.getElem_toArray, List.getElem_cons_zero, List.getElem_cons_succ, List.setIfInBounds_toArray, List.set_cons_zero, List.set_cons_succ]
            refine wpAnyH_take (i := 4) (oi := _) (v := ?_) rfl (by kernel_rfl) (by kernel_rfl) (by kernel_rfl) (fun _ _ _ h => h) (Or.inl ⟨by rfl, ?_⟩) (by assumption) ?_
            rotate_left
            · first | (intro w' hSw; (try dsimp only at hSw); go_simp; done) | (intro w' hSw; (try dsimp only at hSw); go_simp; with_reducible rfl)
            try simp only [Act.put, List.getElem_toArray, List.getElem_cons_zero, List.getElem_cons_succ, List.setIfInBounds_toArray, List.set_cons_zero, List.set_cons_succ]
            refine wpAnyH_take (i := 5) (oi := _) (v := ?_) rfl (by kernel_rfl) (by kernel_rfl) (by kernel_rfl) (fun _ _ _ h => h) (Or.inl ⟨by rfl, ?_⟩) (by assumption) ?_
            rotate_left
            · first | (intro w' hSw; (try dsimp only at hSw); go_simp; done) | (intro w' hSw; (try dsimp only at hSw); go_simp; with_reducible rfl)
            try simp only [Act.put, List.getElem_toArray, List.getElem_cons_zero, List.getElem_cons_succ, List.setIfInBounds_toArray, List.set_cons_zero, List.set_cons_succ]
            refine wpAnyH_ready (rs := [6]) (by kernel_rfl) (by simp) ?_
            refine AllReadyH.cons (o := _) rfl (fun K hK => ?_) AllReadyH.nil
            go_simp
            refine (ledEq_any m e W2.drew _ _ HIN.out (HMM.out.keep (map_drew (Below.refl _ _))) (HEQ.out.keep (map_drew (Below.refl _ _)))).mono ?_
            rintro z w5 ⟨u5, rfl, ho5, hb5⟩
            have hx5 := map_undrew hb5
            have HL := Lib.hid ho5.reads
            obtain ⟨B0, d0, B1, d1, B2, d2, rfl⟩ := ho5.reads.form
            have HX5 := Lib.hid hx5
            have p0 := cell_keep hx5 f2
            have p1 := cell_keep hx5 f3
            have p2 := cell_keep hx5 f4
            have p3 := cell_keep hx5 x0
            have p4 := cell_keep hx5 x1
            have p5 := cell_keep hx5 x2
            clear ho5 hb5 hx5
            go_wp2_with fail
            refine hK.out _ _ ?_ (fun hHeld => ?_)
            · exact ⟨p0, p1, p2, p3, p4, p5⟩
            clear hK K
            try simp only [Act.put, List.getElem_toArray, List.getElem_cons_zero, List.getElem_cons_succ, List.setIfInBounds_toArray, List.set_cons_zero, List.set_cons_succ]
            refine wpAnyH_ready (rs := [7]) (by kernel_rfl) (by simp) ?_
            refine AllReadyH.cons (o := _) rfl (fun K hK => ?_) AllReadyH.nil
            go_simp
            refine (firstEq_any b.eqs (ledE m e) w5 _ _ (HBE.out.keep HX5.out) HL.out).mono ?_
            rw [HXX.out]
            rintro z w6 ⟨rfl, hb6⟩
            have HX6 := Lib.hid (sz_keep HX5.out hb6)
            have q0 := cell_keep hb6 p0
            have q1 := cell_keep hb6 p1
            have q2 := cell_keep hb6 p2
            have q3 := cell_keep hb6 p3
            have q4 := cell_keep hb6 p4
            have q5 := cell_keep hb6 p5
            have HF6 := Lib.hid (HF3.out.kept HX6.out)
            obtain ⟨u0, j0, j1⟩ := HF6.out.cell (by rw [axL_len]; exact hlt)
            clear hb6
            go_wp2_with fail
            refine hK.out _ _ ?_ (fun hHeld => ?_)
            · exact ⟨q0, q1, q2, q3, q4, q5⟩
            clear hK K
            try simp only [Act.put, List.getElem_toArray, List.getElem_cons_zero, List.getElem_cons_succ, List.setIfInBounds_toArray, List.set_cons_zero, List.set_cons_succ]
            refine wpAnyH_take (i := 8) (oi := _) (v := ?_) rfl (by kernel_rfl) (by kernel_rfl) (by kernel_rfl) (fun _ _ _ h => h) (Or.inl ⟨by rfl, ?_⟩) (by assumption) ?_
            rotate_left
            · first | (intro w' hSw; (try dsimp only at hSw); go_simp; done) | (intro w' hSw; (try dsimp only at hSw); go_simp; with_reducible rfl)
            try simp only [Act.put, List.getElem_toArray, List.getElem_cons_zero, List.getElem_cons_succ, List.setIfInBounds_toArray, List.set_cons_zero, List.set_cons_succ]
            refine wpAnyH_ready (rs := [9]) (by kernel_rfl) (by simp) ?_
            refine AllReadyH.cons (o := _) rfl (fun K hK => ?_) AllReadyH.nil
            go_simp
            skip
            go_wp2_with fail
            refine hK.out _ _ ?_ (fun hHeld => ?_)
            · exact ⟨(set_other (by omega) _ _ _).trans q0, (set_other (by omega) _ _ _).trans q1, (set_other (by omega) _ _ _).trans q2, (set_other (by omega) _ _ _).trans q3, (set_other (by omega) _ _ _).trans q4, (set_other (by omega) _ _ _).trans q5⟩
            clear hK K
            try simp only [Act.put, List.getElem_toArray, List.getElem_cons_zero, List.getElem_cons_succ, List.setIfInBounds_toArray, List.set_cons_zero, List.set_cons_succ]
            refine wpAnyH_done (by kernel_rfl) ?_ _
            have HF7 := Lib.hid (HF6.out.step (by rw [axL_len]; exact hlt) (List.getElem?_eq_some_iff.1 HAT.out).2)
            generalize hW7 : w6.setCell ⟨w3.heap.size, k, none⟩ (.int .i64 x) = w7 at HF7 ⊢
            have l0 := HF7.out.last HAT.out
            clear hW7 f2 f3 f4 x0 x1 x2 p0 p1 p2 p3 p4 p5 q0 q1 q2 q3 q4 q5 j0 j1
            by_cases hneg : x < 0
            · have HE := Lib.hid (HNO.out hneg)
              go_wp2
              refine bodyPost_ret (v := .tuple #[.slice none 0 0, .bool false]) (by simp [results, Try.results40, go_sem]) rfl ?_
              exact ⟨_, by rw [HE.out], by rw [HE.out]; exact OInts.nil _ _, sz_keep HB.out (filling_below HF7.out)⟩
            · have hpos : 0 ≤ x := by omega
              go_wp2
              go_roundw
              case rel => exact ⟨k + 1, by omega, by go_num, by rw [HTK.out, allIn_snoc, HAL.out]; simpa using hpos, HF7.out⟩
              case measure => simp [intOf]; omega
          · have hlt' : ¬ (k : Int) < (a.eqs.length : Int) := by omega
            have hkn : k = a.eqs.length := by omega
            have HE := Lib.hid (mapAx_yes HA.out HV.out HM.out (by have h := HAL.out; rwa [take_all (by omega)] at h))
            have HDN := Lib.hid (HF2.out.done (by rw [axL_len]; exact hkn) (by omega))
            clear hd
            subst hkn
            go_wp2
            refine bodyPost_ret (v := .tuple #[.slice (some ⟨w3.heap.size, 0, none⟩) a.eqs.length a.eqs.length, .bool true]) (by simp [results, Try.results40, go_sem]) rfl ?_
            exact ⟨_, by rw [HE.out], by rw [HE.out]; exact HDN.out.1.base HB.out.size, sz_keep HB.out HDN.out.2⟩
end

section
open Go.RowKit
set_option linter.unusedVariables false
set_option linter.unusedSimpArgs false
theorem set_blk3 {w : World} {b k : Nat} (h : k ≠ b) (i : Nat) (u : Value) : (w.setCell ⟨b, i, none⟩ u).heap[k]? = w.heap[k]? := Below.heap_setCell w ⟨b, i, none⟩ u k h
set_option maxHeartbeats 3200000 in
set_option maxRecDepth 100000 in
theorem specMapAxioms_any (a b : MThy) (m : MMap) (w : World) (va vb vm : Value) (h1 : RThy w va a) (h2 : RThy w vb b) (h3 : RMap w vm m) :
    Calls Try.prog 38 #[va, vb, vm] w fun x w' => ∃ u, x = .returned (.tuple #[u, .bool (mapAxM a b m).2]) ∧ OInts w' w.heap.size u (mapAxM a b m).1 ∧ Below w.heap.size w w' := by
  obtain ⟨Aaa, caa, Aab, cab, rfl⟩ := h1.form
  obtain ⟨Aba, cba, Abb, cbb, rfl⟩ := h2.form
  obtain ⟨Ama, cma, Amb, cmb, rfl⟩ := h3.form
  have hb : Below w.heap.size w (((w.alloc (.cells #[.int .i64 a.over.sorts, .slice Aaa a.over.ops.length caa, .slice Aab a.eqs.length cab] 69)).alloc (.cells #[.int .i64 b.over.sorts, .slice Aba b.over.ops.length cba, .slice Abb b.eqs.length cbb] 69)).alloc (.cells #[.slice Ama m.sorts.length cma, .slice Amb m.ops.length cmb] 33)) := ((below_alloc _ _).alloc (by simp) _).alloc (by simp; omega) _
  have HB := Lib.hid hb
  have hsz : (((w.alloc (.cells #[.int .i64 a.over.sorts, .slice Aaa a.over.ops.length caa, .slice Aab a.eqs.length cab] 69)).alloc (.cells #[.int .i64 b.over.sorts, .slice Aba b.over.ops.length cba, .slice Abb b.eqs.length cbb] 69)).alloc (.cells #[.slice Ama m.sorts.length cma, .slice Amb m.ops.length cmb] 33)).heap.size = w.heap.size + 3 := by simp
  have Ha := Lib.hid (h1.keep hb)
  have a0 := cell_keep (below_alloc ((w.alloc (.cells #[.int .i64 a.over.sorts, .slice Aaa a.over.ops.length caa, .slice Aab a.eqs.length cab] 69)).alloc (.cells #[.int .i64 b.over.sorts, .slice Aba b.over.ops.length cba, .slice Abb b.eqs.length cbb] 69)) (.cells #[.slice Ama m.sorts.length cma, .slice Amb m.ops.length cmb] 33)) (cell_keep (below_alloc (w.alloc (.cells #[.int .i64 a.over.sorts, .slice Aaa a.over.ops.length caa, .slice Aab a.eqs.length cab] 69)) (.cells #[.int .i64 b.over.sorts, .slice Aba b.over.ops.length cba, .slice Abb b.eqs.length cbb] 69)) (bx_at (w) #[.int .i64 a.over.sorts, .slice Aaa a.over.ops.length caa, .slice Aab a.eqs.length cab] 69 (k := 0) rfl))
  have a1 := cell_keep (below_alloc ((w.alloc (.cells #[.int .i64 a.over.sorts, .slice Aaa a.over.ops.length caa, .slice Aab a.eqs.length cab] 69)).alloc (.cells #[.int .i64 b.over.sorts, .slice Aba b.over.ops.length cba, .slice Abb b.eqs.length cbb] 69)) (.cells #[.slice Ama m.sorts.length cma, .slice Amb m.ops.length cmb] 33)) (cell_keep (below_alloc (w.alloc (.cells #[.int .i64 a.over.sorts, .slice Aaa a.over.ops.length caa, .slice Aab a.eqs.length cab] 69)) (.cells #[.int .i64 b.over.sorts, .slice Aba b.over.ops.length cba, .slice Abb b.eqs.length cbb] 69)) (bx_at (w) #[.int .i64 a.over.sorts, .slice Aaa a.over.ops.length caa, .slice Aab a.eqs.length cab] 69 (k := 1) rfl))
  have a2 := cell_keep (below_alloc ((w.alloc (.cells #[.int .i64 a.over.sorts, .slice Aaa a.over.ops.length caa, .slice Aab a.eqs.length cab] 69)).alloc (.cells #[.int .i64 b.over.sorts, .slice Aba b.over.ops.length cba, .slice Abb b.eqs.length cbb] 69)) (.cells #[.slice Ama m.sorts.length cma, .slice Amb m.ops.length cmb] 33)) (cell_keep (below_alloc (w.alloc (.cells #[.int .i64 a.over.sorts, .slice Aaa a.over.ops.length caa, .slice Aab a.eqs.length cab] 69)) (.cells #[.int .i64 b.over.sorts, .slice Aba b.over.ops.length cba, .slice Abb b.eqs.length cbb] 69)) (bx_at (w) #[.int .i64 a.over.sorts, .slice Aaa a.over.ops.length caa, .slice Aab a.eqs.length cab] 69 (k := 2) rfl))
  have Hb := Lib.hid (h2.keep hb)
  have b0 := cell_keep (below_alloc ((w.alloc (.cells #[.int .i64 a.over.sorts, .slice Aaa a.over.ops.length caa, .slice Aab a.eqs.length cab] 69)).alloc (.cells #[.int .i64 b.over.sorts, .slice Aba b.over.ops.length cba, .slice Abb b.eqs.length cbb] 69)) (.cells #[.slice Ama m.sorts.length cma, .slice Amb m.ops.length cmb] 33)) (bx_at (w.alloc (.cells #[.int .i64 a.over.sorts, .slice Aaa a.over.ops.length caa, .slice Aab a.eqs.length cab] 69)) #[.int .i64 b.over.sorts, .slice Aba b.over.ops.length cba, .slice Abb b.eqs.length cbb] 69 (k := 0) rfl)
  have b1 := cell_keep (below_alloc ((w.alloc (.cells #[.int .i64 a.over.sorts, .slice Aaa a.over.ops.length caa, .slice Aab a.eqs.length cab] 69)).alloc (.cells #[.int .i64 b.over.sorts, .slice Aba b.over.ops.length cba, .slice Abb b.eqs.length cbb] 69)) (.cells #[.slice Ama m.sorts.length cma, .slice Amb m.ops.length cmb] 33)) (bx_at (w.alloc (.cells #[.int .i64 a.over.sorts, .slice Aaa a.over.ops.length caa, .slice Aab a.eqs.length cab] 69)) #[.int .i64 b.over.sorts, .slice Aba b.over.ops.length cba, .slice Abb b.eqs.length cbb] 69 (k := 1) rfl)
  have b2 := cell_keep (below_alloc ((w.alloc (.cells #[.int .i64 a.over.sorts, .slice Aaa a.over.ops.length caa, .slice Aab a.eqs.length cab] 69)).alloc (.cells #[.int .i64 b.over.sorts, .slice Aba b.over.ops.length cba, .slice Abb b.eqs.length cbb] 69)) (.cells #[.slice Ama m.sorts.length cma, .slice Amb m.ops.length cmb] 33)) (bx_at (w.alloc (.cells #[.int .i64 a.over.sorts, .slice Aaa a.over.ops.length caa, .slice Aab a.eqs.length cab] 69)) #[.int .i64 b.over.sorts, .slice Aba b.over.ops.length cba, .slice Abb b.eqs.length cbb] 69 (k := 2) rfl)
  have Hm := Lib.hid (h3.keep hb)
  have m0 := bx_at ((w.alloc (.cells #[.int .i64 a.over.sorts, .slice Aaa a.over.ops.length caa, .slice Aab a.eqs.length cab] 69)).alloc (.cells #[.int .i64 b.over.sorts, .slice Aba b.over.ops.length cba, .slice Abb b.eqs.length cbb] 69)) #[.slice Ama m.sorts.length cma, .slice Amb m.ops.length cmb] 33 (k := 0) rfl
  have m1 := bx_at ((w.alloc (.cells #[.int .i64 a.over.sorts, .slice Aaa a.over.ops.length caa, .slice Aab a.eqs.length cab] 69)).alloc (.cells #[.int .i64 b.over.sorts, .slice Aba b.over.ops.length cba, .slice Abb b.eqs.length cbb] 69)) #[.slice Ama m.sorts.length cma, .slice Amb m.ops.length cmb] 33 (k := 1) rfl
  simp only [World.size_alloc] at b0 b1 b2 m0 m1
  generalize hW : ((w.alloc (.cells #[.int .i64 a.over.sorts, .slice Aaa a.over.ops.length caa, .slice Aab a.eqs.length cab] 69)).alloc (.cells #[.int .i64 b.over.sorts, .slice Aba b.over.ops.length cba, .slice Abb b.eqs.length cbb] 69)).alloc (.cells #[.slice Ama m.sorts.length cma, .slice Amb m.ops.length cmb] 33) = W at HB hsz Ha a0 a1 a2 Hb b0 b1 b2 Hm m0 m1
  clear hb h1 h2 h3
  have hla := Ha.out.of.2.2.len
  have hlb := Hb.out.of.2.2.len
  clear hsz
  obtain ⟨i0, hi0, hz0, hz1, hz2⟩ := info_parts Try.tinfo_int
  have HO := Lib.hid (own_empty W)
  have hb := below_alloc W (.cells #[] 3)
  have HCW := Lib.hid (And.intro a0 (And.intro a1 (And.intro a2 (And.intro b0 (And.intro b1 (And.intro b2 (And.intro m0 m1)))))))
  have HaW := Lib.hid Ha.out
  have HbW := Lib.hid Hb.out
  have HmW := Lib.hid Hm.out
  have HBW := Lib.hid HB.out
  generalize hW3 : W.alloc (.cells #[] 3) = W3 at HO hb
  have HBX : Hid (Below W.heap.size W W) := Below.refl _ _
  replace HB := Lib.hid (sz_keep HB.out hb)
  replace HBX := Lib.hid (sz_keep HBX.out hb)
  replace a0 := cell_keep hb a0
  replace a1 := cell_keep hb a1
  replace a2 := cell_keep hb a2
  replace b0 := cell_keep hb b0
  replace b1 := cell_keep hb b1
  replace b2 := cell_keep hb b2
  replace m0 := cell_keep hb m0
  replace m1 := cell_keep hb m1
  replace Ha := Lib.hid (Ha.out.keep hb)
  replace Hb := Lib.hid (Hb.out.keep hb)
  replace Hm := Lib.hid (Hm.out.keep hb)
  clear hb
  cases hva : thyB a with
  | false =>
    have HA := Lib.hid hva
    have HE := Lib.hid (mapAx_no1 (b := b) (m := m) hva)
    clear hva
    go_enter Try.func38, Try.ntmps38
    go_wp2_with fail
    clear hW hW3
    refine (specTheoryOk_any a _ _ Ha.out).mono ?_
    rw [HA.out]
    rintro e w1 ⟨rfl, hb⟩
    clear a0 a1 a2 b0 b1 b2 m0 m1
    replace HB := Lib.hid (sz_keep HB.out hb)
    replace HBX := Lib.hid (sz_keep HBX.out hb)
    replace HO := Lib.hid (HO.out.keep hb)
    clear hb
    go_wp2
    refine bodyPost_ret (v := .tuple #[.slice (some ⟨W.heap.size, 0, none⟩) 0 0, .bool false]) (by simp [results, Try.results38, go_sem]) rfl ?_
    exact ⟨_, by rw [HE.out], by rw [HE.out]; exact HO.out.base HBW.out.size, HB.out⟩
  | true =>
    have HA := Lib.hid hva
    clear hva
    cases hvb : thyB b with
    | false =>
      have HV := Lib.hid hvb
      have HE := Lib.hid (mapAx_no2 (a := a) (m := m) hvb)
      clear hvb
      go_enter Try.func38, Try.ntmps38
      go_wp2_with fail
      clear hW hW3
      refine (specTheoryOk_any a _ _ Ha.out).mono ?_
      rw [HA.out]
      rintro e w1 ⟨rfl, hb⟩
      replace HB := Lib.hid (sz_keep HB.out hb)
      replace HBX := Lib.hid (sz_keep HBX.out hb)
      replace a0 := cell_keep hb a0
      replace a1 := cell_keep hb a1
      replace a2 := cell_keep hb a2
      replace b0 := cell_keep hb b0
      replace b1 := cell_keep hb b1
      replace b2 := cell_keep hb b2
      replace m0 := cell_keep hb m0
      replace m1 := cell_keep hb m1
      replace Ha := Lib.hid (Ha.out.keep hb)
      replace Hb := Lib.hid (Hb.out.keep hb)
      replace Hm := Lib.hid (Hm.out.keep hb)
      replace HO := Lib.hid (HO.out.keep hb)
      clear hb
      go_wp2_with fail
      refine (specTheoryOk_any b _ _ Hb.out).mono ?_
      rw [HV.out]
      rintro e w2 ⟨rfl, hb⟩
      clear a0 a1 a2 b0 b1 b2 m0 m1
      replace HB := Lib.hid (sz_keep HB.out hb)
      replace HBX := Lib.hid (sz_keep HBX.out hb)
      replace HO := Lib.hid (HO.out.keep hb)
      clear hb
      go_wp2
      refine bodyPost_ret (v := .tuple #[.slice (some ⟨W.heap.size, 0, none⟩) 0 0, .bool false]) (by simp [results, Try.results38, go_sem]) rfl ?_
      exact ⟨_, by rw [HE.out], by rw [HE.out]; exact HO.out.base HBW.out.size, HB.out⟩
    | true =>
      have HV := Lib.hid hvb
      clear hvb
      cases hm : mapOkB a.over b.over m with
      | false =>
        have HM := Lib.hid hm
        have HE := Lib.hid (mapAx_no3 hm)
        clear hm
        go_enter Try.func38, Try.ntmps38
        go_wp2_with fail
        clear hW hW3
        refine (specTheoryOk_any a _ _ Ha.out).mono ?_
        rw [HA.out]
        rintro e w1 ⟨rfl, hb⟩
        replace HB := Lib.hid (sz_keep HB.out hb)
        replace HBX := Lib.hid (sz_keep HBX.out hb)
        replace a0 := cell_keep hb a0
        replace a1 := cell_keep hb a1
        replace a2 := cell_keep hb a2
        replace b0 := cell_keep hb b0
        replace b1 := cell_keep hb b1
        replace b2 := cell_keep hb b2
        replace m0 := cell_keep hb m0
        replace m1 := cell_keep hb m1
        replace Ha := Lib.hid (Ha.out.keep hb)
        replace Hb := Lib.hid (Hb.out.keep hb)
        replace Hm := Lib.hid (Hm.out.keep hb)
        replace HO := Lib.hid (HO.out.keep hb)
        clear hb
        go_wp2_with fail
        refine (specTheoryOk_any b _ _ Hb.out).mono ?_
        rw [HV.out]
        rintro e w2 ⟨rfl, hb⟩
        replace HB := Lib.hid (sz_keep HB.out hb)
        replace HBX := Lib.hid (sz_keep HBX.out hb)
        replace a0 := cell_keep hb a0
        replace a1 := cell_keep hb a1
        replace a2 := cell_keep hb a2
        replace b0 := cell_keep hb b0
        replace b1 := cell_keep hb b1
        replace b2 := cell_keep hb b2
        replace m0 := cell_keep hb m0
        replace m1 := cell_keep hb m1
        replace Ha := Lib.hid (Ha.out.keep hb)
        replace Hb := Lib.hid (Hb.out.keep hb)
        replace Hm := Lib.hid (Hm.out.keep hb)
        replace HO := Lib.hid (HO.out.keep hb)
        clear hb
        go_wp2_with fail
        refine (specMapOk_any a.over b.over m _ _ _ _ (show RSig _ (.agg #[.int .i64 a.over.sorts, .slice Aaa a.over.ops.length caa]) a.over from ⟨_, rfl, Ha.out.of.2.1⟩) (show RSig _ (.agg #[.int .i64 b.over.sorts, .slice Aba b.over.ops.length cba]) b.over from ⟨_, rfl, Hb.out.of.2.1⟩) Hm.out).mono ?_
        rw [HM.out]
        rintro e w3 ⟨rfl, hb⟩
        replace HB := Lib.hid (sz_keep HB.out hb)
        replace HBX := Lib.hid (sz_keep HBX.out hb)
        replace a0 := cell_keep hb a0
        replace a1 := cell_keep hb a1
        replace a2 := cell_keep hb a2
        replace b0 := cell_keep hb b0
        replace b1 := cell_keep hb b1
        replace b2 := cell_keep hb b2
        replace m0 := cell_keep hb m0
        replace m1 := cell_keep hb m1
        replace Ha := Lib.hid (Ha.out.keep hb)
        replace Hb := Lib.hid (Hb.out.keep hb)
        replace Hm := Lib.hid (Hm.out.keep hb)
        replace HO := Lib.hid (HO.out.keep hb)
        clear hb
        clear a0 a1 a2 b0 b1 b2 m0 m1
        go_wp2
        refine bodyPost_ret (v := .tuple #[.slice (some ⟨W.heap.size, 0, none⟩) 0 0, .bool false]) (by simp [results, Try.results38, go_sem]) rfl ?_
        exact ⟨_, by rw [HE.out], by rw [HE.out]; exact HO.out.base HBW.out.size, HB.out⟩
      | true =>
        have HM := Lib.hid hm
        have h6 := thy_few HA.out
        have HF := Lib.hid (mapOk_facts hm)
        clear hm
        go_enter Try.func38, Try.ntmps38
        go_wp2_with fail
        clear hW hW3
        refine (specTheoryOk_any a _ _ Ha.out).mono ?_
        rw [HA.out]
        rintro e w1 ⟨rfl, hb⟩
        replace HB := Lib.hid (sz_keep HB.out hb)
        replace HBX := Lib.hid (sz_keep HBX.out hb)
        replace a0 := cell_keep hb a0
        replace a1 := cell_keep hb a1
        replace a2 := cell_keep hb a2
        replace b0 := cell_keep hb b0
        replace b1 := cell_keep hb b1
        replace b2 := cell_keep hb b2
        replace m0 := cell_keep hb m0
        replace m1 := cell_keep hb m1
        replace Ha := Lib.hid (Ha.out.keep hb)
        replace Hb := Lib.hid (Hb.out.keep hb)
        replace Hm := Lib.hid (Hm.out.keep hb)
        replace HO := Lib.hid (HO.out.keep hb)
        clear hb
        go_wp2_with fail
        refine (specTheoryOk_any b _ _ Hb.out).mono ?_
        rw [HV.out]
        rintro e w2 ⟨rfl, hb⟩
        replace HB := Lib.hid (sz_keep HB.out hb)
        replace HBX := Lib.hid (sz_keep HBX.out hb)
        replace a0 := cell_keep hb a0
        replace a1 := cell_keep hb a1
        replace a2 := cell_keep hb a2
        replace b0 := cell_keep hb b0
        replace b1 := cell_keep hb b1
        replace b2 := cell_keep hb b2
        replace m0 := cell_keep hb m0
        replace m1 := cell_keep hb m1
        replace Ha := Lib.hid (Ha.out.keep hb)
        replace Hb := Lib.hid (Hb.out.keep hb)
        replace Hm := Lib.hid (Hm.out.keep hb)
        replace HO := Lib.hid (HO.out.keep hb)
        clear hb
        go_wp2_with fail
        refine (specMapOk_any a.over b.over m _ _ _ _ (show RSig _ (.agg #[.int .i64 a.over.sorts, .slice Aaa a.over.ops.length caa]) a.over from ⟨_, rfl, Ha.out.of.2.1⟩) (show RSig _ (.agg #[.int .i64 b.over.sorts, .slice Aba b.over.ops.length cba]) b.over from ⟨_, rfl, Hb.out.of.2.1⟩) Hm.out).mono ?_
        rw [HM.out]
        rintro e w3 ⟨rfl, hb⟩
        replace HB := Lib.hid (sz_keep HB.out hb)
        replace HBX := Lib.hid (sz_keep HBX.out hb)
        replace a0 := cell_keep hb a0
        replace a1 := cell_keep hb a1
        replace a2 := cell_keep hb a2
        replace b0 := cell_keep hb b0
        replace b1 := cell_keep hb b1
        replace b2 := cell_keep hb b2
        replace m0 := cell_keep hb m0
        replace m1 := cell_keep hb m1
        replace Ha := Lib.hid (Ha.out.keep hb)
        replace Hb := Lib.hid (Hb.out.keep hb)
        replace Hm := Lib.hid (Hm.out.keep hb)
        replace HO := Lib.hid (HO.out.keep hb)
        clear hb
        have HQ := Lib.hid a2
        go_wp2
        clear a0 a1 a2 b0 b1 b2 m0 m1
        go_loopw [8, 9, 10, 11, 12] (fun p i s10 s11 s12 wr => ∃ k : Nat, k ≤ a.eqs.length ∧ i = .int .i64 k ∧ OInts wr W.heap.size p (axL b.eqs m (a.eqs.take k)) ∧ allIn (axL b.eqs m (a.eqs.take k)) = true ∧ Below W.heap.size W wr) (fun _ i _ _ _ _ => a.eqs.length - (intOf i).toNat)
        case atStart => exact ⟨0, Nat.zero_le _, rfl, HO.out, rfl, HBX.out⟩
        case round =>
          obtain ⟨k, hk, rfl, ho, hal, hd⟩ := hrel
          obtain ⟨A9, c9, rfl, -⟩ := own_reads ho
          have HOR := Lib.hid ho
          have HAL := Lib.hid hal
          have HD := Lib.hid hd
          have f0 := cell_keep hd HCW.out.1
          have f1 := cell_keep hd HCW.out.2.1
          have f2 := cell_keep hd HCW.out.2.2.1
          have f3 := cell_keep hd HCW.out.2.2.2.1
          have f4 := cell_keep hd HCW.out.2.2.2.2.1
          have f5 := cell_keep hd HCW.out.2.2.2.2.2.1
          have f6 := cell_keep hd HCW.out.2.2.2.2.2.2.1
          have f7 := cell_keep hd HCW.out.2.2.2.2.2.2.2
          clear ho hal
          by_cases hlt : k < a.eqs.length
          · have hlt' : (k : Int) < (a.eqs.length : Int) := by omega
            obtain ⟨b4, o4, c4, y0, y1, y2, e4, c00, c01, c02, r0, r1, r2⟩ := (HaW.out.of.2.2.keep hd).at_ hlt
            cases e4
            have HME := Lib.hid (show mapEqM a.over b.over m a.eqs[k] = (ledE m a.eqs[k], true) by unfold mapEqM; rw [HM.out, thy_eq HA.out hlt]; rfl)
            have HTK := Lib.hid (axL_take (b := b.eqs) (m := m) hlt)
            have HNO := Lib.hid (fun h => mapAx_no4 (a := a) (b := b) (m := m) hlt h)
            generalize a.eqs[k] = e at r0 r1 r2 HME HTK HNO
            have HEQ := Lib.hid (show REq wr (.agg #[y0, y1, y2]) e from ⟨_, _, _, rfl, r0, r1, r2⟩)
            obtain ⟨A0, g0, rfl, -⟩ := r0.form
            obtain ⟨A1, g1, rfl, -⟩ := r1.form
            obtain ⟨A2, g2, rfl, -⟩ := r2.form
            have HSA := Lib.hid ((show RSig W (.agg #[.int .i64 a.over.sorts, .slice Aaa a.over.ops.length caa]) a.over from ⟨_, rfl, HaW.out.of.2.1⟩).keep hd)
            have HSB := Lib.hid ((show RSig W (.agg #[.int .i64 b.over.sorts, .slice Aba b.over.ops.length cba]) b.over from ⟨_, rfl, HbW.out.of.2.1⟩).keep hd)
            have HMM := Lib.hid (HmW.out.keep hd)
            have hww := hd.size
            have hwb := HBW.out.size
            have hb7 := World.block_lt_of_cell? W _ HCW.out.2.2.2.2.2.2.2
            have hb4 := World.block_lt_of_cell? wr _ c00
            simp only at hb7 hb4
            have hlc : (axL b.eqs m (a.eqs.take k)).length = k := by rw [axL_len, List.length_take]; omega
            have HLEN := Lib.hid hlc
            generalize axL b.eqs m (a.eqs.take k) = ps at HOR HAL HTK HLEN
            clear r0 r1 r2 hd hlc
            obtain ⟨x, hx⟩ : ∃ x, findE b.eqs (ledE m e) = x := ⟨_, rfl⟩
            have HXX := Lib.hid hx
            rw [hx] at HTK HNO
            clear hx
            go_wp2_with fail
            go_cut [10, 11] (fun s10 s11 wx => ∃ (bz : Nat) (B0 : Option Addr) (d0 : Nat) (B1 : Option Addr) (d1 : Nat) (B2 : Option Addr) (d2 : Nat), s10 = .pointer (some ⟨bz, 0, none⟩) ∧ s11 = .bool true ∧ wx.heap[bz]? = some (.cells #[.slice B0 (ledE m e).vars.length d0, .slice B1 (ledE m e).left.length d1, .slice B2 (ledE m e).right.length d2] 54 (0, 0)) ∧ REq wx (.agg #[.slice B0 (ledE m e).vars.length d0, .slice B1 (ledE m e).left.length d1, .slice B2 (ledE m e).right.length d2]) (ledE m e) ∧ Below wr.heap.size wr wx)
            case first =>
              refine wp_region_held_drew (S := (fun w' => w'.cell? ⟨w.heap.size, 0, none⟩ = some (.int .i64 a.over.sorts) ∧ w'.cell? ⟨w.heap.size, 1, none⟩ = some (.slice Aaa a.over.ops.length caa) ∧ w'.cell? ⟨w.heap.size, 2, none⟩ = some (.slice (some ⟨b4, o4, none⟩) a.eqs.length cab) ∧ w'.cell? ⟨w.heap.size + 1, 0, none⟩ = some (.int .i64 b.over.sorts) ∧ w'.cell? ⟨w.heap.size + 1, 1, none⟩ = some (.slice Aba b.over.ops.length cba) ∧ w'.cell? ⟨w.heap.size + 1, 2, none⟩ = some (.slice Abb b.eqs.length cbb) ∧ w'.cell? ⟨w.heap.size + 1 + 1, 0, none⟩ = some (.slice Ama m.sorts.length cma) ∧ w'.cell? ⟨w.heap.size + 1 + 1, 1, none⟩ = some (.slice Amb m.ops.length cmb) ∧ w'.cell? ⟨b4, o4 + k * 3, none⟩ = some (.slice A0 e.vars.length g0) ∧ w'.cell? ⟨b4, o4 + k * 3 + 1, none⟩ = some (.slice A1 e.left.length g1) ∧ w'.cell? ⟨b4, o4 + k * 3 + 2, none⟩ = some (.slice A2 e.right.length g2))) (by kernel_rfl) ?_ (fun hHeld => ?_)
              · exact ⟨f0, f1, f2, f3, f4, f5, f6, f7, c00, c01, c02⟩
              refine wpAnyH_take (i := 0) (oi := _) (v := ?_) rfl (by kernel_rfl) (by kernel_rfl) (by kernel_rfl) (fun _ _ _ h => h) (Or.inl ⟨by rfl, ?_⟩) (by assumption) ?_
              rotate_left
              · first | (intro w' hSw; (try dsimp only at hSw); go_simp; done) | (intro w' hSw; (try dsimp only at hSw); go_simp; with_reducible rfl)
              try simp only [Act.put, List.getElem_toArray, List.getElem_cons_zero, List.getElem_cons_succ, List.setIfInBounds_toArray, List.set_cons_zero, List.set_cons_succ]
              refine wpAnyH_take (i := 1) (oi := _) (v := ?_) rfl (by kernel_rfl) (by kernel_rfl) (by kernel_rfl) (fun _ _ _ h => h) (Or.inl ⟨by rfl, ?_⟩) (by assumption) ?_
              rotate_left
              · first | (intro w' hSw; (try dsimp only at hSw); go_simp; done) | (intro w' hSw; (try dsimp only at hSw); go_simp; with_reducible rfl)
              try simp only [Act.put, List.getElem_toArray, List.getElem_cons_zero, List.getElem_cons_succ, List.setIfInBounds_toArray, List.set_cons_zero, List.set_cons_succ]
              refine wpAnyH_take (i := 2) (oi := _) (v := ?_) rfl (by kernel_rfl) (by kernel_rfl) (by kernel_rfl) (fun _ _ _ h => h) (Or.inl ⟨by rfl, ?_⟩) (by assumption) ?_
              rotate_left
              · first | (intro w' hSw; (try dsimp only at hSw); go_simp; done) | (intro w' hSw; (try dsimp only at hSw); go_simp; with_reducible rfl)
              try simp only [Act.put, List.getElem_toArray, List.getElem_cons_zero, List.getElem_cons_succ, List.setIfInBounds_toArray, List.set_cons_zero, List.set_cons_succ]
              refine wpAnyH_take (i := 3) (oi := _) (v := ?_) rfl (by kernel_rfl) (by kernel_rfl) (by kernel_rfl) (fun _ _ _ h => h) (Or.inl ⟨by rfl, ?_⟩) (by assumption) ?_
              rotate_left
              · first | (intro w' hSw; (try dsimp only at hSw); go_simp; done) | (intro w' hSw; (try dsimp only at hSw); go_simp; with_reducible rfl)
              try simp only [Act.put, List.getElem_toArray, List.getElem_cons_zero, List.getElem_cons_succ, List.setIfInBounds_toArray, List.set_cons_zero, List.set_cons_succ]
              refine wpAnyH_take (i := 4) (oi := _) (v := ?_) rfl (by kernel_rfl) (by kernel_rfl) (by kernel_rfl) (fun _ _ _ h => h) (Or.inl ⟨by rfl, ?_⟩) (by assumption) ?_
              rotate_left
              · first | (intro w' hSw; (try dsimp only at hSw); go_simp; done) | (intro w' hSw; (try dsimp only at hSw); go_simp; with_reducible rfl)
              try simp only [Act.put, List.getElem_toArray, List.getElem_cons_zero, List.getElem_cons_succ, List.setIfInBounds_toArray, List.set_cons_zero, List.set_cons_succ]
              refine wpAnyH_take (i := 5) (oi := _) (v := ?_) rfl (by kernel_rfl) (by kernel_rfl) (by kernel_rfl) (fun _ _ _ h => h) (Or.inl ⟨by rfl, ?_⟩) (by assumption) ?_
              rotate_left
              · first | (intro w' hSw; (try dsimp only at hSw); go_simp; done) | (intro w' hSw; (try dsimp only at hSw); go_simp; with_reducible rfl)
              try simp only [Act.put, List.getElem_toArray, List.getElem_cons_zero, List.getElem_cons_succ, List.setIfInBounds_toArray, List.set_cons_zero, List.set_cons_succ]
              refine wpAnyH_take (i := 6) (oi := _) (v := ?_) rfl (by kernel_rfl) (by kernel_rfl) (by kernel_rfl) (fun _ _ _ h => h) (Or.inl ⟨by rfl, ?_⟩) (by assumption) ?_
              rotate_left
              · first | (intro w' hSw; (try dsimp only at hSw); go_simp; done) | (intro w' hSw; (try dsimp only at hSw); go_simp; with_reducible rfl)
              try simp only [Act.put, List.getElem_toArray, List.getElem_cons_zero, List.getElem_cons_succ, List.setIfInBounds_toArray, List.set_cons_zero, List.set_cons_succ]
              refine wpAnyH_take (i := 7) (oi := _) (v := ?_) rfl (by kernel_rfl) (by kernel_rfl) (by kernel_rfl) (fun _ _ _ h => h) (Or.inl ⟨by rfl, ?_⟩) (by assumption) ?_
              rotate_left
              · first | (intro w' hSw; (try dsimp only at hSw); go_simp; done) | (intro w' hSw; (try dsimp only at hSw); go_simp; with_reducible rfl)
              try simp only [Act.put, List.getElem_toArray, List.getElem_cons_zero, List.getElem_cons_succ, List.setIfInBounds_toArray, List.set_cons_zero, List.set_cons_succ]
              refine wpAnyH_take (i := 8) (oi := _) (v := ?_) rfl (by kernel_rfl) (by kernel_rfl) (by kernel_rfl) (fun _ _ _ h => h) (Or.inl ⟨by rfl, ?_⟩) (by assumption) ?_
              rotate_left
              · first | (intro w' hSw; (try dsimp only at hSw); go_simp; done) | (intro w' hSw; (try dsimp only at hSw); go_simp; with_reducible rfl)
              try simp only [Act.put, List.getElem_toArray, List.getElem_cons_zero, List.getElem_cons_succ, List.setIfInBounds_toArray, List.set_cons_zero, List.set_cons_succ]
              refine wpAnyH_take (i := 9) (oi := _) (v := ?_) rfl (by kernel_rfl) (by kernel_rfl) (by kernel_rfl) (fun _ _ _ h => h) (Or.inl ⟨by rfl, ?_⟩) (by assumption) ?_
              rotate_left
              · first | (intro w' hSw; (try dsimp only at hSw); go_simp; done) | (intro w' hSw; (try dsimp only at hSw); go_simp; with_reducible rfl)
              try simp only [Act.put, List.getElem_toArray, List.getElem_cons_zero, List.getElem_cons_succ, List.setIfInBounds_toArray, List.set_cons_zero, List.set_cons_succ]
              refine wpAnyH_ready (rs := [10, 14]) (by kernel_rfl) (by simp) ?_
              refine AllReadyH.cons (o := _) rfl (fun K hK => ?_) (AllReadyH.cons (o := _) rfl (fun K hK => ?_) AllReadyH.nil)
              · skip
                go_simp
                refine (specMapEq_any a.over b.over m e wr.drew _ _ _ _ (HSA.out.keep (map_drew (Below.refl _ _))) (HSB.out.keep (map_drew (Below.refl _ _))) (HMM.out.keep (map_drew (Below.refl _ _))) (HEQ.out.keep (map_drew (Below.refl _ _)))).mono ?_
                rw [HME.out]
                try dsimp only
                rintro z w5 ⟨z0, rfl, ho, hb⟩
                replace hb := map_undrew hb
                obtain ⟨B0, d0, B1, d1, B2, d2, rfl⟩ := ho.reads.form
                have HO5 := Lib.hid (show OEq w5 wr.heap.size _ _ from ho)
                replace f0 := cell_keep hb f0
                replace f1 := cell_keep hb f1
                replace f2 := cell_keep hb f2
                replace f3 := cell_keep hb f3
                replace f4 := cell_keep hb f4
                replace f5 := cell_keep hb f5
                replace f6 := cell_keep hb f6
                replace f7 := cell_keep hb f7
                replace c00 := cell_keep hb c00
                replace c01 := cell_keep hb c01
                replace c02 := cell_keep hb c02
                have HP := Lib.hid hb
                clear ho hb
                go_wp2_with fail
                refine hK.out _ _ ?_ (fun hHeld => ?_)
                · exact ⟨f0, f1, f2, f3, f4, f5, f6, f7, c00, c01, c02⟩
                clear hK K
                try simp only [Act.put, List.getElem_toArray, List.getElem_cons_zero, List.getElem_cons_succ, List.setIfInBounds_toArray, List.set_cons_zero, List.set_cons_succ]
                refine wpAnyH_take (i := 11) (oi := _) (v := ?_) rfl (by kernel_rfl) (by kernel_rfl) (by kernel_rfl) (fun _ _ _ h => h) (Or.inl ⟨by rfl, ?_⟩) (by assumption) ?_
                rotate_left
                · first | (intro w' hSw; (try dsimp only at hSw); go_simp; done) | (intro w' hSw; (try dsimp only at hSw); go_simp; with_reducible rfl)
                try simp only [Act.put, List.getElem_toArray, List.getElem_cons_zero, List.getElem_cons_succ, List.setIfInBounds_toArray, List.set_cons_zero, List.set_cons_succ]
                refine wpAnyH_take (i := 12) (oi := _) (v := ?_) rfl (by kernel_rfl) (by kernel_rfl) (by kernel_rfl) (fun _ _ _ h => h) (Or.inl ⟨by rfl, ?_⟩) (by assumption) ?_
                rotate_left
                · first | (intro w' hSw; (try dsimp only at hSw); go_simp; done) | (intro w' hSw; (try dsimp only at hSw); go_simp; with_reducible rfl)
                try simp only [Act.put, List.getElem_toArray, List.getElem_cons_zero, List.getElem_cons_succ, List.setIfInBounds_toArray, List.set_cons_zero, List.set_cons_succ]
                refine wpAnyH_take (i := 13) (oi := _) (v := ?_) rfl (by kernel_rfl) (by kernel_rfl) (by kernel_rfl) (fun _ _ _ h => h) (Or.inl ⟨by rfl, ?_⟩) (by assumption) ?_
                rotate_left
                · first | (intro w' hSw; (try dsimp only at hSw); go_simp; done) | (intro w' hSw; (try dsimp only at hSw); go_simp; with_reducible rfl)
                try simp only [Act.put, List.getElem_toArray, List.getElem_cons_zero, List.getElem_cons_succ, List.setIfInBounds_toArray, List.set_cons_zero, List.set_cons_succ]
                refine wpAnyH_ready (rs := [14]) (by kernel_rfl) (by simp) ?_
                refine AllReadyH.cons (o := _) rfl (fun K hK => ?_) AllReadyH.nil
                have hzl := HP.out.size
                go_simp
                have hb := below_alloc w5 (.cells #[.slice none 0 0, .slice none 0 0, .slice none 0 0] 54)
                have hz := heap_alloc_new w5 (.cells #[.slice none 0 0, .slice none 0 0, .slice none 0 0] 54)
                generalize hWA : w5.alloc (.cells #[.slice none 0 0, .slice none 0 0, .slice none 0 0] 54) = w6 at hb hz ⊢
                clear hWA
                have HZb := Lib.hid (show w6.heap[w5.heap.size]? = some (.cells #[.slice none 0 0, .slice none 0 0, .slice none 0 0] 54 (0, 0)) from hz)
                have HLATE := Lib.hid hb.block
                replace f0 := cell_keep hb f0
                replace f1 := cell_keep hb f1
                replace f2 := cell_keep hb f2
                replace f3 := cell_keep hb f3
                replace f4 := cell_keep hb f4
                replace f5 := cell_keep hb f5
                replace f6 := cell_keep hb f6
                replace f7 := cell_keep hb f7
                replace c00 := cell_keep hb c00
                replace c01 := cell_keep hb c01
                replace c02 := cell_keep hb c02
                replace HP := Lib.hid (sz_keep HP.out hb)
                have j0 := blk_cell HZb.out 0
                have jf0 := blk_free HZb.out 0
                have j1 := blk_cell HZb.out 1
                have jf1 := blk_free HZb.out 1
                have j2 := blk_cell HZb.out 2
                have jf2 := blk_free HZb.out 2
                simp at j0 j1 j2
                clear hb hz
                go_wp2_with fail
                refine hK.out _ _ ?_ (fun hHeld => ?_)
                · exact ⟨f0, f1, f2, f3, f4, f5, f6, f7, c00, c01, c02⟩
                clear hK K
                try simp only [Act.put, List.getElem_toArray, List.getElem_cons_zero, List.getElem_cons_succ, List.setIfInBounds_toArray, List.set_cons_zero, List.set_cons_succ]
                refine wpAnyH_ready (rs := [15]) (by kernel_rfl) (by simp) ?_
                refine AllReadyH.cons (o := _) rfl (fun K hK => ?_) AllReadyH.nil
                go_simp
                go_wp2_with fail
                refine hK.out _ _ ?_ (fun hHeld => ?_)
                · exact ⟨(set_other (by omega) _ _ _).trans ((set_other (by omega) _ _ _).trans ((set_other (by omega) _ _ _).trans f0)), (set_other (by omega) _ _ _).trans ((set_other (by omega) _ _ _).trans ((set_other (by omega) _ _ _).trans f1)), (set_other (by omega) _ _ _).trans ((set_other (by omega) _ _ _).trans ((set_other (by omega) _ _ _).trans f2)), (set_other (by omega) _ _ _).trans ((set_other (by omega) _ _ _).trans ((set_other (by omega) _ _ _).trans f3)), (set_other (by omega) _ _ _).trans ((set_other (by omega) _ _ _).trans ((set_other (by omega) _ _ _).trans f4)), (set_other (by omega) _ _ _).trans ((set_other (by omega) _ _ _).trans ((set_other (by omega) _ _ _).trans f5)), (set_other (by omega) _ _ _).trans ((set_other (by omega) _ _ _).trans ((set_other (by omega) _ _ _).trans f6)), (set_other (by omega) _ _ _).trans ((set_other (by omega) _ _ _).trans ((set_other (by omega) _ _ _).trans f7)), (set_other (by omega) _ _ _).trans ((set_other (by omega) _ _ _).trans ((set_other (by omega) _ _ _).trans c00)), (set_other (by omega) _ _ _).trans ((set_other (by omega) _ _ _).trans ((set_other (by omega) _ _ _).trans c01)), (set_other (by omega) _ _ _).trans ((set_other (by omega) _ _ _).trans ((set_other (by omega) _ _ _).trans c02))⟩
                clear hK K
                try simp only [Act.put, List.getElem_toArray, List.getElem_cons_zero, List.getElem_cons_succ, List.setIfInBounds_toArray, List.set_cons_zero, List.set_cons_succ]
                refine wpAnyH_take (i := 16) (oi := _) (v := ?_) rfl (by kernel_rfl) (by kernel_rfl) (by kernel_rfl) (fun _ _ _ h => h) (Or.inl ⟨by rfl, ?_⟩) (by assumption) ?_
                rotate_left
                · first | (intro w' hSw; (try dsimp only at hSw); go_simp; done) | (intro w' hSw; (try dsimp only at hSw); go_simp; with_reducible rfl)
                try simp only [Act.put, List.getElem_toArray, List.getElem_cons_zero, List.getElem_cons_succ, List.setIfInBounds_toArray, List.set_cons_zero, List.set_cons_succ]
                refine wpAnyH_done (by kernel_rfl) ?_ _
                go_wp2_with fail
                go_meet
                exact ⟨_, _, _, _, _, _, _, rfl, rfl, (blk_set (blk_set (blk_set HZb.out 0 (.slice B0 (ledE m e).vars.length d0)) 1 (.slice B1 (ledE m e).left.length d1)) 2 (.slice B2 (ledE m e).right.length d2)), (OEq.same HO5.out (fun k q1 q2 => ((set_blk3 (by omega) _ _).trans ((set_blk3 (by omega) _ _).trans (set_blk3 (by omega) _ _))).trans (HLATE.out k q2))).reads, (((HP.out.setCell (p := ⟨w5.heap.size, 0, none⟩) hzl (.slice B0 (ledE m e).vars.length d0)).setCell (p := ⟨w5.heap.size, 1, none⟩) hzl (.slice B1 (ledE m e).left.length d1)).setCell (p := ⟨w5.heap.size, 2, none⟩) hzl (.slice B2 (ledE m e).right.length d2))⟩
              · skip
                have hzl : wr.heap.size ≤ wr.heap.size := Nat.le_refl _
                go_simp
                have hb := below_alloc wr (.cells #[.slice none 0 0, .slice none 0 0, .slice none 0 0] 54)
                have hz := heap_alloc_new wr (.cells #[.slice none 0 0, .slice none 0 0, .slice none 0 0] 54)
                generalize hWA : wr.alloc (.cells #[.slice none 0 0, .slice none 0 0, .slice none 0 0] 54) = w6 at hb hz ⊢
                clear hWA
                have HZb := Lib.hid (show w6.heap[wr.heap.size]? = some (.cells #[.slice none 0 0, .slice none 0 0, .slice none 0 0] 54 (0, 0)) from hz)
                replace f0 := cell_keep hb f0
                replace f1 := cell_keep hb f1
                replace f2 := cell_keep hb f2
                replace f3 := cell_keep hb f3
                replace f4 := cell_keep hb f4
                replace f5 := cell_keep hb f5
                replace f6 := cell_keep hb f6
                replace f7 := cell_keep hb f7
                replace c00 := cell_keep hb c00
                replace c01 := cell_keep hb c01
                replace c02 := cell_keep hb c02
                have HP := Lib.hid hb
                clear hb hz
                go_wp2_with fail
                refine hK.out _ _ ?_ (fun hHeld => ?_)
                · exact ⟨f0, f1, f2, f3, f4, f5, f6, f7, c00, c01, c02⟩
                clear hK K
                try simp only [Act.put, List.getElem_toArray, List.getElem_cons_zero, List.getElem_cons_succ, List.setIfInBounds_toArray, List.set_cons_zero, List.set_cons_succ]
                refine wpAnyH_ready (rs := [10]) (by kernel_rfl) (by simp) ?_
                refine AllReadyH.cons (o := _) rfl (fun K hK => ?_) AllReadyH.nil
                go_simp
                have hbl := (Array.getElem?_eq_some_iff.1 HZb.out).1
                refine (specMapEq_any a.over b.over m e w6.drew _ _ _ _ (HSA.out.keep (map_drew HP.out)) (HSB.out.keep (map_drew HP.out)) (HMM.out.keep (map_drew HP.out)) (HEQ.out.keep (map_drew HP.out))).mono ?_
                rw [HME.out]
                try dsimp only
                rintro z w5 ⟨z0, rfl, ho, hb⟩
                replace hb := map_undrew hb
                obtain ⟨B0, d0, B1, d1, B2, d2, rfl⟩ := ho.reads.form
                have HO5 := Lib.hid (show OEq w5 w6.heap.size _ _ from ho)
                replace f0 := cell_keep hb f0
                replace f1 := cell_keep hb f1
                replace f2 := cell_keep hb f2
                replace f3 := cell_keep hb f3
                replace f4 := cell_keep hb f4
                replace f5 := cell_keep hb f5
                replace f6 := cell_keep hb f6
                replace f7 := cell_keep hb f7
                replace c00 := cell_keep hb c00
                replace c01 := cell_keep hb c01
                replace c02 := cell_keep hb c02
                replace HZb := Lib.hid (blk_keep HZb.out hb)
                replace HP := Lib.hid (sz_keep HP.out hb)
                have j0 := blk_cell HZb.out 0
                have jf0 := blk_free HZb.out 0
                have j1 := blk_cell HZb.out 1
                have jf1 := blk_free HZb.out 1
                have j2 := blk_cell HZb.out 2
                have jf2 := blk_free HZb.out 2
                simp at j0 j1 j2
                clear ho hb
                go_wp2_with fail
                refine hK.out _ _ ?_ (fun hHeld => ?_)
                · exact ⟨f0, f1, f2, f3, f4, f5, f6, f7, c00, c01, c02⟩
                clear hK K
                try simp only [Act.put, List.getElem_toArray, List.getElem_cons_zero, List.getElem_cons_succ, List.setIfInBounds_toArray, List.set_cons_zero, List.set_cons_succ]
                refine wpAnyH_take (i := 11) (oi := _) (v := ?_) rfl (by kernel_rfl) (by kernel_rfl) (by kernel_rfl) (fun _ _ _ h => h) (Or.inl ⟨by rfl, ?_⟩) (by assumption) ?_
                rotate_left
                · first | (intro w' hSw; (try dsimp only at hSw); go_simp; done) | (intro w' hSw; (try dsimp only at hSw); go_simp; with_reducible rfl)
                try simp only [Act.put, List.getElem_toArray, List.getElem_cons_zero, List.getElem_cons_succ, List.setIfInBounds_toArray, List.set_cons_zero, List.set_cons_succ]
                refine wpAnyH_take (i := 12) (oi := _) (v := ?_) rfl (by kernel_rfl) (by kernel_rfl) (by kernel_rfl) (fun _ _ _ h => h) (Or.inl ⟨by rfl, ?_⟩) (by assumption) ?_
                rotate_left
                · first | (intro w' hSw; (try dsimp only at hSw); go_simp; done) | (intro w' hSw; (try dsimp only at hSw); go_simp; with_reducible rfl)
                try simp only [Act.put, List.getElem_toArray, List.getElem_cons_zero, List.getElem_cons_succ, List.setIfInBounds_toArray, List.set_cons_zero, List.set_cons_succ]
                refine wpAnyH_take (i := 13) (oi := _) (v := ?_) rfl (by kernel_rfl) (by kernel_rfl) (by kernel_rfl) (fun _ _ _ h => h) (Or.inl ⟨by rfl, ?_⟩) (by assumption) ?_
                rotate_left
                · first | (intro w' hSw; (try dsimp only at hSw); go_simp; done) | (intro w' hSw; (try dsimp only at hSw); go_simp; with_reducible rfl)
                try simp only [Act.put, List.getElem_toArray, List.getElem_cons_zero, List.getElem_cons_succ, List.setIfInBounds_toArray, List.set_cons_zero, List.set_cons_succ]
                refine wpAnyH_ready (rs := [15]) (by kernel_rfl) (by simp) ?_
                refine AllReadyH.cons (o := _) rfl (fun K hK => ?_) AllReadyH.nil
                go_simp
                go_wp2_with fail
                refine hK.out _ _ ?_ (fun hHeld => ?_)
                · exact ⟨(set_other (by omega) _ _ _).trans ((set_other (by omega) _ _ _).trans ((set_other (by omega) _ _ _).trans f0)), (set_other (by omega) _ _ _).trans ((set_other (by omega) _ _ _).trans ((set_other (by omega) _ _ _).trans f1)), (set_other (by omega) _ _ _).trans ((set_other (by omega) _ _ _).trans ((set_other (by omega) _ _ _).trans f2)), (set_other (by omega) _ _ _).trans ((set_other (by omega) _ _ _).trans ((set_other (by omega) _ _ _).trans f3)), (set_other (by omega) _ _ _).trans ((set_other (by omega) _ _ _).trans ((set_other (by omega) _ _ _).trans f4)), (set_other (by omega) _ _ _).trans ((set_other (by omega) _ _ _).trans ((set_other (by omega) _ _ _).trans f5)), (set_other (by omega) _ _ _).trans ((set_other (by omega) _ _ _).trans ((set_other (by omega) _ _ _).trans f6)), (set_other (by omega) _ _ _).trans ((set_other (by omega) _ _ _).trans ((set_other (by omega) _ _ _).trans f7)), (set_other (by omega) _ _ _).trans ((set_other (by omega) _ _ _).trans ((set_other (by omega) _ _ _).trans c00)), (set_other (by omega) _ _ _).trans ((set_other (by omega) _ _ _).trans ((set_other (by omega) _ _ _).trans c01)), (set_other (by omega) _ _ _).trans ((set_other (by omega) _ _ _).trans ((set_other (by omega) _ _ _).trans c02))⟩
                clear hK K
                try simp only [Act.put, List.getElem_toArray, List.getElem_cons_zero, List.getElem_cons_succ, List.setIfInBounds_toArray, List.set_cons_zero, List.set_cons_succ]
                refine wpAnyH_take (i := 16) (oi := _) (v := ?_) rfl (by kernel_rfl) (by kernel_rfl) (by kernel_rfl) (fun _ _ _ h => h) (Or.inl ⟨by rfl, ?_⟩) (by assumption) ?_
                rotate_left
                · first | (intro w' hSw; (try dsimp only at hSw); go_simp; done) | (intro w' hSw; (try dsimp only at hSw); go_simp; with_reducible rfl)
                try simp only [Act.put, List.getElem_toArray, List.getElem_cons_zero, List.getElem_cons_succ, List.setIfInBounds_toArray, List.set_cons_zero, List.set_cons_succ]
                refine wpAnyH_done (by kernel_rfl) ?_ _
                go_wp2_with fail
                go_meet
                exact ⟨_, _, _, _, _, _, _, rfl, rfl, (blk_set (blk_set (blk_set HZb.out 0 (.slice B0 (ledE m e).vars.length d0)) 1 (.slice B1 (ledE m e).left.length d1)) 2 (.slice B2 (ledE m e).right.length d2)), (OEq.same HO5.out (fun k q1 q2 => ((set_blk3 (by omega) _ _).trans ((set_blk3 (by omega) _ _).trans (set_blk3 (by omega) _ _))))).reads, (((HP.out.setCell (p := ⟨wr.heap.size, 0, none⟩) hzl (.slice B0 (ledE m e).vars.length d0)).setCell (p := ⟨wr.heap.size, 1, none⟩) hzl (.slice B1 (ledE m e).left.length d1)).setCell (p := ⟨wr.heap.size, 2, none⟩) hzl (.slice B2 (ledE m e).right.length d2))⟩
            case rest =>
            obtain ⟨bz, B0, d0, B1, d1, B2, d2, rfl, rfl, hblk, hrd, hb⟩ := hcut
            obtain ⟨w7, hwn⟩ : ∃ W', W' = wc := ⟨_, rfl⟩
            subst hwn
            have x0 := blk_cell hblk 0
            have x1 := blk_cell hblk 1
            have x2 := blk_cell hblk 2
            simp at x0 x1 x2
            have HRD := Lib.hid hrd
            have hbd := sz_keep HD.out hb
            have HBE := Lib.hid (HbW.out.keep hbd)
            have HD7 := Lib.hid hbd
            have HOR7 := Lib.hid (HOR.out.keep hb)
            replace f3 := cell_keep hb f3
            replace f4 := cell_keep hb f4
            replace f5 := cell_keep hb f5
            have hs7 := hb.size
            clear hblk hrd hb hbd f0 f1 f2 f6 f7 c00 c01 c02
            go_wp2_with fail
            refine (l4Find_any b (ledE m e) w7 _ _ HBE.out HRD.out).mono ?_
            rw [HXX.out]
            rintro z w8 ⟨rfl, hb⟩
            have HD8 := Lib.hid (sz_keep HD7.out hb)
            have HOR8 := Lib.hid (HOR7.out.keep hb)
            have hs8 := hb.size
            clear hb x0 x1 x2 f3 f4 f5
            by_cases hneg : x < 0
            · have HE := Lib.hid (HNO.out hneg)
              go_wp2
              refine bodyPost_ret (v := .tuple #[.slice (some ⟨w8.heap.size, 0, none⟩) 0 0, .bool false]) (by simp [results, Try.results38, go_sem]) rfl ?_
              have HBB := sz_keep HBW.out HD8.out
              exact ⟨_, by rw [HE.out], by rw [HE.out]; exact (own_empty w8).base HBB.size, HBB.alloc HBB.size _⟩
            · have hpos : 0 ≤ x := by omega
              go_wp2_with (at_builtin; refine wpList_append_own _ rfl _ _ 25 rfl W.heap.size 3 i0 (.int .i64 0) 1 8 Try.underlying25 hi0 hz0 hz1 hz2 rfl (by decide) _ ps.length (ps.map (Value.int .i64)) rfl (own_keep HOR8.out (below_alloc w8 _)) ⟨w8.heap.size, 0, none⟩ 1 1 ([x].map (Value.int .i64)) rfl (by simp) (led_new w8 x) (ints_one _) (by rw [HLEN.out, maxLen_eq]; omega) (by rw [HLEN.out]; omega) (by simp; omega) ?_)
              intro v9 w9 hv9 hg9 _
              have HO9 := Lib.hid (led_app (rs := [x]) rfl hv9)
              have HD9 := Lib.hid ((HD8.out.alloc HD8.out.size (.cells #[.int .i64 x] 3)).grown hg9 (by simp; omega) (fun k e => (own_lt HOR8.out k e).1))
              obtain ⟨A6, c6, rfl, -⟩ := own_reads hv9
              clear hv9 hg9
              go_wp2
              go_roundw
              case rel => exact ⟨k + 1, by omega, by go_num, by rw [HTK.out]; exact HO9.out, by rw [HTK.out, allIn_snoc, HAL.out]; simpa using hpos, HD9.out⟩
              case measure => simp [intOf]; omega
          · have hlt' : ¬ (k : Int) < (a.eqs.length : Int) := by omega
            have HTA := Lib.hid (show a.eqs.take k = a.eqs from take_all (by omega))
            rw [HTA.out] at HOR HAL
            try rw [HTA.out]
            have HE := Lib.hid (mapAx_yes HA.out HV.out HM.out HAL.out)
            have HUL := Lib.hid (axL_len b.eqs m a.eqs)
            clear hd f0 f1 f3 f4 f5 f6 f7
            go_wp2
            refine bodyPost_ret (v := .tuple #[.slice A9 (axL b.eqs m a.eqs).length c9, .bool true]) (by simp [results, Try.results38, go_sem]) rfl ?_
            exact ⟨_, by rw [HE.out], by rw [HE.out]; exact HOR.out.base HBW.out.size, sz_keep HBW.out HD.out⟩
end
end Go.Proofs.Ytonainidjkcoeaa
