/- ruleOf and afterStep (package impl): a rule of proof is a struct whose field makes the step. -/
import Derived.Test.YtonainidjkcoeacStepR
import Derived.Test.YtonainidjkcoeacSwap
import Derived.Test.YtonainidjkcoeacSlEq
namespace Go.Proofs.Ytonainidjkcoeac
open Go.RowKit
set_option linter.unusedVariables false
set_option linter.unusedSimpArgs false

def noEq : MEq := ⟨[], [], []⟩
def sideFrom (e : MEq) (back : Bool) : List Int := if back then e.right else e.left
def sideTo (e : MEq) (back : Bool) : List Int := if back then e.left else e.right
/-- a step by a rule: letters, what is replaced, what is put there -/
def ruleM (s : MSig) (letters fr to vars u : List Int) (at_ : Int) (terms : List (List Int)) : List Int × Bool :=
  if (putM s letters fr vars terms).2 = true ∧ (putM s letters fr vars terms).1 = atM s vars u at_ ∧ (putM s letters to vars terms).2 = true then swapM s vars u at_ (putM s letters to vars terms).1 else ([], false)
def afterM (t : MThy) (vars u : List Int) (p : MStep) : List Int × Bool :=
  if 0 ≤ p.ax ∧ p.ax < t.eqs.length then ruleM t.over (t.eqs.getD p.ax.toNat noEq).vars (sideFrom (t.eqs.getD p.ax.toNat noEq) p.back) (sideTo (t.eqs.getD p.ax.toNat noEq) p.back) vars u p.at_ p.terms else ([], false)
def stepM (t : MThy) (vars u : List Int) (p : MStep) : List Int × Bool := if thyB t = true then afterM t vars u p else ([], false)

/-- a rule's field: the function, and where its own variables lie -/
def RFn (w : World) (fn : Value) (s : MSig) (letters fr to : List Int) : Prop :=
  ∃ bt bl bf bo u L F O, fn = .func (Fn.func 112) #[] #[.pointer (some ⟨bt, 0, none⟩), .pointer (some ⟨bl, 0, none⟩), .pointer (some ⟨bf, 0, none⟩), .pointer (some ⟨bo, 0, none⟩)] ∧
    w.cell? ⟨bt, 0, none⟩ = some (.int .i64 s.sorts) ∧ w.cell? ⟨bt, 1, none⟩ = some u ∧ RRows w u s.ops ∧ w.cell? ⟨bl, 0, none⟩ = some L ∧ RInts w L letters ∧ w.cell? ⟨bf, 0, none⟩ = some F ∧ RInts w F fr ∧ w.cell? ⟨bo, 0, none⟩ = some O ∧ RInts w O to
theorem RFn.keep {w w' : World} {fn : Value} {s : MSig} {letters fr to : List Int} (h : RFn w fn s letters fr to) (hb : Below w.heap.size w w') : RFn w' fn s letters fr to := by
  obtain ⟨bt, bl, bf, bo, u, L, F, O, e, c0, c1, r1, c2, r2, c3, r3, c4, r4⟩ := h
  exact ⟨bt, bl, bf, bo, u, L, F, O, e, cell_keep hb c0, cell_keep hb c1, r1.keep hb, cell_keep hb c2, r2.keep hb, cell_keep hb c3, r3.keep hb, cell_keep hb c4, r4.keep hb⟩

theorem putM_small {s : MSig} {vars t others : List Int} {terms : List (List Int)} (ht : Small t) (hs : ∀ r ∈ terms, Small r) : Small (putM s vars t others terms).1 := by
  unfold putM
  split
  · intro x hx
    simp only [putRow, List.mem_flatMap] at hx
    obtain ⟨n, hn, hx⟩ := hx
    split at hx
    · rw [List.getD_eq_getElem?_getD] at hx
      cases h : terms[(n - 100).toNat]? with
      | none => rw [h] at hx; simp at hx
      | some r => rw [h] at hx; exact hs r (List.mem_of_getElem? h) x hx
    · simp at hx; subst hx; exact ht _ hn
  · intro x hx; simp at hx

set_option maxHeartbeats 1600000 in
set_option maxRecDepth 100000 in
/-- the function of a rule -/
theorem ruleFn_any (s : MSig) (letters fr to vars u : List Int) (a : Int) (terms : List (List Int)) (w : World) (vv uv tv : Value) (bt bl bf bo : Nat) (x L F O : Value) (h1 : Small fr) (h2 : Small to) (h3 : Small u) (h4 : ∀ r ∈ terms, Small r)
    (k1 : RInts w vv vars) (k2 : RInts w uv u) (k3 : RRows w tv terms)
    (c0 : w.cell? ⟨bt, 0, none⟩ = some (.int .i64 s.sorts)) (c1 : w.cell? ⟨bt, 1, none⟩ = some x) (r1 : RRows w x s.ops) (c2 : w.cell? ⟨bl, 0, none⟩ = some L) (r2 : RInts w L letters) (c3 : w.cell? ⟨bf, 0, none⟩ = some F) (r3 : RInts w F fr) (c4 : w.cell? ⟨bo, 0, none⟩ = some O) (r4 : RInts w O to) :
    Calls Try.prog 112 #[vv, uv, .int .i64 a, tv, .pointer (some ⟨bt, 0, none⟩), .pointer (some ⟨bl, 0, none⟩), .pointer (some ⟨bf, 0, none⟩), .pointer (some ⟨bo, 0, none⟩)] w (PairPost (ruleM s letters fr to vars u a terms) w) := by
  have HS := Lib.hid (show RSig w (.agg #[.int .i64 s.sorts, x]) s from ⟨_, rfl, r1⟩)
  have HV := Lib.hid k1
  have HU := Lib.hid k2
  have HT := Lib.hid k3
  have HL := Lib.hid r2
  have HFr := Lib.hid r3
  have HTo := Lib.hid r4
  have HSM := Lib.hid (And.intro h1 (And.intro h2 (And.intro h3 h4)))
  have HC := Lib.hid (And.intro c0 (And.intro c1 (And.intro c2 (And.intro c3 c4))))
  obtain ⟨A0, d0, rfl, -⟩ := r1.form
  obtain ⟨A1, d1, rfl, -⟩ := r2.form
  obtain ⟨A2, d2, rfl, -⟩ := r3.form
  obtain ⟨A3, d3, rfl, -⟩ := r4.form
  obtain ⟨A4, d4, rfl, -⟩ := k1.form
  obtain ⟨A5, d5, rfl, -⟩ := k2.form
  obtain ⟨A6, d6, rfl, -⟩ := k3.form
  clear h1 h2 h3 h4 k1 k2 k3 r1 r2 r3 r4
  obtain ⟨X, b, hX⟩ : ∃ X b, putM s letters fr vars terms = (X, b) := ⟨_, _, rfl⟩
  obtain ⟨Y, d, hY⟩ : ∃ Y d, putM s letters to vars terms = (Y, d) := ⟨_, _, rfl⟩
  have HX := Lib.hid hX
  have HY := Lib.hid hY
  have HYS := Lib.hid (show Small Y by have := putM_small (s := s) (vars := letters) (others := vars) HSM.out.2.1 HSM.out.2.2.2; rw [hY] at this; exact this)
  clear hX hY
  go_enter Try.func112, Try.ntmps112
  go_wp2_with fail
  refine (termPut_any s letters fr vars terms _ _ _ _ _ _ HSM.out.1 HSM.out.2.2.2 HS.out HL.out HFr.out HV.out HT.out).mono ?_
  rw [HX.out]
  rintro e w1 ⟨z, rfl, ho, hb⟩
  simp only at ho ⊢
  obtain ⟨Az, cz, rfl, -⟩ := own_reads ho
  have HB1 := Lib.hid hb
  have HZ := Lib.hid ho.reads
  have m0 := cell_keep hb c0
  have m1 := cell_keep hb c1
  have m2 := cell_keep hb c2
  have m3 := cell_keep hb c3
  have m4 := cell_keep hb c4
  clear hb ho c0 c1 c2 c3 c4
  cases b with
  | false =>
    have HE := Lib.hid (show ruleM s letters fr to vars u a terms = ([], false) by unfold ruleM; rw [HX.out]; simp)
    go_wp2
    refine bodyPost_ret (v := .tuple #[.slice none 0 0, .bool false]) (by simp [results, Try.results112, go_sem]) rfl ?_
    rw [HE.out]
    exact ⟨_, rfl, OInts.nil _ _, HB1.out⟩
  | true =>
    go_wp2_with fail
    refine (termAt_any s vars u a _ _ _ _ HSM.out.2.2.1 (HS.out.keep HB1.out) (HV.out.keep HB1.out) (HU.out.keep HB1.out)).mono ?_
    rintro e w2 ⟨p, rfl, hop, hb⟩
    obtain ⟨Ap, cp, rfl, -⟩ := own_reads hop
    have HB2 := Lib.hid (fit_keep HB1.out hb)
    have HP := Lib.hid hop.reads
    have HZ2 := Lib.hid (HZ.out.keep hb)
    have n0 := cell_keep hb m0
    have n1 := cell_keep hb m1
    have n2 := cell_keep hb m2
    have n3 := cell_keep hb m3
    have n4 := cell_keep hb m4
    clear hb hop m0 m1 m2 m3 m4
    go_wp2_with fail
    obtain ⟨q, hq⟩ : ∃ q : Bool, decide (X = atM s vars u a) = q := ⟨_, rfl⟩
    have HQ := Lib.hid hq
    clear hq
    refine (slEqual_any _ _ X (atM s vars u a) _ HZ2.out HP.out).mono ?_
    rw [HQ.out]
    rintro e w3 ⟨rfl, hd⟩
    have hb := hd.below
    have HB3 := Lib.hid (fit_keep HB2.out hb)
    have m0 := cell_keep hb n0
    have m1 := cell_keep hb n1
    have m2 := cell_keep hb n2
    have m3 := cell_keep hb n3
    have m4 := cell_keep hb n4
    clear hb hd n0 n1 n2 n3 n4
    cases q with
    | false =>
      have HE := Lib.hid (show ruleM s letters fr to vars u a terms = ([], false) by
        unfold ruleM; rw [HX.out, if_neg]
        rintro ⟨-, h, -⟩
        have := HQ.out
        rw [decide_eq_false_iff_not] at this
        exact this h)
      go_wp2
      refine bodyPost_ret (v := .tuple #[.slice none 0 0, .bool false]) (by simp [results, Try.results112, go_sem]) rfl ?_
      rw [HE.out]
      exact ⟨_, rfl, OInts.nil _ _, HB3.out⟩
    | true =>
      have HXA := Lib.hid (of_decide_eq_true HQ.out)
      go_wp2_with fail
      refine (termPut_any s letters to vars terms _ _ _ _ _ _ HSM.out.2.1 HSM.out.2.2.2 (HS.out.keep HB3.out) (HL.out.keep HB3.out) (HTo.out.keep HB3.out) (HV.out.keep HB3.out) (HT.out.keep HB3.out)).mono ?_
      rw [HY.out]
      rintro e w4 ⟨z', rfl, ho, hb⟩
      simp only at ho ⊢
      obtain ⟨Ay, cy, rfl, -⟩ := own_reads ho
      have HB4 := Lib.hid (fit_keep HB3.out hb)
      have HW := Lib.hid ho.reads
      have n0 := cell_keep hb m0
      have n1 := cell_keep hb m1
      have n2 := cell_keep hb m2
      have n3 := cell_keep hb m3
      have n4 := cell_keep hb m4
      clear hb ho m0 m1 m2 m3 m4
      cases d with
      | false =>
        have HE := Lib.hid (show ruleM s letters fr to vars u a terms = ([], false) by unfold ruleM; rw [HX.out, HY.out]; simp)
        go_wp2
        refine bodyPost_ret (v := .tuple #[.slice none 0 0, .bool false]) (by simp [results, Try.results112, go_sem]) rfl ?_
        rw [HE.out]
        exact ⟨_, rfl, OInts.nil _ _, HB4.out⟩
      | true =>
        have HE := Lib.hid (show ruleM s letters fr to vars u a terms = swapM s vars u a Y by unfold ruleM; rw [HX.out, HY.out, if_pos ⟨rfl, HXA.out, rfl⟩])
        obtain ⟨Z, g, hZ⟩ : ∃ Z g, swapM s vars u a Y = (Z, g) := ⟨_, _, rfl⟩
        have HZZ := Lib.hid hZ
        clear hZ
        go_wp2_with fail
        refine (termSwap_any s vars u a Y _ _ _ _ _ HSM.out.2.2.1 HYS.out (HS.out.keep HB4.out) (HV.out.keep HB4.out) (HU.out.keep HB4.out) HW.out).mono ?_
        rw [HZZ.out]
        rintro e w5 ⟨z'', rfl, ho, hb⟩
        simp only at ho ⊢
        obtain ⟨Aw, cw, rfl, -⟩ := own_reads ho
        have HB5 := Lib.hid (fit_keep HB4.out hb)
        have HO := Lib.hid ho
        have hs4 := HB4.out.size
        clear hb ho n0 n1 n2 n3 n4
        go_wp2
        refine bodyPost_ret (v := .tuple #[.slice Aw Z.length cw, .bool g]) (by simp [results, Try.results112, go_sem]) rfl ?_
        rw [HE.out, HZZ.out]
        exact ⟨_, rfl, HO.out.base (by omega), HB5.out⟩
end Go.Proofs.Ytonainidjkcoeac
