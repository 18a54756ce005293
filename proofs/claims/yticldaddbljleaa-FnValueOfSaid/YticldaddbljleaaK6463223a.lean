/- firstTerm, by induction; termOf. · The spec's l2End: where a term ends that begins at a place, and its sort. By induction. · TermSort of both packages. · TermsFit of both packages. · EqOk of both packages. · What the proofs of the exact laws share: a signature that came in. · Small words that the exact laws share. · What the made proofs of the exact laws share (tools/exact.py). No walk. · Equations that a call has made, in worlds that keep what lies from a size on. No walk. -/
import Derived.Test.YticldaddbljleaaK2d26c755
import Derived.Deep.RegionHeld3
import Derived.Deep.RegionLaw
import Derived.ProofKit
import Derived.OpenShut
import Derived.ShutString
import Derived.ChangeOld
import Derived.Lib.SmallJoins
import Derived.Deep.Matrix
namespace Go.Proofs.Yticldaddbljleaa
section
open Go.RowKit
set_option linter.unusedVariables false

theorem firstM_op {s : MSig} {vars : List Int} {f : Nat} {n : Int} {rest : List Int} (h : 0 ≤ n ∧ n < s.ops.length) : firstM s vars (f + 1) (n :: rest) = nodeM s vars f n.toNat rest := by
  simp only [firstM, nodeM]; rw [if_pos h]; rfl
theorem firstM_bad {s : MSig} {vars : List Int} {f : Nat} {n : Int} {rest : List Int} (h : ¬ (0 ≤ n ∧ n < s.ops.length)) (h2 : ¬ (100 ≤ n ∧ n < 100 + vars.length)) : firstM s vars (f + 1) (n :: rest) = none := by
  simp only [firstM]; rw [if_neg h, if_neg h2]
theorem firstM_letter {s : MSig} {vars : List Int} {f : Nat} {n : Int} {rest : List Int} (h : ¬ (0 ≤ n ∧ n < s.ops.length)) (h2 : 100 ≤ n ∧ n < 100 + vars.length) : firstM s vars (f + 1) (n :: rest) = some (.leaf (n - 100).toNat (vars.getD (n - 100).toNat 0), rest) := by
  simp only [firstM]; rw [if_neg h, if_pos h2]
theorem firstM_nil {s : MSig} {vars : List Int} {f : Nat} : firstM s vars f [] = none := by cases f <;> rfl

theorem tail_addr {c : Nat} {x y : Addr} {A : Option Addr} (h : (if c = 1 then some x else some y) = A) : A = some y ∨ c - 1 = 0 := by
  by_cases hc : c = 1
  · right; omega
  · left; rw [← h, if_neg hc]

set_option maxRecDepth 100000 in
theorem first_empty (s : MSig) (vars : List Int) (f : Nat) (w : World) (v vv rv : Value) (h1 : RSig w v s) (h2 : RInts w vv vars) (h3 : RInts w rv []) :
    Calls Try.prog 73 #[v, vv, rv] w (ReadPost rv [] (firstM s vars f []) w) := by
  obtain ⟨u, rfl, hrr⟩ := h1
  obtain ⟨sorts, ops⟩ := s
  obtain ⟨A, c, rfl, -⟩ := hrr.form
  obtain ⟨A2, c2, rfl, -⟩ := h2.form
  obtain ⟨A3, c4, rfl, -⟩ := h3.form
  rw [firstM_nil]
  have HB := Lib.hid (below_alloc w (.cells #[.int .i64 sorts, .slice A ops.length c] 25))
  clear hrr h2 h3
  go_enter Try.func73, Try.ntmps73
  go_wp2
  refine bodyPost_ret (v := .tuple #[.nilIface, .slice none 0 0, .bool false]) (by simp [results, Try.results73, go_sem]) rfl ?_
  exact ⟨rfl, HB.out⟩

set_option maxHeartbeats 800000 in
set_option maxRecDepth 100000 in
theorem first_step (s : MSig) (vars : List Int) (hv : varsB s vars = true) (f : Nat) (ih : FirstAt s vars f) (n : Int) (rest : List Int) (w : World) (v vv rv : Value) (hr : rest.length ≤ f) (hsm : Small (n :: rest)) (h1 : RSig w v s) (h2 : RInts w vv vars) (h3 : RInts w rv (n :: rest)) :
    Calls Try.prog 73 #[v, vv, rv] w (ReadPost rv (n :: rest) (firstM s vars (f + 1) (n :: rest)) w) := by
  obtain ⟨u, rfl, hrr⟩ := h1
  obtain ⟨sorts, ops⟩ := s
  have hnb : n ≤ 9223372036854775807 := hsm n (List.mem_cons_self ..)
  have HSM := Lib.hid hsm
  clear hsm
  have hops := (valid_sorts (vars_valid hv).1).2.2
  have hvl := (vars_valid hv).2.1
  simp only at hops
  obtain ⟨A, c, rfl, -⟩ := hrr.form
  have hb1 := below_alloc w (.cells #[.int .i64 sorts, .slice A ops.length c] 25)
  have hbx := box_cells w (.int .i64 sorts) (.slice A ops.length c) 25
  have HS := Lib.hid (show RSig (w.alloc (.cells #[.int .i64 sorts, .slice A ops.length c] 25)) (.agg #[.int .i64 sorts, .slice A ops.length c]) ⟨sorts, ops⟩ from ⟨_, rfl, hrr.keep hb1⟩)
  have HV2 := Lib.hid (h2.keep hb1)
  have HV3 := Lib.hid (h3.keep hb1)
  have hlen3 := h3.len
  obtain ⟨b, o, c4, rfl, hx⟩ := (h3.keep hb1).at_ (k := 0) (by simp)
  obtain ⟨A', c4', e, hcl, hcm⟩ := h3.form
  cases e
  simp only [List.length_cons, List.getElem_cons_zero, Nat.add_zero] at hx hcl hlen3
  obtain ⟨A2, c2, rfl, -⟩ := h2.form
  have HB1 := Lib.hid hb1
  have f0 := hbx.1
  have f1 := hbx.2
  have hz : ((rest.length : Int) + 1 == 0) = false := by rw [beq_eq_false_iff_ne]; omega
  simp only [List.length_cons]
  by_cases c0 : n < 0
  · have HN := Lib.hid (firstM_bad (s := ⟨sorts, ops⟩) (vars := vars) (f := f) (rest := rest) (n := n) (by simp only; omega) (by omega))
    clear h2 h3 hrr hb1 hbx
    go_enter Try.func73, Try.ntmps73
    go_wp2
    refine bodyPost_ret (v := .tuple #[.nilIface, .slice none 0 0, .bool false]) (by simp [results, Try.results73, go_sem]) rfl ?_
    rw [HN.out]
    exact ⟨rfl, HB1.out⟩
  clear hb1 hbx hrr h3
  by_cases c1 : n < (ops.length : Int)
  · have HN := Lib.hid (firstM_op (s := ⟨sorts, ops⟩) (vars := vars) (f := f) (rest := rest) (n := n) ⟨by omega, c1⟩)
    clear h2
    obtain ⟨k, rfl⟩ := Int.eq_ofNat_of_zero_le (show 0 ≤ n by omega)
    go_enter Try.func73, Try.ntmps73
    go_wp2_with fail
    have hcc : (1 : Int) ≤ (c4 : Int) := by omega
    go_quiet (fail)
    generalize hA5 : (if c4 = 1 then (some (⟨b, o, none⟩ : Addr)) else some ⟨b, o + 1, none⟩) = A5
    have HSUF := Lib.hid (SufOf.tail (b := b) (o := o) (c := c4) (n := (k : Int)) (rest := rest) (A := A5) (tail_addr hA5))
    clear hA5
    go_wp2_with fail
    have HR5 := Lib.hid (HSUF.out.2 _ HV3.out)
    have hbq := below_drewN (Below.refl (w.alloc (.cells #[.int .i64 sorts, .slice A ops.length c] 25)).heap.size (w.alloc (.cells #[.int .i64 sorts, .slice A ops.length c] 25))) nq
    refine (opWithTerms_any ⟨sorts, ops⟩ vars hv f ih k (by simp only; omega) rest _ _ _ _ hr (fun x hx => HSM.out x (List.mem_cons_of_mem _ hx)) (HS.out.keep hbq) (HV2.out.keep hbq) (HR5.out.keep hbq)).mono ?_
    rintro e w2 ⟨hm, hb⟩
    have HBF := Lib.hid (HB1.out.trans ((below_drewN (Below.refl _ _) nq).trans hb |>.mono (by simp)))
    cases hf : nodeM ⟨sorts, ops⟩ vars f k rest with
    | none =>
      rw [hf] at hm
      simp only at hm
      subst hm
      have HFN := Lib.hid hf
      clear hf hb hbq
      go_wp2
      refine bodyPost_ret (v := .tuple #[.nilIface, .slice none 0 0, .bool false]) (by simp [results, Try.results73, go_sem]) rfl ?_
      rw [HN.out, Int.toNat_natCast, HFN.out]
      exact ⟨rfl, HBF.out⟩
    | some q =>
      obtain ⟨t, rb⟩ := q
      rw [hf] at hm
      simp only at hm
      obtain ⟨u, bv, rfl, hu, hbv⟩ := hm
      have HFS := Lib.hid hf
      have HU := Lib.hid hu
      have HBV := Lib.hid hbv
      obtain ⟨T, y, fid, rfl, -⟩ := hu.sorts
      obtain ⟨A6, c7, rfl⟩ := hbv.1
      clear hf hbv hb hbq hu
      go_wp2
      refine bodyPost_ret (v := .tuple #[.iface T y, .slice A6 rb.length c7, .bool true]) (by simp [results, Try.results73, go_sem]) rfl ?_
      rw [HN.out, Int.toNat_natCast, HFS.out]
      exact ⟨⟨_, _, rfl, HU.out.keep fun x hx _ => ⟨by simp at hx; omega, rfl⟩, HSUF.out.trans HBV.out⟩, HBF.out⟩
  · by_cases c2 : 100 ≤ n ∧ n < 100 + (vars.length : Int)
    · have HN := Lib.hid (firstM_letter (s := ⟨sorts, ops⟩) (vars := vars) (f := f) (rest := rest) (n := n) (by simp only; omega) c2)
      obtain ⟨k, rfl⟩ : ∃ k : Nat, n = 100 + (k : Int) := ⟨(n - 100).toNat, by omega⟩
      obtain ⟨hv2, hv3⟩ := c2
      have hk : k < vars.length := by omega
      obtain ⟨b6, o6, c6, e, hy⟩ := HV2.out.at_ hk
      cases e
      rw [show ((100 : Int) + (k : Int) - 100).toNat = k by omega, getD_at _ hk] at HN
      generalize vars[k] = y at hy HN
      go_enter Try.func73, Try.ntmps73
      go_wp2_with fail
      have hcc : (1 : Int) ≤ (c4 : Int) := by omega
      go_quiet (fail)
      generalize hA5 : (if c4 = 1 then (some (⟨b, o, none⟩ : Addr)) else some ⟨b, o + 1, none⟩) = A5
      have HSUF := Lib.hid (SufOf.tail (b := b) (o := o) (c := c4) (n := 100 + (k : Int)) (rest := rest) (A := A5) (tail_addr hA5))
      clear hA5
      have HBF := Lib.hid (below_drewN HB1.out nq)
      go_wp2
      refine bodyPost_ret (v := .tuple #[.iface 167 (.agg #[.int .i64 (100 + (k : Int) - 100), .int .i64 y]), .slice A5 rest.length (c4 - 1), .bool true]) (by simp [results, Try.results73, go_sem]) rfl ?_
      rw [HN.out]
      exact ⟨⟨_, _, rfl, by unfold RTerm; rw [show (100 : Int) + (k : Int) - 100 = (k : Int) by omega], HSUF.out⟩, HBF.out⟩
    · have HN := Lib.hid (firstM_bad (s := ⟨sorts, ops⟩) (vars := vars) (f := f) (rest := rest) (n := n) (by simp only; omega) c2)
      by_cases c3 : n < 100
      · go_enter Try.func73, Try.ntmps73
        go_wp2_with fail
        have hcc : (1 : Int) ≤ (c4 : Int) := by omega
        go_quiet (fail)
        generalize hA5 : (if c4 = 1 then (some (⟨b, o, none⟩ : Addr)) else some ⟨b, o + 1, none⟩) = A5
        clear hA5
        have HBF := Lib.hid (below_drewN HB1.out nq)
        go_wp2
        refine bodyPost_ret (v := .tuple #[.nilIface, .slice none 0 0, .bool false]) (by simp [results, Try.results73, go_sem]) rfl ?_
        rw [HN.out]
        exact ⟨rfl, HBF.out⟩
      · obtain ⟨k, rfl⟩ : ∃ k : Nat, n = 100 + (k : Int) := ⟨(n - 100).toNat, by omega⟩
        have hk : (vars.length : Int) ≤ 100 + (k : Int) - 100 := by omega
        go_enter Try.func73, Try.ntmps73
        go_wp2_with fail
        have hcc : (1 : Int) ≤ (c4 : Int) := by omega
        go_quiet (fail)
        generalize hA5 : (if c4 = 1 then (some (⟨b, o, none⟩ : Addr)) else some ⟨b, o + 1, none⟩) = A5
        clear hA5
        have HBF := Lib.hid (below_drewN HB1.out nq)
        go_wp2
        refine bodyPost_ret (v := .tuple #[.nilIface, .slice none 0 0, .bool false]) (by simp [results, Try.results73, go_sem]) rfl ?_
        rw [HN.out]
        exact ⟨rfl, HBF.out⟩

theorem first_any (s : MSig) (vars : List Int) (hv : varsB s vars = true) : ∀ f, FirstAt s vars f := by
  intro f
  induction f with
  | zero =>
    intro r w v vv rv hr hsm h1 h2 h3
    obtain rfl := List.eq_nil_of_length_eq_zero (Nat.le_zero.1 hr)
    exact first_empty s vars 0 w v vv rv h1 h2 h3
  | succ f ih =>
    intro r w v vv rv hr hsm h1 h2 h3
    cases r with
    | nil => exact first_empty s vars _ w v vv rv h1 h2 h3
    | cons n rest => exact first_step s vars hv f ih n rest w v vv rv (by simpa using hr) hsm h1 h2 h3

def TermPost (res : Option Tm) (w : World) (e : Ending) (w' : World) : Prop :=
  (match res with
    | some tm => ∃ u, e = .returned (.tuple #[u, .bool true]) ∧ RTerm w' (fun x => w.heap.size ≤ x) u tm
    | none => e = .returned (.tuple #[.nilIface, .bool false])) ∧ Below w.heap.size w w'
theorem termM_no {s : MSig} {vars t : List Int} (h : ¬ (varsB s vars = true ∧ t.length ≤ 30)) : termM s vars t = none := by unfold termM; rw [if_neg h]
theorem termM_yes {s : MSig} {vars t : List Int} (h : varsB s vars = true) (h2 : t.length ≤ 30) : termM s vars t = match firstM s vars 30 t with
    | some (tm, []) => some tm
    | _ => none := by
  unfold termM
  rw [if_pos ⟨h, h2⟩]
  cases firstM s vars 30 t with
  | none => rfl
  | some q => obtain ⟨tm, b⟩ := q; cases b <;> rfl

set_option maxRecDepth 100000 in
theorem termOf_any (s : MSig) (vars t : List Int) (w : World) (v vv tv : Value) (hsm : Small t) (h1 : RSig w v s) (h2 : RInts w vv vars) (h3 : RInts w tv t) :
    Calls Try.prog 65 #[v, vv, tv] w (TermPost (termM s vars t) w) := by
  obtain ⟨u, rfl, hrr⟩ := h1
  obtain ⟨sorts, ops⟩ := s
  obtain ⟨A, c, rfl, -⟩ := hrr.form
  have hb1 := below_alloc w (.cells #[.int .i64 sorts, .slice A ops.length c] 25)
  have hbx := Lib.hid (box_cells w (.int .i64 sorts) (.slice A ops.length c) 25)
  have HS := Lib.hid (show RSig (w.alloc (.cells #[.int .i64 sorts, .slice A ops.length c] 25)) (.agg #[.int .i64 sorts, .slice A ops.length c]) ⟨sorts, ops⟩ from ⟨_, rfl, hrr.keep hb1⟩)
  have HV2 := Lib.hid (h2.keep hb1)
  have HV3 := Lib.hid (h3.keep hb1)
  have hlen := h3.len
  obtain ⟨A2, c2, rfl, -⟩ := h2.form
  obtain ⟨A3, c3, rfl, -⟩ := h3.form
  have HB1 := Lib.hid hb1
  clear hrr h2 h3 hb1
  cases hv : varsB ⟨sorts, ops⟩ vars with
  | false =>
    have HN := Lib.hid (termM_no (s := ⟨sorts, ops⟩) (vars := vars) (t := t) (by rw [hv]; simp))
    have HV := Lib.hid hv
    clear hv
    go_enter Try.func65, Try.ntmps65
    go_wp2_with (go_at_call 128; refine (varsOk_any _ _ ⟨sorts, ops⟩ vars _ HS.out HV2.out).mono ?_; rw [HV.out]; rintro e w1 ⟨rfl, hb⟩)
    refine bodyPost_ret (v := .tuple #[.nilIface, .bool false]) (by simp [results, Try.results65, go_sem]) rfl ?_
    rw [HN.out]
    exact ⟨rfl, HB1.out.trans (hb.mono (by simp))⟩
  | true =>
    by_cases hl : 30 < (t.length : Int)
    · have HN := Lib.hid (termM_no (s := ⟨sorts, ops⟩) (vars := vars) (t := t) (by omega))
      have HV := Lib.hid hv
      clear hv
      go_enter Try.func65, Try.ntmps65
      go_wp2_with (go_at_call 128; refine (varsOk_any _ _ ⟨sorts, ops⟩ vars _ HS.out HV2.out).mono ?_; rw [HV.out]; rintro e w1 ⟨rfl, hb⟩)
      refine bodyPost_ret (v := .tuple #[.nilIface, .bool false]) (by simp [results, Try.results65, go_sem]) rfl ?_
      rw [HN.out]
      exact ⟨rfl, HB1.out.trans (hb.mono (by simp))⟩
    · have HN := Lib.hid (termM_yes hv (t := t) (by omega))
      have HV := Lib.hid hv
      clear hv
      have hl3 : (t.length : Int) ≤ 30 := by omega
      go_enter Try.func65, Try.ntmps65
      go_wp2_with (go_at_call 128; refine (varsOk_any _ _ ⟨sorts, ops⟩ vars _ HS.out HV2.out).mono ?_; rw [HV.out]; rintro e w1 ⟨rfl, hb⟩; have f0 := cell_keep hb hbx.out.1; have f1 := cell_keep hb hbx.out.2; have HB := Lib.hid hb; clear hb)
      refine (first_any ⟨sorts, ops⟩ vars HV.out 30 t _ _ _ _ (by omega) hsm (HS.out.keep HB.out) (HV2.out.keep HB.out) (HV3.out.keep HB.out)).mono ?_
      rintro e w2 ⟨hm, hb2⟩
      have s1 := HB.out.size
      simp at s1
      have HBF := Lib.hid ((HB1.out.trans (HB.out.mono (by simp))).trans (hb2.mono (by omega)))
      clear hb2 f0 f1
      cases hf : firstM ⟨sorts, ops⟩ vars 30 t with
      | none =>
        rw [hf] at hm
        simp only at hm
        subst hm
        have HF := Lib.hid hf
        clear hf
        go_wp2
        refine bodyPost_ret (v := .tuple #[.nilIface, .bool false]) (by simp [results, Try.results65, go_sem]) rfl ?_
        rw [HN.out, HF.out]
        exact ⟨rfl, HBF.out⟩
      | some q =>
        obtain ⟨tm, rb⟩ := q
        rw [hf] at hm
        simp only at hm
        obtain ⟨u, bv, rfl, hu, hbv⟩ := hm
        have HF := Lib.hid hf
        have HU := Lib.hid hu
        obtain ⟨T, y, fid, rfl, -⟩ := hu.sorts
        obtain ⟨A6, c7, rfl⟩ := hbv.1
        clear hf hbv hu
        by_cases hrb : 0 < (rb.length : Int)
        · go_wp2
          refine bodyPost_ret (v := .tuple #[.nilIface, .bool false]) (by simp [results, Try.results65, go_sem]) rfl ?_
          rw [HN.out, HF.out]
          cases rb with
          | nil => simp at hrb
          | cons x rb => exact ⟨rfl, HBF.out⟩
        · go_wp2
          refine bodyPost_ret (v := .tuple #[.iface T y, .bool true]) (by simp [results, Try.results65, go_sem]) rfl ?_
          rw [HN.out, HF.out]
          cases rb with
          | nil => exact ⟨⟨_, rfl, HU.out.keep fun x hx _ => ⟨by omega, rfl⟩⟩, HBF.out⟩
          | cons x rb => simp at hrb; omega
end

section
open Go.RowKit
set_option linter.unusedVariables false

def endV (t : List Int) : Option (Tm × List Int) → Value
  | some (tm, b) => .tuple #[.int .i64 ((t.length - b.length : Nat) : Int), .int .i64 tm.sort]
  | none => .tuple #[.int .i64 (-1), .int .i64 (-1)]
theorem endV_some (t : List Int) (tm : Tm) (b : List Int) : endV t (some (tm, b)) = .tuple #[.int .i64 ((t.length - b.length : Nat) : Int), .int .i64 tm.sort] := rfl
def EndAt (s : MSig) (vars : List Int) (f : Nat) : Prop := ∀ (t : List Int) (k : Nat) (w : World) (v vv tv : Value), (t.drop k).length ≤ f → RSig w v s → RInts w vv vars → RInts w tv t →
  Calls Try.prog 72 #[v, vv, tv, .int .i64 (k : Int)] w fun e w' => e = .returned (endV t (firstM s vars f (t.drop k))) ∧ Below w.heap.size w w'

theorem drop_rest {t x b : List Int} {e : Nat} (h : t.drop e = x ++ b) : b = t.drop (t.length - b.length) ∧ b.length ≤ t.length := by
  obtain ⟨y, rfl⟩ : ∃ y, t = y ++ b := ⟨t.take e ++ x, by rw [List.append_assoc, ← h, List.take_append_drop]⟩
  simp
theorem inB_letter {n : Int} {l : Nat} (q : Int) (hq : q = 100 + (l : Int) - 1) : inB n 100 q = decide (100 ≤ n ∧ n < 100 + (l : Int)) := by
  unfold inB; rw [← Bool.decide_and, decide_eq_decide]; omega
theorem inB_op {n : Int} {l : Nat} (q : Int) (hq : q = (l : Int) - 1) : inB n 0 q = decide (0 ≤ n ∧ n < (l : Int)) := by
  unfold inB; rw [← Bool.decide_and, decide_eq_decide]; omega

set_option maxRecDepth 100000 in
theorem end_past (s : MSig) (vars : List Int) (f : Nat) (t : List Int) (k : Nat) (w : World) (v vv tv : Value) (hk : t.length ≤ k) (h1 : RSig w v s) (h2 : RInts w vv vars) (h3 : RInts w tv t) :
    Calls Try.prog 72 #[v, vv, tv, .int .i64 (k : Int)] w fun e w' => e = .returned (endV t (firstM s vars f (t.drop k))) ∧ Below w.heap.size w w' := by
  obtain ⟨u, rfl, hrr⟩ := h1
  obtain ⟨sorts, ops⟩ := s
  obtain ⟨A, c, rfl, -⟩ := hrr.form
  obtain ⟨A2, c2, rfl, -⟩ := h2.form
  obtain ⟨A3, c4, rfl, -⟩ := h3.form
  rw [List.drop_of_length_le hk, firstM_nil]
  have HB := Lib.hid (below_alloc w (.cells #[.int .i64 sorts, .slice A ops.length c] 25))
  have hk' : (t.length : Int) ≤ (k : Int) := by omega
  clear hrr h2 h3
  go_enter Try.func72, Try.ntmps72
  go_wp2
  refine bodyPost_ret (v := .tuple #[.int .i64 (-1), .int .i64 (-1)]) (by simp [results, Try.results72, go_sem]) rfl ?_
  exact ⟨rfl, HB.out⟩

set_option maxHeartbeats 1600000 in
set_option maxRecDepth 100000 in
theorem end_step (s : MSig) (vars : List Int) (hv : varsB s vars = true) (f : Nat) (ih : EndAt s vars f) (t : List Int) (k : Nat) (w : World) (v vv tv : Value) (hk : k < t.length) (hr : (t.drop (k + 1)).length ≤ f) (h1 : RSig w v s) (h2 : RInts w vv vars) (h3 : RInts w tv t) :
    Calls Try.prog 72 #[v, vv, tv, .int .i64 (k : Int)] w fun e w' => e = .returned (endV t (firstM s vars (f + 1) (t.drop k))) ∧ Below w.heap.size w w' := by
  obtain ⟨u, rfl, hrr⟩ := h1
  obtain ⟨sorts, ops⟩ := s
  have hvs := valid_sorts (vars_valid hv).1
  have hops := hvs.2.2
  have hvl := (vars_valid hv).2.1
  simp only at hops
  obtain ⟨A, c, rfl, -⟩ := hrr.form
  have hb1 := below_alloc w (.cells #[.int .i64 sorts, .slice A ops.length c] 25)
  have hbx := box_cells w (.int .i64 sorts) (.slice A ops.length c) 25
  have HS := Lib.hid (show RSig (w.alloc (.cells #[.int .i64 sorts, .slice A ops.length c] 25)) (.agg #[.int .i64 sorts, .slice A ops.length c]) ⟨sorts, ops⟩ from ⟨_, rfl, hrr.keep hb1⟩)
  have HO := Lib.hid (hrr.keep hb1)
  have HV2 := Lib.hid (h2.keep hb1)
  have HV3 := Lib.hid (h3.keep hb1)
  have hlen3 := h3.len
  obtain ⟨b, o, c4, rfl, hx⟩ := (h3.keep hb1).at_ hk
  obtain ⟨A2, c2, rfl, -⟩ := h2.form
  rw [List.drop_eq_getElem_cons hk]
  generalize t[k] = n at hx ⊢
  have HB1 := Lib.hid hb1
  have f0 := hbx.1
  have f1 := hbx.2
  have hk' : (k : Int) < (t.length : Int) := by omega
  clear h2 h3 hrr hb1 hbx
  by_cases c1 : 100 ≤ n ∧ n < 100 + (vars.length : Int)
  · have HN := Lib.hid (firstM_letter (s := ⟨sorts, ops⟩) (vars := vars) (f := f) (rest := t.drop (k + 1)) (n := n) (by simp only; omega) c1)
    obtain ⟨m, rfl⟩ : ∃ m : Nat, n = 100 + (m : Int) := ⟨(n - 100).toNat, by omega⟩
    have hm : m < vars.length := by omega
    obtain ⟨b6, o6, c6, e, hy⟩ := HV2.out.at_ hm
    cases e
    rw [show ((100 : Int) + (m : Int) - 100).toNat = m by omega, getD_at _ hm] at HN
    generalize vars[m] = y at hy HN
    have HI := Lib.hid (show inB (100 + (m : Int)) 100 (100 + (vars.length : Int) - 1) = true by rw [inB_letter _ rfl]; simp; omega)
    go_enter Try.func72, Try.ntmps72
    go_wp2_with (go_at_call 90; refine (l1In_is _ _ _ _ _ HI.out).mono ?_; rintro e w' ⟨rfl, rfl⟩)
    have hw1 : IntKind.i64.wrap (100 + (m : Int) - 100) = (m : Int) := by rw [IntKind.wrap_i64]; omega
    have hw2 : IntKind.i64.wrap ((k : Int) + 1) = (k : Int) + 1 := by rw [IntKind.wrap_i64]; omega
    have hm0 : (0 : Int) ≤ (m : Int) := by omega
    have hm1 : (m : Int) < (vars.length : Int) := by omega
    have hk0 : (0 : Int) ≤ (k : Int) := by omega
    go_quiet (fail)
    have HBF := Lib.hid (below_drewN HB1.out nq)
    go_wp2
    refine bodyPost_ret (v := .tuple #[.int .i64 ((k : Int) + 1), .int .i64 y]) (by simp [results, Try.results72, go_sem]) rfl ?_
    rw [HN.out]
    refine ⟨?_, HBF.out⟩
    rw [endV_some, show ((t.length - (t.drop (k + 1)).length : Nat) : Int) = (k : Int) + 1 by rw [List.length_drop]; omega]
    rfl
  · have HI := Lib.hid (show inB n 100 (100 + (vars.length : Int) - 1) = false by rw [inB_letter _ rfl]; simpa using c1)
    have hk0 : (0 : Int) ≤ (k : Int) := by omega
    by_cases c2' : 0 ≤ n ∧ n < (ops.length : Int)
    · obtain ⟨op, rfl⟩ := Int.eq_ofNat_of_zero_le c2'.1
      have HJ := Lib.hid (show inB (op : Int) 0 ((ops.length : Int) - 1) = true by rw [inB_op _ rfl]; simpa using c2')
      have hop : op < ops.length := by omega
      have hrow := opRow_valid (vars_valid hv).1 (k := op) hop
      have hN : firstM ⟨sorts, ops⟩ vars (f + 1) ((op : Int) :: t.drop (k + 1)) = (match argsM (firstM ⟨sorts, ops⟩ vars f) ops[op].dropLast (t.drop (k + 1)) with
          | none => none
          | some (ts, b) => some (.node op (ops[op].getLastD (-1)) ts, b)) := by
        rw [firstM_op (s := ⟨sorts, ops⟩) c2']; unfold nodeM; rw [Int.toNat_natCast, opRow_at (s := ⟨sorts, ops⟩) hop]; try rfl
      rw [opRow_at hop] at hrow
      simp only at hrow
      obtain ⟨b2, o2, c6, u', e, hcell, hri⟩ := HO.out.at_ hop
      cases e
      generalize ops[op] = row at hcell hri hrow hN
      have hr1 := hrow.1
      have hr3 := hrow.2.1
      obtain ⟨n, hnl⟩ : ∃ n, row.length = n + 1 := ⟨row.length - 1, by omega⟩
      rw [last_at (by omega)] at hN
      obtain ⟨b', o', c3, rfl, hl⟩ := hri.at_ (k := row.length - 1) (by omega)
      generalize row[row.length - 1]'(by omega) = lv at hl hN
      rw [show row.length - 1 = n by omega] at hl
      rw [hnl] at hcell
      have HPOS := Lib.hid hrow.2.2
      have HN := Lib.hid hN
      have HRI := Lib.hid hri
      have HIH := Lib.hid ih
      have HC := Lib.hid (And.intro f0 (And.intro f1 hl))
      clear hN hri ih hv hrow
      go_enter Try.func72, Try.ntmps72
      go_wp2_with (go_at_call 90; refine (l1In_is _ _ _ _ _ HI.out).mono ?_; rintro e w' ⟨rfl, rfl⟩)
      have hw3 : IntKind.i64.wrap ((ops.length : Int) - 1) = (ops.length : Int) - 1 := by rw [IntKind.wrap_i64]; omega
      go_quiet ((go_at_call 90; exact quiet_left (l1In_is _ _ _ _ _ HJ.out)))
      go_wp2_with fail
      go_quiet (fail)
      go_wp2
      clear f0 f1 hl hcell hx hw3
      go_loopw [11, 12, 13, 14] (fun e11 j12 x13 s14 wr => ∃ (j e : Nat) (ts : List Tm), j ≤ n ∧ j12 = .int .i64 j ∧ e11 = .int .i64 e ∧ e ≤ t.length ∧ argsM (firstM ⟨sorts, ops⟩ vars f) (row.dropLast.take j) (t.drop (k + 1)) = some (ts, t.drop e) ∧ Below (w.alloc (.cells #[.int .i64 sorts, .slice (some ⟨b2, o2, none⟩) ops.length c] 25)).heap.size (w.alloc (.cells #[.int .i64 sorts, .slice (some ⟨b2, o2, none⟩) ops.length c] 25)) wr) (fun _ j _ _ _ => n - (intOf j).toNat)
      case atStart => exact ⟨0, k + 1, [], Nat.zero_le _, rfl, by go_num, by omega, rfl, by first | exact below_drewN (Below.refl _ _) _ | exact below_drewN (below_drewN (Below.refl _ _) _) _⟩
      case round =>
        obtain ⟨j, e, ts, hj, rfl, rfl, he, harg, hbw⟩ := hrel
        have f0 := cell_keep hbw HC.out.1
        have f1 := cell_keep hbw HC.out.2.1
        have f2 := cell_keep hbw HC.out.2.2
        have HBW := Lib.hid hbw
        have HARG := Lib.hid harg
        clear hbw harg
        by_cases hlt : j < n
        · obtain ⟨b7, o7, c8, e', hx⟩ := (HRI.out.keep HBW.out).at_ (k := j) (by omega)
          cases e'
          have hstep := argsM_step (ss := row.dropLast) (by rw [List.length_dropLast]; omega) HARG.out
          rw [List.getElem_dropLast] at hstep
          have hx0 := (HPOS.out _ (List.getElem_mem (show j < row.length by omega))).1
          generalize row[j]'(by omega) = x at hx hstep hx0
          have HSTEP := Lib.hid hstep
          clear hstep
          have hlt' : (j : Int) + 1 < (n : Int) + 1 := by omega
          go_wp2_with fail
          refine (HIH.out t e _ _ _ _ (Nat.le_trans (args_shorter HARG.out).1 hr) (HS.out.keep HBW.out) (HV2.out.keep HBW.out) (HV3.out.keep HBW.out)).mono ?_
          rintro e' w2 ⟨rfl, hb⟩
          have HB := Lib.hid hb
          have f00 := cell_keep hb f0
          have f01 := cell_keep hb f1
          have f02 := cell_keep hb f2
          have hx2 := cell_keep hb hx
          clear hb f0 f1 f2 hx
          cases hf : firstM ⟨sorts, ops⟩ vars f (t.drop e) with
          | none =>
            have HFN := Lib.hid hf
            clear hf
            have hne : (-1 : Int) ≠ x := by omega
            unfold endV
            go_wp2
            refine bodyPost_ret (v := .tuple #[.int .i64 (-1), .int .i64 (-1)]) (by simp [results, Try.results72, go_sem]) rfl ?_
            have h := HSTEP.out
            rw [HFN.out] at h
            rw [HN.out, argsM_take_none h]
            exact ⟨rfl, HB1.out.trans ((HBW.out.trans (HB.out.mono HBW.out.size)).mono HB1.out.size)⟩
          | some q =>
            obtain ⟨tm, rb⟩ := q
            rw [endV_some]
            obtain ⟨hd1, hd2⟩ := drop_rest (firstM_sound _ _ _ _ hf).1
            have HFS := Lib.hid hf
            clear hf
            by_cases hts : tm.sort = x
            · subst hts
              have h := HSTEP.out
              rw [HFS.out] at h
              simp only [if_true] at h
              rw [hd1] at h
              have HNEXT := Lib.hid h
              have HBN := Lib.hid (HBW.out.trans (HB.out.mono HBW.out.size))
              clear h hd1
              have he2 : t.length - rb.length ≤ t.length := by omega
              generalize t.length - rb.length = e2 at HNEXT he2 ⊢
              go_wp2
              go_roundw
              case rel => exact ⟨j + 1, e2, ts ++ [tm], by omega, by go_num, rfl, he2, HNEXT.out, HBN.out⟩
              case measure => simp [intOf]; omega
            · have h := HSTEP.out
              rw [HFS.out] at h
              simp only [if_neg hts] at h
              have HNONE := Lib.hid (argsM_take_none h)
              clear h hd1 hd2
              generalize tm.sort = q at hts ⊢
              go_wp2
              refine bodyPost_ret (v := .tuple #[.int .i64 (-1), .int .i64 (-1)]) (by simp [results, Try.results72, go_sem]) rfl ?_
              rw [HN.out, HNONE.out]
              exact ⟨rfl, HB1.out.trans ((HBW.out.trans (HB.out.mono HBW.out.size)).mono HB1.out.size)⟩
        · have hjn : ¬ (j : Int) + 1 < (n : Int) + 1 := by omega
          have h := HARG.out
          rw [take_all (by rw [List.length_dropLast]; omega)] at h
          have HARG2 := Lib.hid h
          clear h
          go_wp2_with fail
          have hw4 : IntKind.i64.wrap ((n : Int) + 1 - 1) = (n : Int) := by rw [IntKind.wrap_i64]; omega
          go_quiet (fail)
          go_wp2
          refine bodyPost_ret (v := .tuple #[.int .i64 (e : Int), .int .i64 lv]) (by simp [results, Try.results72, go_sem]) rfl ?_
          rw [HN.out, HARG2.out]
          refine ⟨?_, below_drewN (HB1.out.trans (HBW.out.mono HB1.out.size)) _⟩
          simp only
          rw [endV_some, show ((t.length - (t.drop e).length : Nat) : Int) = (e : Int) by rw [List.length_drop]; omega]
          rfl
    · have HN := Lib.hid (firstM_bad (s := ⟨sorts, ops⟩) (vars := vars) (f := f) (rest := t.drop (k + 1)) (n := n) c2' c1)
      have HJ := Lib.hid (show inB n 0 ((ops.length : Int) - 1) = false by rw [inB_op _ rfl]; simpa using c2')
      go_enter Try.func72, Try.ntmps72
      go_wp2_with (go_at_call 90; refine (l1In_is _ _ _ _ _ HI.out).mono ?_; rintro e w' ⟨rfl, rfl⟩)
      have hw3 : IntKind.i64.wrap ((ops.length : Int) - 1) = (ops.length : Int) - 1 := by rw [IntKind.wrap_i64]; omega
      go_quiet ((go_at_call 90; exact quiet_left (l1In_is _ _ _ _ _ HJ.out)))
      have HBF := Lib.hid (below_drewN HB1.out nq)
      go_wp2
      refine bodyPost_ret (v := .tuple #[.int .i64 (-1), .int .i64 (-1)]) (by simp [results, Try.results72, go_sem]) rfl ?_
      rw [HN.out]
      exact ⟨rfl, HBF.out⟩

theorem end_any (s : MSig) (vars : List Int) (hv : varsB s vars = true) : ∀ f, EndAt s vars f := by
  intro f
  induction f with
  | zero =>
    intro t k w v vv tv hr h1 h2 h3
    rw [List.length_drop] at hr
    exact end_past s vars 0 t k w v vv tv (by omega) h1 h2 h3
  | succ f ih =>
    intro t k w v vv tv hr h1 h2 h3
    by_cases hk : k < t.length
    · exact end_step s vars hv f ih t k w v vv tv hk (by rw [List.length_drop] at hr ⊢; omega) h1 h2 h3
    · exact end_past s vars _ t k w v vv tv (by omega) h1 h2 h3
end

section
open Go.RowKit
set_option linter.unusedVariables false

theorem sortM_none {s : MSig} {vars t : List Int} (h : termM s vars t = none) : sortM s vars t = -1 := by unfold sortM; rw [h]
theorem sortM_some {s : MSig} {vars t : List Int} {tm : Tm} (h : termM s vars t = some tm) : sortM s vars t = tm.sort := by unfold sortM; rw [h]

set_option maxRecDepth 100000 in
theorem termSort_any (s : MSig) (vars t : List Int) (w : World) (v vv tv : Value) (hsm : Small t) (h1 : RSig w v s) (h2 : RInts w vv vars) (h3 : RInts w tv t) :
    Calls Try.prog 15 #[v, vv, tv] w fun e w' => e = .returned (.int .i64 (sortM s vars t)) ∧ Below w.heap.size w w' := by
  obtain ⟨u, rfl, hrr⟩ := h1
  obtain ⟨sorts, ops⟩ := s
  obtain ⟨A, c, rfl, -⟩ := hrr.form
  have hb1 := below_alloc w (.cells #[.int .i64 sorts, .slice A ops.length c] 25)
  have hbx := Lib.hid (box_cells w (.int .i64 sorts) (.slice A ops.length c) 25)
  have HS := Lib.hid (show RSig (w.alloc (.cells #[.int .i64 sorts, .slice A ops.length c] 25)) (.agg #[.int .i64 sorts, .slice A ops.length c]) ⟨sorts, ops⟩ from ⟨_, rfl, hrr.keep hb1⟩)
  have HV2 := Lib.hid (h2.keep hb1)
  have HV3 := Lib.hid (h3.keep hb1)
  obtain ⟨A2, c2, rfl, -⟩ := h2.form
  obtain ⟨A3, c3, rfl, -⟩ := h3.form
  have HB1 := Lib.hid hb1
  clear hrr h2 h3 hb1
  go_enter Try.func15, Try.ntmps15
  go_wp2_with fail
  refine (termOf_any ⟨sorts, ops⟩ vars t _ _ _ _ hsm HS.out HV2.out HV3.out).mono ?_
  rintro e w1 ⟨hm, hb⟩
  have HBF := Lib.hid (HB1.out.trans (hb.mono (by simp)))
  cases ht : termM ⟨sorts, ops⟩ vars t with
  | none =>
    rw [ht] at hm
    simp only at hm
    subst hm
    have HR := Lib.hid (sortM_none ht)
    clear ht hb
    go_wp2
    go_ret
    exact ⟨ret_int HR.out.symm, HBF.out⟩
  | some tm =>
    rw [ht] at hm
    simp only at hm
    obtain ⟨u, rfl, hu⟩ := hm
    have HR := Lib.hid (sortM_some ht)
    obtain ⟨T, y, fid, rfl, hms, hcf, hsc⟩ := hu.sorts
    have HSC := Lib.hid hsc
    clear ht hb hu hsc
    go_wp2_with fail
    refine (HSC.out _).mono ?_
    rintro e w3 ⟨rfl, hb3⟩
    have HB3 := Lib.hid hb3
    clear hb3
    go_wp2
    go_ret
    exact ⟨ret_int HR.out.symm, HBF.out.trans (HB3.out.mono HBF.out.size)⟩

set_option maxRecDepth 100000 in
theorem specTermSort_any (s : MSig) (vars t : List Int) (w : World) (v vv tv : Value) (h1 : RSig w v s) (h2 : RInts w vv vars) (h3 : RInts w tv t) :
    Calls Try.prog 13 #[v, vv, tv] w fun e w' => e = .returned (.int .i64 (sortM s vars t)) ∧ Below w.heap.size w w' := by
  obtain ⟨u, rfl, hrr⟩ := h1
  obtain ⟨sorts, ops⟩ := s
  obtain ⟨A, c, rfl, -⟩ := hrr.form
  have hb1 := below_alloc w (.cells #[.int .i64 sorts, .slice A ops.length c] 25)
  have hbx := Lib.hid (box_cells w (.int .i64 sorts) (.slice A ops.length c) 25)
  have HS := Lib.hid (show RSig (w.alloc (.cells #[.int .i64 sorts, .slice A ops.length c] 25)) (.agg #[.int .i64 sorts, .slice A ops.length c]) ⟨sorts, ops⟩ from ⟨_, rfl, hrr.keep hb1⟩)
  have HV2 := Lib.hid (h2.keep hb1)
  have HV3 := Lib.hid (h3.keep hb1)
  have hlen := h3.len
  obtain ⟨A2, c2, rfl, -⟩ := h2.form
  obtain ⟨A3, c3, rfl, -⟩ := h3.form
  have HB1 := Lib.hid hb1
  clear hrr h2 h3 hb1
  cases hv : varsB ⟨sorts, ops⟩ vars with
  | false =>
    have HR := Lib.hid (sortM_none (termM_no (s := ⟨sorts, ops⟩) (vars := vars) (t := t) (by rw [hv]; simp)))
    have HV := Lib.hid hv
    clear hv
    go_enter Try.func13, Try.ntmps13
    go_wp2_with (go_at_call 71; refine (specVarsOk_any _ _ ⟨sorts, ops⟩ vars _ HS.out HV2.out).mono ?_; rw [HV.out]; rintro e w1 ⟨rfl, hb⟩)
    go_ret
    exact ⟨ret_int HR.out.symm, HB1.out.trans (hb.mono (by simp))⟩
  | true =>
    by_cases hl : 30 < (t.length : Int)
    · have HR := Lib.hid (sortM_none (termM_no (s := ⟨sorts, ops⟩) (vars := vars) (t := t) (by omega)))
      have HV := Lib.hid hv
      clear hv
      go_enter Try.func13, Try.ntmps13
      go_wp2_with (go_at_call 71; refine (specVarsOk_any _ _ ⟨sorts, ops⟩ vars _ HS.out HV2.out).mono ?_; rw [HV.out]; rintro e w1 ⟨rfl, hb⟩)
      go_ret
      exact ⟨ret_int HR.out.symm, HB1.out.trans (hb.mono (by simp))⟩
    · have HN := Lib.hid (termM_yes hv (t := t) (by omega))
      have HV := Lib.hid hv
      have HSO : Hid (∀ tm, wfT ⟨sorts, ops⟩ vars tm → 0 ≤ tm.sort) := fun tm h => (sort_ok hv h).1
      clear hv
      have hl3 : (t.length : Int) ≤ 30 := by omega
      go_enter Try.func13, Try.ntmps13
      go_wp2_with (go_at_call 71; refine (specVarsOk_any _ _ ⟨sorts, ops⟩ vars _ HS.out HV2.out).mono ?_; rw [HV.out]; rintro e w1 ⟨rfl, hb⟩; have f0 := cell_keep hb hbx.out.1; have f1 := cell_keep hb hbx.out.2; have HB := Lib.hid hb; clear hb)
      refine (end_any ⟨sorts, ops⟩ vars HV.out 30 t 0 _ _ _ _ (by simp; omega) (HS.out.keep HB.out) (HV2.out.keep HB.out) (HV3.out.keep HB.out)).mono ?_
      rintro e w2 ⟨rfl, hb2⟩
      rw [List.drop_zero]
      have s1 := HB.out.size
      simp at s1
      have HBF := Lib.hid ((HB1.out.trans (HB.out.mono (by simp))).trans (hb2.mono (by omega)))
      clear hb2 f0 f1
      cases hf : firstM ⟨sorts, ops⟩ vars 30 t with
      | none =>
        have HR := Lib.hid (show sortM ⟨sorts, ops⟩ vars t = -1 from sortM_none (by rw [HN.out, hf]))
        clear hf
        have hne : (-1 : Int) ≠ (t.length : Int) := by omega
        unfold endV
        go_wp2
        go_ret
        exact ⟨ret_int HR.out.symm, HBF.out⟩
      | some q =>
        obtain ⟨tm, rb⟩ := q
        rw [endV_some]
        have hs := firstM_sound _ _ _ _ hf
        by_cases hrb : rb = []
        · subst hrb
          have HR := Lib.hid (show sortM ⟨sorts, ops⟩ vars t = tm.sort from sortM_some (by rw [HN.out, hf]))
          have he : ((t.length - ([] : List Int).length : Nat) : Int) = (t.length : Int) := by simp
          rw [he]
          clear hf hs he
          generalize tm.sort = q at HR ⊢
          go_wp2
          go_ret
          exact ⟨ret_int HR.out.symm, HBF.out⟩
        · have HR := Lib.hid (show sortM ⟨sorts, ops⟩ vars t = -1 from sortM_none (by rw [HN.out, hf]; cases rb with | nil => exact absurd rfl hrb | cons x l => rfl))
          have hne : ((t.length - rb.length : Nat) : Int) ≠ (t.length : Int) := by
            have h1 := congrArg List.length hs.1
            have h2 : 0 < rb.length := List.length_pos_iff.2 hrb
            rw [List.length_append] at h1
            omega
          clear hf hs
          generalize ((t.length - rb.length : Nat) : Int) = e2 at hne ⊢
          generalize tm.sort = q
          go_wp2
          go_ret
          exact ⟨ret_int HR.out.symm, HBF.out⟩
end

section
open Go.RowKit
set_option linter.unusedVariables false

def fitP (s : MSig) (vars : List Int) (q : List Int × Int) : Bool := decide (0 ≤ q.2) && decide (sortM s vars q.1 = q.2)
theorem fitsB_eq (s : MSig) (vars : List Int) (terms : List (List Int)) (sorts : List Int) : fitsB s vars terms sorts = (varsB s vars && (decide (terms.length = sorts.length) && (terms.zip sorts).all (fitP s vars))) := rfl
theorem bel_drew {a w : World} {B : Nat} (h : Below B a w) : Below B a w.drew := ⟨h.os, h.tape, h.output, h.size, h.block⟩
theorem bel_undrew {B : Nat} {w w' : World} (h : Below B w.drew w') : Below B w w' := ⟨h.os, h.tape, h.output, h.size, h.block⟩

/-- of two worlds behind one the later one keeps what the earlier one had -/
theorem fit_keep {w w1 w2 : World} (h : Below w.heap.size w w1) (k : Below w1.heap.size w1 w2) : Below w.heap.size w w2 := h.trans (k.mono h.size)

set_option maxHeartbeats 800000 in
set_option maxRecDepth 100000 in
theorem termsFit_any (s : MSig) (vars : List Int) (terms : List (List Int)) (srts : List Int) (w : World) (v vv tv sv : Value) (hsm : ∀ t ∈ terms, Small t) (h1 : RSig w v s) (h2 : RInts w vv vars) (h3 : RRows w tv terms) (h4 : RInts w sv srts) :
    Calls Try.prog 112 #[v, vv, tv, sv] w fun e w' => e = .returned (.bool (fitsB s vars terms srts)) ∧ Below w.heap.size w w' := by
  obtain ⟨u, rfl, hrr⟩ := h1
  obtain ⟨sorts, ops⟩ := s
  obtain ⟨A, c, rfl, -⟩ := hrr.form
  have hb1 := below_alloc w (.cells #[.int .i64 sorts, .slice A ops.length c] 25)
  have hbx := Lib.hid (box_cells w (.int .i64 sorts) (.slice A ops.length c) 25)
  have HS := Lib.hid (show RSig (w.alloc (.cells #[.int .i64 sorts, .slice A ops.length c] 25)) (.agg #[.int .i64 sorts, .slice A ops.length c]) ⟨sorts, ops⟩ from ⟨_, rfl, hrr.keep hb1⟩)
  have HV2 := Lib.hid (h2.keep hb1)
  have HV3 := Lib.hid (h3.keep hb1)
  have HV4 := Lib.hid (h4.keep hb1)
  have hl3 := h3.len
  have hl4 := h4.len
  obtain ⟨A2, c2, rfl, -⟩ := h2.form
  obtain ⟨A3, c3, rfl, -⟩ := h3.form
  obtain ⟨A4, c4, rfl, -⟩ := h4.form
  have HB1 := Lib.hid hb1
  have HSM := Lib.hid hsm
  have HE := Lib.hid (fitsB_eq ⟨sorts, ops⟩ vars terms srts)
  clear hrr h2 h3 h4 hb1 hsm
  cases hv : varsB ⟨sorts, ops⟩ vars with
  | false =>
    have HV := Lib.hid hv
    clear hv
    go_enter Try.func112, Try.ntmps112
    go_wp2_with (go_at_call 128; refine (varsOk_any _ _ ⟨sorts, ops⟩ vars _ HS.out HV2.out).mono ?_; rw [HV.out]; rintro e w1 ⟨rfl, hb⟩)
    go_ret
    exact ⟨ret_bool (by rw [HE.out, HV.out]; rfl), HB1.out.trans (hb.mono (by simp))⟩
  | true =>
    by_cases hll : (terms.length : Int) = (srts.length : Int)
    · have HLL := Lib.hid hll
      have HV := Lib.hid hv
      clear hv
      go_enter Try.func112, Try.ntmps112
      go_wp2_with (go_at_call 128; refine (varsOk_any _ _ ⟨sorts, ops⟩ vars _ HS.out HV2.out).mono ?_; rw [HV.out]; rintro e w1 ⟨rfl, hb⟩; have HB := Lib.hid hb; clear hb)
      go_loopw [9, 10, 11, 12, 26] (fun q9 q10 q11 q12 i wr => ∃ k : Nat, k ≤ terms.length ∧ i = .int .i64 k ∧ ((terms.zip srts).take k).all (fitP ⟨sorts, ops⟩ vars) = true ∧ Below (w.alloc (.cells #[.int .i64 sorts, .slice A ops.length c] 25)).heap.size (w.alloc (.cells #[.int .i64 sorts, .slice A ops.length c] 25)) wr) (fun _ _ _ _ i _ => terms.length - (intOf i).toNat)
      case atStart => exact ⟨0, Nat.zero_le _, rfl, rfl, HB.out⟩
      case round =>
        obtain ⟨k, hk, rfl, hall, hbw⟩ := hrel
        have g0 := cell_keep hbw hbx.out.1
        have g1 := cell_keep hbw hbx.out.2
        have HBW := Lib.hid hbw
        have HALL := Lib.hid hall
        clear hbw hall
        by_cases hlt : k < terms.length
        · have hls : k < srts.length := by have := HLL.out; omega
          have hlt' : (k : Int) < (terms.length : Int) := by omega
          have hls' : (k : Int) < (srts.length : Int) := by omega
          have hz : k < (terms.zip srts).length := by rw [List.length_zip]; omega
          obtain ⟨b3, o3, c3', u3, e, hcell, hri⟩ := (HV3.out.keep HBW.out).at_ hlt
          cases e
          obtain ⟨b4, o4, c4', e, hx⟩ := (HV4.out.keep HBW.out).at_ hls
          cases e
          have HST := Lib.hid (HSM.out _ (List.getElem_mem hlt))
          have HTK := Lib.hid (all_take (p := fitP ⟨sorts, ops⟩ vars) hz)
          have HBAD := Lib.hid (all_bad (p := fitP ⟨sorts, ops⟩ vars) hz)
          rw [List.getElem_zip] at HTK HBAD
          generalize terms[k] = t at hcell hri HST HTK HBAD
          generalize srts[k] = x at hx HTK HBAD
          have HRI := Lib.hid hri
          obtain ⟨A5, c5, rfl, -⟩ := hri.form
          clear hri hz
          go_wp2_with fail
          refine (termOf_any ⟨sorts, ops⟩ vars t _ _ _ _ HST.out (HS.out.keep HBW.out) (HV2.out.keep HBW.out) HRI.out).mono ?_
          rintro e w2 ⟨hm, hb⟩
          have HB2 := Lib.hid hb
          have hx2 := cell_keep hb hx
          clear hb g0 g1 hcell hx
          cases ht : termM ⟨sorts, ops⟩ vars t with
          | none =>
            rw [ht] at hm
            simp only at hm
            subst hm
            have HT := Lib.hid (sortM_none ht)
            clear ht
            go_wp2_with fail
            go_quiet (fail)
            go_wp2
            go_ret
            refine ⟨ret_bool ?_, below_drewN (HB1.out.trans ((fit_keep HBW.out HB2.out).mono (by simp))) _⟩
            rw [HE.out, HBAD.out (by unfold fitP; rw [HT.out]; simp; omega)]; simp
          | some tm =>
            rw [ht] at hm
            simp only at hm
            obtain ⟨u, rfl, hu⟩ := hm
            obtain ⟨T, y, fid, rfl, hms, hcf, hsc⟩ := hu.sorts
            have HT := Lib.hid (sortM_some ht)
            have HTM := Lib.hid (sort_ok HV.out (termM_to ht).2.2.1).1
            have HSC := Lib.hid hsc
            clear ht hu hsc
            go_wp2_with fail
            have ea := World.new_ne w2 _ hx2
            go_region_held3 (fun w' => w'.cell? ⟨b4, o4 + k, none⟩ = some (.int .i64 x)) (first | go_keep)
              (first
                | (with_reducible (show Calls _ _ _ _ _); refine (HSC.out w2.drew).mono ?_; rintro e w3 ⟨rfl, hb3⟩; have HB3 := Lib.hid (bel_undrew hb3); have hx3 := cell_keep HB3.out hx2; clear hb3))
            clear hms hcf HSC ea hx2 hx3
            have HBN := Lib.hid (HBW.out.trans ((HB2.out.trans (HB3.out.mono HB2.out.size)).mono HBW.out.size))
            generalize hq : tm.sort = q at HT HTM ⊢
            clear hq
            by_cases hqx : q = x
            · subst hqx
              go_wp2
              go_roundw
              case rel =>
                refine ⟨k + 1, by omega, by go_num, ?_, ?_⟩
                · rw [HTK.out, HALL.out]; unfold fitP; rw [HT.out]; simp; exact HTM.out
                · exact HBN.out
              case measure => simp [intOf]; omega
            · have hqb : (q != x) = true := by simpa using hqx
              go_wp2
              go_ret
              refine ⟨ret_bool ?_, HB1.out.trans (HBN.out.mono (by simp))⟩
              rw [HE.out, HBAD.out (by unfold fitP; rw [HT.out]; simp [hqx])]; simp
        · have hkn : ¬ (k : Int) < (terms.length : Int) := by omega
          go_wp2
          go_ret
          refine ⟨ret_bool ?_, HB1.out.trans (HBW.out.mono (by simp))⟩
          have h := HALL.out
          rw [take_all (by rw [List.length_zip]; omega)] at h
          rw [HE.out, h, HV.out]; have := HLL.out; simp; omega
    · have HV := Lib.hid hv
      clear hv
      go_enter Try.func112, Try.ntmps112
      go_wp2_with (go_at_call 128; refine (varsOk_any _ _ ⟨sorts, ops⟩ vars _ HS.out HV2.out).mono ?_; rw [HV.out]; rintro e w1 ⟨rfl, hb⟩)
      go_ret
      exact ⟨ret_bool (by rw [HE.out, HV.out]; simp; omega), HB1.out.trans (hb.mono (by simp))⟩

set_option maxHeartbeats 800000 in
set_option maxRecDepth 100000 in
theorem specTermsFit_any (s : MSig) (vars : List Int) (terms : List (List Int)) (srts : List Int) (w : World) (v vv tv sv : Value) (hsm : ∀ t ∈ terms, Small t) (h1 : RSig w v s) (h2 : RInts w vv vars) (h3 : RRows w tv terms) (h4 : RInts w sv srts) :
    Calls Try.prog 104 #[v, vv, tv, sv] w fun e w' => e = .returned (.bool (fitsB s vars terms srts)) ∧ Below w.heap.size w w' := by
  obtain ⟨u, rfl, hrr⟩ := h1
  obtain ⟨sorts, ops⟩ := s
  obtain ⟨A, c, rfl, -⟩ := hrr.form
  have hb1 := below_alloc w (.cells #[.int .i64 sorts, .slice A ops.length c] 25)
  have hbx := Lib.hid (box_cells w (.int .i64 sorts) (.slice A ops.length c) 25)
  have HS := Lib.hid (show RSig (w.alloc (.cells #[.int .i64 sorts, .slice A ops.length c] 25)) (.agg #[.int .i64 sorts, .slice A ops.length c]) ⟨sorts, ops⟩ from ⟨_, rfl, hrr.keep hb1⟩)
  have HV2 := Lib.hid (h2.keep hb1)
  have HV3 := Lib.hid (h3.keep hb1)
  have HV4 := Lib.hid (h4.keep hb1)
  have hl3 := h3.len
  have hl4 := h4.len
  obtain ⟨A2, c2, rfl, -⟩ := h2.form
  obtain ⟨A3, c3, rfl, -⟩ := h3.form
  obtain ⟨A4, c4, rfl, -⟩ := h4.form
  have HB1 := Lib.hid hb1
  have HSM := Lib.hid hsm
  have HE := Lib.hid (fitsB_eq ⟨sorts, ops⟩ vars terms srts)
  clear hrr h2 h3 h4 hb1 hsm
  go_enter Try.func104, Try.ntmps104
  go_wp2
  go_loopw [9] (fun i wr => ∃ k : Nat, k ≤ terms.length ∧ k ≤ srts.length ∧ i = .int .i64 k ∧ ((terms.zip srts).take k).all (fitP ⟨sorts, ops⟩ vars) = true ∧ Below (w.alloc (.cells #[.int .i64 sorts, .slice A ops.length c] 25)).heap.size (w.alloc (.cells #[.int .i64 sorts, .slice A ops.length c] 25)) wr) (fun i _ => terms.length - (intOf i).toNat)
  case atStart => exact ⟨0, Nat.zero_le _, Nat.zero_le _, rfl, rfl, Below.refl _ _⟩
  case round =>
    obtain ⟨k, hk, hk2, rfl, hall, hbw⟩ := hrel
    have g0 := cell_keep hbw hbx.out.1
    have g1 := cell_keep hbw hbx.out.2
    have HBW := Lib.hid hbw
    have HALL := Lib.hid hall
    clear hbw hall
    by_cases hlt : k < terms.length
    · by_cases hls : k < srts.length
      · have hlt' : (k : Int) < (terms.length : Int) := by omega
        have hls' : (k : Int) < (srts.length : Int) := by omega
        have hk0 : (0 : Int) ≤ (k : Int) := by omega
        have hz : k < (terms.zip srts).length := by rw [List.length_zip]; omega
        obtain ⟨b3, o3, c3', u3, e, hcell, hri⟩ := (HV3.out.keep HBW.out).at_ hlt
        cases e
        obtain ⟨b4, o4, c4', e, hx⟩ := (HV4.out.keep HBW.out).at_ hls
        cases e
        have HST := Lib.hid (HSM.out _ (List.getElem_mem hlt))
        have HTK := Lib.hid (all_take (p := fitP ⟨sorts, ops⟩ vars) hz)
        have HBAD := Lib.hid (all_bad (p := fitP ⟨sorts, ops⟩ vars) hz)
        rw [List.getElem_zip] at HTK HBAD
        generalize terms[k] = t at hcell hri HST HTK HBAD
        generalize srts[k] = x at hx HTK HBAD
        have HRI := Lib.hid hri
        obtain ⟨A5, c5, rfl, -⟩ := hri.form
        clear hri hz
        obtain ⟨q, hq⟩ : ∃ q, sortM ⟨sorts, ops⟩ vars t = q := ⟨_, rfl⟩
        have HQ := Lib.hid hq
        clear hq
        by_cases hqx : q = x
        · subst hqx
          have hqb : (q != q) = false := by simp
          by_cases hq0 : q < 0
          · go_wp2_with fail
            have ea := World.new_ne wr _ g0
            have eb := World.new_ne wr _ hcell
            have ec := World.new_ne wr _ hx
            go_region_held3 (fun w' => w'.cell? ⟨w.heap.size, 0, none⟩ = some (.int .i64 sorts) ∧ w'.cell? ⟨w.heap.size, 1, none⟩ = some (.slice A ops.length c) ∧ w'.cell? ⟨b3, o3 + k, none⟩ = some (.slice A5 t.length c5) ∧ w'.cell? ⟨b4, o4 + k, none⟩ = some (.int .i64 q)) (first | go_keep)
              (first
                | (go_at_call 13; refine (specTermSort_any ⟨sorts, ops⟩ vars t wr.drew _ _ _ (HS.out.keep (bel_drew HBW.out)) (HV2.out.keep (bel_drew HBW.out)) HRI.out).mono ?_; rw [HQ.out]; rintro e w2 ⟨rfl, hb2⟩; have HB2 := Lib.hid (bel_undrew hb2); have j0 := cell_keep HB2.out g0; have j1 := cell_keep HB2.out g1; have j2 := cell_keep HB2.out hcell; have j3 := cell_keep HB2.out hx; clear hb2))
            clear g0 g1 hcell hx ea eb ec j0 j1 j2 j3
            have HBN := Lib.hid (fit_keep HBW.out HB2.out)
            go_wp2
            go_ret
            refine ⟨ret_bool ?_, HB1.out.trans (HBN.out.mono (by simp))⟩
            rw [HE.out, HBAD.out (by unfold fitP; simp; omega)]; simp
          · go_wp2_with fail
            have ea := World.new_ne wr _ g0
            have eb := World.new_ne wr _ hcell
            have ec := World.new_ne wr _ hx
            go_region_held3 (fun w' => w'.cell? ⟨w.heap.size, 0, none⟩ = some (.int .i64 sorts) ∧ w'.cell? ⟨w.heap.size, 1, none⟩ = some (.slice A ops.length c) ∧ w'.cell? ⟨b3, o3 + k, none⟩ = some (.slice A5 t.length c5) ∧ w'.cell? ⟨b4, o4 + k, none⟩ = some (.int .i64 q)) (first | go_keep)
              (first
                | (go_at_call 13; refine (specTermSort_any ⟨sorts, ops⟩ vars t wr.drew _ _ _ (HS.out.keep (bel_drew HBW.out)) (HV2.out.keep (bel_drew HBW.out)) HRI.out).mono ?_; rw [HQ.out]; rintro e w2 ⟨rfl, hb2⟩; have HB2 := Lib.hid (bel_undrew hb2); have j0 := cell_keep HB2.out g0; have j1 := cell_keep HB2.out g1; have j2 := cell_keep HB2.out hcell; have j3 := cell_keep HB2.out hx; clear hb2))
            clear g0 g1 hcell hx ea eb ec j0 j1 j2 j3
            have HBN := Lib.hid (fit_keep HBW.out HB2.out)
            go_wp2
            go_roundw
            case rel =>
              refine ⟨k + 1, by omega, by omega, by go_num, ?_, HBN.out⟩
              rw [HTK.out, HALL.out]; unfold fitP; rw [HQ.out]; simp; omega
            case measure => simp [intOf]; omega
        · have hqb : (q != x) = true := by simpa using hqx
          go_wp2_with fail
          have ea := World.new_ne wr _ g0
          have eb := World.new_ne wr _ hcell
          have ec := World.new_ne wr _ hx
          first
            | (go_region_law (first
                | (go_simp; go_at_call 13; refine (specTermSort_any ⟨sorts, ops⟩ vars t wr.drew _ _ _ (HS.out.keep (bel_drew HBW.out)) (HV2.out.keep (bel_drew HBW.out)) HRI.out).mono ?_; rw [HQ.out]; rintro e w2 ⟨rfl, hb2⟩; have HB2 := Lib.hid (bel_undrew hb2); have j0 := cell_keep HB2.out g0; have j1 := cell_keep HB2.out g1; have j2 := cell_keep HB2.out hcell; have j3 := cell_keep HB2.out hx; clear hb2)))
            | fail "stuck"
          all_goals
           clear g0 g1 hcell hx ea eb ec j0 j1 j2 j3
           have HBN := Lib.hid (fit_keep HBW.out HB2.out)
           go_wp2
           go_ret
           refine ⟨ret_bool ?_, HB1.out.trans (HBN.out.mono (by simp))⟩
           rw [HE.out, HBAD.out (by unfold fitP; rw [HQ.out]; simp [hqx])]; simp
      · have hls' : ¬ (k : Int) < (srts.length : Int) := by omega
        have hne : terms.length ≠ srts.length := by omega
        have HNE := Lib.hid hne
        clear hne
        have hneb : ((terms.length : Int) == (srts.length : Int)) = false := by rw [beq_eq_false_iff_ne]; have := HNE.out; omega
        have hlt' : (k : Int) < (terms.length : Int) := by omega
        go_wp2_with fail
        refine (specVarsOk_any _ _ ⟨sorts, ops⟩ vars _ (HS.out.keep HBW.out) (HV2.out.keep HBW.out)).mono ?_
        rintro e w1 ⟨rfl, hb⟩
        have HBF := Lib.hid (HB1.out.trans ((fit_keep HBW.out hb).mono (by simp)))
        have HF : Hid (fitsB ⟨sorts, ops⟩ vars terms srts = false) := by unfold Hid; rw [HE.out, decide_eq_false HNE.out]; simp
        clear hb g0 g1
        cases hv : varsB ⟨sorts, ops⟩ vars with
        | false =>
          clear hv
          go_wp2
          go_ret
          exact ⟨ret_bool HF.out.symm, HBF.out⟩
        | true =>
          clear hv
          go_wp2
          go_ret
          exact ⟨ret_bool HF.out.symm, HBF.out⟩
    · have hlt' : ¬ (k : Int) < (terms.length : Int) := by omega
      go_wp2_with fail
      refine (specVarsOk_any _ _ ⟨sorts, ops⟩ vars _ (HS.out.keep HBW.out) (HV2.out.keep HBW.out)).mono ?_
      rintro e w1 ⟨rfl, hb⟩
      have HBF := Lib.hid (HB1.out.trans ((fit_keep HBW.out hb).mono (by simp)))
      clear hb g0 g1
      cases hv : varsB ⟨sorts, ops⟩ vars with
      | false =>
        have HF : Hid (fitsB ⟨sorts, ops⟩ vars terms srts = false) := by unfold Hid; rw [HE.out, hv]; simp
        clear hv
        go_wp2
        go_ret
        exact ⟨ret_bool HF.out.symm, HBF.out⟩
      | true =>
        have HF : Hid (fitsB ⟨sorts, ops⟩ vars terms srts = decide ((terms.length : Int) = (srts.length : Int))) := by
          unfold Hid
          have h := HALL.out
          rw [HE.out, hv]
          by_cases hll : terms.length = srts.length
          · rw [take_all (by rw [List.length_zip]; omega)] at h
            rw [h, decide_eq_true hll, decide_eq_true (by omega)]; rfl
          · rw [decide_eq_false hll, decide_eq_false (by omega)]; rfl
        clear hv
        go_wp2
        go_ret
        refine ⟨ret_bool ?_, HBF.out⟩
        rw [HF.out]; first | rfl | simp
end

section
open Go.RowKit
set_option linter.unusedVariables false
set_option linter.unusedSimpArgs false

theorem eqOkB_no {s : MSig} {e : MEq} (h : ¬ 0 ≤ sortM s e.vars e.left) : eqOkB s e = false := by unfold eqOkB; simp [h]
theorem eqOkB_cmp {s : MSig} {e : MEq} (h : 0 ≤ sortM s e.vars e.left) : eqOkB s e = (sortM s e.vars e.right == sortM s e.vars e.left) := by
  unfold eqOkB; rw [decide_eq_true h, Bool.true_and]; rfl

set_option maxRecDepth 100000 in
theorem eqOk_any (s : MSig) (e : MEq) (w : World) (v ev : Value) (hsm : SmallE e) (h : RSig w v s) (he : REq w ev e) :
    Calls Try.prog 22 #[v, ev] w fun x w' => x = .returned (.bool (eqOkB s e)) ∧ Below w.heap.size w w' := by
  obtain ⟨A, c, rfl⟩ := h.form
  obtain ⟨A0, c0, A1, c1, A2, c2, rfl⟩ := he.form
  have hb : Below w.heap.size w ((w.alloc (.cells #[.int .i64 s.sorts, .slice A s.ops.length c] 25)).alloc (.cells #[.slice A0 e.vars.length c0, .slice A1 e.left.length c1, .slice A2 e.right.length c2] 41)) := (below_alloc _ _).alloc (by simp) _
  obtain ⟨r0, r1, r2⟩ := (he.keep hb).of
  have HS := Lib.hid (h.keep hb)
  have R0 := Lib.hid r0
  have R1 := Lib.hid r1
  have R2 := Lib.hid r2
  have HB := Lib.hid hb
  have HSM := Lib.hid hsm
  have s0 := cell_keep (below_alloc (w.alloc (.cells #[.int .i64 s.sorts, .slice A s.ops.length c] 25)) (.cells #[.slice A0 e.vars.length c0, .slice A1 e.left.length c1, .slice A2 e.right.length c2] 41)) (bx_at w #[.int .i64 s.sorts, .slice A s.ops.length c] 25 (k := 0) rfl)
  have s1 := cell_keep (below_alloc (w.alloc (.cells #[.int .i64 s.sorts, .slice A s.ops.length c] 25)) (.cells #[.slice A0 e.vars.length c0, .slice A1 e.left.length c1, .slice A2 e.right.length c2] 41)) (bx_at w #[.int .i64 s.sorts, .slice A s.ops.length c] 25 (k := 1) rfl)
  have e0 := bx_at (w.alloc (.cells #[.int .i64 s.sorts, .slice A s.ops.length c] 25)) #[.slice A0 e.vars.length c0, .slice A1 e.left.length c1, .slice A2 e.right.length c2] 41 (k := 0) rfl
  have e1 := bx_at (w.alloc (.cells #[.int .i64 s.sorts, .slice A s.ops.length c] 25)) #[.slice A0 e.vars.length c0, .slice A1 e.left.length c1, .slice A2 e.right.length c2] 41 (k := 1) rfl
  have e2 := bx_at (w.alloc (.cells #[.int .i64 s.sorts, .slice A s.ops.length c] 25)) #[.slice A0 e.vars.length c0, .slice A1 e.left.length c1, .slice A2 e.right.length c2] 41 (k := 2) rfl
  simp only [World.size_alloc] at e0 e1 e2
  generalize hW : (w.alloc (.cells #[.int .i64 s.sorts, .slice A s.ops.length c] 25)).alloc (.cells #[.slice A0 e.vars.length c0, .slice A1 e.left.length c1, .slice A2 e.right.length c2] 41) = W at HS R0 R1 R2 HB s0 s1 e0 e1 e2
  clear h he hb r0 r1 r2 hsm
  go_enter Try.func22, Try.ntmps22
  go_wp2_with fail
  clear hW
  refine (termSort_any s e.vars e.left _ _ _ _ HSM.out.1 HS.out R0.out R1.out).mono ?_
  rintro x w1 ⟨rfl, hb1⟩
  have t0 := cell_keep hb1 s0
  have t1 := cell_keep hb1 s1
  have t2 := cell_keep hb1 e0
  have t3 := cell_keep hb1 e1
  have t4 := cell_keep hb1 e2
  have HB1 := Lib.hid (fit_keep HB.out hb1)
  have HS1 := Lib.hid (HS.out.keep hb1)
  have R01 := Lib.hid (R0.out.keep hb1)
  have R21 := Lib.hid (R2.out.keep hb1)
  clear hb1 s0 s1 e0 e1 e2 HS R0 R1 R2 HB
  by_cases h0 : 0 ≤ sortM s e.vars e.left
  · have HE := Lib.hid (eqOkB_cmp h0)
    generalize hq : sortM s e.vars e.left = q at h0 HE
    clear hq
    go_wp2_with fail
    refine (termSort_any s e.vars e.right _ _ _ _ HSM.out.2 HS1.out R01.out R21.out).mono ?_
    rintro x w2 ⟨rfl, hb2⟩
    have HB2 := Lib.hid (fit_keep HB1.out hb2)
    clear hb2 t0 t1 t2 t3 t4
    go_wp2
    go_ret
    exact ⟨ret_bool HE.out.symm, HB2.out⟩
  · have HE := Lib.hid (eqOkB_no h0)
    generalize hq : sortM s e.vars e.left = q at h0
    clear hq
    go_wp2
    go_ret
    exact ⟨ret_bool HE.out.symm, HB1.out⟩

set_option maxRecDepth 100000 in
set_option maxHeartbeats 1600000 in
theorem specEqOk_any (s : MSig) (e : MEq) (w : World) (v ev : Value) (h : RSig w v s) (he : REq w ev e) :
    Calls Try.prog 82 #[v, ev] w fun x w' => x = .returned (.bool (eqOkB s e)) ∧ Below w.heap.size w w' := by
  obtain ⟨Asa, csa, rfl⟩ := h.form
  obtain ⟨Aea, cea, Aeb, ceb, Aec, cec, rfl⟩ := he.form
  have hb : Below w.heap.size w ((w.alloc (.cells #[.int .i64 s.sorts, .slice Asa s.ops.length csa] 25)).alloc (.cells #[.slice Aea e.vars.length cea, .slice Aeb e.left.length ceb, .slice Aec e.right.length cec] 41)) := (below_alloc _ _).alloc (by simp) _
  have HB := Lib.hid hb
  have hsz : ((w.alloc (.cells #[.int .i64 s.sorts, .slice Asa s.ops.length csa] 25)).alloc (.cells #[.slice Aea e.vars.length cea, .slice Aeb e.left.length ceb, .slice Aec e.right.length cec] 41)).heap.size = w.heap.size + 2 := by simp
  have Hs := Lib.hid (h.keep hb)
  have s0 := cell_keep (below_alloc (w.alloc (.cells #[.int .i64 s.sorts, .slice Asa s.ops.length csa] 25)) (.cells #[.slice Aea e.vars.length cea, .slice Aeb e.left.length ceb, .slice Aec e.right.length cec] 41)) (bx_at (w) #[.int .i64 s.sorts, .slice Asa s.ops.length csa] 25 (k := 0) rfl)
  have s1 := cell_keep (below_alloc (w.alloc (.cells #[.int .i64 s.sorts, .slice Asa s.ops.length csa] 25)) (.cells #[.slice Aea e.vars.length cea, .slice Aeb e.left.length ceb, .slice Aec e.right.length cec] 41)) (bx_at (w) #[.int .i64 s.sorts, .slice Asa s.ops.length csa] 25 (k := 1) rfl)
  have He := Lib.hid (he.keep hb)
  have e0 := bx_at (w.alloc (.cells #[.int .i64 s.sorts, .slice Asa s.ops.length csa] 25)) #[.slice Aea e.vars.length cea, .slice Aeb e.left.length ceb, .slice Aec e.right.length cec] 41 (k := 0) rfl
  have e1 := bx_at (w.alloc (.cells #[.int .i64 s.sorts, .slice Asa s.ops.length csa] 25)) #[.slice Aea e.vars.length cea, .slice Aeb e.left.length ceb, .slice Aec e.right.length cec] 41 (k := 1) rfl
  have e2 := bx_at (w.alloc (.cells #[.int .i64 s.sorts, .slice Asa s.ops.length csa] 25)) #[.slice Aea e.vars.length cea, .slice Aeb e.left.length ceb, .slice Aec e.right.length cec] 41 (k := 2) rfl
  simp only [World.size_alloc] at e0 e1 e2
  generalize hW : (w.alloc (.cells #[.int .i64 s.sorts, .slice Asa s.ops.length csa] 25)).alloc (.cells #[.slice Aea e.vars.length cea, .slice Aeb e.left.length ceb, .slice Aec e.right.length cec] 41) = W at HB hsz Hs s0 s1 He e0 e1 e2
  clear hb h he
  obtain ⟨r0, r1, r2⟩ := He.out.of
  have R0 := Lib.hid r0
  have R1 := Lib.hid r1
  have R2 := Lib.hid r2
  have HC := Lib.hid (And.intro s0 (And.intro s1 (And.intro e0 (And.intro e1 e2))))
  clear r0 r1 r2
  have ea := World.new_ne W _ s0
  have eb := World.new_ne W _ e0
  by_cases h0 : 0 ≤ sortM s e.vars e.left
  · have HE := Lib.hid (eqOkB_cmp h0)
    obtain ⟨q, hq⟩ : ∃ q, sortM s e.vars e.left = q := ⟨_, rfl⟩
    obtain ⟨p, hp⟩ : ∃ p, sortM s e.vars e.right = p := ⟨_, rfl⟩
    rw [hq] at h0 HE
    rw [hp] at HE
    have HQ := Lib.hid hq
    have HP := Lib.hid hp
    clear hq hp
    go_enter Try.func82, Try.ntmps82
    go_wp2_with fail
    clear hW
    refine wp_region_held_drew (S := (fun w' => w'.cell? ⟨w.heap.size, 0, none⟩ = some (.int .i64 s.sorts) ∧ w'.cell? ⟨w.heap.size, 1, none⟩ = some (.slice Asa s.ops.length csa) ∧ w'.cell? ⟨w.heap.size + 1, 0, none⟩ = some (.slice Aea e.vars.length cea) ∧ w'.cell? ⟨w.heap.size + 1, 1, none⟩ = some (.slice Aeb e.left.length ceb) ∧ w'.cell? ⟨w.heap.size + 1, 2, none⟩ = some (.slice Aec e.right.length cec))) (by kernel_rfl) ?_ (fun hHeld => ?_)
    · exact ⟨s0, s1, e0, e1, e2⟩
    refine wpAnyH_take (i := 0) (oi := _) (v := ?_) rfl (by kernel_rfl) (by kernel_rfl) (by kernel_rfl) (fun _ _ _ h => h) (Or.inl ⟨by rfl, ?_⟩) (by assumption) ?_
    rotate_left
    · first | (intro w' hSw; (try dsimp only at hSw); go_simp; done) | (intro w' hSw; (try dsimp only at hSw); go_simp; with_reducible rfl)
    try simp only [Act.put, List.getElem_toArray, List.getElem_cons_zero, List.getElem_cons_succ, List.setIfInBounds_toArray, List.set_cons_zero, List.set_cons_succ]
    refine wpAnyH_take (i := 1) (oi := _) (v := ?_) rfl (by kernel_rfl) (by kernel_rfl) (by kernel_rfl) (fun _ _ _ h => h) (Or.inl ⟨by rfl, ?_⟩) (by assumption) ?_
    rotate_left
    · first | (intro w' hSw; (try dsimp only at hSw); go_simp; done) | (intro w' hSw; (try dsimp only at hSw); go_simp; with_reducible rfl)
    try simp only [Act.put, List.getElem_toArray, List.getElem_cons_zero, List.getElem_cons_succ, List.setIfInBounds_toArray, List.set_cons_zero, List.set_cons_succ]
    refine wpAnyH_take (i := 2) (oi := _) (v := ?_) rfl (by kernel_rfl) (by kernel_rfl) (by kernel_rfl) (fun _ _ _ h => h) (Or.inl ⟨by rfl, ?_⟩) (by assumption) ?_
    rotate_left
    · first | (intro w' hSw; (try dsimp only at hSw); go_simp; done) | (intro w' hSw; (try dsimp only at hSw); go_simp; with_reducible rfl)
    try simp only [Act.put, List.getElem_toArray, List.getElem_cons_zero, List.getElem_cons_succ, List.setIfInBounds_toArray, List.set_cons_zero, List.set_cons_succ]
    refine wpAnyH_take (i := 3) (oi := _) (v := ?_) rfl (by kernel_rfl) (by kernel_rfl) (by kernel_rfl) (fun _ _ _ h => h) (Or.inl ⟨by rfl, ?_⟩) (by assumption) ?_
    rotate_left
    · first | (intro w' hSw; (try dsimp only at hSw); go_simp; done) | (intro w' hSw; (try dsimp only at hSw); go_simp; with_reducible rfl)
    try simp only [Act.put, List.getElem_toArray, List.getElem_cons_zero, List.getElem_cons_succ, List.setIfInBounds_toArray, List.set_cons_zero, List.set_cons_succ]
    refine wpAnyH_take (i := 4) (oi := _) (v := ?_) rfl (by kernel_rfl) (by kernel_rfl) (by kernel_rfl) (fun _ _ _ h => h) (Or.inl ⟨by rfl, ?_⟩) (by assumption) ?_
    rotate_left
    · first | (intro w' hSw; (try dsimp only at hSw); go_simp; done) | (intro w' hSw; (try dsimp only at hSw); go_simp; with_reducible rfl)
    try simp only [Act.put, List.getElem_toArray, List.getElem_cons_zero, List.getElem_cons_succ, List.setIfInBounds_toArray, List.set_cons_zero, List.set_cons_succ]
    refine wpAnyH_ready (rs := [5]) (by kernel_rfl) (by simp) ?_
    refine AllReadyH.cons (o := _) rfl (fun K hK => ?_) AllReadyH.nil
    go_simp
    refine (specTermSort_any s e.vars e.left W.drew _ _ _ (Hs.out.keep (bel_drew (Below.refl _ _))) (R0.out.keep (bel_drew (Below.refl _ _))) (R1.out.keep (bel_drew (Below.refl _ _)))).mono ?_
    rw [HQ.out]
    rintro x w1 ⟨rfl, hb1⟩
    have hx1 := (show Below W.heap.size W w1 from bel_undrew hb1)
    have HX1 := Lib.hid hx1
    have t0 := cell_keep hx1 s0
    have t1 := cell_keep hx1 s1
    have t2 := cell_keep hx1 e0
    have t3 := cell_keep hx1 e1
    have t4 := cell_keep hx1 e2
    clear hb1 hx1
    go_wp2_with fail
    refine hK.out _ _ ?_ (fun hHeld => ?_)
    · exact ⟨t0, t1, t2, t3, t4⟩
    clear hK K
    try simp only [Act.put, List.getElem_toArray, List.getElem_cons_zero, List.getElem_cons_succ, List.setIfInBounds_toArray, List.set_cons_zero, List.set_cons_succ]
    refine wpAnyH_take (i := 6) (oi := _) (v := ?_) rfl (by kernel_rfl) (by kernel_rfl) (by kernel_rfl) (fun _ _ _ h => h) (Or.inl ⟨by rfl, ?_⟩) (by assumption) ?_
    rotate_left
    · first | (intro w' hSw; (try dsimp only at hSw); go_simp; done) | (intro w' hSw; (try dsimp only at hSw); go_simp; with_reducible rfl)
    try simp only [Act.put, List.getElem_toArray, List.getElem_cons_zero, List.getElem_cons_succ, List.setIfInBounds_toArray, List.set_cons_zero, List.set_cons_succ]
    refine wpAnyH_take (i := 7) (oi := _) (v := ?_) rfl (by kernel_rfl) (by kernel_rfl) (by kernel_rfl) (fun _ _ _ h => h) (Or.inl ⟨by rfl, ?_⟩) (by assumption) ?_
    rotate_left
    · first | (intro w' hSw; (try dsimp only at hSw); go_simp; done) | (intro w' hSw; (try dsimp only at hSw); go_simp; with_reducible rfl)
    try simp only [Act.put, List.getElem_toArray, List.getElem_cons_zero, List.getElem_cons_succ, List.setIfInBounds_toArray, List.set_cons_zero, List.set_cons_succ]
    refine wpAnyH_take (i := 8) (oi := _) (v := ?_) rfl (by kernel_rfl) (by kernel_rfl) (by kernel_rfl) (fun _ _ _ h => h) (Or.inl ⟨by rfl, ?_⟩) (by assumption) ?_
    rotate_left
    · first | (intro w' hSw; (try dsimp only at hSw); go_simp; done) | (intro w' hSw; (try dsimp only at hSw); go_simp; with_reducible rfl)
    try simp only [Act.put, List.getElem_toArray, List.getElem_cons_zero, List.getElem_cons_succ, List.setIfInBounds_toArray, List.set_cons_zero, List.set_cons_succ]
    refine wpAnyH_take (i := 9) (oi := _) (v := ?_) rfl (by kernel_rfl) (by kernel_rfl) (by kernel_rfl) (fun _ _ _ h => h) (Or.inl ⟨by rfl, ?_⟩) (by assumption) ?_
    rotate_left
    · first | (intro w' hSw; (try dsimp only at hSw); go_simp; done) | (intro w' hSw; (try dsimp only at hSw); go_simp; with_reducible rfl)
    try simp only [Act.put, List.getElem_toArray, List.getElem_cons_zero, List.getElem_cons_succ, List.setIfInBounds_toArray, List.set_cons_zero, List.set_cons_succ]
    refine wpAnyH_take (i := 10) (oi := _) (v := ?_) rfl (by kernel_rfl) (by kernel_rfl) (by kernel_rfl) (fun _ _ _ h => h) (Or.inl ⟨by rfl, ?_⟩) (by assumption) ?_
    rotate_left
    · first | (intro w' hSw; (try dsimp only at hSw); go_simp; done) | (intro w' hSw; (try dsimp only at hSw); go_simp; with_reducible rfl)
    try simp only [Act.put, List.getElem_toArray, List.getElem_cons_zero, List.getElem_cons_succ, List.setIfInBounds_toArray, List.set_cons_zero, List.set_cons_succ]
    refine wpAnyH_take (i := 11) (oi := _) (v := ?_) rfl (by kernel_rfl) (by kernel_rfl) (by kernel_rfl) (fun _ _ _ h => h) (Or.inl ⟨by rfl, ?_⟩) (by assumption) ?_
    rotate_left
    · first | (intro w' hSw; (try dsimp only at hSw); go_simp; done) | (intro w' hSw; (try dsimp only at hSw); go_simp; with_reducible rfl)
    try simp only [Act.put, List.getElem_toArray, List.getElem_cons_zero, List.getElem_cons_succ, List.setIfInBounds_toArray, List.set_cons_zero, List.set_cons_succ]
    refine wpAnyH_take (i := 12) (oi := _) (v := ?_) rfl (by kernel_rfl) (by kernel_rfl) (by kernel_rfl) (fun _ _ _ h => h) (Or.inl ⟨by rfl, ?_⟩) (by assumption) ?_
    rotate_left
    · first | (intro w' hSw; (try dsimp only at hSw); go_simp; done) | (intro w' hSw; (try dsimp only at hSw); go_simp; with_reducible rfl)
    try simp only [Act.put, List.getElem_toArray, List.getElem_cons_zero, List.getElem_cons_succ, List.setIfInBounds_toArray, List.set_cons_zero, List.set_cons_succ]
    refine wpAnyH_take (i := 14) (oi := _) (v := ?_) rfl (by kernel_rfl) (by kernel_rfl) (by kernel_rfl) (fun _ _ _ h => h) (Or.inl ⟨by rfl, ?_⟩) (by assumption) ?_
    rotate_left
    · first | (intro w' hSw; (try dsimp only at hSw); go_simp; done) | (intro w' hSw; (try dsimp only at hSw); go_simp; with_reducible rfl)
    try simp only [Act.put, List.getElem_toArray, List.getElem_cons_zero, List.getElem_cons_succ, List.setIfInBounds_toArray, List.set_cons_zero, List.set_cons_succ]
    refine wpAnyH_take (i := 15) (oi := _) (v := ?_) rfl (by kernel_rfl) (by kernel_rfl) (by kernel_rfl) (fun _ _ _ h => h) (Or.inl ⟨by rfl, ?_⟩) (by assumption) ?_
    rotate_left
    · first | (intro w' hSw; (try dsimp only at hSw); go_simp; done) | (intro w' hSw; (try dsimp only at hSw); go_simp; with_reducible rfl)
    try simp only [Act.put, List.getElem_toArray, List.getElem_cons_zero, List.getElem_cons_succ, List.setIfInBounds_toArray, List.set_cons_zero, List.set_cons_succ]
    refine wpAnyH_take (i := 16) (oi := _) (v := ?_) rfl (by kernel_rfl) (by kernel_rfl) (by kernel_rfl) (fun _ _ _ h => h) (Or.inl ⟨by rfl, ?_⟩) (by assumption) ?_
    rotate_left
    · first | (intro w' hSw; (try dsimp only at hSw); go_simp; done) | (intro w' hSw; (try dsimp only at hSw); go_simp; with_reducible rfl)
    try simp only [Act.put, List.getElem_toArray, List.getElem_cons_zero, List.getElem_cons_succ, List.setIfInBounds_toArray, List.set_cons_zero, List.set_cons_succ]
    refine wpAnyH_take (i := 17) (oi := _) (v := ?_) rfl (by kernel_rfl) (by kernel_rfl) (by kernel_rfl) (fun _ _ _ h => h) (Or.inl ⟨by rfl, ?_⟩) (by assumption) ?_
    rotate_left
    · first | (intro w' hSw; (try dsimp only at hSw); go_simp; done) | (intro w' hSw; (try dsimp only at hSw); go_simp; with_reducible rfl)
    try simp only [Act.put, List.getElem_toArray, List.getElem_cons_zero, List.getElem_cons_succ, List.setIfInBounds_toArray, List.set_cons_zero, List.set_cons_succ]
    refine wpAnyH_take (i := 18) (oi := _) (v := ?_) rfl (by kernel_rfl) (by kernel_rfl) (by kernel_rfl) (fun _ _ _ h => h) (Or.inl ⟨by rfl, ?_⟩) (by assumption) ?_
    rotate_left
    · first | (intro w' hSw; (try dsimp only at hSw); go_simp; done) | (intro w' hSw; (try dsimp only at hSw); go_simp; with_reducible rfl)
    try simp only [Act.put, List.getElem_toArray, List.getElem_cons_zero, List.getElem_cons_succ, List.setIfInBounds_toArray, List.set_cons_zero, List.set_cons_succ]
    refine wpAnyH_ready (rs := [13]) (by kernel_rfl) (by simp) ?_
    refine AllReadyH.cons (o := _) rfl (fun K hK => ?_) AllReadyH.nil
    go_simp
    refine (specTermSort_any s e.vars e.left w1 _ _ _ (Hs.out.keep HX1.out) (R0.out.keep HX1.out) (R1.out.keep HX1.out)).mono ?_
    rw [HQ.out]
    rintro x w2 ⟨rfl, hb2⟩
    have HX2 := Lib.hid (fit_keep HX1.out hb2)
    have u0 := cell_keep hb2 t0
    have u1 := cell_keep hb2 t1
    have u2 := cell_keep hb2 t2
    have u3 := cell_keep hb2 t3
    have u4 := cell_keep hb2 t4
    clear hb2
    go_wp2_with fail
    refine hK.out _ _ ?_ (fun hHeld => ?_)
    · exact ⟨u0, u1, u2, u3, u4⟩
    clear hK K
    try simp only [Act.put, List.getElem_toArray, List.getElem_cons_zero, List.getElem_cons_succ, List.setIfInBounds_toArray, List.set_cons_zero, List.set_cons_succ]
    refine wpAnyH_ready (rs := [19]) (by kernel_rfl) (by simp) ?_
    refine AllReadyH.cons (o := _) rfl (fun K hK => ?_) AllReadyH.nil
    go_simp
    refine (specTermSort_any s e.vars e.right w2 _ _ _ (Hs.out.keep HX2.out) (R0.out.keep HX2.out) (R2.out.keep HX2.out)).mono ?_
    rw [HP.out]
    rintro x w3 ⟨rfl, hb3⟩
    have HX3 := Lib.hid (fit_keep HX2.out hb3)
    have v0 := cell_keep hb3 u0
    have v1 := cell_keep hb3 u1
    have v2 := cell_keep hb3 u2
    have v3 := cell_keep hb3 u3
    have v4 := cell_keep hb3 u4
    clear hb3
    go_wp2_with fail
    refine hK.out _ _ ?_ (fun hHeld => ?_)
    · exact ⟨v0, v1, v2, v3, v4⟩
    clear hK K
    try simp only [Act.put, List.getElem_toArray, List.getElem_cons_zero, List.getElem_cons_succ, List.setIfInBounds_toArray, List.set_cons_zero, List.set_cons_succ]
    refine wpAnyH_take (i := 20) (oi := _) (v := ?_) rfl (by kernel_rfl) (by kernel_rfl) (by kernel_rfl) (fun _ _ _ h => h) (Or.inl ⟨by rfl, ?_⟩) (by assumption) ?_
    rotate_left
    · first | (intro w' hSw; (try dsimp only at hSw); go_simp; done) | (intro w' hSw; (try dsimp only at hSw); go_simp; with_reducible rfl)
    try simp only [Act.put, List.getElem_toArray, List.getElem_cons_zero, List.getElem_cons_succ, List.setIfInBounds_toArray, List.set_cons_zero, List.set_cons_succ]
    refine wpAnyH_take (i := 21) (oi := _) (v := ?_) rfl (by kernel_rfl) (by kernel_rfl) (by kernel_rfl) (fun _ _ _ h => h) (Or.inl ⟨by rfl, ?_⟩) (by assumption) ?_
    rotate_left
    · first | (intro w' hSw; (try dsimp only at hSw); go_simp; done) | (intro w' hSw; (try dsimp only at hSw); go_simp; with_reducible rfl)
    try simp only [Act.put, List.getElem_toArray, List.getElem_cons_zero, List.getElem_cons_succ, List.setIfInBounds_toArray, List.set_cons_zero, List.set_cons_succ]
    refine wpAnyH_take (i := 22) (oi := _) (v := ?_) rfl (by kernel_rfl) (by kernel_rfl) (by kernel_rfl) (fun _ _ _ h => h) (Or.inl ⟨by rfl, ?_⟩) (by assumption) ?_
    rotate_left
    · first | (intro w' hSw; (try dsimp only at hSw); go_simp; done) | (intro w' hSw; (try dsimp only at hSw); go_simp; with_reducible rfl)
    try simp only [Act.put, List.getElem_toArray, List.getElem_cons_zero, List.getElem_cons_succ, List.setIfInBounds_toArray, List.set_cons_zero, List.set_cons_succ]
    refine wpAnyH_done (by kernel_rfl) ?_ _
    clear s0 s1 e0 e1 e2 t0 t1 t2 t3 t4 u0 u1 u2 u3 u4 v0 v1 v2 v3 v4 ea eb
    go_wp2
    go_ret
    exact ⟨ret_bool (by rw [HE.out]; exact Bool.beq_comm), fit_keep HB.out HX3.out⟩
  · have HE := Lib.hid (eqOkB_no h0)
    obtain ⟨q, hq⟩ : ∃ q, sortM s e.vars e.left = q := ⟨_, rfl⟩
    rw [hq] at h0
    have h0' : q < 0 := by omega
    have h1' : decide (0 ≤ q) = false := by simp; omega
    have HQ := Lib.hid hq
    clear hq
    go_enter Try.func82, Try.ntmps82
    go_wp2_with fail
    clear hW
    refine wp_region_held_drew (S := (fun w' => w'.cell? ⟨w.heap.size, 0, none⟩ = some (.int .i64 s.sorts) ∧ w'.cell? ⟨w.heap.size, 1, none⟩ = some (.slice Asa s.ops.length csa) ∧ w'.cell? ⟨w.heap.size + 1, 0, none⟩ = some (.slice Aea e.vars.length cea) ∧ w'.cell? ⟨w.heap.size + 1, 1, none⟩ = some (.slice Aeb e.left.length ceb) ∧ w'.cell? ⟨w.heap.size + 1, 2, none⟩ = some (.slice Aec e.right.length cec))) (by kernel_rfl) ?_ (fun hHeld => ?_)
    · exact ⟨s0, s1, e0, e1, e2⟩
    refine wpAnyH_take (i := 0) (oi := _) (v := ?_) rfl (by kernel_rfl) (by kernel_rfl) (by kernel_rfl) (fun _ _ _ h => h) (Or.inl ⟨by rfl, ?_⟩) (by assumption) ?_
    rotate_left
    · first | (intro w' hSw; (try dsimp only at hSw); go_simp; done) | (intro w' hSw; (try dsimp only at hSw); go_simp; with_reducible rfl)
    try simp only [Act.put, List.getElem_toArray, List.getElem_cons_zero, List.getElem_cons_succ, List.setIfInBounds_toArray, List.set_cons_zero, List.set_cons_succ]
    refine wpAnyH_take (i := 1) (oi := _) (v := ?_) rfl (by kernel_rfl) (by kernel_rfl) (by kernel_rfl) (fun _ _ _ h => h) (Or.inl ⟨by rfl, ?_⟩) (by assumption) ?_
    rotate_left
    · first | (intro w' hSw; (try dsimp only at hSw); go_simp; done) | (intro w' hSw; (try dsimp only at hSw); go_simp; with_reducible rfl)
    try simp only [Act.put, List.getElem_toArray, List.getElem_cons_zero, List.getElem_cons_succ, List.setIfInBounds_toArray, List.set_cons_zero, List.set_cons_succ]
    refine wpAnyH_take (i := 2) (oi := _) (v := ?_) rfl (by kernel_rfl) (by kernel_rfl) (by kernel_rfl) (fun _ _ _ h => h) (Or.inl ⟨by rfl, ?_⟩) (by assumption) ?_
    rotate_left
    · first | (intro w' hSw; (try dsimp only at hSw); go_simp; done) | (intro w' hSw; (try dsimp only at hSw); go_simp; with_reducible rfl)
    try simp only [Act.put, List.getElem_toArray, List.getElem_cons_zero, List.getElem_cons_succ, List.setIfInBounds_toArray, List.set_cons_zero, List.set_cons_succ]
    refine wpAnyH_take (i := 3) (oi := _) (v := ?_) rfl (by kernel_rfl) (by kernel_rfl) (by kernel_rfl) (fun _ _ _ h => h) (Or.inl ⟨by rfl, ?_⟩) (by assumption) ?_
    rotate_left
    · first | (intro w' hSw; (try dsimp only at hSw); go_simp; done) | (intro w' hSw; (try dsimp only at hSw); go_simp; with_reducible rfl)
    try simp only [Act.put, List.getElem_toArray, List.getElem_cons_zero, List.getElem_cons_succ, List.setIfInBounds_toArray, List.set_cons_zero, List.set_cons_succ]
    refine wpAnyH_take (i := 4) (oi := _) (v := ?_) rfl (by kernel_rfl) (by kernel_rfl) (by kernel_rfl) (fun _ _ _ h => h) (Or.inl ⟨by rfl, ?_⟩) (by assumption) ?_
    rotate_left
    · first | (intro w' hSw; (try dsimp only at hSw); go_simp; done) | (intro w' hSw; (try dsimp only at hSw); go_simp; with_reducible rfl)
    try simp only [Act.put, List.getElem_toArray, List.getElem_cons_zero, List.getElem_cons_succ, List.setIfInBounds_toArray, List.set_cons_zero, List.set_cons_succ]
    refine wpAnyH_ready (rs := [5]) (by kernel_rfl) (by simp) ?_
    refine AllReadyH.cons (o := _) rfl (fun K hK => ?_) AllReadyH.nil
    go_simp
    refine (specTermSort_any s e.vars e.left W.drew _ _ _ (Hs.out.keep (bel_drew (Below.refl _ _))) (R0.out.keep (bel_drew (Below.refl _ _))) (R1.out.keep (bel_drew (Below.refl _ _)))).mono ?_
    rw [HQ.out]
    rintro x w1 ⟨rfl, hb1⟩
    have hx1 := (show Below W.heap.size W w1 from bel_undrew hb1)
    have HX1 := Lib.hid hx1
    have t0 := cell_keep hx1 s0
    have t1 := cell_keep hx1 s1
    have t2 := cell_keep hx1 e0
    have t3 := cell_keep hx1 e1
    have t4 := cell_keep hx1 e2
    clear hb1 hx1
    go_wp2_with fail
    refine hK.out _ _ ?_ (fun hHeld => ?_)
    · exact ⟨t0, t1, t2, t3, t4⟩
    clear hK K
    try simp only [Act.put, List.getElem_toArray, List.getElem_cons_zero, List.getElem_cons_succ, List.setIfInBounds_toArray, List.set_cons_zero, List.set_cons_succ]
    refine wpAnyH_take (i := 6) (oi := _) (v := ?_) rfl (by kernel_rfl) (by kernel_rfl) (by kernel_rfl) (fun _ _ _ h => h) (Or.inl ⟨by rfl, ?_⟩) (by assumption) ?_
    rotate_left
    · first | (intro w' hSw; (try dsimp only at hSw); go_simp; done) | (intro w' hSw; (try dsimp only at hSw); go_simp; with_reducible rfl)
    try simp only [Act.put, List.getElem_toArray, List.getElem_cons_zero, List.getElem_cons_succ, List.setIfInBounds_toArray, List.set_cons_zero, List.set_cons_succ]
    refine wpAnyH_take (i := 7) (oi := _) (v := ?_) rfl (by kernel_rfl) (by kernel_rfl) (by kernel_rfl) (fun _ _ _ h => h) (Or.inl ⟨by rfl, ?_⟩) (by assumption) ?_
    rotate_left
    · first | (intro w' hSw; (try dsimp only at hSw); go_simp; done) | (intro w' hSw; (try dsimp only at hSw); go_simp; with_reducible rfl)
    try simp only [Act.put, List.getElem_toArray, List.getElem_cons_zero, List.getElem_cons_succ, List.setIfInBounds_toArray, List.set_cons_zero, List.set_cons_succ]
    refine wpAnyH_take (i := 8) (oi := _) (v := _) rfl (by kernel_rfl) (by kernel_rfl) (by kernel_rfl) (fun _ _ _ h => h) (Or.inr ⟨by rfl, rfl⟩) (by assumption) ?_
    try simp only [Act.put, List.getElem_toArray, List.getElem_cons_zero, List.getElem_cons_succ, List.setIfInBounds_toArray, List.set_cons_zero, List.set_cons_succ]
    refine wpAnyH_take (i := 9) (oi := _) (v := _) rfl (by kernel_rfl) (by kernel_rfl) (by kernel_rfl) (fun _ _ _ h => h) (Or.inr ⟨by rfl, rfl⟩) (by assumption) ?_
    try simp only [Act.put, List.getElem_toArray, List.getElem_cons_zero, List.getElem_cons_succ, List.setIfInBounds_toArray, List.set_cons_zero, List.set_cons_succ]
    refine wpAnyH_take (i := 10) (oi := _) (v := _) rfl (by kernel_rfl) (by kernel_rfl) (by kernel_rfl) (fun _ _ _ h => h) (Or.inr ⟨by rfl, rfl⟩) (by assumption) ?_
    try simp only [Act.put, List.getElem_toArray, List.getElem_cons_zero, List.getElem_cons_succ, List.setIfInBounds_toArray, List.set_cons_zero, List.set_cons_succ]
    refine wpAnyH_take (i := 11) (oi := _) (v := _) rfl (by kernel_rfl) (by kernel_rfl) (by kernel_rfl) (fun _ _ _ h => h) (Or.inr ⟨by rfl, rfl⟩) (by assumption) ?_
    try simp only [Act.put, List.getElem_toArray, List.getElem_cons_zero, List.getElem_cons_succ, List.setIfInBounds_toArray, List.set_cons_zero, List.set_cons_succ]
    refine wpAnyH_take (i := 12) (oi := _) (v := _) rfl (by kernel_rfl) (by kernel_rfl) (by kernel_rfl) (fun _ _ _ h => h) (Or.inr ⟨by rfl, rfl⟩) (by assumption) ?_
    try simp only [Act.put, List.getElem_toArray, List.getElem_cons_zero, List.getElem_cons_succ, List.setIfInBounds_toArray, List.set_cons_zero, List.set_cons_succ]
    refine wpAnyH_take (i := 14) (oi := _) (v := _) rfl (by kernel_rfl) (by kernel_rfl) (by kernel_rfl) (fun _ _ _ h => h) (Or.inr ⟨by rfl, rfl⟩) (by assumption) ?_
    try simp only [Act.put, List.getElem_toArray, List.getElem_cons_zero, List.getElem_cons_succ, List.setIfInBounds_toArray, List.set_cons_zero, List.set_cons_succ]
    refine wpAnyH_take (i := 15) (oi := _) (v := _) rfl (by kernel_rfl) (by kernel_rfl) (by kernel_rfl) (fun _ _ _ h => h) (Or.inr ⟨by rfl, rfl⟩) (by assumption) ?_
    try simp only [Act.put, List.getElem_toArray, List.getElem_cons_zero, List.getElem_cons_succ, List.setIfInBounds_toArray, List.set_cons_zero, List.set_cons_succ]
    refine wpAnyH_take (i := 16) (oi := _) (v := _) rfl (by kernel_rfl) (by kernel_rfl) (by kernel_rfl) (fun _ _ _ h => h) (Or.inr ⟨by rfl, rfl⟩) (by assumption) ?_
    try simp only [Act.put, List.getElem_toArray, List.getElem_cons_zero, List.getElem_cons_succ, List.setIfInBounds_toArray, List.set_cons_zero, List.set_cons_succ]
    refine wpAnyH_take (i := 17) (oi := _) (v := _) rfl (by kernel_rfl) (by kernel_rfl) (by kernel_rfl) (fun _ _ _ h => h) (Or.inr ⟨by rfl, rfl⟩) (by assumption) ?_
    try simp only [Act.put, List.getElem_toArray, List.getElem_cons_zero, List.getElem_cons_succ, List.setIfInBounds_toArray, List.set_cons_zero, List.set_cons_succ]
    refine wpAnyH_take (i := 18) (oi := _) (v := _) rfl (by kernel_rfl) (by kernel_rfl) (by kernel_rfl) (fun _ _ _ h => h) (Or.inr ⟨by rfl, rfl⟩) (by assumption) ?_
    try simp only [Act.put, List.getElem_toArray, List.getElem_cons_zero, List.getElem_cons_succ, List.setIfInBounds_toArray, List.set_cons_zero, List.set_cons_succ]
    refine wpAnyH_ready (rs := [13]) (by kernel_rfl) (by simp) ?_
    refine AllReadyH.cons (o := _) rfl (fun K hK => ?_) AllReadyH.nil
    refine ite_off (by rfl) ?_
    refine hK.out _ _ (by assumption) (fun hHeld => ?_)
    clear hK K
    try simp only [Act.put, List.getElem_toArray, List.getElem_cons_zero, List.getElem_cons_succ, List.setIfInBounds_toArray, List.set_cons_zero, List.set_cons_succ]
    refine wpAnyH_ready (rs := [19]) (by kernel_rfl) (by simp) ?_
    refine AllReadyH.cons (o := _) rfl (fun K hK => ?_) AllReadyH.nil
    refine ite_off (by rfl) ?_
    refine hK.out _ _ (by assumption) (fun hHeld => ?_)
    clear hK K
    try simp only [Act.put, List.getElem_toArray, List.getElem_cons_zero, List.getElem_cons_succ, List.setIfInBounds_toArray, List.set_cons_zero, List.set_cons_succ]
    refine wpAnyH_take (i := 20) (oi := _) (v := _) rfl (by kernel_rfl) (by kernel_rfl) (by kernel_rfl) (fun _ _ _ h => h) (Or.inr ⟨by rfl, rfl⟩) (by assumption) ?_
    try simp only [Act.put, List.getElem_toArray, List.getElem_cons_zero, List.getElem_cons_succ, List.setIfInBounds_toArray, List.set_cons_zero, List.set_cons_succ]
    refine wpAnyH_take (i := 21) (oi := _) (v := ?_) rfl (by kernel_rfl) (by kernel_rfl) (by kernel_rfl) (fun _ _ _ h => h) (Or.inl ⟨by rfl, ?_⟩) (by assumption) ?_
    rotate_left
    · first | (intro w' hSw; (try dsimp only at hSw); go_simp; done) | (intro w' hSw; (try dsimp only at hSw); go_simp; with_reducible rfl)
    try simp only [Act.put, List.getElem_toArray, List.getElem_cons_zero, List.getElem_cons_succ, List.setIfInBounds_toArray, List.set_cons_zero, List.set_cons_succ]
    refine wpAnyH_take (i := 22) (oi := _) (v := ?_) rfl (by kernel_rfl) (by kernel_rfl) (by kernel_rfl) (fun _ _ _ h => h) (Or.inl ⟨by rfl, ?_⟩) (by assumption) ?_
    rotate_left
    · first | (intro w' hSw; (try dsimp only at hSw); go_simp; done) | (intro w' hSw; (try dsimp only at hSw); go_simp; with_reducible rfl)
    try simp only [Act.put, List.getElem_toArray, List.getElem_cons_zero, List.getElem_cons_succ, List.setIfInBounds_toArray, List.set_cons_zero, List.set_cons_succ]
    refine wpAnyH_done (by kernel_rfl) ?_ _
    clear s0 s1 e0 e1 e2 t0 t1 t2 t3 t4 ea eb
    go_wp2
    go_ret
    exact ⟨ret_bool HE.out.symm, fit_keep HB.out HX1.out⟩
end

section
open Go.ChangeShapes Go.WideShapes Go.ChangeAt Go.RowKit Go.Deep Go.Joins
set_option linter.unusedVariables false


theorem spot_none {w : World} {a : Addr} {v : Value} (h : w.cell? a = some v) : a.spot = none := World.cell?_spot h
theorem add_plain (b o j : Nat) : (⟨b, o, none⟩ : Addr).add j = ⟨b, o + j, none⟩ := by
  unfold Addr.add
  split
  · rename_i h; subst h; rfl
  · rfl

set_option maxRecDepth 100000 in
theorem cells_sig : Try.prog.cellsOf 53 = 2 := by kernel_rfl
set_option maxRecDepth 100000 in
theorem sig_of {H : Type} {enc : TypeId × Value → H} {W : World} {base : Nat} {v : Value} {d : DataW H} {p : List MemPlace} (hv : Value.okWide Try.prog W .any base 53 v)
    (h : DataW.Trod enc Try.prog W 0 (fun _ => true) true 53 v d p) : ∃ s, RSig W v s := by
  obtain ⟨c0, c1, y0, y1, m, rfl, -, -, hy0, hy1⟩ := open_agg2 Try.underlying53 (by kernel_rfl) cells_sig hv h
  obtain ⟨a, e0, -, wa⟩ := DataW.trod_int Try.underlying3 hy0
  simp at e0
  subst e0
  rcases open_int_rows Try.underlying23 Try.underlying26 Try.underlying3 (by kernel_rfl) (by kernel_rfl) hy1 with ⟨hcs, -⟩ | ⟨ad, len, cap, A, L, C, Z, hcs, -, hl, hm, -, hr⟩
  · simp at hcs
    subst hcs
    exact ⟨⟨a, []⟩, _, rfl, RRows.nil _⟩
  · simp at hcs
    subst hcs
    refine ⟨⟨a, (List.range len).map fun r => (Z r).take (L r)⟩, _, rfl, ?_⟩
    refine ⟨some ad, cap, by simp, by simpa using hl, hm, fun j row hj => ?_⟩
    simp only [List.getElem?_map] at hj
    obtain ⟨r, hr', rfl⟩ := Option.map_eq_some_iff.1 hj
    obtain ⟨hjl, hrj⟩ := List.getElem?_eq_some_iff.1 hr'
    simp at hjl hrj
    subst hrj
    obtain ⟨hc, h1, h2, h3, h4, h5, h6⟩ := hr j (by omega)
    obtain ⟨b, o, sp⟩ := ad
    have hsp : sp = none := by
      have := spot_none (hr 0 (by omega)).1
      simpa [Addr.add] using this
    subst hsp
    rw [add_plain] at hc
    refine ⟨b, o, _, rfl, hc, A j, C j, by rw [List.length_take]; congr 1; omega, by rw [List.length_take]; omega, h2, fun i x hx => ?_⟩
    rw [List.getElem?_take] at hx
    split at hx
    · rename_i hil
      obtain ⟨hiz, rfl⟩ := List.getElem?_eq_some_iff.1 hx
      cases hA : A j with
      | none => have := h5 hA; omega
      | some a' =>
        obtain ⟨-, hcell⟩ := h6 a' hA
        obtain ⟨b', o', sp'⟩ := a'
        have hsp' : sp' = none := by
          have := spot_none (hcell 0 (by omega))
          simpa [Addr.add] using this
        subst hsp'
        have := hcell i (by omega)
        rw [add_plain, getD_at _ hiz] at this
        exact ⟨b', o', rfl, this⟩
    · cases hx
end

section
open Go.ChangeShapes Go.WideShapes Go.ChangeAt Go.RowKit
set_option linter.unusedVariables false

theorem gr_undrew {a w w' : World} {B : Nat} (h : Below B a w.drew) : Below B a w := ⟨h.os, h.tape, h.output, h.size, h.block⟩
theorem below_undrew {B : Nat} {w w' : World} (h : Below B w.drew w') : Below B w w' := ⟨h.os, h.tape, h.output, h.size, h.block⟩
theorem bx_cells (w : World) (a b : Value) (t : TypeId) : (w.alloc (.cells #[a, b] t)).cell? ⟨w.heap.size, 0, none⟩ = some a ∧ (w.alloc (.cells #[a, b] t)).cell? ⟨w.heap.size, 1, none⟩ = some b := by
  constructor <;> (rw [World.cell?_alloc_at _ _ _ _ rfl]; rfl)
end

section
open Go.ChangeShapes Go.WideShapes Go.ChangeAt Go.RowKit
set_option linter.unusedVariables false

theorem ex_keep {w w1 w2 : World} (h : Below w.heap.size w w1) (k : Below w1.heap.size w1 w2) : Below w.heap.size w w2 := h.trans (k.mono h.size)
theorem ex_drew {B : Nat} {a w : World} (h : Below B a w) : Below B a w.drew := ⟨h.os, h.tape, h.output, h.size, h.block⟩
theorem ex_undrew {w w' : World} (h : Below w.drew.heap.size w.drew w') : Below w.heap.size w w' := below_undrew h
theorem sameI_self (xs : List Int) : sameI xs xs = true := by unfold sameI; simp
theorem sameR_self (xs : List (List Int)) : sameR xs xs = true := by unfold sameR; simp
end

section
open Go.RowKit
set_option linter.unusedVariables false

theorem OEq.same {w w' : World} {B : Nat} {v : Value} {e : MEq} (h : OEq w B v e) (hk : ∀ k, B ≤ k → k < w.heap.size → w'.heap[k]? = w.heap[k]?) : OEq w' B v e := by
  obtain ⟨a, b, c, rfl, h1, h2, h3, h4⟩ := h
  exact ⟨a, b, c, rfl, h1.same hk, h2.same hk, h3.same hk, h4⟩
end
end Go.Proofs.Yticldaddbljleaa
