/- firstTerm, by induction; termOf. -/
import Derived.Test.YteccjnnhihbdhabRead
namespace Go.Proofs.Yteccjnnhihbdhab
open Go.RowKit
set_option linter.unusedVariables false

theorem firstM_op {s : MSig} {vars : List Int} {f : Nat} {n : Int} {rest : List Int} (h : 0 ≤ n ∧ n < s.ops.length) : firstM s vars (f + 1) (n :: rest) = nodeM s vars f n.toNat rest := by
  simp only [firstM, nodeM]; rw [if_pos h]; rfl
theorem firstM_bad {s : MSig} {vars : List Int} {f : Nat} {n : Int} {rest : List Int} (h : ¬ (0 ≤ n ∧ n < s.ops.length)) (h2 : ¬ (100 ≤ n ∧ n < 100 + vars.length)) : firstM s vars (f + 1) (n :: rest) = none := by
  simp only [firstM]; rw [if_neg h, if_neg h2]
theorem firstM_letter {s : MSig} {vars : List Int} {f : Nat} {n : Int} {rest : List Int} (h : ¬ (0 ≤ n ∧ n < s.ops.length)) (h2 : 100 ≤ n ∧ n < 100 + vars.length) : firstM s vars (f + 1) (n :: rest) = some (.leaf (n - 100).toNat (vars.getD (n - 100).toNat 0), rest) := by
  simp only [firstM]; rw [if_neg h, if_pos h2]
theorem firstM_nil {s : MSig} {vars : List Int} {f : Nat} : firstM s vars f [] = none := by cases f <;> rfl

theorem tail_addr {c : Nat} {x y : Addr} {A : Option Addr} (h : (if c = 1 then some x else some y) = A) : A = some y ∨ c - 1 = 0 := by
  by_cases hc : c = 1
  · right; omega
  · left; rw [← h, if_neg hc]

set_option maxRecDepth 100000 in
theorem first_empty (s : MSig) (vars : List Int) (f : Nat) (w : World) (v vv rv : Value) (h1 : RSig w v s) (h2 : RInts w vv vars) (h3 : RInts w rv []) :
    Calls Try.prog 94 #[v, vv, rv] w (ReadPost rv [] (firstM s vars f []) w) := by
  obtain ⟨u, rfl, hrr⟩ := h1
  obtain ⟨sorts, ops⟩ := s
  obtain ⟨A, c, rfl, -⟩ := hrr.form
  obtain ⟨A2, c2, rfl, -⟩ := h2.form
  obtain ⟨A3, c4, rfl, -⟩ := h3.form
  rw [firstM_nil]
  have HB := Lib.hid (below_alloc w (.cells #[.int .i64 sorts, .slice A ops.length c] 35))
  clear hrr h2 h3
  go_enter Try.func94, Try.ntmps94
  go_wp2
  refine bodyPost_ret (v := .tuple #[.nilIface, .slice none 0 0, .bool false]) (by simp [results, Try.results94, go_sem]) rfl ?_
  exact ⟨rfl, HB.out⟩

set_option maxHeartbeats 800000 in
set_option maxRecDepth 100000 in
theorem first_step (s : MSig) (vars : List Int) (hv : varsB s vars = true) (f : Nat) (ih : FirstAt s vars f) (n : Int) (rest : List Int) (w : World) (v vv rv : Value) (hr : rest.length ≤ f) (hsm : Small (n :: rest)) (h1 : RSig w v s) (h2 : RInts w vv vars) (h3 : RInts w rv (n :: rest)) :
    Calls Try.prog 94 #[v, vv, rv] w (ReadPost rv (n :: rest) (firstM s vars (f + 1) (n :: rest)) w) := by
  obtain ⟨u, rfl, hrr⟩ := h1
  obtain ⟨sorts, ops⟩ := s
  have hnb : n ≤ 9223372036854775807 := hsm n (List.mem_cons_self ..)
  have HSM := Lib.hid hsm
  clear hsm
  have hops := (valid_sorts (vars_valid hv).1).2.2
  have hvl := (vars_valid hv).2.1
  simp only at hops
  obtain ⟨A, c, rfl, -⟩ := hrr.form
  have hb1 := below_alloc w (.cells #[.int .i64 sorts, .slice A ops.length c] 35)
  have hbx := box_cells w (.int .i64 sorts) (.slice A ops.length c) 35
  have HS := Lib.hid (show RSig (w.alloc (.cells #[.int .i64 sorts, .slice A ops.length c] 35)) (.agg #[.int .i64 sorts, .slice A ops.length c]) ⟨sorts, ops⟩ from ⟨_, rfl, hrr.keep hb1⟩)
  have HV2 := Lib.hid (h2.keep hb1)
  have HV3 := Lib.hid (h3.keep hb1)
  have hlen3 := h3.len
  obtain ⟨b, o, c4, rfl, hx⟩ := (h3.keep hb1).at_ (k := 0) (by simp)
  obtain ⟨A', c4', e, hcl, hcm⟩ := h3.form
  cases e
  simp only [List.length_cons, List.getElem_cons_zero, Nat.add_zero] at hx hcl hlen3
  obtain ⟨A2, c2, rfl, -⟩ := h2.form
  have HB1 := Lib.hid hb1
  have f0 := hbx.1
  have f1 := hbx.2
  have hz : ((rest.length : Int) + 1 == 0) = false := by rw [beq_eq_false_iff_ne]; omega
  simp only [List.length_cons]
  by_cases c0 : n < 0
  · have HN := Lib.hid (firstM_bad (s := ⟨sorts, ops⟩) (vars := vars) (f := f) (rest := rest) (n := n) (by simp only; omega) (by omega))
    clear h2 h3 hrr hb1 hbx
    go_enter Try.func94, Try.ntmps94
    go_wp2
    refine bodyPost_ret (v := .tuple #[.nilIface, .slice none 0 0, .bool false]) (by simp [results, Try.results94, go_sem]) rfl ?_
    rw [HN.out]
    exact ⟨rfl, HB1.out⟩
  clear hb1 hbx hrr h3
  by_cases c1 : n < (ops.length : Int)
  · have HN := Lib.hid (firstM_op (s := ⟨sorts, ops⟩) (vars := vars) (f := f) (rest := rest) (n := n) ⟨by omega, c1⟩)
    clear h2
    obtain ⟨k, rfl⟩ := Int.eq_ofNat_of_zero_le (show 0 ≤ n by omega)
    go_enter Try.func94, Try.ntmps94
    go_wp2_with fail
    have hcc : (1 : Int) ≤ (c4 : Int) := by omega
    go_quiet (fail)
    generalize hA5 : (if c4 = 1 then (some (⟨b, o, none⟩ : Addr)) else some ⟨b, o + 1, none⟩) = A5
    have HSUF := Lib.hid (SufOf.tail (b := b) (o := o) (c := c4) (n := (k : Int)) (rest := rest) (A := A5) (tail_addr hA5))
    clear hA5
    go_wp2_with fail
    have HR5 := Lib.hid (HSUF.out.2 _ HV3.out)
    have hbq := below_drewN (Below.refl (w.alloc (.cells #[.int .i64 sorts, .slice A ops.length c] 35)).heap.size (w.alloc (.cells #[.int .i64 sorts, .slice A ops.length c] 35))) nq
    refine (opWithTerms_any ⟨sorts, ops⟩ vars hv f ih k (by simp only; omega) rest _ _ _ _ hr (fun x hx => HSM.out x (List.mem_cons_of_mem _ hx)) (HS.out.keep hbq) (HV2.out.keep hbq) (HR5.out.keep hbq)).mono ?_
    rintro e w2 ⟨hm, hb⟩
    have HBF := Lib.hid (HB1.out.trans ((below_drewN (Below.refl _ _) nq).trans hb |>.mono (by simp)))
    cases hf : nodeM ⟨sorts, ops⟩ vars f k rest with
    | none =>
      rw [hf] at hm
      simp only at hm
      subst hm
      have HFN := Lib.hid hf
      clear hf hb hbq
      go_wp2
      refine bodyPost_ret (v := .tuple #[.nilIface, .slice none 0 0, .bool false]) (by simp [results, Try.results94, go_sem]) rfl ?_
      rw [HN.out, Int.toNat_natCast, HFN.out]
      exact ⟨rfl, HBF.out⟩
    | some q =>
      obtain ⟨t, rb⟩ := q
      rw [hf] at hm
      simp only at hm
      obtain ⟨u, bv, rfl, hu, hbv⟩ := hm
      have HFS := Lib.hid hf
      have HU := Lib.hid hu
      have HBV := Lib.hid hbv
      obtain ⟨T, y, fid, rfl, -⟩ := hu.sorts
      obtain ⟨A6, c7, rfl⟩ := hbv.1
      clear hf hbv hb hbq hu
      go_wp2
      refine bodyPost_ret (v := .tuple #[.iface T y, .slice A6 rb.length c7, .bool true]) (by simp [results, Try.results94, go_sem]) rfl ?_
      rw [HN.out, Int.toNat_natCast, HFS.out]
      exact ⟨⟨_, _, rfl, HU.out.keep fun x hx _ => ⟨by simp at hx; omega, rfl⟩, HSUF.out.trans HBV.out⟩, HBF.out⟩
  · by_cases c2 : 100 ≤ n ∧ n < 100 + (vars.length : Int)
    · have HN := Lib.hid (firstM_letter (s := ⟨sorts, ops⟩) (vars := vars) (f := f) (rest := rest) (n := n) (by simp only; omega) c2)
      obtain ⟨k, rfl⟩ : ∃ k : Nat, n = 100 + (k : Int) := ⟨(n - 100).toNat, by omega⟩
      obtain ⟨hv2, hv3⟩ := c2
      have hk : k < vars.length := by omega
      obtain ⟨b6, o6, c6, e, hy⟩ := HV2.out.at_ hk
      cases e
      rw [show ((100 : Int) + (k : Int) - 100).toNat = k by omega, getD_at _ hk] at HN
      generalize vars[k] = y at hy HN
      go_enter Try.func94, Try.ntmps94
      go_wp2_with fail
      have hcc : (1 : Int) ≤ (c4 : Int) := by omega
      go_quiet (fail)
      generalize hA5 : (if c4 = 1 then (some (⟨b, o, none⟩ : Addr)) else some ⟨b, o + 1, none⟩) = A5
      have HSUF := Lib.hid (SufOf.tail (b := b) (o := o) (c := c4) (n := 100 + (k : Int)) (rest := rest) (A := A5) (tail_addr hA5))
      clear hA5
      have HBF := Lib.hid (below_drewN HB1.out nq)
      go_wp2
      refine bodyPost_ret (v := .tuple #[.iface 124 (.agg #[.int .i64 (100 + (k : Int) - 100), .int .i64 y]), .slice A5 rest.length (c4 - 1), .bool true]) (by simp [results, Try.results94, go_sem]) rfl ?_
      rw [HN.out]
      exact ⟨⟨_, _, rfl, by unfold RTerm; rw [show (100 : Int) + (k : Int) - 100 = (k : Int) by omega], HSUF.out⟩, HBF.out⟩
    · have HN := Lib.hid (firstM_bad (s := ⟨sorts, ops⟩) (vars := vars) (f := f) (rest := rest) (n := n) (by simp only; omega) c2)
      by_cases c3 : n < 100
      · go_enter Try.func94, Try.ntmps94
        go_wp2_with fail
        have hcc : (1 : Int) ≤ (c4 : Int) := by omega
        go_quiet (fail)
        generalize hA5 : (if c4 = 1 then (some (⟨b, o, none⟩ : Addr)) else some ⟨b, o + 1, none⟩) = A5
        clear hA5
        have HBF := Lib.hid (below_drewN HB1.out nq)
        go_wp2
        refine bodyPost_ret (v := .tuple #[.nilIface, .slice none 0 0, .bool false]) (by simp [results, Try.results94, go_sem]) rfl ?_
        rw [HN.out]
        exact ⟨rfl, HBF.out⟩
      · obtain ⟨k, rfl⟩ : ∃ k : Nat, n = 100 + (k : Int) := ⟨(n - 100).toNat, by omega⟩
        have hk : (vars.length : Int) ≤ 100 + (k : Int) - 100 := by omega
        go_enter Try.func94, Try.ntmps94
        go_wp2_with fail
        have hcc : (1 : Int) ≤ (c4 : Int) := by omega
        go_quiet (fail)
        generalize hA5 : (if c4 = 1 then (some (⟨b, o, none⟩ : Addr)) else some ⟨b, o + 1, none⟩) = A5
        clear hA5
        have HBF := Lib.hid (below_drewN HB1.out nq)
        go_wp2
        refine bodyPost_ret (v := .tuple #[.nilIface, .slice none 0 0, .bool false]) (by simp [results, Try.results94, go_sem]) rfl ?_
        rw [HN.out]
        exact ⟨rfl, HBF.out⟩

theorem first_any (s : MSig) (vars : List Int) (hv : varsB s vars = true) : ∀ f, FirstAt s vars f := by
  intro f
  induction f with
  | zero =>
    intro r w v vv rv hr hsm h1 h2 h3
    obtain rfl := List.eq_nil_of_length_eq_zero (Nat.le_zero.1 hr)
    exact first_empty s vars 0 w v vv rv h1 h2 h3
  | succ f ih =>
    intro r w v vv rv hr hsm h1 h2 h3
    cases r with
    | nil => exact first_empty s vars _ w v vv rv h1 h2 h3
    | cons n rest => exact first_step s vars hv f ih n rest w v vv rv (by simpa using hr) hsm h1 h2 h3

def TermPost (res : Option Tm) (w : World) (e : Ending) (w' : World) : Prop :=
  (match res with
    | some tm => ∃ u, e = .returned (.tuple #[u, .bool true]) ∧ RTerm w' (fun x => w.heap.size ≤ x) u tm
    | none => e = .returned (.tuple #[.nilIface, .bool false])) ∧ Below w.heap.size w w'
theorem termM_no {s : MSig} {vars t : List Int} (h : ¬ (varsB s vars = true ∧ t.length ≤ 30)) : termM s vars t = none := by unfold termM; rw [if_neg h]
theorem termM_yes {s : MSig} {vars t : List Int} (h : varsB s vars = true) (h2 : t.length ≤ 30) : termM s vars t = match firstM s vars 30 t with
    | some (tm, []) => some tm
    | _ => none := by
  unfold termM
  rw [if_pos ⟨h, h2⟩]
  cases firstM s vars 30 t with
  | none => rfl
  | some q => obtain ⟨tm, b⟩ := q; cases b <;> rfl

set_option maxRecDepth 100000 in
theorem termOf_any (s : MSig) (vars t : List Int) (w : World) (v vv tv : Value) (hsm : Small t) (h1 : RSig w v s) (h2 : RInts w vv vars) (h3 : RInts w tv t) :
    Calls Try.prog 77 #[v, vv, tv] w (TermPost (termM s vars t) w) := by
  obtain ⟨u, rfl, hrr⟩ := h1
  obtain ⟨sorts, ops⟩ := s
  obtain ⟨A, c, rfl, -⟩ := hrr.form
  have hb1 := below_alloc w (.cells #[.int .i64 sorts, .slice A ops.length c] 35)
  have hbx := Lib.hid (box_cells w (.int .i64 sorts) (.slice A ops.length c) 35)
  have HS := Lib.hid (show RSig (w.alloc (.cells #[.int .i64 sorts, .slice A ops.length c] 35)) (.agg #[.int .i64 sorts, .slice A ops.length c]) ⟨sorts, ops⟩ from ⟨_, rfl, hrr.keep hb1⟩)
  have HV2 := Lib.hid (h2.keep hb1)
  have HV3 := Lib.hid (h3.keep hb1)
  have hlen := h3.len
  obtain ⟨A2, c2, rfl, -⟩ := h2.form
  obtain ⟨A3, c3, rfl, -⟩ := h3.form
  have HB1 := Lib.hid hb1
  clear hrr h2 h3 hb1
  cases hv : varsB ⟨sorts, ops⟩ vars with
  | false =>
    have HN := Lib.hid (termM_no (s := ⟨sorts, ops⟩) (vars := vars) (t := t) (by rw [hv]; simp))
    have HV := Lib.hid hv
    clear hv
    go_enter Try.func77, Try.ntmps77
    go_wp2_with (go_at_call 93; refine (varsOk_any _ _ ⟨sorts, ops⟩ vars _ HS.out HV2.out).mono ?_; rw [HV.out]; rintro e w1 ⟨rfl, hb⟩)
    refine bodyPost_ret (v := .tuple #[.nilIface, .bool false]) (by simp [results, Try.results77, go_sem]) rfl ?_
    rw [HN.out]
    exact ⟨rfl, HB1.out.trans (hb.mono (by simp))⟩
  | true =>
    by_cases hl : 30 < (t.length : Int)
    · have HN := Lib.hid (termM_no (s := ⟨sorts, ops⟩) (vars := vars) (t := t) (by omega))
      have HV := Lib.hid hv
      clear hv
      go_enter Try.func77, Try.ntmps77
      go_wp2_with (go_at_call 93; refine (varsOk_any _ _ ⟨sorts, ops⟩ vars _ HS.out HV2.out).mono ?_; rw [HV.out]; rintro e w1 ⟨rfl, hb⟩)
      refine bodyPost_ret (v := .tuple #[.nilIface, .bool false]) (by simp [results, Try.results77, go_sem]) rfl ?_
      rw [HN.out]
      exact ⟨rfl, HB1.out.trans (hb.mono (by simp))⟩
    · have HN := Lib.hid (termM_yes hv (t := t) (by omega))
      have HV := Lib.hid hv
      clear hv
      have hl3 : (t.length : Int) ≤ 30 := by omega
      go_enter Try.func77, Try.ntmps77
      go_wp2_with (go_at_call 93; refine (varsOk_any _ _ ⟨sorts, ops⟩ vars _ HS.out HV2.out).mono ?_; rw [HV.out]; rintro e w1 ⟨rfl, hb⟩; have f0 := cell_keep hb hbx.out.1; have f1 := cell_keep hb hbx.out.2; have HB := Lib.hid hb; clear hb)
      refine (first_any ⟨sorts, ops⟩ vars HV.out 30 t _ _ _ _ (by omega) hsm (HS.out.keep HB.out) (HV2.out.keep HB.out) (HV3.out.keep HB.out)).mono ?_
      rintro e w2 ⟨hm, hb2⟩
      have s1 := HB.out.size
      simp at s1
      have HBF := Lib.hid ((HB1.out.trans (HB.out.mono (by simp))).trans (hb2.mono (by omega)))
      clear hb2 f0 f1
      cases hf : firstM ⟨sorts, ops⟩ vars 30 t with
      | none =>
        rw [hf] at hm
        simp only at hm
        subst hm
        have HF := Lib.hid hf
        clear hf
        go_wp2
        refine bodyPost_ret (v := .tuple #[.nilIface, .bool false]) (by simp [results, Try.results77, go_sem]) rfl ?_
        rw [HN.out, HF.out]
        exact ⟨rfl, HBF.out⟩
      | some q =>
        obtain ⟨tm, rb⟩ := q
        rw [hf] at hm
        simp only at hm
        obtain ⟨u, bv, rfl, hu, hbv⟩ := hm
        have HF := Lib.hid hf
        have HU := Lib.hid hu
        obtain ⟨T, y, fid, rfl, -⟩ := hu.sorts
        obtain ⟨A6, c7, rfl⟩ := hbv.1
        clear hf hbv hu
        by_cases hrb : 0 < (rb.length : Int)
        · go_wp2
          refine bodyPost_ret (v := .tuple #[.nilIface, .bool false]) (by simp [results, Try.results77, go_sem]) rfl ?_
          rw [HN.out, HF.out]
          cases rb with
          | nil => simp at hrb
          | cons x rb => exact ⟨rfl, HBF.out⟩
        · go_wp2
          refine bodyPost_ret (v := .tuple #[.iface T y, .bool true]) (by simp [results, Try.results77, go_sem]) rfl ?_
          rw [HN.out, HF.out]
          cases rb with
          | nil => exact ⟨⟨_, rfl, HU.out.keep fun x hx _ => ⟨by omega, rfl⟩⟩, HBF.out⟩
          | cons x rb => simp at hrb; omega
end Go.Proofs.Yteccjnnhihbdhab
