/- slices.Clone, TermAt of both packages. · TermPut of both packages. · slices.Grow (of nil), slices.Concat. · TermSwap of both packages. · slices.Equal on rows of numbers. -/
import Derived.Test.YtbopcghbmbchkaaK7d491309
import Derived.Deep.RegionHeld3
import Derived.Lib.SliceRun
import Derived.Lib.AppendZeros
namespace Go.Proofs.Ytbopcghbmbchkaa
section
open Go.RowKit
set_option linter.unusedVariables false

theorem RInts.cut {w : World} {b o c k e : Nat} {A : Option Addr} {t : List Int} (h : RInts w (.slice (some ⟨b, o, none⟩) t.length c) t) (hk : k ≤ e) (he : e ≤ t.length) (hA : A = some ⟨b, o + k, none⟩) :
    RInts w (.slice A (e - k) (c - k)) ((t.drop k).take (e - k)) := by
  subst hA
  have hl : ((t.drop k).take (e - k)).length = e - k := by rw [List.length_take, List.length_drop]; omega
  obtain ⟨A', c', e', h1, h2, h3⟩ := h
  cases e'
  refine ⟨some ⟨b, o + k, none⟩, c - k, by rw [hl], by rw [hl]; omega, by omega, fun j x hj => ?_⟩
  rw [List.getElem?_take] at hj
  split at hj
  · rw [List.getElem?_drop] at hj
    obtain ⟨b', o', e', hc⟩ := h3 _ _ hj
    cases e'
    exact ⟨b, o + k, rfl, by rw [← hc]; congr 2; omega⟩
  · cases hj



theorem atM_nil {s : MSig} {vars t : List Int} {k : Int} (h : ¬ (0 ≤ sortM s vars t ∧ 0 ≤ k ∧ k < t.length)) : atM s vars t k = [] := by unfold atM; rw [if_neg h]
theorem atM_yes {s : MSig} {vars t : List Int} {k : Nat} (h : 0 ≤ sortM s vars t) (hk : k < t.length) : atM s vars t k = partM s vars t k := by unfold atM; rw [if_pos ⟨h, by omega, by omega⟩, Int.toNat_natCast]

theorem at_small {s : MSig} {vars t : List Int} {a : Int} (h : Small t) : Small (atM s vars t a) := fun x hx => by
  by_cases hc : 0 ≤ sortM s vars t ∧ 0 ≤ a ∧ a < (t.length : Int)
  · obtain ⟨k, rfl⟩ := Int.eq_ofNat_of_zero_le hc.2.1
    obtain ⟨pre, sub, post, a1, a2, a3, a4, a5, -⟩ := part_of hc.1 (k := k) (by omega)
    rw [atM_yes hc.1 (by omega), a5] at hx
    exact h x (by rw [a1]; simp [hx])
  · rw [atM_nil hc] at hx; simp at hx
/-- a part that there is -/
theorem at_there {s : MSig} {vars t : List Int} {a : Int} (h : atM s vars t a ≠ []) : ∃ (k : Nat) (pre : List Int) (sub : Tm) (post : List Int), a = (k : Int) ∧ k < t.length ∧ t.length ≤ 30 ∧ 0 ≤ sortM s vars t ∧ varsB s vars = true ∧ t = pre ++ sub.row ++ post ∧ pre.length = k ∧ atM s vars t a = sub.row ∧ sortM s vars sub.row = sub.sort ∧ 0 ≤ sub.sort ∧ wfT s vars sub ∧ 1 ≤ sub.row.length ∧
    ∀ u : Tm, wfT s vars u → u.sort = sub.sort → (pre ++ u.row ++ post).length ≤ 30 → sortM s vars (pre ++ u.row ++ post) = sortM s vars t := by
  by_cases hc : 0 ≤ sortM s vars t ∧ 0 ≤ a ∧ a < (t.length : Int)
  · obtain ⟨k, rfl⟩ := Int.eq_ofNat_of_zero_le hc.2.1
    have hk : k < t.length := by omega
    obtain ⟨pre, sub, post, a1, a2, a3, a4, a5, a6, a7, a8⟩ := part_of hc.1 hk
    obtain ⟨tm0, hvo, hl30, -⟩ := sortM_to hc.1
    exact ⟨k, pre, sub, post, rfl, hk, hl30, hc.1, hvo, a1, a2, by rw [atM_yes hc.1 hk, a5], a6, a7, a3, row_pos sub, a8⟩
  · exact absurd (atM_nil hc) h
set_option maxHeartbeats 800000 in
set_option maxRecDepth 100000 in
theorem termAt_any (s : MSig) (vars t : List Int) (a : Int) (w : World) (v vv tv : Value) (hsm : Small t) (h1 : RSig w v s) (h2 : RInts w vv vars) (h3 : RInts w tv t) :
    Calls Try.prog 125 #[v, vv, tv, .int .i64 a] w fun e w' => ∃ u, e = .returned u ∧ OInts w' w.heap.size u (atM s vars t a) ∧ Below w.heap.size w w' := by
  obtain ⟨u, rfl, hrr⟩ := h1
  obtain ⟨sorts, ops⟩ := s
  obtain ⟨A, c, rfl, -⟩ := hrr.form
  have hb1 := below_alloc w (.cells #[.int .i64 sorts, .slice A ops.length c] 37)
  have hbx := Lib.hid (box_cells w (.int .i64 sorts) (.slice A ops.length c) 37)
  have HS := Lib.hid (show RSig (w.alloc (.cells #[.int .i64 sorts, .slice A ops.length c] 37)) (.agg #[.int .i64 sorts, .slice A ops.length c]) ⟨sorts, ops⟩ from ⟨_, rfl, hrr.keep hb1⟩)
  have HV2 := Lib.hid (h2.keep hb1)
  have HV3 := Lib.hid (h3.keep hb1)
  have hlen := h3.len
  have HSM := Lib.hid hsm
  obtain ⟨A2, c2, rfl, -⟩ := h2.form
  obtain ⟨A3, c3, rfl, hc3, hc3'⟩ := h3.form
  have HB1 := Lib.hid hb1
  obtain ⟨q, hq⟩ : ∃ q, sortM ⟨sorts, ops⟩ vars t = q := ⟨_, rfl⟩
  have HQ := Lib.hid hq
  clear hrr h2 h3 hb1 hsm hq
  by_cases hq0 : q < 0
  · have HN := Lib.hid (atM_nil (s := ⟨sorts, ops⟩) (vars := vars) (t := t) (k := a) (by rw [HQ.out]; omega))
    go_enter Try.func125, Try.ntmps125
    go_wp2_with (go_at_call 114; refine (termSort_any ⟨sorts, ops⟩ vars t _ _ _ _ HSM.out HS.out HV2.out HV3.out).mono ?_; rw [HQ.out]; rintro e w1 ⟨rfl, hb⟩)
    go_ret
    exact ⟨_, rfl, by rw [HN.out]; exact OInts.nil _ _, HB1.out.trans (hb.mono (by simp))⟩
  by_cases ha0 : a < 0
  · have HN := Lib.hid (atM_nil (s := ⟨sorts, ops⟩) (vars := vars) (t := t) (k := a) (by omega))
    go_enter Try.func125, Try.ntmps125
    go_wp2_with (go_at_call 114; refine (termSort_any ⟨sorts, ops⟩ vars t _ _ _ _ HSM.out HS.out HV2.out HV3.out).mono ?_; rw [HQ.out]; rintro e w1 ⟨rfl, hb⟩)
    go_ret
    exact ⟨_, rfl, by rw [HN.out]; exact OInts.nil _ _, HB1.out.trans (hb.mono (by simp))⟩
  by_cases hal : (t.length : Int) ≤ a
  · have HN := Lib.hid (atM_nil (s := ⟨sorts, ops⟩) (vars := vars) (t := t) (k := a) (by omega))
    go_enter Try.func125, Try.ntmps125
    go_wp2_with (go_at_call 114; refine (termSort_any ⟨sorts, ops⟩ vars t _ _ _ _ HSM.out HS.out HV2.out HV3.out).mono ?_; rw [HQ.out]; rintro e w1 ⟨rfl, hb⟩)
    go_ret
    exact ⟨_, rfl, by rw [HN.out]; exact OInts.nil _ _, HB1.out.trans (hb.mono (by simp))⟩
  obtain ⟨k, rfl⟩ := Int.eq_ofNat_of_zero_le (show 0 ≤ a by omega)
  have hkt : k < t.length := by omega
  have hqq : 0 ≤ sortM ⟨sorts, ops⟩ vars t := by rw [HQ.out]; omega
  obtain ⟨pre, sub, post, hd1, hd2, hd3, hd4, hd5, hd6, hd7, -⟩ := part_of hqq hkt
  obtain ⟨tm0, hvo, hl30, -⟩ := sortM_to hqq
  have hN := atM_yes hqq hkt
  rw [hd5] at hN
  have hlr := row_pos sub
  have hll := congrArg List.length hd1
  simp only [List.length_append] at hll
  have hdk : t.drop k = sub.row ++ post := by rw [hd1, List.append_assoc, ← hd2]; simp
  have hsub : (t.drop k).take (t.length - post.length - k) = sub.row := by
    rw [hdk, List.take_append_of_le_length (by omega), List.take_of_length_le (by omega)]
  have HSUB := Lib.hid hsub
  have HN := Lib.hid hN
  have HF := Lib.hid hd4
  have HV := Lib.hid hvo
  have hpl : post.length ≤ t.length := by omega
  have hel : (k : Int) ≤ (t.length : Int) - (post.length : Int) := by omega
  have hk0 : (0 : Int) ≤ (k : Int) := by omega
  have hk1 : (k : Int) ≤ (t.length : Int) := by omega
  have hk2 : (t.length : Int) - (post.length : Int) ≤ (c3 : Int) := by omega
  have hw : IntKind.i64.wrap ((t.length : Int) - (post.length : Int)) = (t.length : Int) - (post.length : Int) := by rw [IntKind.wrap_i64]; omega
  have HLR := Lib.hid hlr
  have HLL := Lib.hid hll
  obtain ⟨b, o, c', e, hx⟩ := HV3.out.at_ hkt
  cases e
  clear hd1 hd2 hd3 hd4 hd5 hd6 hd7 hsub hN hvo hqq hx hlr hll hdk
  go_enter Try.func125, Try.ntmps125
  go_wp2_with (go_at_call 114; refine (termSort_any ⟨sorts, ops⟩ vars t _ _ _ _ HSM.out HS.out HV2.out HV3.out).mono ?_; rw [HQ.out]; rintro e w1 ⟨rfl, hb⟩; have g0 := cell_keep hb hbx.out.1; have g1 := cell_keep hb hbx.out.2; have HB2 := Lib.hid hb; clear hb)
  have hck : ¬ c3 = k := by omega
  have HCUT := Lib.hid (show RInts w1 (.slice (some ⟨b, o + k, none⟩) (t.length - k) (c3 - k)) (t.drop k) by
    have h := (HV3.out.keep HB2.out).cut (k := k) (e := t.length) (A := some ⟨b, o + k, none⟩) (by omega) (Nat.le_refl _) rfl
    rwa [List.take_of_length_le (by rw [List.length_drop]; omega)] at h)
  have ea := World.new_ne w1 _ g0
  go_region_held3 (fun w' => w'.cell? ⟨w.heap.size, 0, none⟩ = some (.int .i64 sorts) ∧ w'.cell? ⟨w.heap.size, 1, none⟩ = some (.slice A ops.length c)) (first | go_keep)
    (first
      | (go_at_call 123; refine (first_any ⟨sorts, ops⟩ vars HV.out 30 (t.drop k) w1.drew _ _ _ (by rw [List.length_drop]; omega) (fun x hx => HSM.out x (List.mem_of_mem_drop hx)) (HS.out.keep (bel_drew HB2.out)) (HV2.out.keep (bel_drew HB2.out)) (HCUT.out)).mono ?_; rw [HF.out]; rintro e w2 ⟨hm, hb2⟩; simp only at hm; obtain ⟨u, bv, rfl, hu, hbv⟩ := hm; obtain ⟨A6, c7, rfl⟩ := hbv.1; obtain ⟨T, y, fid, rfl, -⟩ := hu.sorts; have HB3 := Lib.hid (bel_undrew hb2); have j0 := cell_keep HB3.out g0; have j1 := cell_keep HB3.out g1; clear hu hbv hb2))
  have HB4 := Lib.hid (fit_keep HB2.out HB3.out)
  have HC2 := Lib.hid (show RInts w2 (.slice (some ⟨b, o + k, none⟩) (t.length - post.length - k) (c3 - k)) sub.row by
    have h := (HV3.out.keep HB4.out).cut (k := k) (e := t.length - post.length) (A := some ⟨b, o + k, none⟩) (by omega) (by omega) rfl
    rwa [HSUB.out] at h)
  have hw2 : ((t.length : Int) - (post.length : Int)).toNat = t.length - post.length := by omega
  clear g0 g1 j0 j1 ea
  go_wp2_with fail
  have hs3 : sub.row.length ≤ 1048576 := by have := HLL.out; omega
  refine (clone_any ⟨b, o + k, none⟩ _ _ sub.row _ HC2.out hs3).mono ?_
  rintro e w3 ⟨u3, rfl, ho3, hb3⟩
  have HO3 := Lib.hid ho3
  have HB5 := Lib.hid (fit_keep HB4.out hb3)
  have s4 := HB4.out.size
  simp at s4
  clear ho3 hb3
  go_wp2
  go_ret
  exact ⟨_, rfl, by rw [HN.out]; exact HO3.out.base (by omega), HB1.out.trans (HB5.out.mono (by simp))⟩

set_option maxHeartbeats 800000 in
set_option maxRecDepth 100000 in
theorem specTermAt_any (s : MSig) (vars t : List Int) (a : Int) (w : World) (v vv tv : Value) (h1 : RSig w v s) (h2 : RInts w vv vars) (h3 : RInts w tv t) :
    Calls Try.prog 109 #[v, vv, tv, .int .i64 a] w fun e w' => ∃ u, e = .returned u ∧ OInts w' w.heap.size u (atM s vars t a) ∧ Below w.heap.size w w' := by
  obtain ⟨i0, hi0, hz0, hz1, hz2⟩ := info_parts Try.tinfo_int
  obtain ⟨u, rfl, hrr⟩ := h1
  obtain ⟨sorts, ops⟩ := s
  obtain ⟨A, c, rfl, -⟩ := hrr.form
  have hb1 := below_alloc w (.cells #[.int .i64 sorts, .slice A ops.length c] 37)
  have hbx := Lib.hid (box_cells w (.int .i64 sorts) (.slice A ops.length c) 37)
  have HS := Lib.hid (show RSig (w.alloc (.cells #[.int .i64 sorts, .slice A ops.length c] 37)) (.agg #[.int .i64 sorts, .slice A ops.length c]) ⟨sorts, ops⟩ from ⟨_, rfl, hrr.keep hb1⟩)
  have HV2 := Lib.hid (h2.keep hb1)
  have HV3 := Lib.hid (h3.keep hb1)
  have hlen := h3.len
  obtain ⟨A2, c2, rfl, -⟩ := h2.form
  obtain ⟨A3, c3, rfl, hc3, hc3'⟩ := h3.form
  have HB1 := Lib.hid hb1
  obtain ⟨q, hq⟩ : ∃ q, sortM ⟨sorts, ops⟩ vars t = q := ⟨_, rfl⟩
  have HQ := Lib.hid hq
  clear hrr h2 h3 hb1 hq
  by_cases hq0 : q < 0
  · have HN := Lib.hid (atM_nil (s := ⟨sorts, ops⟩) (vars := vars) (t := t) (k := a) (by rw [HQ.out]; omega))
    go_enter Try.func109, Try.ntmps109
    go_wp2_with (go_at_call 105; refine (specTermSort_any ⟨sorts, ops⟩ vars t _ _ _ _ HS.out HV2.out HV3.out).mono ?_; rw [HQ.out]; rintro e w1 ⟨rfl, hb⟩; have HB2 := Lib.hid hb; clear hb)
    go_ret
    have s1 := HB2.out.size
    simp at s1
    exact ⟨_, rfl, by rw [HN.out]; exact (own_empty w1).base (by omega), (HB1.out.trans (HB2.out.mono (by simp))).trans ((below_alloc _ _).mono (by omega))⟩
  by_cases hin : 0 ≤ a ∧ a < (t.length : Int)
  · obtain ⟨k, rfl⟩ := Int.eq_ofNat_of_zero_le hin.1
    have hkt : k < t.length := by omega
    have hqq : 0 ≤ sortM ⟨sorts, ops⟩ vars t := by rw [HQ.out]; omega
    obtain ⟨pre, sub, post, hd1, hd2, hd3, hd4, hd5, hd6, hd7, -⟩ := part_of hqq hkt
    obtain ⟨tm0, hvo, hl30, -⟩ := sortM_to hqq
    have hN := atM_yes hqq hkt
    rw [hd5] at hN
    have hlr := row_pos sub
    have hll := congrArg List.length hd1
    simp only [List.length_append] at hll
    have hdk : t.drop k = sub.row ++ post := by rw [hd1, List.append_assoc, ← hd2]; simp
    have hsub : (t.drop k).take (t.length - post.length - k) = sub.row := by
      rw [hdk, List.take_append_of_le_length (by omega), List.take_of_length_le (by omega)]
    have HSUB := Lib.hid hsub
    have HN := Lib.hid hN
    have HF := Lib.hid hd4
    have HV := Lib.hid hvo
    have HI := Lib.hid (show inB (k : Int) 0 ((t.length : Int) - 1) = true by unfold inB; simp; omega)
    have hk0 : (0 : Int) ≤ (k : Int) := by omega
    have hk1 : (k : Int) ≤ (t.length : Int) := by omega
    have hck : ¬ c3 = k := by omega
    obtain ⟨en, hen⟩ : ∃ en, en = t.length - post.length := ⟨_, rfl⟩
    have he0 : (k : Int) ≤ (en : Int) := by omega
    have he1 : (en : Int) ≤ (t.length : Int) := by omega
    have he2 : (en : Int) ≤ (c3 : Int) := by omega
    have hs3 : sub.row.length = en - k := by omega
    have hs4 : en ≤ 30 := by omega
    have HEN := Lib.hid hen
    obtain ⟨b, o, c', e, hx⟩ := HV3.out.at_ hkt
    cases e
    clear hd1 hd2 hd3 hd4 hd5 hd6 hd7 hsub hN hvo hqq hx hlr hll hdk hen
    go_enter Try.func109, Try.ntmps109
    go_wp2_with (first
      | (go_at_call 105; refine (specTermSort_any ⟨sorts, ops⟩ vars t _ _ _ _ HS.out HV2.out HV3.out).mono ?_; rw [HQ.out]; rintro e w1 ⟨rfl, hb⟩; have g0 := cell_keep hb hbx.out.1; have g1 := cell_keep hb hbx.out.2; have HB2 := Lib.hid hb; clear hb)
      | (go_at_call 94; refine (l1In_is _ _ _ _ _ HI.out).mono ?_; rintro e w' ⟨rfl, rfl⟩)
      | (go_at_call 122; refine (end_any ⟨sorts, ops⟩ vars HV.out 30 t k _ _ _ _ (by rw [List.length_drop]; omega) (HS.out.keep HB2.out) (HV2.out.keep HB2.out) (HV3.out.keep HB2.out)).mono ?_; rw [HF.out, endV_some, ← HEN.out]; rintro e w2 ⟨rfl, hb2⟩; have HB3 := Lib.hid hb2; clear hb2 g0 g1)
      | (at_builtin; refine wpList_append_own _ rfl _ _ 28 rfl w2.heap.size 3 i0 (.int .i64 0) 1 8 Try.underlying28 hi0 hz0 hz1 hz2 rfl (by decide) _ 0 [] rfl (own_empty w2) ⟨b, o + k, none⟩ (en - k) (c3 - k) (sub.row.map (Value.int .i64)) rfl (by simp [hs3]) (news_any ((show RInts w2 (.slice (some ⟨b, o + k, none⟩) (en - k) (c3 - k)) sub.row by
            have h := (HV3.out.keep (fit_keep HB2.out HB3.out)).cut (k := k) (e := en) (A := some ⟨b, o + k, none⟩) (by omega) (by omega) rfl
            rw [HEN.out, HSUB.out, ← HEN.out] at h
            exact h).keep (below_alloc w2 _))) (ints_one _) (by rw [maxLen_eq]; omega) (by omega) (by simp) ?_))
    intro v' w4 hown4 hgrow4 _
    have HO := Lib.hid hown4
    have HG := Lib.hid (own_cut hgrow4 (fun k e => by injection e with e; exact Nat.le_of_eq e))
    have HB5 := Lib.hid (fit_keep (fit_keep HB2.out HB3.out) HG.out)
    have s2 := (fit_keep HB2.out HB3.out).size
    simp at s2
    clear hown4 hgrow4
    go_wp2
    go_ret
    refine ⟨_, rfl, ?_, HB1.out.trans (HB5.out.mono (by simp))⟩
    have h := HO.out
    rw [HN.out]
    refine OInts.base (B := w2.heap.size) ?_ (by omega)
    unfold OInts
    rw [hs3]
    simpa using h
  · have HN := Lib.hid (atM_nil (s := ⟨sorts, ops⟩) (vars := vars) (t := t) (k := a) (by omega))
    have HI := Lib.hid (show inB a 0 ((t.length : Int) - 1) = false by unfold inB; simp; omega)
    clear hin
    go_enter Try.func109, Try.ntmps109
    go_wp2_with (first
      | (go_at_call 105; refine (specTermSort_any ⟨sorts, ops⟩ vars t _ _ _ _ HS.out HV2.out HV3.out).mono ?_; rw [HQ.out]; rintro e w1 ⟨rfl, hb⟩; have HB2 := Lib.hid hb; clear hb)
      | (go_at_call 94; refine (l1In_is _ _ _ _ _ HI.out).mono ?_; rintro e w' ⟨rfl, rfl⟩))
    go_ret
    have s1 := HB2.out.size
    simp at s1
    exact ⟨_, rfl, by rw [HN.out]; exact (own_empty w1).base (by omega), (HB1.out.trans (HB2.out.mono (by simp))).trans ((below_alloc _ _).mono (by omega))⟩
end

section
open Go.RowKit
set_option linter.unusedVariables false

def putM (s : MSig) (vars t others : List Int) (terms : List (List Int)) : List Int × Bool :=
  if 0 ≤ sortM s vars t ∧ fitsB s others terms vars = true ∧ (putRow terms t).length ≤ 30 then (putRow terms t, true) else ([], false)
def putOne (terms : List (List Int)) (n : Int) : List Int := if 100 ≤ n then terms.getD (n - 100).toNat [] else [n]
theorem putRow_take {terms : List (List Int)} {t : List Int} {k : Nat} (hk : k < t.length) : putRow terms (t.take (k + 1)) = putRow terms (t.take k) ++ putOne terms t[k] := by
  unfold putRow putOne
  rw [List.take_succ_eq_append_getElem hk, List.flatMap_append]; simp
theorem fits_len {s : MSig} {others sorts : List Int} {terms : List (List Int)} (h : fitsB s others terms sorts = true) : terms.length = sorts.length ∧ varsB s others = true ∧ ∀ k (hk : k < terms.length), sortM s others terms[k] = sorts.getD k 0 ∧ 0 ≤ sortM s others terms[k] := by
  rw [fitsB_eq] at h
  simp only [Bool.and_eq_true, decide_eq_true_eq, List.all_eq_true] at h
  refine ⟨h.2.1, h.1, fun k hk => ?_⟩
  have hz : k < (terms.zip sorts).length := by rw [List.length_zip]; omega
  have hp := h.2.2 _ (List.getElem_mem hz)
  rw [List.getElem_zip] at hp
  unfold fitP at hp
  simp only [Bool.and_eq_true, decide_eq_true_eq] at hp
  rw [getD_at _ (by omega)]
  exact ⟨hp.2, by rw [hp.2]; exact hp.1⟩
theorem fits_rows {s : MSig} {others sorts : List Int} {terms : List (List Int)} (h : fitsB s others terms sorts = true) : ∀ k (hk : k < terms.length), 1 ≤ terms[k].length ∧ terms[k].length ≤ 30 := fun k hk => by
  obtain ⟨tm, a, b, c, d, e⟩ := sortM_to ((fits_len h).2.2 k hk).2
  have := row_pos tm
  rw [d] at this
  exact ⟨this, b⟩
theorem sort_nums {s : MSig} {vars t : List Int} (h : 0 ≤ sortM s vars t) : ∀ n ∈ t, n < 100 ∨ (100 ≤ n ∧ n < 100 + (vars.length : Int)) := fun n hn => by
  obtain ⟨tm, a, b, c, d, e⟩ := sortM_to h
  subst d
  have hv := (vars_valid a).1
  rcases nums_t (ops_few hv) tm c n hn with hh | hh
  · have := (valid_sorts hv).2.2; omega
  · exact .inr hh
/-- what the loops of both need: each number an operation or a letter, each row neither empty nor long -/
structure PutOk (t : List Int) (terms : List (List Int)) : Prop where
  few : t.length ≤ 30
  nums : ∀ n ∈ t, n < 100 ∨ (100 ≤ n ∧ n < 100 + (terms.length : Int))
  rows : ∀ k (hk : k < terms.length), 1 ≤ terms[k].length ∧ terms[k].length ≤ 30
theorem putOk_of {s : MSig} {vars t others : List Int} {terms : List (List Int)} (h1 : 0 ≤ sortM s vars t) (h2 : fitsB s others terms vars = true) : PutOk t terms := by
  obtain ⟨tm, a, b, c, d, e⟩ := sortM_to h1
  exact ⟨b, fun n hn => by have := sort_nums h1 n hn; rw [(fits_len h2).1]; exact this, fits_rows h2⟩
theorem PutOk.one {t : List Int} {terms : List (List Int)} (h : PutOk t terms) {n : Int} (hn : n ∈ t) : 1 ≤ (putOne terms n).length ∧ (putOne terms n).length ≤ 30 := by
  unfold putOne
  rcases h.nums n hn with hh | hh
  · rw [if_neg (by omega)]; simp
  · rw [if_pos hh.1, getD_at _ (by omega)]; exact h.rows _ (by omega)
theorem PutOk.short {t : List Int} {terms : List (List Int)} (h : PutOk t terms) : ∀ k, k ≤ t.length → (putRow terms (t.take k)).length ≤ 30 * k := fun k => by
  induction k with
  | zero => intro _; simp [putRow]
  | succ k ih =>
    intro hk
    rw [putRow_take (by omega), List.length_append]
    have := ih (by omega)
    have := (h.one (List.getElem_mem (show k < t.length by omega))).2
    omega
theorem app_ints {w : World} {B m : Nat} {v : Value} {ps rs : List Int} (hm : rs.length = m) (h : w.ownsRow B 3 1 v (ps.length + m) (ps.map (Value.int .i64) ++ rs.map (Value.int .i64))) : OInts w B v (ps ++ rs) := by
  unfold OInts; rw [List.length_append, List.map_append, hm]; exact h
theorem one_new (w : World) (n : Int) : ∀ (j : Nat) (u : Value), ([n].map (Value.int .i64))[j]? = some u → (w.alloc (.cells #[.int .i64 n] 3)).cell? ((⟨w.heap.size, 0, none⟩ : Addr).add j) = some u := by
  intro j u hj
  match j, hj with
  | 0, hj =>
    simp at hj
    subst hj
    rw [show (⟨w.heap.size, 0, none⟩ : Addr).add 0 = ⟨w.heap.size, 0, none⟩ by simp [Addr.add], World.cell?_alloc_at _ _ _ _ rfl]; rfl

set_option maxHeartbeats 800000 in
set_option maxRecDepth 100000 in
theorem l2Put_any (t : List Int) (terms : List (List Int)) (w : World) (v tv : Value) (hok : PutOk t terms) (h1 : RInts w v t) (h2 : RRows w tv terms) :
    Calls Try.prog 74 #[v, tv] w fun e w' => ∃ u, e = .returned u ∧ OInts w' w.heap.size u (putRow terms t) ∧ Below w.heap.size w w' := by
  obtain ⟨i0, hi0, hz0, hz1, hz2⟩ := info_parts Try.tinfo_int
  have H1 := Lib.hid h1
  have H2 := Lib.hid h2
  have HOK := Lib.hid hok
  have hl1 := h1.len
  have hl2 := h2.len
  obtain ⟨A1, c1, rfl, -⟩ := h1.form
  obtain ⟨A2, c2, rfl, -⟩ := h2.form
  clear h1 h2 hok
  go_enter Try.func74, Try.ntmps74
  go_wp2
  go_loopw [5, 6] (fun p i wr => ∃ k : Nat, k ≤ t.length ∧ i = .int .i64 k ∧ OInts wr w.heap.size p (putRow terms (t.take k)) ∧ Below w.heap.size w wr) (fun _ i _ => t.length - (intOf i).toNat)
  case atStart => exact ⟨0, Nat.zero_le _, rfl, own_empty w, below_alloc _ _⟩
  case round =>
    obtain ⟨k, hk, rfl, ho, hb⟩ := hrel
    obtain ⟨A9, c9, rfl, -⟩ := own_reads ho
    have HO := Lib.hid ho
    have HB := Lib.hid hb
    clear ho hb
    by_cases hlt : k < t.length
    · have hlt' : (k : Int) < (t.length : Int) := by omega
      have hk0 : (0 : Int) ≤ (k : Int) := by omega
      obtain ⟨b, o, c', e, hx⟩ := (H1.out.keep HB.out).at_ hlt
      cases e
      have HTK := Lib.hid (putRow_take (terms := terms) hlt)
      have HNUM := Lib.hid (HOK.out.nums _ (List.getElem_mem hlt))
      have hsh := HOK.out.short k hk
      have h30 := HOK.out.few
      have hone := (HOK.out.one (List.getElem_mem hlt)).2
      generalize t[k] = n at hx HTK HNUM hone
      have hs1 := HB.out.size
      generalize hps : putRow terms (t.take k) = ps at HO HTK hsh
      clear hps
      by_cases hn : 100 ≤ n
      · obtain ⟨j, rfl⟩ : ∃ j : Nat, n = 100 + (j : Int) := ⟨(n - 100).toNat, by omega⟩
        have hj : j < terms.length := by have := HNUM.out; omega
        obtain ⟨b2, o2, c3, u2, e, hcell, hri⟩ := (H2.out.keep HB.out).at_ hj
        cases e
        have hrow := HOK.out.rows j hj
        have HP := Lib.hid (show putOne terms (100 + (j : Int)) = terms[j] by unfold putOne; rw [if_pos (by omega), show ((100 : Int) + (j : Int) - 100).toNat = j by omega, getD_at _ hj])
        generalize terms[j] = r at hcell hri hrow HP
        obtain ⟨b3, o3, c5, rfl, hx3⟩ := hri.at_ (k := 0) (by omega)
        have HNEWS := Lib.hid (news_of hri)
        have hj' : (j : Int) < (terms.length : Int) := by omega
        have hj0 : (0 : Int) ≤ (j : Int) := by omega
        have hw : IntKind.i64.wrap (100 + (j : Int) - 100) = (j : Int) := by rw [IntKind.wrap_i64]; omega
        clear hx3 hri
        go_wp2_with (at_builtin; refine wpList_append_own _ rfl _ _ 28 rfl w.heap.size 3 i0 (.int .i64 0) 1 8 Try.underlying28 hi0 hz0 hz1 hz2 rfl (by decide) _ ps.length (ps.map (Value.int .i64)) rfl HO.out ⟨b3, o3, none⟩ r.length c5 (r.map (Value.int .i64)) rfl (by simp) HNEWS.out (ints_one _) (by rw [maxLen_eq]; omega) (by omega) hs1 ?_)
        intro v' w4 hown4 hgrow4 _
        have HO4 := Lib.hid (app_ints rfl hown4)
        have HB4 := Lib.hid (HB.out.grown hgrow4 hs1 (fun k e => (own_lt HO.out k e).1))
        clear hown4 hgrow4
        go_wp2
        go_roundw
        case rel => exact ⟨k + 1, by omega, by go_num, by rw [HTK.out, HP.out]; exact HO4.out, HB4.out⟩
        case measure => simp [intOf]; omega
      · have HP := Lib.hid (show putOne terms n = [n] by unfold putOne; rw [if_neg hn])
        go_wp2_with (at_builtin; refine wpList_append_own _ rfl _ _ 28 rfl w.heap.size 3 i0 (.int .i64 0) 1 8 Try.underlying28 hi0 hz0 hz1 hz2 rfl (by decide) _ ps.length (ps.map (Value.int .i64)) rfl (own_keep HO.out (below_alloc wr _)) ⟨wr.heap.size, 0, none⟩ 1 1 ([n].map (Value.int .i64)) rfl (by simp) (one_new wr n) (ints_one _) (by rw [maxLen_eq]; omega) (by omega) (by simp; omega) ?_)
        intro v' w4 hown4 hgrow4 _
        have HO4 := Lib.hid (app_ints (rs := [n]) rfl hown4)
        have HB4 := Lib.hid ((HB.out.alloc hs1 (.cells #[.int .i64 n] 3)).grown hgrow4 (by simp; omega) (fun k e => (own_lt HO.out k e).1))
        clear hown4 hgrow4
        go_wp2
        go_roundw
        case rel => exact ⟨k + 1, by omega, by go_num, by rw [HTK.out, HP.out]; exact HO4.out, HB4.out⟩
        case measure => simp [intOf]; omega
    · have hlt' : ¬ (k : Int) < (t.length : Int) := by omega
      have HTA := Lib.hid (show t.take k = t from take_all (by omega))
      rw [HTA.out] at HO ⊢
      go_wp2
      go_ret
      exact ⟨_, rfl, HO.out, HB.out⟩

theorem putM_no {s : MSig} {vars t others : List Int} {terms : List (List Int)} (h : ¬ (0 ≤ sortM s vars t ∧ fitsB s others terms vars = true ∧ (putRow terms t).length ≤ 30)) : putM s vars t others terms = ([], false) := by unfold putM; rw [if_neg h]
theorem putM_yes {s : MSig} {vars t others : List Int} {terms : List (List Int)} (h : 0 ≤ sortM s vars t ∧ fitsB s others terms vars = true ∧ (putRow terms t).length ≤ 30) : putM s vars t others terms = (putRow terms t, true) := by unfold putM; rw [if_pos h]

/-- what a function that makes a row and tells whether it could answers -/
def PairPost (R : List Int × Bool) (w : World) (e : Ending) (w' : World) : Prop := ∃ u, e = .returned (.tuple #[u, .bool R.2]) ∧ OInts w' w.heap.size u R.1 ∧ Below w.heap.size w w'

set_option maxHeartbeats 800000 in
set_option maxRecDepth 100000 in
theorem specTermPut_any (s : MSig) (vars t others : List Int) (terms : List (List Int)) (w : World) (v vv tv ov sv : Value) (hsm : ∀ r ∈ terms, Small r) (h1 : RSig w v s) (h2 : RInts w vv vars) (h3 : RInts w tv t) (h4 : RInts w ov others) (h5 : RRows w sv terms) :
    Calls Try.prog 76 #[v, vv, tv, ov, sv] w (PairPost (putM s vars t others terms) w) := by
  obtain ⟨u, rfl, hrr⟩ := h1
  obtain ⟨sorts, ops⟩ := s
  obtain ⟨A, c, rfl, -⟩ := hrr.form
  have hb1 := below_alloc w (.cells #[.int .i64 sorts, .slice A ops.length c] 37)
  have hbx := Lib.hid (box_cells w (.int .i64 sorts) (.slice A ops.length c) 37)
  have HS := Lib.hid (show RSig (w.alloc (.cells #[.int .i64 sorts, .slice A ops.length c] 37)) (.agg #[.int .i64 sorts, .slice A ops.length c]) ⟨sorts, ops⟩ from ⟨_, rfl, hrr.keep hb1⟩)
  have HV2 := Lib.hid (h2.keep hb1)
  have HV3 := Lib.hid (h3.keep hb1)
  have HV4 := Lib.hid (h4.keep hb1)
  have HV5 := Lib.hid (h5.keep hb1)
  have HSM := Lib.hid hsm
  obtain ⟨A2, c2, rfl, -⟩ := h2.form
  obtain ⟨A3, c3, rfl, -⟩ := h3.form
  obtain ⟨A4, c4, rfl, -⟩ := h4.form
  obtain ⟨A5, c5, rfl, -⟩ := h5.form
  have HB1 := Lib.hid hb1
  obtain ⟨q, hq⟩ : ∃ q, sortM ⟨sorts, ops⟩ vars t = q := ⟨_, rfl⟩
  have HQ := Lib.hid hq
  clear hrr h2 h3 h4 h5 hb1 hq hsm
  by_cases hq0 : q < 0
  · have HN := Lib.hid (putM_no (s := ⟨sorts, ops⟩) (vars := vars) (t := t) (others := others) (terms := terms) (by rw [HQ.out]; omega))
    go_enter Try.func76, Try.ntmps76
    go_wp2_with (go_at_call 105; refine (specTermSort_any ⟨sorts, ops⟩ vars t _ _ _ _ HS.out HV2.out HV3.out).mono ?_; rw [HQ.out]; rintro e w1 ⟨rfl, hb⟩; have HB2 := Lib.hid hb; clear hb)
    have s1 := HB2.out.size
    simp at s1
    refine bodyPost_ret (v := .tuple #[.slice (some ⟨w1.heap.size, 0, none⟩) 0 0, .bool false]) (by simp [results, Try.results76, go_sem]) rfl ?_
    rw [HN.out]
    exact ⟨_, rfl, (own_empty w1).base (by omega), (HB1.out.trans (HB2.out.mono (by simp))).trans ((below_alloc _ _).mono (by omega))⟩
  cases hf : fitsB ⟨sorts, ops⟩ others terms vars with
  | false =>
    have HF := Lib.hid hf
    have HN := Lib.hid (putM_no (s := ⟨sorts, ops⟩) (vars := vars) (t := t) (others := others) (terms := terms) (by rw [HF.out]; simp))
    clear hf
    go_enter Try.func76, Try.ntmps76
    go_wp2_with (first
      | (go_at_call 105; refine (specTermSort_any ⟨sorts, ops⟩ vars t _ _ _ _ HS.out HV2.out HV3.out).mono ?_; rw [HQ.out]; rintro e w1 ⟨rfl, hb⟩; have g0 := cell_keep hb hbx.out.1; have g1 := cell_keep hb hbx.out.2; have HB2 := Lib.hid hb; clear hb)
      | (go_at_call 73; refine (specTermsFit_any ⟨sorts, ops⟩ others terms vars _ _ _ _ _ HSM.out (HS.out.keep HB2.out) (HV4.out.keep HB2.out) (HV5.out.keep HB2.out) (HV2.out.keep HB2.out)).mono ?_; rw [HF.out]; rintro e w2 ⟨rfl, hb⟩; have HB3 := Lib.hid (fit_keep HB2.out hb); clear hb))
    have s1 := HB3.out.size
    simp at s1
    refine bodyPost_ret (v := .tuple #[.slice (some ⟨w2.heap.size, 0, none⟩) 0 0, .bool false]) (by simp [results, Try.results76, go_sem]) rfl ?_
    rw [HN.out]
    exact ⟨_, rfl, (own_empty w2).base (by omega), (HB1.out.trans (HB3.out.mono (by simp))).trans ((below_alloc _ _).mono (by omega))⟩
  | true =>
    have HF := Lib.hid hf
    have HOK := Lib.hid (putOk_of (show 0 ≤ sortM ⟨sorts, ops⟩ vars t by rw [HQ.out]; omega) hf)
    clear hf
    by_cases hL : 30 < ((putRow terms t).length : Int)
    · have HN := Lib.hid (putM_no (s := ⟨sorts, ops⟩) (vars := vars) (t := t) (others := others) (terms := terms) (by omega))
      go_enter Try.func76, Try.ntmps76
      go_wp2_with (first
        | (go_at_call 105; refine (specTermSort_any ⟨sorts, ops⟩ vars t _ _ _ _ HS.out HV2.out HV3.out).mono ?_; rw [HQ.out]; rintro e w1 ⟨rfl, hb⟩; have g0 := cell_keep hb hbx.out.1; have g1 := cell_keep hb hbx.out.2; have HB2 := Lib.hid hb; clear hb)
        | (go_at_call 73; refine (specTermsFit_any ⟨sorts, ops⟩ others terms vars _ _ _ _ _ HSM.out (HS.out.keep HB2.out) (HV4.out.keep HB2.out) (HV5.out.keep HB2.out) (HV2.out.keep HB2.out)).mono ?_; rw [HF.out]; rintro e w2 ⟨rfl, hb⟩; have HB3 := Lib.hid (fit_keep HB2.out hb); clear hb g0 g1)
        | (go_at_call 74; refine (l2Put_any t terms _ _ _ HOK.out (HV3.out.keep HB3.out) (HV5.out.keep HB3.out)).mono ?_; rintro e w3 ⟨u3, rfl, ho, hb⟩; obtain ⟨A6, c6, rfl, -⟩ := ho.reads.form; have HO := Lib.hid ho; have HB4 := Lib.hid (fit_keep HB3.out hb); have HZ := Lib.hid (show w.heap.size ≤ w2.heap.size by have := HB3.out.size; simp at this; omega); clear hb ho))
      have s1 := HB4.out.size
      simp at s1
      refine bodyPost_ret (v := .tuple #[.slice (some ⟨w3.heap.size, 0, none⟩) 0 0, .bool false]) (by simp [results, Try.results76, go_sem]) rfl ?_
      rw [HN.out]
      exact ⟨_, rfl, (own_empty w3).base (by omega), (HB1.out.trans (HB4.out.mono (by simp))).trans ((below_alloc _ _).mono (by omega))⟩
    · have HN := Lib.hid (putM_yes (s := ⟨sorts, ops⟩) (vars := vars) (t := t) (others := others) (terms := terms) ⟨by rw [HQ.out]; omega, HF.out, by omega⟩)
      go_enter Try.func76, Try.ntmps76
      go_wp2_with (first
        | (go_at_call 105; refine (specTermSort_any ⟨sorts, ops⟩ vars t _ _ _ _ HS.out HV2.out HV3.out).mono ?_; rw [HQ.out]; rintro e w1 ⟨rfl, hb⟩; have g0 := cell_keep hb hbx.out.1; have g1 := cell_keep hb hbx.out.2; have HB2 := Lib.hid hb; clear hb)
        | (go_at_call 73; refine (specTermsFit_any ⟨sorts, ops⟩ others terms vars _ _ _ _ _ HSM.out (HS.out.keep HB2.out) (HV4.out.keep HB2.out) (HV5.out.keep HB2.out) (HV2.out.keep HB2.out)).mono ?_; rw [HF.out]; rintro e w2 ⟨rfl, hb⟩; have HB3 := Lib.hid (fit_keep HB2.out hb); clear hb g0 g1)
        | (go_at_call 74; refine (l2Put_any t terms _ _ _ HOK.out (HV3.out.keep HB3.out) (HV5.out.keep HB3.out)).mono ?_; rintro e w3 ⟨u3, rfl, ho, hb⟩; obtain ⟨A6, c6, rfl, -⟩ := ho.reads.form; have HO := Lib.hid ho; have HB4 := Lib.hid (fit_keep HB3.out hb); have HZ := Lib.hid (show w.heap.size ≤ w2.heap.size by have := HB3.out.size; simp at this; omega); clear hb ho))
      refine bodyPost_ret (v := .tuple #[.slice A6 (putRow terms t).length c6, .bool true]) (by simp [results, Try.results76, go_sem]) rfl ?_
      rw [HN.out]
      exact ⟨_, rfl, HO.out.base HZ.out, HB1.out.trans (HB4.out.mono (by simp))⟩

set_option maxHeartbeats 1600000 in
set_option maxRecDepth 100000 in
theorem termPut_any (s : MSig) (vars t others : List Int) (terms : List (List Int)) (w : World) (v vv tv ov sv : Value) (hst : Small t) (hsm : ∀ r ∈ terms, Small r) (h1 : RSig w v s) (h2 : RInts w vv vars) (h3 : RInts w tv t) (h4 : RInts w ov others) (h5 : RRows w sv terms) :
    Calls Try.prog 83 #[v, vv, tv, ov, sv] w (PairPost (putM s vars t others terms) w) := by
  obtain ⟨i0, hi0, hz0, hz1, hz2⟩ := info_parts Try.tinfo_int
  obtain ⟨u, rfl, hrr⟩ := h1
  obtain ⟨sorts, ops⟩ := s
  obtain ⟨A, c, rfl, -⟩ := hrr.form
  have hb1 := below_alloc w (.cells #[.int .i64 sorts, .slice A ops.length c] 37)
  have hbx := Lib.hid (box_cells w (.int .i64 sorts) (.slice A ops.length c) 37)
  have HS := Lib.hid (show RSig (w.alloc (.cells #[.int .i64 sorts, .slice A ops.length c] 37)) (.agg #[.int .i64 sorts, .slice A ops.length c]) ⟨sorts, ops⟩ from ⟨_, rfl, hrr.keep hb1⟩)
  have HV2 := Lib.hid (h2.keep hb1)
  have HV3 := Lib.hid (h3.keep hb1)
  have HV4 := Lib.hid (h4.keep hb1)
  have HV5 := Lib.hid (h5.keep hb1)
  have HSM := Lib.hid hsm
  have HST := Lib.hid hst
  have hl3 := h3.len
  have hl5 := h5.len
  obtain ⟨A2, c2, rfl, -⟩ := h2.form
  obtain ⟨A3, c3, rfl, -⟩ := h3.form
  obtain ⟨A4, c4, rfl, -⟩ := h4.form
  obtain ⟨A5, c5, rfl, -⟩ := h5.form
  have HB1 := Lib.hid hb1
  obtain ⟨q, hq⟩ : ∃ q, sortM ⟨sorts, ops⟩ vars t = q := ⟨_, rfl⟩
  have HQ := Lib.hid hq
  clear hrr h2 h3 h4 h5 hb1 hq hsm hst
  by_cases hq0 : q < 0
  · have HN := Lib.hid (putM_no (s := ⟨sorts, ops⟩) (vars := vars) (t := t) (others := others) (terms := terms) (by rw [HQ.out]; omega))
    go_enter Try.func83, Try.ntmps83
    go_wp2_with (go_at_call 114; refine (termSort_any ⟨sorts, ops⟩ vars t _ _ _ _ HST.out HS.out HV2.out HV3.out).mono ?_; rw [HQ.out]; rintro e w1 ⟨rfl, hb⟩; have HB2 := Lib.hid hb; clear hb)
    refine bodyPost_ret (v := .tuple #[.slice none 0 0, .bool false]) (by simp [results, Try.results83, go_sem]) rfl ?_
    rw [HN.out]
    exact ⟨_, rfl, OInts.nil _ _, HB1.out.trans (HB2.out.mono (by simp))⟩
  cases hf : fitsB ⟨sorts, ops⟩ others terms vars with
  | false =>
    have HF := Lib.hid hf
    have HN := Lib.hid (putM_no (s := ⟨sorts, ops⟩) (vars := vars) (t := t) (others := others) (terms := terms) (by rw [HF.out]; simp))
    clear hf
    go_enter Try.func83, Try.ntmps83
    go_wp2_with (first
      | (go_at_call 114; refine (termSort_any ⟨sorts, ops⟩ vars t _ _ _ _ HST.out HS.out HV2.out HV3.out).mono ?_; rw [HQ.out]; rintro e w1 ⟨rfl, hb⟩; have g0 := cell_keep hb hbx.out.1; have g1 := cell_keep hb hbx.out.2; have HB2 := Lib.hid hb; clear hb)
      | (go_at_call 79; refine (termsFit_any ⟨sorts, ops⟩ others terms vars _ _ _ _ _ HSM.out (HS.out.keep HB2.out) (HV4.out.keep HB2.out) (HV5.out.keep HB2.out) (HV2.out.keep HB2.out)).mono ?_; rw [HF.out]; rintro e w2 ⟨rfl, hb⟩; have HB3 := Lib.hid (fit_keep HB2.out hb); clear hb))
    refine bodyPost_ret (v := .tuple #[.slice none 0 0, .bool false]) (by simp [results, Try.results83, go_sem]) rfl ?_
    rw [HN.out]
    exact ⟨_, rfl, OInts.nil _ _, HB1.out.trans (HB3.out.mono (by simp))⟩
  | true =>
    have HF := Lib.hid hf
    have HOK := Lib.hid (putOk_of (show 0 ≤ sortM ⟨sorts, ops⟩ vars t by rw [HQ.out]; omega) hf)
    clear hf
    go_enter Try.func83, Try.ntmps83
    go_wp2_with (first
      | (go_at_call 114; refine (termSort_any ⟨sorts, ops⟩ vars t _ _ _ _ HST.out HS.out HV2.out HV3.out).mono ?_; rw [HQ.out]; rintro e w1 ⟨rfl, hb⟩; have g0 := cell_keep hb hbx.out.1; have g1 := cell_keep hb hbx.out.2; have HB2 := Lib.hid hb; clear hb)
      | (go_at_call 79; refine (termsFit_any ⟨sorts, ops⟩ others terms vars _ _ _ _ _ HSM.out (HS.out.keep HB2.out) (HV4.out.keep HB2.out) (HV5.out.keep HB2.out) (HV2.out.keep HB2.out)).mono ?_; rw [HF.out]; rintro e w2 ⟨rfl, hb⟩; have HB3 := Lib.hid (fit_keep HB2.out hb); clear hb g0 g1))
    obtain ⟨W, hW⟩ : ∃ W : World, W = w.alloc (.cells #[.int .i64 sorts, .slice A ops.length c] 37) := ⟨_, rfl⟩
    rw [← hW] at HB3 HV3 HV5 HB1
    have HWS := Lib.hid (show w.heap.size ≤ W.heap.size from HB1.out.size)
    clear hW
    go_loopw [12, 14, 30] (fun p n i wr => ∃ k : Nat, k ≤ t.length ∧ i = .int .i64 k ∧ OInts wr W.heap.size p (putRow terms (t.take k)) ∧ Below W.heap.size W wr) (fun _ _ i _ => t.length - (intOf i).toNat)
    case atStart => exact ⟨0, Nat.zero_le _, rfl, by simp [putRow]; exact OInts.nil _ _, HB3.out⟩
    case round =>
      obtain ⟨k, hk, rfl, ho, hb⟩ := hrel
      obtain ⟨A9, c9, rfl, -⟩ := own_reads ho
      have HO := Lib.hid ho
      have HB := Lib.hid hb
      clear ho hb
      by_cases hlt : k < t.length
      · have hlt' : (k : Int) < (t.length : Int) := by omega
        have hk0 : (0 : Int) ≤ (k : Int) := by omega
        obtain ⟨b, o, c', e, hx⟩ := (HV3.out.keep HB.out).at_ hlt
        cases e
        have HTK := Lib.hid (putRow_take (terms := terms) hlt)
        have HNUM := Lib.hid (HOK.out.nums _ (List.getElem_mem hlt))
        have hsh := HOK.out.short k hk
        have h30 := HOK.out.few
        have hone := (HOK.out.one (List.getElem_mem hlt)).2
        generalize t[k] = n at hx HTK HNUM hone
        have hs1 := HB.out.size
        generalize hps : putRow terms (t.take k) = ps at HO HTK hsh
        clear hps
        by_cases hn : 100 ≤ n
        · obtain ⟨j, rfl⟩ : ∃ j : Nat, n = 100 + (j : Int) := ⟨(n - 100).toNat, by omega⟩
          have hj : j < terms.length := by have := HNUM.out; omega
          obtain ⟨b2, o2, c8, u2, e, hcell, hri⟩ := (HV5.out.keep HB.out).at_ hj
          cases e
          have hrow := HOK.out.rows j hj
          have HP := Lib.hid (show putOne terms (100 + (j : Int)) = terms[j] by unfold putOne; rw [if_pos (by omega), show ((100 : Int) + (j : Int) - 100).toNat = j by omega, getD_at _ hj])
          generalize terms[j] = r at hcell hri hrow HP
          obtain ⟨b3, o3, c7, rfl, hx3⟩ := hri.at_ (k := 0) (by omega)
          have HNEWS := Lib.hid (news_of hri)
          have hj' : (j : Int) < (terms.length : Int) := by omega
          have hj0 : (0 : Int) ≤ (j : Int) := by omega
          have hw : IntKind.i64.wrap (100 + (j : Int) - 100) = (j : Int) := by rw [IntKind.wrap_i64]; omega
          clear hx3 hri
          go_wp2_with (at_builtin; refine wpList_append_own _ rfl _ _ 28 rfl W.heap.size 3 i0 (.int .i64 0) 1 8 Try.underlying28 hi0 hz0 hz1 hz2 rfl (by decide) _ ps.length (ps.map (Value.int .i64)) rfl HO.out ⟨b3, o3, none⟩ r.length c7 (r.map (Value.int .i64)) rfl (by simp) HNEWS.out (ints_one _) (by rw [maxLen_eq]; omega) (by omega) hs1 ?_)
          intro v' w4 hown4 hgrow4 _
          have HO4 := Lib.hid (app_ints rfl hown4)
          have HB4 := Lib.hid (HB.out.grown hgrow4 hs1 (fun k e => (own_lt HO.out k e).1))
          clear hown4 hgrow4
          go_wp2
          go_roundw
          case rel => exact ⟨k + 1, by omega, by go_num, by rw [HTK.out, HP.out]; exact HO4.out, HB4.out⟩
          case measure => simp [intOf]; omega
        · have HP := Lib.hid (show putOne terms n = [n] by unfold putOne; rw [if_neg hn])
          go_wp2_with (at_builtin; refine wpList_append_own _ rfl _ _ 28 rfl W.heap.size 3 i0 (.int .i64 0) 1 8 Try.underlying28 hi0 hz0 hz1 hz2 rfl (by decide) _ ps.length (ps.map (Value.int .i64)) rfl (own_keep HO.out (below_alloc wr _)) ⟨wr.heap.size, 0, none⟩ 1 1 ([n].map (Value.int .i64)) rfl (by simp) (one_new wr n) (ints_one _) (by rw [maxLen_eq]; omega) (by omega) (by simp; omega) ?_)
          intro v' w4 hown4 hgrow4 _
          have HO4 := Lib.hid (app_ints (rs := [n]) rfl hown4)
          have HB4 := Lib.hid ((HB.out.alloc hs1 (.cells #[.int .i64 n] 3)).grown hgrow4 (by simp; omega) (fun k e => (own_lt HO.out k e).1))
          clear hown4 hgrow4
          go_wp2
          go_roundw
          case rel => exact ⟨k + 1, by omega, by go_num, by rw [HTK.out, HP.out]; exact HO4.out, HB4.out⟩
          case measure => simp [intOf]; omega
      · have hlt' : ¬ (k : Int) < (t.length : Int) := by omega
        have HTA := Lib.hid (show t.take k = t from take_all (by omega))
        rw [HTA.out] at HO ⊢
        by_cases hL : 30 < ((putRow terms t).length : Int)
        · have HN := Lib.hid (putM_no (s := ⟨sorts, ops⟩) (vars := vars) (t := t) (others := others) (terms := terms) (by omega))
          go_wp2
          refine bodyPost_ret (v := .tuple #[.slice none 0 0, .bool false]) (by simp [results, Try.results83, go_sem]) rfl ?_
          rw [HN.out]
          exact ⟨_, rfl, OInts.nil _ _, HB1.out.trans (HB.out.mono HWS.out)⟩
        · have HN := Lib.hid (putM_yes (s := ⟨sorts, ops⟩) (vars := vars) (t := t) (others := others) (terms := terms) ⟨by rw [HQ.out]; omega, HF.out, by omega⟩)
          go_wp2
          refine bodyPost_ret (v := .tuple #[.slice A9 (putRow terms t).length c9, .bool true]) (by simp [results, Try.results83, go_sem]) rfl ?_
          rw [HN.out]
          exact ⟨_, rfl, HO.out.base HWS.out, HB1.out.trans (HB.out.mono HWS.out)⟩
end

section
open Go.RowKit
set_option linter.unusedVariables false

theorem zeros_own (w : World) (i0 : TypeInfo) (hi0 : Try.prog.info? 3 = some i0) (hz0 : i0.zero = some (.int .i64 0)) (hz1 : i0.size = 1) (hz2 : i0.bytes = 8) (ty : TypeId) (n : Nat) (h0 : 0 < n) (h1 : n ≤ 1048576) :
    ∃ C w', (Builtin.append_ #[28, 3] ty #[.slice none 0 0, .int .i64 n]).run Try.prog w = .ok (.slice (some ⟨w.heap.size, 0, none⟩) n C) w' ∧ n ≤ C ∧ C ≤ 9223372036854775807 ∧ OInts w' w.heap.size (.slice (some ⟨w.heap.size, 0, none⟩) 0 C) [] ∧ Below w.heap.size w w' := by
  refine ⟨_, _, Lib.run_append_nil_zeros w 28 3 ty 3 i0 (.int .i64 0) .i64 .i64 Try.underlying28 Try.underlying3 hi0 hz0 n h0 (by omega) (by omega) (by rw [hz2]; omega), grownCap_ge _ _ _ _, grownCap_le_maxLen _ _ _ _ (by rw [maxLen_eq]; omega), ?_, ?_⟩
  · refine ⟨by simp, .inr ⟨w.heap.size, _, _, rfl, Nat.le_refl _, heap_alloc_new w.drew _, Nat.zero_le _, grownCap_le_maxLen _ _ _ _ (by rw [maxLen_eq]; omega), ?_, by simp⟩⟩
    rw [Array.size_append, size_zeroCells, size_zeroCells, show (Value.int .i64 0).cells.size = 1 from rfl]
    have := grownCap_ge w n 0 3
    omega
  · exact (Below.refl w.heap.size w.drew |> fun h => (⟨h.os, h.tape, h.output, h.size, h.block⟩ : Below w.heap.size w w.drew)).alloc (Nat.le_refl _) _

set_option maxRecDepth 100000 in
theorem grow_any (n : Nat) (w : World) (h0 : 0 < n) (h1 : n ≤ 1048576) :
    Calls Try.prog 138 #[.slice none 0 0, .int .i64 (n : Int)] w fun e w' => ∃ u, e = .returned u ∧ OInts w' w.heap.size u [] ∧ Below w.heap.size w w' := by
  obtain ⟨i0, hi0, hz0, hz1, hz2⟩ := info_parts Try.tinfo_int
  have hn : (0 : Int) < (n : Int) := by omega
  go_enter Try.func138, Try.ntmps138
  obtain ⟨C, w', hrun, hC1, hC2, ho, hb⟩ := zeros_own w i0 hi0 hz0 hz1 hz2 28 n h0 h1
  have HO := Lib.hid ho
  have HB := Lib.hid hb
  have HR := Lib.hid hrun
  clear ho hb hrun
  go_wp2_with (at_builtin; refine Lib.wpList_append_run _ rfl _ _ _ _ rfl _ _ rfl rfl _ _ HR.out ?_)
  go_wp2
  go_ret
  exact ⟨_, rfl, HO.out, HB.out⟩

/-- a list of rows none of which is nil -/
def RRowsS (w : World) (v : Value) (rows : List (List Int)) : Prop :=
  ∃ A c, v = .slice A rows.length c ∧ rows.length ≤ c ∧ c ≤ maxLen ∧ ∀ j row, rows[j]? = some row → ∃ b o ad c', A = some ⟨b, o, none⟩ ∧ w.cell? ⟨b, o + j, none⟩ = some (.slice (some ad) row.length c') ∧ RInts w (.slice (some ad) row.length c') row
theorem RRowsS.keep {w w' : World} {v : Value} {rows : List (List Int)} (h : RRowsS w v rows) (hb : Below w.heap.size w w') : RRowsS w' v rows := by
  obtain ⟨A, c, e, h1, h2, h3⟩ := h
  exact ⟨A, c, e, h1, h2, fun j row hj => by obtain ⟨b, o, ad, c', e, hc, hr⟩ := h3 j row hj; exact ⟨b, o, ad, c', e, cell_keep hb hc, hr.keep hb⟩⟩
theorem RRowsS.at_ {w : World} {v : Value} {rows : List (List Int)} (h : RRowsS w v rows) {k : Nat} (hk : k < rows.length) : ∃ b o c ad c', v = .slice (some ⟨b, o, none⟩) rows.length c ∧ w.cell? ⟨b, o + k, none⟩ = some (.slice (some ad) rows[k].length c') ∧ RInts w (.slice (some ad) rows[k].length c') rows[k] := by
  obtain ⟨A, c, e, h1, h2, h3⟩ := h
  obtain ⟨b, o, ad, c', rfl, hc, hr⟩ := h3 k rows[k] (List.getElem?_eq_getElem hk)
  exact ⟨b, o, c, ad, c', e, hc, hr⟩
theorem flat_take {rows : List (List Int)} {k : Nat} (hk : k < rows.length) : (rows.take (k + 1)).flatten = (rows.take k).flatten ++ rows[k] := by
  rw [List.take_succ_eq_append_getElem hk, List.flatten_append]; simp
theorem flat_le (rows : List (List Int)) (k : Nat) : (rows.take k).flatten.length ≤ rows.flatten.length := by
  have h : rows.flatten = (rows.take k).flatten ++ (rows.drop k).flatten := by rw [← List.flatten_append, List.take_append_drop]
  rw [h, List.length_append]; omega

set_option maxHeartbeats 800000 in
set_option maxRecDepth 100000 in
theorem concat_any (v : Value) (rows : List (List Int)) (w : World) (h : RRowsS w v rows) (h0 : 0 < rows.flatten.length) (h1 : rows.flatten.length ≤ 1048576) :
    Calls Try.prog 133 #[v] w fun e w' => ∃ u, e = .returned u ∧ OInts w' w.heap.size u rows.flatten ∧ Below w.heap.size w w' := by
  obtain ⟨i0, hi0, hz0, hz1, hz2⟩ := info_parts Try.tinfo_int
  have H := Lib.hid h
  obtain ⟨A, c, rfl, hc, hc2, -⟩ := h
  have hc3 : c ≤ 9223372036854775807 := hc2
  clear hc2
  go_enter Try.func133, Try.ntmps133
  go_wp2
  go_loop [3, 5, 11] (fun n x i => ∃ k : Nat, k ≤ rows.length ∧ i = .int .i64 k ∧ n = .int .i64 ((rows.take k).flatten.length : Int)) (fun _ _ i => rows.length - (intOf i).toNat)
  case atStart => exact ⟨0, Nat.zero_le _, rfl, by simp⟩
  case round =>
    obtain ⟨k, hk, rfl, rfl⟩ := hrel
    by_cases hlt : k < rows.length
    · obtain ⟨b, o, c', ad, c5, e, hcell, hri⟩ := H.out.at_ hlt
      cases e
      have HT := Lib.hid (show (rows.take (k + 1)).flatten.length = (rows.take k).flatten.length + rows[k].length by rw [flat_take hlt, List.length_append])
      have hle := flat_le rows (k + 1)
      rw [HT.out] at hle
      generalize rows[k] = r at hcell hri HT hle
      generalize (rows.take k).flatten.length = L at HT hle
      have hw : IntKind.i64.wrap ((L : Int) + (r.length : Int)) = (L : Int) + (r.length : Int) := by rw [IntKind.wrap_i64]; omega
      have hnn : ¬ ((L : Int) + (r.length : Int) < 0) := by omega
      clear hri
      go_wp2
      go_round
      case rel => exact ⟨k + 1, by omega, by go_num, by rw [HT.out]; simp⟩
      case measure => simp [intOf]; omega
    · have hlt' : ¬ (k : Int) < (rows.length : Int) := by omega
      rw [show rows.take k = rows from take_all (by omega)]
      obtain ⟨L, hL⟩ : ∃ L, L = rows.flatten.length := ⟨_, rfl⟩
      rw [← hL] at h0 h1 ⊢
      have HL := Lib.hid hL
      clear hL
      go_wp2_with fail
      refine (grow_any L _ h0 h1).mono ?_
      rintro e w1 ⟨u, rfl, ho, hb⟩
      obtain ⟨A1, c1, rfl, -⟩ := own_reads ho
      have HO := Lib.hid ho
      have HB := Lib.hid hb
      clear ho hb
      go_wp2
      go_loopw [6, 8, 27] (fun p x i wr => ∃ k : Nat, k ≤ rows.length ∧ i = .int .i64 k ∧ OInts wr w.heap.size p (rows.take k).flatten ∧ Below w.heap.size w wr) (fun _ _ i _ => rows.length - (intOf i).toNat)
      case atStart => exact ⟨0, Nat.zero_le _, rfl, HO.out, HB.out⟩
      case round =>
        obtain ⟨k, hk, rfl, ho, hb⟩ := hrel
        obtain ⟨A9, c9, rfl, -⟩ := own_reads ho
        have HO := Lib.hid ho
        have HB := Lib.hid hb
        clear ho hb
        by_cases hlt : k < rows.length
        · obtain ⟨b, o, c', ad, c5, e, hcell, hri⟩ := (H.out.keep HB.out).at_ hlt
          cases e
          have HT := Lib.hid (flat_take hlt)
          have hle := flat_le rows (k + 1)
          rw [HT.out, List.length_append, ← HL.out] at hle
          generalize rows[k] = r at hcell hri HT hle
          have HNEWS := Lib.hid (news_any hri)
          have hs1 := HB.out.size
          generalize (rows.take k).flatten = ps at HO HT hle
          clear hri
          go_wp2_with (at_builtin; refine wpList_append_own _ rfl _ _ 28 rfl w.heap.size 3 i0 (.int .i64 0) 1 8 Try.underlying28 hi0 hz0 hz1 hz2 rfl (by decide) _ ps.length (ps.map (Value.int .i64)) rfl HO.out ad r.length c5 (r.map (Value.int .i64)) rfl (by simp) HNEWS.out (ints_one _) (by rw [maxLen_eq]; omega) (by omega) hs1 ?_)
          intro v' w4 hown4 hgrow4 _
          have HO4 := Lib.hid (app_ints rfl hown4)
          have HB4 := Lib.hid (HB.out.grown hgrow4 hs1 (fun k e => (own_lt HO.out k e).1))
          clear hown4 hgrow4
          go_wp2
          go_roundw
          case rel => exact ⟨k + 1, by omega, by go_num, by rw [HT.out]; exact HO4.out, HB4.out⟩
          case measure => simp [intOf]; omega
        · have hlt'' : ¬ (k : Int) < (rows.length : Int) := by omega
          have HTA := Lib.hid (show rows.take k = rows from take_all (by omega))
          rw [HTA.out, ← HL.out] at HO ⊢
          go_wp2
          go_ret
          exact ⟨_, rfl, HO.out, HB.out⟩
end

section
open Go.RowKit
set_option linter.unusedVariables false

def swapRow (s : MSig) (vars t : List Int) (a : Int) (u : List Int) : List Int := t.take a.toNat ++ u ++ t.drop (a.toNat + (atM s vars t a).length)
def swapM (s : MSig) (vars t : List Int) (a : Int) (u : List Int) : List Int × Bool :=
  if atM s vars t a ≠ [] ∧ sortM s vars u = sortM s vars (atM s vars t a) ∧ (swapRow s vars t a u).length ≤ 30 then (swapRow s vars t a u, true) else ([], false)
theorem swapM_no {s : MSig} {vars t u : List Int} {a : Int} (h : ¬ (atM s vars t a ≠ [] ∧ sortM s vars u = sortM s vars (atM s vars t a) ∧ (swapRow s vars t a u).length ≤ 30)) : swapM s vars t a u = ([], false) := by unfold swapM; rw [if_neg h]
theorem swapM_yes {s : MSig} {vars t u : List Int} {a : Int} (h : atM s vars t a ≠ [] ∧ sortM s vars u = sortM s vars (atM s vars t a) ∧ (swapRow s vars t a u).length ≤ 30) : swapM s vars t a u = (swapRow s vars t a u, true) := by unfold swapM; rw [if_pos h]
theorem RInts.cutAny {w : World} {b o c k e : Nat} {A : Option Addr} {t : List Int} (h : RInts w (.slice (some ⟨b, o, none⟩) t.length c) t) (hk : k ≤ e) (he : e ≤ t.length) (hA : A = some ⟨b, o + k, none⟩ ∨ e = k) :
    RInts w (.slice A (e - k) (c - k)) ((t.drop k).take (e - k)) := by
  rcases hA with hA | hA
  · exact h.cut hk he hA
  · subst hA
    rw [Nat.sub_self, List.take_zero]
    obtain ⟨A', c', e', h1, h2, h3⟩ := h
    cases e'
    exact ⟨A, c - e, rfl, Nat.zero_le _, by omega, fun j x hj => by simp at hj⟩
theorem ex_cut {w w' : World} {o : Obj} (h : Below (w.alloc o).drew.heap.size (w.alloc o).drew w') : Below w.heap.size w w' :=
  (below_alloc w o).trans ((⟨h.os, h.tape, h.output, h.size, h.block⟩ : Below (w.alloc o).heap.size (w.alloc o) w').mono (by simp))
theorem rowsS3 {w : World} {b n1 n2 n3 c1 c2 c3 : Nat} {d1 d2 d3 : Addr} {r1 r2 r3 : List Int} {t : TypeId} (hc : w.heap[b]? = some (.cells #[.slice (some d1) n1 c1, .slice (some d2) n2 c2, .slice (some d3) n3 c3] t (0, 0)))
    (h1 : RInts w (.slice (some d1) n1 c1) r1) (h2 : RInts w (.slice (some d2) n2 c2) r2) (h3 : RInts w (.slice (some d3) n3 c3) r3) : RRowsS w (.slice (some ⟨b, 0, none⟩) 3 3) [r1, r2, r3] := by
  refine ⟨some ⟨b, 0, none⟩, 3, rfl, Nat.le_refl _, by rw [maxLen_eq]; omega, fun j row hj => ?_⟩
  have e : ∀ {n c : Nat} {d : Addr} {r : List Int}, RInts w (.slice (some d) n c) r → n = r.length := fun {n c d r} h => by obtain ⟨A, c', e, -⟩ := h; injection e
  have z1 := e h1
  have z2 := e h2
  have z3 := e h3
  subst z1 z2 z3
  match j, hj with
  | 0, hj => simp at hj; subst hj; exact ⟨b, 0, d1, c1, rfl, by simp [World.cell?, hc], h1⟩
  | 1, hj => simp at hj; subst hj; exact ⟨b, 0, d2, c2, rfl, by simp [World.cell?, hc], h2⟩
  | 2, hj => simp at hj; subst hj; exact ⟨b, 0, d3, c3, rfl, by simp [World.cell?, hc], h3⟩

set_option maxHeartbeats 1600000 in
set_option maxRecDepth 100000 in
theorem termSwap_any (s : MSig) (vars t : List Int) (a : Int) (u : List Int) (w : World) (v vv tv uv : Value) (hsm : Small t) (hsu : Small u) (h1 : RSig w v s) (h2 : RInts w vv vars) (h3 : RInts w tv t) (h4 : RInts w uv u) :
    Calls Try.prog 126 #[v, vv, tv, .int .i64 a, uv] w (PairPost (swapM s vars t a u) w) := by
  obtain ⟨u0, rfl, hrr⟩ := h1
  obtain ⟨sorts, ops⟩ := s
  obtain ⟨A, c, rfl, -⟩ := hrr.form
  have hb1 := below_alloc w (.cells #[.int .i64 sorts, .slice A ops.length c] 37)
  have hbx := Lib.hid (box_cells w (.int .i64 sorts) (.slice A ops.length c) 37)
  have HS := Lib.hid (show RSig (w.alloc (.cells #[.int .i64 sorts, .slice A ops.length c] 37)) (.agg #[.int .i64 sorts, .slice A ops.length c]) ⟨sorts, ops⟩ from ⟨_, rfl, hrr.keep hb1⟩)
  have HV2 := Lib.hid (h2.keep hb1)
  have HV3 := Lib.hid (h3.keep hb1)
  have HV4 := Lib.hid (h4.keep hb1)
  have hlen := h3.len
  have hlu := h4.len
  have HSM := Lib.hid hsm
  have HSU := Lib.hid hsu
  obtain ⟨A2, c2, rfl, -⟩ := h2.form
  obtain ⟨A3, c3, rfl, hc3, hc3'⟩ := h3.form
  obtain ⟨A4, c4, rfl, hc4, hc4'⟩ := h4.form
  have HB1 := Lib.hid hb1
  clear hrr h2 h3 h4 hb1 hsm hsu
  by_cases hpe : atM ⟨sorts, ops⟩ vars t a = []
  · have HN := Lib.hid (swapM_no (s := ⟨sorts, ops⟩) (vars := vars) (t := t) (u := u) (a := a) (fun h => h.1 hpe))
    have HPE := Lib.hid hpe
    clear hpe
    go_enter Try.func126, Try.ntmps126
    go_wp2_with (go_at_call 125; refine (termAt_any ⟨sorts, ops⟩ vars t a _ _ _ _ HSM.out HS.out HV2.out HV3.out).mono ?_; rw [HPE.out]; rintro e w1 ⟨up, rfl, ho, hb⟩; obtain ⟨Ap, cp, rfl, -⟩ := ho.reads.form; have HB2 := Lib.hid hb; clear hb ho)
    go_quiet (fail)
    have HB3 := Lib.hid (below_drewN HB2.out nq)
    go_wp2
    refine bodyPost_ret (v := .tuple #[.slice none 0 0, .bool false]) (by simp [results, Try.results126, go_sem]) rfl ?_
    rw [HN.out]
    exact ⟨_, rfl, OInts.nil _ _, HB1.out.trans (HB3.out.mono (by simp))⟩
  obtain ⟨k, pre, sub, post, rfl, hkt, hl30, hqq, hvo, hd1, hd2, hd3, hd4, hd5, hd6, hd7, -⟩ := at_there hpe
  obtain ⟨q, hq⟩ : ∃ q, sortM ⟨sorts, ops⟩ vars u = q := ⟨_, rfl⟩
  have HQ := Lib.hid hq
  have HD3 := Lib.hid hd3
  have HP := Lib.hid hd4
  have HSP := Lib.hid (show Small sub.row from fun x hx => HSM.out x (by rw [hd1]; simp [hx]))
  have hll := congrArg List.length hd1
  simp only [List.length_append] at hll
  have HT := Lib.hid hd1
  obtain ⟨b, o, c', e, hx⟩ := HV3.out.at_ hkt
  cases e
  have hpr := hd2
  generalize hsort : sub.sort = p at HP hd5
  generalize hrow : sub.row = part at HD3 HP HSP HT hd7 hll
  have HPE := Lib.hid (show atM ⟨sorts, ops⟩ vars t (k : Int) ≠ [] from hpe)
  clear hq hd3 hd4 hd1 hd6 hrow hsort hx hqq hvo hpe hd2
  have hne : ¬ ((part.length : Int) = 0) := by omega
  have hneb : ((part.length : Int) == 0) = false := by rw [beq_eq_false_iff_ne]; exact hne
  by_cases hqp : q = p
  · subst hqp
    obtain ⟨tmu, -, hu30, -, htu, -⟩ := sortM_to (s := ⟨sorts, ops⟩) (vars := vars) (t := u) (by rw [HQ.out]; exact hd5)
    have hu1 : 1 ≤ u.length := by rw [← htu]; exact row_pos tmu
    obtain ⟨b4, o4, c', e, -⟩ := HV4.out.at_ (k := 0) (by omega)
    cases e
    have hqb : (q != q) = false := by simp
    obtain ⟨en, hen⟩ : ∃ en, en = k + part.length := ⟨_, rfl⟩
    have hw : IntKind.i64.wrap ((k : Int) + (part.length : Int)) = (en : Int) := by rw [IntKind.wrap_i64]; omega
    have he0 : (0 : Int) ≤ (en : Int) := by omega
    have he1 : (en : Int) ≤ (t.length : Int) := by omega
    have hk0 : (0 : Int) ≤ (k : Int) := by omega
    have hk2 : (k : Int) ≤ (c3 : Int) := by omega
    have HSW := Lib.hid (show swapRow ⟨sorts, ops⟩ vars t (k : Int) u = t.take k ++ u ++ t.drop en by unfold swapRow; rw [HD3.out, Int.toNat_natCast, hen])
    have hent : en ≤ t.length := by omega
    have HEN := Lib.hid (And.intro hen (And.intro hll hpr))
    obtain ⟨rr, hrr⟩ : ∃ rr, rr = t.take k ++ u ++ t.drop en := ⟨_, rfl⟩
    have hL1 : 0 < rr.length ∧ rr.length ≤ 1000 := by rw [hrr]; simp only [List.length_append, List.length_take, List.length_drop]; omega
    have HRR := Lib.hid hrr
    rw [← hrr] at HSW
    clear hrr htu hen hll hpr
    have main : ∀ (R : List Int × Bool), swapM ⟨sorts, ops⟩ vars t (k : Int) u = R → (30 < (rr.length : Int) → R = ([], false)) → (¬ 30 < (rr.length : Int) → R = (rr, true)) →
        Calls Try.prog 126 #[.agg #[.int .i64 sorts, .slice A ops.length c], .slice A2 vars.length c2, .slice (some ⟨b, o, none⟩) t.length c3, .int .i64 (k : Int), .slice (some ⟨b4, o4, none⟩) u.length c4] w (PairPost (swapM ⟨sorts, ops⟩ vars t (k : Int) u) w) := by
      intro R hR hR1 hR2
      have HR := Lib.hid hR
      have HR1 := Lib.hid hR1
      have HR2 := Lib.hid hR2
      clear hR hR1 hR2
      go_enter Try.func126, Try.ntmps126
      go_wp2_with (go_at_call 125; refine (termAt_any ⟨sorts, ops⟩ vars t (k : Int) _ _ _ _ HSM.out HS.out HV2.out HV3.out).mono ?_; rw [HD3.out]; rintro e w1 ⟨up, rfl, ho, hb⟩; obtain ⟨Ap, cp, rfl, -⟩ := ho.reads.form; have HB2 := Lib.hid hb; have HPR := Lib.hid ho.reads; have g0 := cell_keep hb hbx.out.1; have g1 := cell_keep hb hbx.out.2; clear hb ho)
      have ea := World.new_ne w1 _ g0
      go_region_held3 (fun w' => w'.cell? ⟨w.heap.size, 0, none⟩ = some (.int .i64 sorts) ∧ w'.cell? ⟨w.heap.size, 1, none⟩ = some (.slice A ops.length c)) (first | go_keep)
        (first
          | (go_at_call_of 114 (Value.slice (some ⟨b4, o4, none⟩) u.length c4); refine (termSort_any ⟨sorts, ops⟩ vars u w1.drew _ _ _ HSU.out (HS.out.keep (bel_drew HB2.out)) (HV2.out.keep (bel_drew HB2.out)) (HV4.out.keep (bel_drew HB2.out))).mono ?_; rw [HQ.out]; rintro e w2 ⟨rfl, hb⟩; have HB3 := Lib.hid (show Below w1.heap.size w1 w2 from bel_undrew hb); have j0 := cell_keep HB3.out g0; have j1 := cell_keep HB3.out g1; clear hb)
          | (go_at_call 114; refine (termSort_any ⟨sorts, ops⟩ vars part _ _ _ _ HSP.out (HS.out.keep (fit_keep HB2.out HB3.out)) (HV2.out.keep (fit_keep HB2.out HB3.out)) (HPR.out.keep HB3.out)).mono ?_; rw [HP.out]; rintro e w3 ⟨rfl, hb⟩; have HB4 := Lib.hid (fit_keep HB3.out hb); have i0 := cell_keep HB4.out g0; have i1 := cell_keep HB4.out g1; clear hb))
      clear g0 g1 j0 j1 i0 i1 ea
      have HB5 := Lib.hid (fit_keep HB2.out HB4.out)
      generalize hd5e : (if c3 = en then (⟨b, o, none⟩ : Addr) else ⟨b, o + en, none⟩) = d5
      have hite : (if c3 = en then (some (⟨b, o, none⟩ : Addr)) else some ⟨b, o + en, none⟩) = some d5 := by rw [← hd5e]; split <;> rfl
      have hcase : d5 = ⟨b, o + en, none⟩ ∨ t.length = en := by
        by_cases h : c3 = en
        · right; omega
        · left; rw [← hd5e, if_neg h]
      have HROWS := Lib.hid (show RRowsS (w3.alloc (.cells #[.slice (some ⟨b, o, none⟩) k c3, .slice (some ⟨b4, o4, none⟩) u.length c4, .slice (some d5) (t.length - en) (c3 - en)] 28)) (.slice (some ⟨w3.heap.size, 0, none⟩) 3 3) [t.take k, u, t.drop en] by
        have hba := below_alloc w3 (.cells #[.slice (some ⟨b, o, none⟩) k c3, .slice (some ⟨b4, o4, none⟩) u.length c4, .slice (some d5) (t.length - en) (c3 - en)] 28)
        have ht := HV3.out.keep HB5.out
        refine rowsS3 (heap_alloc_new w3 _) ?_ ((HV4.out.keep HB5.out).keep hba) ?_
        · have h := (ht.cut (k := 0) (e := k) (A := some ⟨b, o, none⟩) (Nat.zero_le _) (by omega) (by simp)).keep hba
          simpa using h
        · have h := (ht.cutAny (k := en) (e := t.length) (A := some d5) hent (Nat.le_refl _) (by rcases hcase with h | h; exact .inl (by rw [h]); exact .inr h)).keep hba
          rwa [List.take_of_length_le (by rw [List.length_drop]; omega)] at h)
      have HFL := Lib.hid (show [t.take k, u, t.drop en].flatten = rr by rw [HRR.out]; simp)
      have HLP := Lib.hid hL1
      clear hcase hd5e hL1
      go_wp2_with fail
      have htriv : True := trivial
      go_region_held3 (fun w' => True) (first | trivial)
        (first
          | (go_at_call 133; refine (concat_any _ _ _ (show RRowsS (w3.alloc (.cells #[.slice (some ⟨b, o, none⟩) k c3, .slice (some ⟨b4, o4, none⟩) u.length c4, .slice (some d5) (t.length - en) (c3 - en)] 28)).drew _ _ from HROWS.out) (by rw [HFL.out]; exact HLP.out.1) (by rw [HFL.out]; have := HLP.out.2; omega)).mono ?_; rw [HFL.out]; rintro e w6 ⟨u6, rfl, ho, hb⟩; obtain ⟨A6, c6, rfl, -⟩ := ho.reads.form; have HO := Lib.hid ho; have HB6 := Lib.hid hb; clear hb ho))
      have HB7 := Lib.hid (show Below w.heap.size w w6 from HB1.out.trans ((fit_keep HB5.out (ex_cut HB6.out)).mono (by simp)))
      have s7 := HB5.out.size
      simp at s7
      have HO7 := Lib.hid (HO.out.base (B' := w.heap.size) (by simp; omega))
      clear hite HROWS
      by_cases hL : 30 < (rr.length : Int)
      · go_wp2
        refine bodyPost_ret (v := .tuple #[.slice none 0 0, .bool false]) (by simp [results, Try.results126, go_sem]) rfl ?_
        rw [HR.out, HR1.out hL]
        exact ⟨_, rfl, OInts.nil _ _, HB7.out⟩
      · go_wp2
        refine bodyPost_ret (v := .tuple #[.slice A6 rr.length c6, .bool true]) (by simp [results, Try.results126, go_sem]) rfl ?_
        rw [HR.out, HR2.out hL]
        exact ⟨_, rfl, HO7.out, HB7.out⟩
    refine main _ rfl (fun h => swapM_no ?_) (fun h => ?_)
    · rintro ⟨-, -, h3⟩
      rw [HSW.out] at h3
      omega
    · rw [swapM_yes ⟨HPE.out, by rw [HQ.out, HD3.out, HP.out], by rw [HSW.out]; omega⟩, HSW.out]
  · have HN := Lib.hid (swapM_no (s := ⟨sorts, ops⟩) (vars := vars) (t := t) (u := u) (a := (k : Int)) (fun h => hqp (by have := h.2.1; rw [HQ.out, HD3.out, HP.out] at this; exact this)))
    have hqb : (q != p) = true := by simpa using hqp
    clear hll hpr
    go_enter Try.func126, Try.ntmps126
    go_wp2_with (go_at_call 125; refine (termAt_any ⟨sorts, ops⟩ vars t (k : Int) _ _ _ _ HSM.out HS.out HV2.out HV3.out).mono ?_; rw [HD3.out]; rintro e w1 ⟨up, rfl, ho, hb⟩; obtain ⟨Ap, cp, rfl, -⟩ := ho.reads.form; have HB2 := Lib.hid hb; have HPR := Lib.hid ho.reads; have g0 := cell_keep hb hbx.out.1; have g1 := cell_keep hb hbx.out.2; clear hb ho)
    have ea := World.new_ne w1 _ g0
    go_region_held3 (fun w' => w'.cell? ⟨w.heap.size, 0, none⟩ = some (.int .i64 sorts) ∧ w'.cell? ⟨w.heap.size, 1, none⟩ = some (.slice A ops.length c)) (first | go_keep)
      (first
        | (go_at_call_of 114 (Value.slice A4 u.length c4); refine (termSort_any ⟨sorts, ops⟩ vars u w1.drew _ _ _ HSU.out (HS.out.keep (bel_drew HB2.out)) (HV2.out.keep (bel_drew HB2.out)) (HV4.out.keep (bel_drew HB2.out))).mono ?_; rw [HQ.out]; rintro e w2 ⟨rfl, hb⟩; have HB3 := Lib.hid (show Below w1.heap.size w1 w2 from bel_undrew hb); have j0 := cell_keep HB3.out g0; have j1 := cell_keep HB3.out g1; clear hb)
        | (go_at_call 114; refine (termSort_any ⟨sorts, ops⟩ vars part _ _ _ _ HSP.out (HS.out.keep (fit_keep HB2.out HB3.out)) (HV2.out.keep (fit_keep HB2.out HB3.out)) (HPR.out.keep HB3.out)).mono ?_; rw [HP.out]; rintro e w3 ⟨rfl, hb⟩; have HB4 := Lib.hid (fit_keep HB3.out hb); have i0 := cell_keep HB4.out g0; have i1 := cell_keep HB4.out g1; clear hb))
    clear g0 g1 j0 j1 i0 i1 ea
    have HB5 := Lib.hid (fit_keep HB2.out HB4.out)
    go_wp2
    refine bodyPost_ret (v := .tuple #[.slice none 0 0, .bool false]) (by simp [results, Try.results126, go_sem]) rfl ?_
    rw [HN.out]
    exact ⟨_, rfl, OInts.nil _ _, HB1.out.trans (HB5.out.mono (by simp))⟩

theorem own_in {w w2 : World} {B : Nat} {A : Option Addr} {n c : Nat} (h : w.grownBy w2 (Value.slice A n c).ownBlock) (hr : ∀ k, (Value.slice A n c).ownBlock = some k → B ≤ k) (hB : B ≤ w.heap.size) : Below B w w2 :=
  ⟨h.os, h.tape, h.output, h.size, fun k hk => h.block k (by omega) (fun e => by have := hr k e.symm; omega)⟩

set_option maxHeartbeats 1000000 in
set_option maxRecDepth 100000 in
theorem specTermSwap_any (s : MSig) (vars t : List Int) (a : Int) (u : List Int) (w : World) (v vv tv uv : Value) (h1 : RSig w v s) (h2 : RInts w vv vars) (h3 : RInts w tv t) (h4 : RInts w uv u) :
    Calls Try.prog 110 #[v, vv, tv, .int .i64 a, uv] w (PairPost (swapM s vars t a u) w) := by
  obtain ⟨i0, hi0, hz0, hz1, hz2⟩ := info_parts Try.tinfo_int
  obtain ⟨u0, rfl, hrr⟩ := h1
  obtain ⟨sorts, ops⟩ := s
  obtain ⟨A, c, rfl, -⟩ := hrr.form
  have hb1 := below_alloc w (.cells #[.int .i64 sorts, .slice A ops.length c] 37)
  have hbx := Lib.hid (box_cells w (.int .i64 sorts) (.slice A ops.length c) 37)
  have HS := Lib.hid (show RSig (w.alloc (.cells #[.int .i64 sorts, .slice A ops.length c] 37)) (.agg #[.int .i64 sorts, .slice A ops.length c]) ⟨sorts, ops⟩ from ⟨_, rfl, hrr.keep hb1⟩)
  have HV2 := Lib.hid (h2.keep hb1)
  have HV3 := Lib.hid (h3.keep hb1)
  have HV4 := Lib.hid (h4.keep hb1)
  have hlen := h3.len
  have hlu := h4.len
  obtain ⟨A2, c2, rfl, -⟩ := h2.form
  obtain ⟨A3, c3, rfl, hc3, hc3'⟩ := h3.form
  obtain ⟨A4, c4, rfl, hc4, hc4'⟩ := h4.form
  have HB1 := Lib.hid hb1
  obtain ⟨q, hq⟩ : ∃ q, sortM ⟨sorts, ops⟩ vars u = q := ⟨_, rfl⟩
  have HQ := Lib.hid hq
  clear hrr h2 h3 h4 hb1 hq
  by_cases hpe : atM ⟨sorts, ops⟩ vars t a = []
  · have HN := Lib.hid (swapM_no (s := ⟨sorts, ops⟩) (vars := vars) (t := t) (u := u) (a := a) (fun h => h.1 hpe))
    have HPE := Lib.hid hpe
    clear hpe
    go_enter Try.func110, Try.ntmps110
    go_wp2_with (first
      | (go_at_call 109; refine (specTermAt_any ⟨sorts, ops⟩ vars t a _ _ _ _ HS.out HV2.out HV3.out).mono ?_; rw [HPE.out]; rintro e w1 ⟨up, rfl, ho, hb⟩; obtain ⟨Ap, cp, rfl, -⟩ := ho.reads.form; have HB2 := Lib.hid hb; have g0 := cell_keep hb hbx.out.1; have g1 := cell_keep hb hbx.out.2; clear hb ho)
      | (go_at_call 105; refine (specTermSort_any ⟨sorts, ops⟩ vars u _ _ _ _ (HS.out.keep HB2.out) (HV2.out.keep HB2.out) (HV4.out.keep HB2.out)).mono ?_; rw [HQ.out]; rintro e w2 ⟨rfl, hb⟩; have HB3 := Lib.hid (fit_keep HB2.out hb); clear hb g0 g1))
    have s4 := HB3.out.size
    simp at s4
    have HZ := Lib.hid s4
    clear s4
    go_wp2
    refine bodyPost_ret (v := .tuple #[.slice (some ⟨w2.heap.size, 0, none⟩) 0 0, .bool false]) (by simp [results, Try.results110, go_sem]) rfl ?_
    rw [HN.out]
    have := HZ.out
    exact ⟨_, rfl, (own_empty w2).base (by omega), HB1.out.trans (((fit_keep HB3.out (below_alloc w2 (.cells #[] 3))).mono (by simp)))⟩
  obtain ⟨k, pre, sub, post, rfl, hkt, hl30, hqq, hvo, hd1, hd2, hd3, hd4, hd5, hd6, hd7, -⟩ := at_there hpe
  have HD3 := Lib.hid hd3
  have HP := Lib.hid hd4
  have hll := congrArg List.length hd1
  simp only [List.length_append] at hll
  have HT := Lib.hid hd1
  obtain ⟨b, o, c', e, hx⟩ := HV3.out.at_ hkt
  cases e
  have hpr := hd2
  generalize hsort : sub.sort = p at HP hd5
  generalize hrow : sub.row = part at HD3 HP HT hd7 hll
  have HPE := Lib.hid (show atM ⟨sorts, ops⟩ vars t (k : Int) ≠ [] from hpe)
  clear hd3 hd4 hd1 hd6 hrow hsort hx hqq hvo hpe hd2
  have hne : ¬ ((part.length : Int) = 0) := by omega
  have hneb : ((part.length : Int) == 0) = false := by rw [beq_eq_false_iff_ne]; exact hne
  by_cases hq0 : q < 0
  · have HN := Lib.hid (swapM_no (s := ⟨sorts, ops⟩) (vars := vars) (t := t) (u := u) (a := (k : Int)) (fun h => by have := h.2.1; rw [HQ.out, HD3.out, HP.out] at this; omega))
    clear hll hpr
    go_enter Try.func110, Try.ntmps110
    go_wp2_with (first
      | (go_at_call 109; refine (specTermAt_any ⟨sorts, ops⟩ vars t (k : Int) _ _ _ _ HS.out HV2.out HV3.out).mono ?_; rw [HD3.out]; rintro e w1 ⟨up, rfl, ho, hb⟩; obtain ⟨Ap, cp, rfl, -⟩ := ho.reads.form; have HB2 := Lib.hid hb; have g0 := cell_keep hb hbx.out.1; have g1 := cell_keep hb hbx.out.2; clear hb ho)
      | (go_at_call 105; refine (specTermSort_any ⟨sorts, ops⟩ vars u _ _ _ _ (HS.out.keep HB2.out) (HV2.out.keep HB2.out) (HV4.out.keep HB2.out)).mono ?_; rw [HQ.out]; rintro e w2 ⟨rfl, hb⟩; have HB3 := Lib.hid (fit_keep HB2.out hb); clear hb g0 g1))
    have s4 := HB3.out.size
    simp at s4
    have HZ := Lib.hid s4
    clear s4
    go_wp2
    refine bodyPost_ret (v := .tuple #[.slice (some ⟨w2.heap.size, 0, none⟩) 0 0, .bool false]) (by simp [results, Try.results110, go_sem]) rfl ?_
    rw [HN.out]
    have := HZ.out
    exact ⟨_, rfl, (own_empty w2).base (by omega), HB1.out.trans (((fit_keep HB3.out (below_alloc w2 (.cells #[] 3))).mono (by simp)))⟩
  by_cases hqp : q = p
  · subst hqp
    obtain ⟨tmu, -, hu30, -, htu, -⟩ := sortM_to (s := ⟨sorts, ops⟩) (vars := vars) (t := u) (by rw [HQ.out]; exact hd5)
    have hu1 : 1 ≤ u.length := by rw [← htu]; exact row_pos tmu
    obtain ⟨b4, o4, c', e, -⟩ := HV4.out.at_ (k := 0) (by omega)
    cases e
    have hqb : (q != q) = false := by simp
    obtain ⟨en, hen⟩ : ∃ en, en = k + part.length := ⟨_, rfl⟩
    have hw : IntKind.i64.wrap ((k : Int) + (part.length : Int)) = (en : Int) := by rw [IntKind.wrap_i64]; omega
    have he0 : (0 : Int) ≤ (en : Int) := by omega
    have he1 : (en : Int) ≤ (t.length : Int) := by omega
    have hk0 : (0 : Int) ≤ (k : Int) := by omega
    have hk2 : (k : Int) ≤ (c3 : Int) := by omega
    have HSW := Lib.hid (show swapRow ⟨sorts, ops⟩ vars t (k : Int) u = t.take k ++ u ++ t.drop en by unfold swapRow; rw [HD3.out, Int.toNat_natCast, hen])
    have hent : en ≤ t.length := by omega
    obtain ⟨tk, htk⟩ : ∃ tk, tk = t.take k := ⟨_, rfl⟩
    obtain ⟨td, htd⟩ : ∃ td, td = t.drop en := ⟨_, rfl⟩
    have hl1 : tk.length = k := by rw [htk, List.length_take]; omega
    have hl2 : td.length = t.length - en := by rw [htd, List.length_drop]
    rw [← htk, ← htd] at HSW
    have HTK := Lib.hid (And.intro htk (And.intro htd (And.intro hl1 hl2)))
    obtain ⟨rr, hrr⟩ : ∃ rr, rr = tk ++ u ++ td := ⟨_, rfl⟩
    rw [← hrr] at HSW
    have HRR := Lib.hid hrr
    generalize hd5e : (if c3 = en then (⟨b, o, none⟩ : Addr) else ⟨b, o + en, none⟩) = d5
    have hite : (if c3 = en then (some (⟨b, o, none⟩ : Addr)) else some ⟨b, o + en, none⟩) = some d5 := by rw [← hd5e]; split <;> rfl
    have hcase : d5 = ⟨b, o + en, none⟩ ∨ t.length = en := by
      by_cases h : c3 = en
      · right; omega
      · left; rw [← hd5e, if_neg h]
    have HCA := Lib.hid hcase
    have HNUM := Lib.hid (show k ≤ 30 ∧ t.length - en ≤ 30 ∧ u.length ≤ 30 by omega)
    clear hrr htu hen hll hpr hl1 hl2 htk htd hcase hd5e
    have main : ∀ (R : List Int × Bool), swapM ⟨sorts, ops⟩ vars t (k : Int) u = R → (30 < (rr.length : Int) → R = ([], false)) → (¬ 30 < (rr.length : Int) → R = (rr, true)) →
        Calls Try.prog 110 #[.agg #[.int .i64 sorts, .slice A ops.length c], .slice A2 vars.length c2, .slice (some ⟨b, o, none⟩) t.length c3, .int .i64 (k : Int), .slice (some ⟨b4, o4, none⟩) u.length c4] w (PairPost (swapM ⟨sorts, ops⟩ vars t (k : Int) u) w) := by
      intro R hR hR1 hR2
      have HR := Lib.hid hR
      have HR1 := Lib.hid hR1
      have HR2 := Lib.hid hR2
      clear hR hR1 hR2
      go_enter Try.func110, Try.ntmps110
      go_wp2_with (first
        | (go_at_call 109; refine (specTermAt_any ⟨sorts, ops⟩ vars t (k : Int) _ _ _ _ HS.out HV2.out HV3.out).mono ?_; rw [HD3.out]; rintro e w1 ⟨up, rfl, ho, hb⟩; obtain ⟨Ap, cp, rfl, -⟩ := ho.reads.form; have HPR := Lib.hid ho.reads; have HB2 := Lib.hid hb; have g0 := cell_keep hb hbx.out.1; have g1 := cell_keep hb hbx.out.2; clear hb ho)
        | (go_at_call_of 105 (Value.slice (some ⟨b4, o4, none⟩) u.length c4); refine (specTermSort_any ⟨sorts, ops⟩ vars u _ _ _ _ (HS.out.keep HB2.out) (HV2.out.keep HB2.out) (HV4.out.keep HB2.out)).mono ?_; rw [HQ.out]; rintro e w2 ⟨rfl, hb⟩; have HB3 := Lib.hid hb; have j0 := cell_keep hb g0; have j1 := cell_keep hb g1; clear hb g0 g1)
        | (go_at_call 105; refine (specTermSort_any ⟨sorts, ops⟩ vars part _ _ _ _ (HS.out.keep (fit_keep HB2.out HB3.out)) (HV2.out.keep (fit_keep HB2.out HB3.out)) (HPR.out.keep HB3.out)).mono ?_; rw [HP.out]; rintro e w3 ⟨rfl, hb⟩; have HB4 := Lib.hid hb; clear hb j0 j1))
      have HB5 := Lib.hid (fit_keep (fit_keep HB2.out HB3.out) HB4.out)
      have HN1 := Lib.hid (show RInts w3 (.slice (some ⟨b, o, none⟩) k c3) tk by
        have h := (HV3.out.keep HB5.out).cut (k := 0) (e := k) (A := some ⟨b, o, none⟩) (Nat.zero_le _) (by omega) (by simp)
        rw [HTK.out.1]; simpa using h)
      have HNA := Lib.hid (news_of (HN1.out.keep (below_alloc w3 (.cells #[] 3))))
      have HRL := Lib.hid (show k + u.length + (t.length - en) = rr.length by rw [HRR.out, List.length_append, List.length_append, HTK.out.2.2.1, HTK.out.2.2.2])
      have HN2 := Lib.hid (HV4.out.keep HB5.out)
      have HN3 := Lib.hid (show RInts w3 (.slice (some d5) (t.length - en) (c3 - en)) td by
        have h := (HV3.out.keep HB5.out).cutAny (k := en) (e := t.length) (A := some d5) hent (Nat.le_refl _) (by rcases HCA.out with h | h; exact .inl (by rw [h]); exact .inr h)
        rw [List.take_of_length_le (by rw [List.length_drop]; omega)] at h
        rw [HTK.out.2.1]; exact h)
      have htriv : True := trivial
      go_region_held3 (fun w' => True) (first | trivial)
        (first
          | (refine step_append_own rfl (.tmp 40) (.tmp 43) 28 rfl w3.heap.size 3 i0 (.int .i64 0) 1 8 Try.underlying28 hi0 hz0 hz1 hz2 rfl (by omega) _ 0 [] rfl ((own_empty w3).drew) ⟨b, o, none⟩ k c3 (tk.map (Value.int .i64)) rfl (by rw [List.length_map, HTK.out.2.2.1]; simp) HNA.out (ints_one _) (by rw [maxLen_eq]; have := HNUM.out; omega) (by have := HNUM.out; omega) (by simp) ?_; intro v4 w4 hown4 hgrow4; rw [Nat.zero_add, List.nil_append] at hown4; obtain ⟨A6, c6, rfl, -⟩ := own_reads hown4; have HO4 := Lib.hid hown4; have HB6 := Lib.hid (bel_grow hgrow4 (fun k e => by injection e with e; exact Nat.le_of_eq e)); have HNB := Lib.hid (news_of (HN2.out.keep HB6.out)); clear hown4 hgrow4)
          | (refine step_append_own rfl (.tmp 44) (.tmp 45) 28 rfl w3.heap.size 3 i0 (.int .i64 0) 1 8 Try.underlying28 hi0 hz0 hz1 hz2 rfl (by omega) _ k (tk.map (Value.int .i64)) rfl HO4.out ⟨b4, o4, none⟩ u.length c4 (u.map (Value.int .i64)) rfl (by simp) HNB.out (ints_one _) (by rw [maxLen_eq]; have := HNUM.out; omega) (by have := HNUM.out; omega) HB6.out.size ?_; intro v5 w5 hown5 hgrow5; obtain ⟨A7, c7, rfl, -⟩ := own_reads hown5; have HO5 := Lib.hid hown5; have HB7 := Lib.hid (HB6.out.trans (own_in hgrow5 (fun k e => (own_lt HO4.out k e).1) HB6.out.size)); have HNC := Lib.hid (news_any (HN3.out.keep HB7.out)); clear hown5 hgrow5)
          | (refine step_append_own rfl (.tmp 46) (.tmp 52) 28 rfl w3.heap.size 3 i0 (.int .i64 0) 1 8 Try.underlying28 hi0 hz0 hz1 hz2 rfl (by omega) _ (k + u.length) (tk.map (Value.int .i64) ++ u.map (Value.int .i64)) rfl HO5.out d5 (t.length - en) (c3 - en) (td.map (Value.int .i64)) rfl (by rw [List.length_map, HTK.out.2.2.2]; simp) HNC.out (ints_one _) (by rw [maxLen_eq]; have := HNUM.out; omega) (by have := HNUM.out; omega) HB7.out.size ?_; intro v6 w6 hown6 hgrow6; rw [HRL.out] at hown6; obtain ⟨A8, c8, rfl, -⟩ := own_reads hown6; have HO6 := Lib.hid (show OInts w6 w3.heap.size (.slice A8 rr.length c8) rr by unfold OInts; rw [HRR.out, List.map_append, List.map_append, ← HRR.out]; exact hown6); have HB8 := Lib.hid (HB7.out.trans (own_in hgrow6 (fun k e => (own_lt HO5.out k e).1) HB7.out.size)); clear hown6 hgrow6))
      have HB9 := Lib.hid (HB1.out.trans ((fit_keep HB5.out HB8.out).mono (by simp)))
      have s5 := HB5.out.size
      simp at s5
      have HZ := Lib.hid s5
      clear hite s5
      by_cases hL : 30 < (rr.length : Int)
      · go_wp2
        refine bodyPost_ret (v := .tuple #[.slice (some ⟨w6.heap.size, 0, none⟩) 0 0, .bool false]) (by simp [results, Try.results110, go_sem]) rfl ?_
        rw [HR.out, HR1.out hL]
        have := HZ.out
        have := HB8.out.size
        exact ⟨_, rfl, (own_empty w6).base (by omega), HB9.out.trans ((below_alloc w6 (.cells #[] 3)).mono (by omega))⟩
      · go_wp2
        refine bodyPost_ret (v := .tuple #[.slice A8 rr.length c8, .bool true]) (by simp [results, Try.results110, go_sem]) rfl ?_
        rw [HR.out, HR2.out hL]
        have := HZ.out
        exact ⟨_, rfl, HO6.out.base (by omega), HB9.out⟩
    refine main _ rfl (fun h => swapM_no ?_) (fun h => ?_)
    · rintro ⟨-, -, h3⟩
      rw [HSW.out] at h3
      omega
    · rw [swapM_yes ⟨HPE.out, by rw [HQ.out, HD3.out, HP.out], by rw [HSW.out]; omega⟩, HSW.out]
  · have HN := Lib.hid (swapM_no (s := ⟨sorts, ops⟩) (vars := vars) (t := t) (u := u) (a := (k : Int)) (fun h => hqp (by have := h.2.1; rw [HQ.out, HD3.out, HP.out] at this; exact this)))
    have hqb : (q != p) = true := by simpa using hqp
    clear hll hpr
    go_enter Try.func110, Try.ntmps110
    go_wp2_with (first
      | (go_at_call 109; refine (specTermAt_any ⟨sorts, ops⟩ vars t (k : Int) _ _ _ _ HS.out HV2.out HV3.out).mono ?_; rw [HD3.out]; rintro e w1 ⟨up, rfl, ho, hb⟩; obtain ⟨Ap, cp, rfl, -⟩ := ho.reads.form; have HPR := Lib.hid ho.reads; have HB2 := Lib.hid hb; have g0 := cell_keep hb hbx.out.1; have g1 := cell_keep hb hbx.out.2; clear hb ho)
      | (go_at_call_of 105 (Value.slice A4 u.length c4); refine (specTermSort_any ⟨sorts, ops⟩ vars u _ _ _ _ (HS.out.keep HB2.out) (HV2.out.keep HB2.out) (HV4.out.keep HB2.out)).mono ?_; rw [HQ.out]; rintro e w2 ⟨rfl, hb⟩; have HB3 := Lib.hid hb; have j0 := cell_keep hb g0; have j1 := cell_keep hb g1; clear hb g0 g1)
      | (go_at_call 105; refine (specTermSort_any ⟨sorts, ops⟩ vars part _ _ _ _ (HS.out.keep (fit_keep HB2.out HB3.out)) (HV2.out.keep (fit_keep HB2.out HB3.out)) (HPR.out.keep HB3.out)).mono ?_; rw [HP.out]; rintro e w3 ⟨rfl, hb⟩; have HB4 := Lib.hid hb; clear hb j0 j1))
    have HB5 := Lib.hid (fit_keep (fit_keep HB2.out HB3.out) HB4.out)
    have s5 := HB5.out.size
    simp at s5
    refine bodyPost_ret (v := .tuple #[.slice (some ⟨w3.heap.size, 0, none⟩) 0 0, .bool false]) (by simp [results, Try.results110, go_sem]) rfl ?_
    rw [HN.out]
    exact ⟨_, rfl, (own_empty w3).base (by omega), HB1.out.trans ((fit_keep HB5.out (below_alloc w3 (.cells #[] 3))).mono (by simp))⟩
end

section
open Go.RowKit
set_option linter.unusedVariables false

theorem slEqual_any (v v' : Value) (xs ys : List Int) (w : World) (h : RInts w v xs) (h' : RInts w v' ys) :
    Calls Try.prog 101 #[v, v'] w fun e w' => e = .returned (.bool (decide (xs = ys))) ∧ Drawn w w' := by
  have H := Lib.hid h
  have H' := Lib.hid h'
  have hn := h.len
  have hn' := h'.len
  obtain ⟨A, c, rfl, -⟩ := h.form
  obtain ⟨A', c', rfl, -⟩ := h'.form
  clear h h'
  by_cases hl : xs.length = ys.length
  · have hl' : ((xs.length : Int) != (ys.length : Int)) = false := by simp [hl]
    have HL := Lib.hid hl
    have hle : xs.length ≤ ys.length := by omega
    have hge : ys.length ≤ xs.length := by omega
    clear hl
    go_enter Try.func101, Try.ntmps101
    go_wp2
    go_loopw [13] (fun i wr => ∃ k : Nat, k ≤ xs.length ∧ i = .int .i64 k ∧ xs.take k = ys.take k ∧ Drawn w wr) (fun i _ => xs.length - (intOf i).toNat)
    case atStart => exact ⟨0, Nat.zero_le _, rfl, rfl, Drawn.refl _⟩
    case round =>
      obtain ⟨k, hk, rfl, hb0, hd⟩ := hrel
      have hb := Lib.hid hb0
      have HD := Lib.hid hd
      clear hb0 hd
      by_cases hlt : k < xs.length
      · obtain ⟨b, o, c3, e, hx⟩ := (H.out.keep HD.out.below).at_ hlt
        cases e
        obtain ⟨b', o', c4, e, hy⟩ := (H'.out.keep HD.out.below).at_ (show k < ys.length by omega)
        cases e
        have hs1 : (k : Int) < (xs.length : Int) := by omega
        have hs2 : (k : Int) < (ys.length : Int) := by omega
        have HT := Lib.hid (take_succ_eq hlt (show k < ys.length by omega) hb.out)
        have HN := Lib.hid (ne_of_at hlt (show k < ys.length by omega))
        generalize xs[k] = x at hx HT HN
        generalize ys[k]'(by omega) = y at hy HT HN
        by_cases hxy : x = y
        · subst hxy
          have e1 : (x != x) = false := by simp
          have e2 : (x == x) = true := by simp
          go_wp2_with fail
          go_quiet (fail)
          go_wp2
          go_roundw
          case rel => exact ⟨k + 1, by omega, by go_num, HT.out (by simp), HD.out.more _⟩
          case measure => simp [intOf]; omega
        · have e1 : (x != y) = true := by simpa using hxy
          have e2 : (x == y) = false := by simpa using hxy
          have HXY := Lib.hid hxy
          clear hxy
          go_wp2_with fail
          go_quiet (fail)
          go_wp2
          go_ret
          exact ⟨ret_bool (by simpa using (HN.out HXY.out)), HD.out.more _⟩
      · go_wp2
        go_ret
        have h := hb.out
        rw [take_all (by omega), take_all (by omega)] at h
        exact ⟨ret_bool (by simpa using h), HD.out⟩
  · have hl' : ((xs.length : Int) != (ys.length : Int)) = true := by simp; omega
    have HL := Lib.hid hl
    clear hl
    go_enter Try.func101, Try.ntmps101
    go_wp2
    go_ret
    exact ⟨ret_bool (by simp; rintro rfl; exact HL.out rfl), Drawn.refl _⟩
end
end Go.Proofs.Ytbopcghbmbchkaa
