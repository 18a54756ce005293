/- slices.Clone, TermAt of both packages. -/
import Derived.Test.YtonainidjkcoeacFit
import Derived.Test.YtonainidjkcoeacTakes2
import Derived.Deep.RegionHeld3
import Derived.Lib.SliceRun
namespace Go.Proofs.Ytonainidjkcoeac
open Go.RowKit
set_option linter.unusedVariables false

theorem RInts.cut {w : World} {b o c k e : Nat} {A : Option Addr} {t : List Int} (h : RInts w (.slice (some ⟨b, o, none⟩) t.length c) t) (hk : k ≤ e) (he : e ≤ t.length) (hA : A = some ⟨b, o + k, none⟩) :
    RInts w (.slice A (e - k) (c - k)) ((t.drop k).take (e - k)) := by
  subst hA
  have hl : ((t.drop k).take (e - k)).length = e - k := by rw [List.length_take, List.length_drop]; omega
  obtain ⟨A', c', e', h1, h2, h3⟩ := h
  cases e'
  refine ⟨some ⟨b, o + k, none⟩, c - k, by rw [hl], by rw [hl]; omega, by omega, fun j x hj => ?_⟩
  rw [List.getElem?_take] at hj
  split at hj
  · rw [List.getElem?_drop] at hj
    obtain ⟨b', o', e', hc⟩ := h3 _ _ hj
    cases e'
    exact ⟨b, o + k, rfl, by rw [← hc]; congr 2; omega⟩
  · cases hj
theorem own_cut {w w2 : World} {o : Obj} {A : Option Addr} {n c : Nat} (h : (w.alloc o).grownBy w2 (Value.slice A n c).ownBlock) (hr : ∀ k, (Value.slice A n c).ownBlock = some k → w.heap.size ≤ k) : Below w.heap.size w w2 :=
  (below_alloc w o).trans ⟨h.os, h.tape, h.output, h.size, fun k hk => h.block k (Nat.lt_of_lt_of_le hk (by show w.heap.size ≤ (w.alloc o).heap.size; simp)) (fun e => by have := hr k e.symm; omega)⟩

set_option maxRecDepth 100000 in
theorem clone_any (ad : Addr) (n c : Nat) (xs : List Int) (w : World) (h : RInts w (.slice (some ad) n c) xs) (hs : xs.length ≤ 1048576) :
    Calls Try.prog 84 #[.slice (some ad) n c] w fun e w' => ∃ u, e = .returned u ∧ OInts w' w.heap.size u xs ∧ Below w.heap.size w w' := by
  obtain ⟨i0, hi0, hz0, hz1, hz2⟩ := info_parts Try.tinfo_int
  have H := Lib.hid h
  obtain ⟨A, c', e, h1, h2, h3⟩ := h
  cases e
  have HNEWS := Lib.hid (news_any (H.out.keep (below_alloc w (.cells #[] 3))))
  clear h3
  have hcmp := Lib.run_eql_slice_nil (P := Try.prog) w 36 3 (some ad) xs.length c 0 0 Try.underlying36
  simp only [Option.isNone_some] at hcmp
  go_enter Try.func84, Try.ntmps84
  go_wp2_with (at_builtin; refine wpList_append_own _ rfl _ _ 36 rfl w.heap.size 3 i0 (.int .i64 0) 1 8 Try.underlying36 hi0 hz0 hz1 hz2 rfl (by decide) _ 0 [] rfl (own_empty w) ad xs.length c (xs.map (Value.int .i64)) rfl (by simp) HNEWS.out (ints_one _) (by rw [maxLen_eq]; omega) (by omega) (by simp) ?_)
  intro v' w4 hown4 hgrow4 _
  have HO := Lib.hid hown4
  have HG := Lib.hid (own_cut hgrow4 (fun k e => by injection e with e; exact Nat.le_of_eq e))
  clear hown4 hgrow4
  go_wp2
  go_ret
  refine ⟨_, rfl, ?_, HG.out⟩
  have h := HO.out
  unfold OInts
  simpa using h

theorem atM_nil {s : MSig} {vars t : List Int} {k : Int} (h : ¬ (0 ≤ sortM s vars t ∧ 0 ≤ k ∧ k < t.length)) : atM s vars t k = [] := by unfold atM; rw [if_neg h]
theorem atM_yes {s : MSig} {vars t : List Int} {k : Nat} (h : 0 ≤ sortM s vars t) (hk : k < t.length) : atM s vars t k = partM s vars t k := by unfold atM; rw [if_pos ⟨h, by omega, by omega⟩, Int.toNat_natCast]

theorem at_small {s : MSig} {vars t : List Int} {a : Int} (h : Small t) : Small (atM s vars t a) := fun x hx => by
  by_cases hc : 0 ≤ sortM s vars t ∧ 0 ≤ a ∧ a < (t.length : Int)
  · obtain ⟨k, rfl⟩ := Int.eq_ofNat_of_zero_le hc.2.1
    obtain ⟨pre, sub, post, a1, a2, a3, a4, a5, -⟩ := part_of hc.1 (k := k) (by omega)
    rw [atM_yes hc.1 (by omega), a5] at hx
    exact h x (by rw [a1]; simp [hx])
  · rw [atM_nil hc] at hx; simp at hx
/-- a part that there is -/
theorem at_there {s : MSig} {vars t : List Int} {a : Int} (h : atM s vars t a ≠ []) : ∃ (k : Nat) (pre : List Int) (sub : Tm) (post : List Int), a = (k : Int) ∧ k < t.length ∧ t.length ≤ 30 ∧ 0 ≤ sortM s vars t ∧ varsB s vars = true ∧ t = pre ++ sub.row ++ post ∧ pre.length = k ∧ atM s vars t a = sub.row ∧ sortM s vars sub.row = sub.sort ∧ 0 ≤ sub.sort ∧ wfT s vars sub ∧ 1 ≤ sub.row.length ∧
    ∀ u : Tm, wfT s vars u → u.sort = sub.sort → (pre ++ u.row ++ post).length ≤ 30 → sortM s vars (pre ++ u.row ++ post) = sortM s vars t := by
  by_cases hc : 0 ≤ sortM s vars t ∧ 0 ≤ a ∧ a < (t.length : Int)
  · obtain ⟨k, rfl⟩ := Int.eq_ofNat_of_zero_le hc.2.1
    have hk : k < t.length := by omega
    obtain ⟨pre, sub, post, a1, a2, a3, a4, a5, a6, a7, a8⟩ := part_of hc.1 hk
    obtain ⟨tm0, hvo, hl30, -⟩ := sortM_to hc.1
    exact ⟨k, pre, sub, post, rfl, hk, hl30, hc.1, hvo, a1, a2, by rw [atM_yes hc.1 hk, a5], a6, a7, a3, row_pos sub, a8⟩
  · exact absurd (atM_nil hc) h
set_option maxHeartbeats 800000 in
set_option maxRecDepth 100000 in
theorem termAt_any (s : MSig) (vars t : List Int) (a : Int) (w : World) (v vv tv : Value) (hsm : Small t) (h1 : RSig w v s) (h2 : RInts w vv vars) (h3 : RInts w tv t) :
    Calls Try.prog 74 #[v, vv, tv, .int .i64 a] w fun e w' => ∃ u, e = .returned u ∧ OInts w' w.heap.size u (atM s vars t a) ∧ Below w.heap.size w w' := by
  obtain ⟨u, rfl, hrr⟩ := h1
  obtain ⟨sorts, ops⟩ := s
  obtain ⟨A, c, rfl, -⟩ := hrr.form
  have hb1 := below_alloc w (.cells #[.int .i64 sorts, .slice A ops.length c] 44)
  have hbx := Lib.hid (box_cells w (.int .i64 sorts) (.slice A ops.length c) 44)
  have HS := Lib.hid (show RSig (w.alloc (.cells #[.int .i64 sorts, .slice A ops.length c] 44)) (.agg #[.int .i64 sorts, .slice A ops.length c]) ⟨sorts, ops⟩ from ⟨_, rfl, hrr.keep hb1⟩)
  have HV2 := Lib.hid (h2.keep hb1)
  have HV3 := Lib.hid (h3.keep hb1)
  have hlen := h3.len
  have HSM := Lib.hid hsm
  obtain ⟨A2, c2, rfl, -⟩ := h2.form
  obtain ⟨A3, c3, rfl, hc3, hc3'⟩ := h3.form
  have HB1 := Lib.hid hb1
  obtain ⟨q, hq⟩ : ∃ q, sortM ⟨sorts, ops⟩ vars t = q := ⟨_, rfl⟩
  have HQ := Lib.hid hq
  clear hrr h2 h3 hb1 hsm hq
  by_cases hq0 : q < 0
  · have HN := Lib.hid (atM_nil (s := ⟨sorts, ops⟩) (vars := vars) (t := t) (k := a) (by rw [HQ.out]; omega))
    go_enter Try.func74, Try.ntmps74
    go_wp2_with (go_at_call 91; refine (termSort_any ⟨sorts, ops⟩ vars t _ _ _ _ HSM.out HS.out HV2.out HV3.out).mono ?_; rw [HQ.out]; rintro e w1 ⟨rfl, hb⟩)
    go_ret
    exact ⟨_, rfl, by rw [HN.out]; exact OInts.nil _ _, HB1.out.trans (hb.mono (by simp))⟩
  by_cases ha0 : a < 0
  · have HN := Lib.hid (atM_nil (s := ⟨sorts, ops⟩) (vars := vars) (t := t) (k := a) (by omega))
    go_enter Try.func74, Try.ntmps74
    go_wp2_with (go_at_call 91; refine (termSort_any ⟨sorts, ops⟩ vars t _ _ _ _ HSM.out HS.out HV2.out HV3.out).mono ?_; rw [HQ.out]; rintro e w1 ⟨rfl, hb⟩)
    go_ret
    exact ⟨_, rfl, by rw [HN.out]; exact OInts.nil _ _, HB1.out.trans (hb.mono (by simp))⟩
  by_cases hal : (t.length : Int) ≤ a
  · have HN := Lib.hid (atM_nil (s := ⟨sorts, ops⟩) (vars := vars) (t := t) (k := a) (by omega))
    go_enter Try.func74, Try.ntmps74
    go_wp2_with (go_at_call 91; refine (termSort_any ⟨sorts, ops⟩ vars t _ _ _ _ HSM.out HS.out HV2.out HV3.out).mono ?_; rw [HQ.out]; rintro e w1 ⟨rfl, hb⟩)
    go_ret
    exact ⟨_, rfl, by rw [HN.out]; exact OInts.nil _ _, HB1.out.trans (hb.mono (by simp))⟩
  obtain ⟨k, rfl⟩ := Int.eq_ofNat_of_zero_le (show 0 ≤ a by omega)
  have hkt : k < t.length := by omega
  have hqq : 0 ≤ sortM ⟨sorts, ops⟩ vars t := by rw [HQ.out]; omega
  obtain ⟨pre, sub, post, hd1, hd2, hd3, hd4, hd5, hd6, hd7, -⟩ := part_of hqq hkt
  obtain ⟨tm0, hvo, hl30, -⟩ := sortM_to hqq
  have hN := atM_yes hqq hkt
  rw [hd5] at hN
  have hlr := row_pos sub
  have hll := congrArg List.length hd1
  simp only [List.length_append] at hll
  have hdk : t.drop k = sub.row ++ post := by rw [hd1, List.append_assoc, ← hd2]; simp
  have hsub : (t.drop k).take (t.length - post.length - k) = sub.row := by
    rw [hdk, List.take_append_of_le_length (by omega), List.take_of_length_le (by omega)]
  have HSUB := Lib.hid hsub
  have HN := Lib.hid hN
  have HF := Lib.hid hd4
  have HV := Lib.hid hvo
  have hpl : post.length ≤ t.length := by omega
  have hel : (k : Int) ≤ (t.length : Int) - (post.length : Int) := by omega
  have hk0 : (0 : Int) ≤ (k : Int) := by omega
  have hk1 : (k : Int) ≤ (t.length : Int) := by omega
  have hk2 : (t.length : Int) - (post.length : Int) ≤ (c3 : Int) := by omega
  have hw : IntKind.i64.wrap ((t.length : Int) - (post.length : Int)) = (t.length : Int) - (post.length : Int) := by rw [IntKind.wrap_i64]; omega
  have HLR := Lib.hid hlr
  have HLL := Lib.hid hll
  obtain ⟨b, o, c', e, hx⟩ := HV3.out.at_ hkt
  cases e
  clear hd1 hd2 hd3 hd4 hd5 hd6 hd7 hsub hN hvo hqq hx hlr hll hdk
  go_enter Try.func74, Try.ntmps74
  go_wp2_with (go_at_call 91; refine (termSort_any ⟨sorts, ops⟩ vars t _ _ _ _ HSM.out HS.out HV2.out HV3.out).mono ?_; rw [HQ.out]; rintro e w1 ⟨rfl, hb⟩; have g0 := cell_keep hb hbx.out.1; have g1 := cell_keep hb hbx.out.2; have HB2 := Lib.hid hb; clear hb)
  have hck : ¬ c3 = k := by omega
  have HCUT := Lib.hid (show RInts w1 (.slice (some ⟨b, o + k, none⟩) (t.length - k) (c3 - k)) (t.drop k) by
    have h := (HV3.out.keep HB2.out).cut (k := k) (e := t.length) (A := some ⟨b, o + k, none⟩) (by omega) (Nat.le_refl _) rfl
    rwa [List.take_of_length_le (by rw [List.length_drop]; omega)] at h)
  have ea := World.new_ne w1 _ g0
  go_region_held3 (fun w' => w'.cell? ⟨w.heap.size, 0, none⟩ = some (.int .i64 sorts) ∧ w'.cell? ⟨w.heap.size, 1, none⟩ = some (.slice A ops.length c)) (first | go_keep)
    (first
      | (go_at_call 103; refine (first_any ⟨sorts, ops⟩ vars HV.out 30 (t.drop k) w1.drew _ _ _ (by rw [List.length_drop]; omega) (fun x hx => HSM.out x (List.mem_of_mem_drop hx)) (HS.out.keep (bel_drew HB2.out)) (HV2.out.keep (bel_drew HB2.out)) (HCUT.out)).mono ?_; rw [HF.out]; rintro e w2 ⟨hm, hb2⟩; simp only at hm; obtain ⟨u, bv, rfl, hu, hbv⟩ := hm; obtain ⟨A6, c7, rfl⟩ := hbv.1; obtain ⟨T, y, fid, rfl, -⟩ := hu.sorts; have HB3 := Lib.hid (bel_undrew hb2); have j0 := cell_keep HB3.out g0; have j1 := cell_keep HB3.out g1; clear hu hbv hb2))
  have HB4 := Lib.hid (fit_keep HB2.out HB3.out)
  have HC2 := Lib.hid (show RInts w2 (.slice (some ⟨b, o + k, none⟩) (t.length - post.length - k) (c3 - k)) sub.row by
    have h := (HV3.out.keep HB4.out).cut (k := k) (e := t.length - post.length) (A := some ⟨b, o + k, none⟩) (by omega) (by omega) rfl
    rwa [HSUB.out] at h)
  have hw2 : ((t.length : Int) - (post.length : Int)).toNat = t.length - post.length := by omega
  clear g0 g1 j0 j1 ea
  go_wp2_with fail
  have hs3 : sub.row.length ≤ 1048576 := by have := HLL.out; omega
  refine (clone_any ⟨b, o + k, none⟩ _ _ sub.row _ HC2.out hs3).mono ?_
  rintro e w3 ⟨u3, rfl, ho3, hb3⟩
  have HO3 := Lib.hid ho3
  have HB5 := Lib.hid (fit_keep HB4.out hb3)
  have s4 := HB4.out.size
  simp at s4
  clear ho3 hb3
  go_wp2
  go_ret
  exact ⟨_, rfl, by rw [HN.out]; exact HO3.out.base (by omega), HB1.out.trans (HB5.out.mono (by simp))⟩

set_option maxHeartbeats 800000 in
set_option maxRecDepth 100000 in
theorem specTermAt_any (s : MSig) (vars t : List Int) (a : Int) (w : World) (v vv tv : Value) (h1 : RSig w v s) (h2 : RInts w vv vars) (h3 : RInts w tv t) :
    Calls Try.prog 71 #[v, vv, tv, .int .i64 a] w fun e w' => ∃ u, e = .returned u ∧ OInts w' w.heap.size u (atM s vars t a) ∧ Below w.heap.size w w' := by
  obtain ⟨i0, hi0, hz0, hz1, hz2⟩ := info_parts Try.tinfo_int
  obtain ⟨u, rfl, hrr⟩ := h1
  obtain ⟨sorts, ops⟩ := s
  obtain ⟨A, c, rfl, -⟩ := hrr.form
  have hb1 := below_alloc w (.cells #[.int .i64 sorts, .slice A ops.length c] 44)
  have hbx := Lib.hid (box_cells w (.int .i64 sorts) (.slice A ops.length c) 44)
  have HS := Lib.hid (show RSig (w.alloc (.cells #[.int .i64 sorts, .slice A ops.length c] 44)) (.agg #[.int .i64 sorts, .slice A ops.length c]) ⟨sorts, ops⟩ from ⟨_, rfl, hrr.keep hb1⟩)
  have HV2 := Lib.hid (h2.keep hb1)
  have HV3 := Lib.hid (h3.keep hb1)
  have hlen := h3.len
  obtain ⟨A2, c2, rfl, -⟩ := h2.form
  obtain ⟨A3, c3, rfl, hc3, hc3'⟩ := h3.form
  have HB1 := Lib.hid hb1
  obtain ⟨q, hq⟩ : ∃ q, sortM ⟨sorts, ops⟩ vars t = q := ⟨_, rfl⟩
  have HQ := Lib.hid hq
  clear hrr h2 h3 hb1 hq
  by_cases hq0 : q < 0
  · have HN := Lib.hid (atM_nil (s := ⟨sorts, ops⟩) (vars := vars) (t := t) (k := a) (by rw [HQ.out]; omega))
    go_enter Try.func71, Try.ntmps71
    go_wp2_with (go_at_call 92; refine (specTermSort_any ⟨sorts, ops⟩ vars t _ _ _ _ HS.out HV2.out HV3.out).mono ?_; rw [HQ.out]; rintro e w1 ⟨rfl, hb⟩; have HB2 := Lib.hid hb; clear hb)
    go_ret
    have s1 := HB2.out.size
    simp at s1
    exact ⟨_, rfl, by rw [HN.out]; exact (own_empty w1).base (by omega), (HB1.out.trans (HB2.out.mono (by simp))).trans ((below_alloc _ _).mono (by omega))⟩
  by_cases hin : 0 ≤ a ∧ a < (t.length : Int)
  · obtain ⟨k, rfl⟩ := Int.eq_ofNat_of_zero_le hin.1
    have hkt : k < t.length := by omega
    have hqq : 0 ≤ sortM ⟨sorts, ops⟩ vars t := by rw [HQ.out]; omega
    obtain ⟨pre, sub, post, hd1, hd2, hd3, hd4, hd5, hd6, hd7, -⟩ := part_of hqq hkt
    obtain ⟨tm0, hvo, hl30, -⟩ := sortM_to hqq
    have hN := atM_yes hqq hkt
    rw [hd5] at hN
    have hlr := row_pos sub
    have hll := congrArg List.length hd1
    simp only [List.length_append] at hll
    have hdk : t.drop k = sub.row ++ post := by rw [hd1, List.append_assoc, ← hd2]; simp
    have hsub : (t.drop k).take (t.length - post.length - k) = sub.row := by
      rw [hdk, List.take_append_of_le_length (by omega), List.take_of_length_le (by omega)]
    have HSUB := Lib.hid hsub
    have HN := Lib.hid hN
    have HF := Lib.hid hd4
    have HV := Lib.hid hvo
    have HI := Lib.hid (show inB (k : Int) 0 ((t.length : Int) - 1) = true by unfold inB; simp; omega)
    have hk0 : (0 : Int) ≤ (k : Int) := by omega
    have hk1 : (k : Int) ≤ (t.length : Int) := by omega
    have hck : ¬ c3 = k := by omega
    obtain ⟨en, hen⟩ : ∃ en, en = t.length - post.length := ⟨_, rfl⟩
    have he0 : (k : Int) ≤ (en : Int) := by omega
    have he1 : (en : Int) ≤ (t.length : Int) := by omega
    have he2 : (en : Int) ≤ (c3 : Int) := by omega
    have hs3 : sub.row.length = en - k := by omega
    have hs4 : en ≤ 30 := by omega
    have HEN := Lib.hid hen
    obtain ⟨b, o, c', e, hx⟩ := HV3.out.at_ hkt
    cases e
    clear hd1 hd2 hd3 hd4 hd5 hd6 hd7 hsub hN hvo hqq hx hlr hll hdk hen
    go_enter Try.func71, Try.ntmps71
    go_wp2_with (first
      | (go_at_call 92; refine (specTermSort_any ⟨sorts, ops⟩ vars t _ _ _ _ HS.out HV2.out HV3.out).mono ?_; rw [HQ.out]; rintro e w1 ⟨rfl, hb⟩; have g0 := cell_keep hb hbx.out.1; have g1 := cell_keep hb hbx.out.2; have HB2 := Lib.hid hb; clear hb)
      | (go_at_call 96; refine (l1In_is _ _ _ _ _ HI.out).mono ?_; rintro e w' ⟨rfl, rfl⟩)
      | (go_at_call 102; refine (end_any ⟨sorts, ops⟩ vars HV.out 30 t k _ _ _ _ (by rw [List.length_drop]; omega) (HS.out.keep HB2.out) (HV2.out.keep HB2.out) (HV3.out.keep HB2.out)).mono ?_; rw [HF.out, endV_some, ← HEN.out]; rintro e w2 ⟨rfl, hb2⟩; have HB3 := Lib.hid hb2; clear hb2 g0 g1)
      | (at_builtin; refine wpList_append_own _ rfl _ _ 36 rfl w2.heap.size 3 i0 (.int .i64 0) 1 8 Try.underlying36 hi0 hz0 hz1 hz2 rfl (by decide) _ 0 [] rfl (own_empty w2) ⟨b, o + k, none⟩ (en - k) (c3 - k) (sub.row.map (Value.int .i64)) rfl (by simp [hs3]) (news_any ((show RInts w2 (.slice (some ⟨b, o + k, none⟩) (en - k) (c3 - k)) sub.row by
            have h := (HV3.out.keep (fit_keep HB2.out HB3.out)).cut (k := k) (e := en) (A := some ⟨b, o + k, none⟩) (by omega) (by omega) rfl
            rw [HEN.out, HSUB.out, ← HEN.out] at h
            exact h).keep (below_alloc w2 _))) (ints_one _) (by rw [maxLen_eq]; omega) (by omega) (by simp) ?_))
    intro v' w4 hown4 hgrow4 _
    have HO := Lib.hid hown4
    have HG := Lib.hid (own_cut hgrow4 (fun k e => by injection e with e; exact Nat.le_of_eq e))
    have HB5 := Lib.hid (fit_keep (fit_keep HB2.out HB3.out) HG.out)
    have s2 := (fit_keep HB2.out HB3.out).size
    simp at s2
    clear hown4 hgrow4
    go_wp2
    go_ret
    refine ⟨_, rfl, ?_, HB1.out.trans (HB5.out.mono (by simp))⟩
    have h := HO.out
    rw [HN.out]
    refine OInts.base (B := w2.heap.size) ?_ (by omega)
    unfold OInts
    rw [hs3]
    simpa using h
  · have HN := Lib.hid (atM_nil (s := ⟨sorts, ops⟩) (vars := vars) (t := t) (k := a) (by omega))
    have HI := Lib.hid (show inB a 0 ((t.length : Int) - 1) = false by unfold inB; simp; omega)
    clear hin
    go_enter Try.func71, Try.ntmps71
    go_wp2_with (first
      | (go_at_call 92; refine (specTermSort_any ⟨sorts, ops⟩ vars t _ _ _ _ HS.out HV2.out HV3.out).mono ?_; rw [HQ.out]; rintro e w1 ⟨rfl, hb⟩; have HB2 := Lib.hid hb; clear hb)
      | (go_at_call 96; refine (l1In_is _ _ _ _ _ HI.out).mono ?_; rintro e w' ⟨rfl, rfl⟩))
    go_ret
    have s1 := HB2.out.size
    simp at s1
    exact ⟨_, rfl, by rw [HN.out]; exact (own_empty w1).base (by omega), (HB1.out.trans (HB2.out.mono (by simp))).trans ((below_alloc _ _).mono (by omega))⟩
end Go.Proofs.Ytonainidjkcoeac
