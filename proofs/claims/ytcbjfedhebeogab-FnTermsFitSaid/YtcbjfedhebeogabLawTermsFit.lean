/- FnTermsFit answers true at every slice of bytes. No condition. -/
import Derived.Test.YtcbjfedhebeogabFrame
import Derived.Test.YtcbjfedhebeogabFit
import Derived.Test.YtcbjfedhebeogabDrawC
namespace Go.Proofs.Ytcbjfedhebeogab
open Go.ChangeShapes Go.WideShapes Go.ChangeAt Go.RowKit
set_option linter.unusedVariables false

/-- each letter, alone -/
def selfRows (n : Nat) : List (List Int) := (List.range n).map fun (j : Nat) => [100 + (j : Int)]
theorem selfRows_succ (n : Nat) : selfRows (n + 1) = selfRows n ++ [[100 + (n : Int)]] := by unfold selfRows; rw [List.range_succ, List.map_append]; rfl
theorem selfRows_len (n : Nat) : (selfRows n).length = n := by unfold selfRows; simp
theorem selfRows_small {n : Nat} (h : n ≤ 1000) : ∀ r ∈ selfRows n, Small r := fun r hr x hx => by
  unfold selfRows at hr
  simp only [List.mem_map, List.mem_range] at hr
  obtain ⟨j, hj, rfl⟩ := hr
  simp at hx; omega
theorem sort_letter {s : MSig} {vars : List Int} (h : varsB s vars = true) {i : Nat} (hi : i < vars.length) : sortM s vars [100 + (i : Int)] = vars[i] := by
  have := sortM_of (tm := .leaf i (vars.getD i 0)) h (by simp [Tm.row]) (by unfold wfT; exact ⟨hi, rfl⟩)
  unfold Tm.row Tm.sort at this
  rw [this, getD_at _ hi]
theorem fits_self (s : MSig) (vars : List Int) : fitsB s vars (selfRows vars.length) vars = varsB s vars := by
  rw [fitsB_eq]
  cases hv : varsB s vars with
  | false => rfl
  | true =>
    rw [selfRows_len]
    simp only [decide_true, Bool.true_and, List.all_eq_true]
    intro q hq
    obtain ⟨i, hi, rfl⟩ := List.getElem_of_mem hq
    rw [List.length_zip, selfRows_len] at hi
    rw [List.getElem_zip]
    have hi' : i < vars.length := by omega
    have e : (selfRows vars.length)[i]'(by rw [selfRows_len]; exact hi') = [100 + (i : Int)] := by unfold selfRows; simp
    unfold fitP
    rw [e]
    simp only [sort_letter hv hi', decide_true, Bool.and_true, decide_eq_true_eq]
    exact ((vars_valid hv).2.2 i hi').1

/-- one letter more -/
theorem self_push {w w1 : World} {B n : Nat} {v v' : Value} {us : List Value} (hB : B ≤ w.heap.size) (h1 : w.ownsRow B 26 1 v (selfRows n).length us) (h2 : us.length = (selfRows n).length)
    (h3 : ∀ (j : Nat) (u : Value) (row : List Int), us[j]? = some u → (selfRows n)[j]? = some row → OInts w B u row) (h4 : ∀ (i j : Nat) (u u' : Value), i < j → us[i]? = some u → us[j]? = some u' → u.ownBlock = none ∨ u.ownBlock ≠ u'.ownBlock)
    (hv' : w1.ownsRow B 26 1 v' ((selfRows n).length + 1) (us ++ [.slice (some ⟨w.heap.size, 0, none⟩) 1 1])) (hg : ((w.alloc (.cells #[.int .i64 (100 + (n : Int))] 3)).alloc (.cells #[.slice (some ⟨w.heap.size, 0, none⟩) 1 1] 26)).grownBy w1 v.ownBlock) : ORows w1 B v' (selfRows (n + 1)) := by
  rw [selfRows_succ]
  refine ORows.push (w := (w.alloc (.cells #[.int .i64 (100 + (n : Int))] 3)).alloc (.cells #[.slice (some ⟨w.heap.size, 0, none⟩) 1 1] 26)) ((h1.alloc _).alloc _) h2 (fun j x r a b => World.ownsRow.alloc (World.ownsRow.alloc (h3 j x r a b) _) _) h4 (World.ownsRow.alloc (lit1 w (100 + (n : Int)) hB) _) (fun i x hx => ?_) hg hv'
  have hi : i < us.length := (List.getElem?_eq_some_iff.1 hx).1
  have hxo := h3 i x (selfRows n)[i] hx (List.getElem?_eq_getElem (by omega))
  cases hb : x.ownBlock with
  | none => exact .inl rfl
  | some k =>
    right
    intro e
    have a := (own_lt hxo k hb).2
    injection e with e
    have e2 : k = w.heap.size := e
    omega

theorem own_in2 {w w2 : World} {B : Nat} {o1 o2 : Obj} {A : Option Addr} {n c : Nat} (h : ((w.alloc o1).alloc o2).grownBy w2 (Value.slice A n c).ownBlock) (hr : ∀ k, (Value.slice A n c).ownBlock = some k → B ≤ k) (hB : B ≤ w.heap.size) : Below B w w2 :=
  ((below_alloc w o1).trans ((below_alloc _ o2).mono (by simp))).mono hB |>.trans ⟨h.os, h.tape, h.output, h.size, fun k hk => h.block k (by simp; omega) (fun e => by have := hr k e.symm; omega)⟩

set_option maxHeartbeats 3200000 in
set_option maxRecDepth 100000 in
theorem walk_FnTermsFit (v : Value) (bs : List Int) (w : World) (h : RBytes w w.heap.size v bs) :
    Calls Try.prog 5 #[v] w fun e w' => e = .returned (.bool true) ∧ Below w.heap.size w w' := by
  obtain ⟨i1, hj, hy0, hy1, hy2⟩ := info_parts Try.info_ints
  have HW := Lib.hid h
  obtain ⟨A, c, rfl, hc1, hc2, -⟩ := h
  rw [maxLen_eq] at hc2
  by_cases hl : 1048576 < bs.length
  · go_enter Try.func5, Try.ntmps5
    go_wp2
    go_ret
    exact ⟨rfl, Below.refl _ _⟩
  go_enter Try.func5, Try.ntmps5
  go_wp2_with fail
  refine (drawTermsFit_any _ bs _ HW.out).mono ?_
  rintro e w1 ⟨sv, ⟨sorts, rows⟩, vv, vars, rv, terms, xv, srts, rfl, ⟨u, rfl, ho⟩, hov, hor, hox, hs1, hs2, hs3, hs4, hsm, hb1⟩
  simp only at hs1 ho
  obtain ⟨Au, cu, rfl, -⟩ := ho.reads.form
  obtain ⟨Av, cv, rfl, -⟩ := own_reads hov
  obtain ⟨Ar, cr, rfl, -⟩ := hor.reads.form
  obtain ⟨Ax, cx, rfl, -⟩ := own_reads hox
  have hal := below_alloc w1 (.cells #[.int .i64 sorts, .slice Au rows.length cu] 25)
  have hbx := box_cells w1 (.int .i64 sorts) (.slice Au rows.length cu) 25
  have HS2 := Lib.hid (show RSig (w1.alloc (.cells #[.int .i64 sorts, .slice Au rows.length cu] 25)) (.agg #[.int .i64 sorts, .slice Au rows.length cu]) ⟨sorts, rows⟩ from ⟨_, rfl, ho.reads.keep hal⟩)
  have HV2 := Lib.hid (hov.keep hal).reads
  have HR2 := Lib.hid (hor.keep hal).reads
  have HX2 := Lib.hid (hox.keep hal).reads
  have HB2 := Lib.hid (hb1.trans (hal.mono hb1.size))
  generalize hW2 : w1.alloc (.cells #[.int .i64 sorts, .slice Au rows.length cu] 25) = w2 at HS2 HV2 HR2 HX2 HB2 hbx
  have HBX := Lib.hid hbx
  have f0 := hbx.1
  have f1 := hbx.2
  have HSM := Lib.hid (show ∀ r ∈ terms, Small r from fun r hr => (hsm r hr).1)
  obtain ⟨q, hq⟩ : ∃ q, fitsB ⟨sorts, rows⟩ vars terms srts = q := ⟨_, rfl⟩
  have HQ := Lib.hid hq
  clear ho hov hor hox hb1 hal hbx hsm hq
  go_wp2_with fail
  clear hW2
  refine (termsFit_any ⟨sorts, rows⟩ vars terms srts _ _ _ _ _ HSM.out HS2.out HV2.out HR2.out HX2.out).mono ?_
  rw [HQ.out]
  rintro e w3 ⟨rfl, hb3⟩
  have HB3 := Lib.hid hb3
  have g0 := cell_keep hb3 f0
  have g1 := cell_keep hb3 f1
  clear hb3 f0 f1
  go_wp2_with fail
  refine (specTermsFit_any ⟨sorts, rows⟩ vars terms srts _ _ _ _ _ HSM.out (HS2.out.keep HB3.out) (HV2.out.keep HB3.out) (HR2.out.keep HB3.out) (HX2.out.keep HB3.out)).mono ?_
  rw [HQ.out]
  rintro e w4 ⟨rfl, hb4⟩
  have HB4 := Lib.hid (fit_keep HB3.out hb4)
  have hqb : (q != q) = false := by simp
  have HE := Lib.hid (show ORows (w4.alloc (.cells #[] 26)) w4.heap.size (.slice (some ⟨w4.heap.size, 0, none⟩) 0 0) (selfRows 0) from ⟨[], World.ownsRow_lit w4 #[] 0 (Nat.le_refl _) (Nat.zero_le _) rfl, rfl, fun j u row h => by simp at h, fun i j u u' _ h => by simp at h⟩)
  clear hb4 g0 g1
  go_wp2
  go_loopw [8, 9] (fun o i wr => ∃ k : Nat, k ≤ vars.length ∧ i = .int .i64 k ∧ ORows wr w4.heap.size o (selfRows k) ∧ Below w4.heap.size w4 wr) (fun _ i _ => vars.length - (intOf i).toNat)
  case atStart => exact ⟨0, Nat.zero_le _, rfl, HE.out, below_alloc _ _⟩
  case round =>
    obtain ⟨k, hk, rfl, hor, hbr⟩ := hrel
    have HBR := Lib.hid hbr
    have HORW := Lib.hid hor
    obtain ⟨us, h1, h2, h3, h4⟩ := hor
    obtain ⟨As, cs, rfl, -⟩ := own_reads h1
    have H1 := Lib.hid h1
    have HOR := Lib.hid (And.intro h2 (And.intro h3 h4))
    have hzr := hbr.size
    have hsl := selfRows_len k
    rw [hsl] at h1
    have H1' := Lib.hid h1
    clear h1 h2 h3 h4 hbr
    rw [hsl]
    have HSL := Lib.hid hsl
    clear hsl
    by_cases hkl : k < vars.length
    · have hkl' : (k : Int) < (vars.length : Int) := by omega
      have hown := (H1'.out.alloc (.cells #[.int .i64 (100 + (k : Int))] 3)).alloc (.cells #[.slice (some ⟨wr.heap.size, 0, none⟩) 1 1] 26)
      have hw : IntKind.i64.wrap (100 + (k : Int)) = 100 + (k : Int) := by rw [IntKind.wrap_i64]; omega
      have HNR := Lib.hid (new_row (wr.alloc (.cells #[.int .i64 (100 + (k : Int))] 3)) (.slice (some ⟨wr.heap.size, 0, none⟩) 1 1) 26)
      rw [show (wr.alloc (.cells #[.int .i64 (100 + (k : Int))] 3)).heap.size = wr.heap.size + 1 by simp] at HNR
      go_wp2_with (at_builtin; refine wpList_append_own _ rfl _ _ 23 rfl w4.heap.size 26 i1 (.slice none 0 0) 1 24 Try.underlying23 hj hy0 hy1 hy2 rfl (by decide) _ k us rfl hown ⟨wr.heap.size + 1, 0, none⟩ 1 1 [.slice (some ⟨wr.heap.size, 0, none⟩) 1 1] rfl rfl (new_one HNR.out) (slice_one _ ⟨_, _, _, rfl⟩) (by rw [maxLen_eq]; omega) (by omega) (by simp; omega) ?_)
      intro v' w7 hown7 hgrow7 _
      have hb7 : ∀ j, (Value.slice As k cs).ownBlock = some j → w4.heap.size ≤ j := fun j e => (own_lt H1'.out j e).1
      have HN := Lib.hid (self_push hzr H1.out HOR.out.1 HOR.out.2.1 HOR.out.2.2 (by rw [HSL.out]; exact hown7) (by rw [HSL.out]; exact hgrow7))
      have HBN := Lib.hid (HBR.out.trans (own_in2 hgrow7 hb7 hzr))
      clear hown hown7 hgrow7 hb7
      go_wp2
      go_roundw
      case rel => exact ⟨k + 1, by omega, by go_num, HN.out, HBN.out⟩
      case measure => simp [intOf]; omega
    · have hkl' : ¬ (k : Int) < (vars.length : Int) := by omega
      have hkn : k = vars.length := by omega
      subst hkn
      have HB5 := Lib.hid (fit_keep HB4.out HBR.out)
      have m0 := cell_keep HB5.out HBX.out.1
      have m1 := cell_keep HB5.out HBX.out.2
      have HFS := Lib.hid (fits_self ⟨sorts, rows⟩ vars)
      obtain ⟨vb, hvb⟩ : ∃ vb, varsB ⟨sorts, rows⟩ vars = vb := ⟨_, rfl⟩
      rw [hvb] at HFS
      have HVB := Lib.hid hvb
      have hvv : (vb == vb) = true := by simp
      have HRS := Lib.hid (show RRows wr (.slice As vars.length cs) (selfRows vars.length) by have h := HORW.out.reads; rw [HSL.out] at h; exact h)
      clear hvb
      go_wp2_with fail
      have ea := World.new_ne wr _ m0
      go_region_held3 (fun w' => w'.cell? ⟨w1.heap.size, 0, none⟩ = some (.int .i64 sorts) ∧ w'.cell? ⟨w1.heap.size, 1, none⟩ = some (.slice Au rows.length cu)) (first | go_keep)
        (first
          | (go_at_call 18; refine (termsFit_any ⟨sorts, rows⟩ vars (selfRows vars.length) vars wr.drew _ _ _ _ (selfRows_small (by omega)) (HS2.out.keep (bel_drew HB5.out)) (HV2.out.keep (bel_drew HB5.out)) HRS.out (HV2.out.keep (bel_drew HB5.out))).mono ?_; rw [HFS.out]; rintro e w6 ⟨rfl, hb6⟩; have HB6 := Lib.hid (show Below wr.heap.size wr w6 from bel_undrew hb6); have j0 := cell_keep HB6.out m0; have j1 := cell_keep HB6.out m1; clear hb6)
          | (go_at_call 9; refine (varsOk_any _ _ ⟨sorts, rows⟩ vars _ (HS2.out.keep (fit_keep HB5.out HB6.out)) (HV2.out.keep (fit_keep HB5.out HB6.out))).mono ?_; rw [HVB.out]; rintro e w7 ⟨rfl, hb7⟩; have HB7 := Lib.hid (fit_keep HB6.out hb7); have i0 := cell_keep HB7.out m0; have i1' := cell_keep HB7.out m1; clear hb7)
          | (go_at_call 12; refine (alive_any _).mono ?_; rintro e w8 ⟨rfl, hb8⟩; have HB8 := Lib.hid (fit_keep HB7.out hb8); have k0 := cell_keep HB8.out m0; have k1 := cell_keep HB8.out m1; clear hb8))
      clear m0 m1 j0 j1 i0 i1' k0 k1 ea
      have HB9 := Lib.hid (HB2.out.trans ((fit_keep HB5.out HB8.out).mono HB2.out.size))
      go_wp2
      go_ret
      exact ⟨rfl, HB9.out⟩

set_option maxRecDepth 100000 in
theorem lifted_FnTermsFit (os : Os) (started : os.Started) (H : Type) (enc : TypeId × Value → H) :
    ReturnsInHanded {} Try.checked os 5 .any (Rows.fnTermsFitSpec.pre6 enc Try.prog Try.f5 Rows.fnTermsFitRow.domain false) (Rows.fnTermsFitSpec.post enc Try.prog Try.f5 false true false false) := by
  refine returnsInHanded_of_change (C := Try.checked) own started (by kernel_rfl) Try.func5
    (ChangeSpec.witness6 (enc := enc) (C := Try.checked) false ⟨#[], #[.slice none 0 0], []⟩ 8 (by kernel_rfl) (by kernel_rfl) (by kernel_rfl) (by kernel_rfl)) ?_
  intro W base args ds gs before hval0 hW hcnd _
  have hval : ∀ (j : Nat) t v, Try.f5.params[j]? = some t → args[j]? = some v → Value.okWide Try.prog W .any base t v := hval0
  have hW' := hW
  obtain ⟨p, q, hA0, hV, rfl, hfz, hnd⟩ := hW
  have hA : DataW.TrodAll enc Try.prog W 0 (fun _ => true) true Try.f5.params.toList args.toList ds p := hA0
  rw [Try.params5] at hA hval
  obtain ⟨v0, vs0, d0, ds0, p0, q0, hargs, rfl, rfl, h0, r0⟩ := trodAll_cons hA
  obtain ⟨rfl, rfl, rfl⟩ := trodAll_nil r0
  obtain rfl : args = #[v0] := by cases args; simp_all
  obtain ⟨rfl, rfl⟩ := trodVars_none hV
  obtain ⟨a0, len0, cap0, rfl⟩ := okWide_slice Try.underlying22 (hval 0 22 v0 rfl rfl)
  have k0 := h0
  have lt0 : ∀ x ∈ p0, x.block < W.heap.size := by obtain ⟨m, hm⟩ := k0; exact DataW.trod_lt m _ _ _ hm
  obtain ⟨bs, w0⟩ : ∃ bs, RBytes W W.heap.size (.slice a0 len0 cap0) bs := by
    obtain ⟨fuel, hf⟩ := h0
    rcases open_ints Try.underlying22 Try.underlying5 (by kernel_rfl) hf with ⟨hcs, _⟩ | ⟨x, l, c, zs, hcs, _, hl, hm, hz, _, hcell, hwz⟩
    · simp [Value.cells] at hcs
      obtain ⟨rfl, rfl, rfl⟩ := hcs
      exact ⟨[], bytes_nil _ _⟩
    · simp [Value.cells] at hcs
      obtain ⟨rfl, rfl, rfl⟩ := hcs
      exact ⟨_, bytes_of hl hm (by simpa using hz) hcell hwz⟩
  clear hA0 hval0
  refine (walk_FnTermsFit _ bs W w0).mono fun e W' ⟨he, bel⟩ => ?_
  subst he
  exact ⟨_, rfl, _, _, _, [], _, [], hW', trodAll_mk1 (shut_bool Try.underlying4 _), (trodAll_cons_mk (Below.trod laidOut (by kernel_rfl) (of_decide_eq_true (by kernel_rfl)) k0 bel lt0) trodAll_mk0), rfl, bel.frame _, fun h => by cases h⟩

theorem over_FnTermsFit : Rows.fnTermsFitRow.holds Try.pinned (OpenSpec.ofChange Rows.fnTermsFitSpec) :=
  OpenClaim.holds_of_wide 5 Try.f5 rfl rfl rfl rfl rfl rfl rfl ⟨rfl, rfl, rfl, rfl, rfl⟩ rfl rfl rfl rfl rfl (by kernel_rfl) Try.func5 (by kernel_rfl)
    (of_decide_eq_true (by kernel_rfl)) (by unfold Func.isWrapper; first | (rw [if_pos (by decide +kernel)]; kernel_rfl) | (rw [if_neg (by decide +kernel)]; exact ⟨rfl, rfl⟩))
    (fun os started H enc _ => lifted_FnTermsFit os started H enc)

theorem proved_FnTermsFit : Rows.FnTermsFitSaid := over_FnTermsFit
end Go.Proofs.Ytcbjfedhebeogab
