/- FnTermAt answers true at every slice of bytes. No condition. -/
import Derived.Test.YtcbjfedhebeogabFrame
import Derived.Test.YtcbjfedhebeogabAt
import Derived.Test.YtcbjfedhebeogabPut
import Derived.Test.YtcbjfedhebeogabSame
import Derived.Test.YtcbjfedhebeogabDrawB
namespace Go.Proofs.Ytcbjfedhebeogab
open Go.ChangeShapes Go.WideShapes Go.ChangeAt Go.RowKit
set_option linter.unusedVariables false

theorem at_zero {s : MSig} {vars t : List Int} (h : 0 ≤ sortM s vars t) (ht : 0 < t.length) : atM s vars t 0 = t := by
  obtain ⟨tm, h1, h2, h3, h4, h5⟩ := sortM_to h
  have hf := firstM_full (s := s) (vars := vars) (ops_few (vars_valid h1).1) tm 30 [] h3 (by rw [h4]; exact h2)
  have := atM_yes (s := s) (vars := vars) (t := t) (k := 0) h ht
  rw [show ((0 : Nat) : Int) = 0 from rfl] at this
  rw [this]
  unfold partM
  rw [List.drop_zero, ← h4]
  rw [List.append_nil] at hf
  rw [hf]

set_option maxHeartbeats 3200000 in
set_option maxRecDepth 100000 in
theorem walk_FnTermAt (v : Value) (bs : List Int) (w : World) (h : RBytes w w.heap.size v bs) :
    Calls Try.prog 7 #[v] w fun e w' => e = .returned (.bool true) ∧ Below w.heap.size w w' := by
  have HW := Lib.hid h
  obtain ⟨A, c, rfl, hc1, hc2, -⟩ := h
  rw [maxLen_eq] at hc2
  by_cases hl : 1048576 < bs.length
  · go_enter Try.func7, Try.ntmps7
    go_wp2
    go_ret
    exact ⟨rfl, Below.refl _ _⟩
  go_enter Try.func7, Try.ntmps7
  go_wp2_with fail
  refine (drawTermAt_any _ bs _ HW.out).mono ?_
  rintro e w1 ⟨sv, ⟨sorts, rows⟩, vv, vars, tv, t, a, rfl, ⟨u, rfl, ho⟩, hov, hot, ⟨ad, ct, rfl⟩, hs1, hs2, hs3, hsm, hb1⟩
  simp only at hs1 ho
  obtain ⟨Au, cu, rfl, -⟩ := ho.reads.form
  obtain ⟨Av, cv, rfl, -⟩ := own_reads hov
  have hal := below_alloc w1 (.cells #[.int .i64 sorts, .slice Au rows.length cu] 25)
  have hbx := box_cells w1 (.int .i64 sorts) (.slice Au rows.length cu) 25
  have HS2 := Lib.hid (show RSig (w1.alloc (.cells #[.int .i64 sorts, .slice Au rows.length cu] 25)) (.agg #[.int .i64 sorts, .slice Au rows.length cu]) ⟨sorts, rows⟩ from ⟨_, rfl, ho.reads.keep hal⟩)
  have HV2 := Lib.hid (hov.keep hal).reads
  have HT2 := Lib.hid (hot.keep hal).reads
  have HB2 := Lib.hid (hb1.trans (hal.mono hb1.size))
  generalize hW2 : w1.alloc (.cells #[.int .i64 sorts, .slice Au rows.length cu] 25) = w2 at HS2 HV2 HT2 HB2 hbx
  have HBX := Lib.hid hbx
  have f0 := hbx.1
  have f1 := hbx.2
  have HSM := Lib.hid hsm
  clear ho hov hot hb1 hal hbx hsm
  go_wp2_with fail
  clear hW2
  refine (termAt_any ⟨sorts, rows⟩ vars t a _ _ _ _ HSM.out HS2.out HV2.out HT2.out).mono ?_
  rintro e w3 ⟨uu, rfl, hou, hb3⟩
  obtain ⟨Ap, cp, rfl, -⟩ := own_reads hou
  have HU3 := Lib.hid hou.reads
  have HB3 := Lib.hid hb3
  have g0 := cell_keep hb3 f0
  have g1 := cell_keep hb3 f1
  clear hou hb3 f0 f1
  go_wp2_with fail
  refine (specTermAt_any ⟨sorts, rows⟩ vars t a _ _ _ _ (HS2.out.keep HB3.out) (HV2.out.keep HB3.out) (HT2.out.keep HB3.out)).mono ?_
  rintro e w4 ⟨ux, rfl, hox, hb4⟩
  have HX4 := Lib.hid hox.reads
  have HU4 := Lib.hid (HU3.out.keep hb4)
  have HB4 := Lib.hid (fit_keep HB3.out hb4)
  have k0 := cell_keep hb4 g0
  have k1 := cell_keep hb4 g1
  clear hox hb4 g0 g1
  go_wp2_with fail
  refine (sameInts_is _ _ _ _ _ true (by unfold sameI; simp) HU4.out HX4.out).mono ?_
  rintro e w5 ⟨rfl, hd5⟩
  have HB5 := Lib.hid (fit_keep HB4.out hd5.below)
  have HU5 := Lib.hid (HU4.out.keep hd5.below)
  have m0 := cell_keep hd5.below k0
  have m1 := cell_keep hd5.below k1
  clear hd5 k0 k1
  by_cases hpe : atM ⟨sorts, rows⟩ vars t a = []
  · rw [hpe]
    clear m0 m1
    go_wp2_with fail
    refine (alive_any _).mono ?_
    rintro e w7 ⟨rfl, hb7⟩
    have HB7 := Lib.hid (HB2.out.trans ((fit_keep HB5.out hb7).mono HB2.out.size))
    clear hb7
    go_wp2
    go_ret
    exact ⟨rfl, HB7.out⟩
  obtain ⟨k, pre, sub, post, rfl, hkt, hl30, hqq, hvo, hd1, hd2, hd3, -, -, -, hd7, -⟩ := at_there hpe
  have hll := congrArg List.length hd1
  simp only [List.length_append] at hll
  obtain ⟨bt, ot, c', e, hx⟩ := (HT2.out.keep HB5.out).at_ hkt
  cases e
  have hple : (sub.row.length : Int) ≤ (t.length : Int) - (k : Int) := by omega
  have hele : t[k] = sub.row[0]'(by omega) := by
    have h1 : t[k]? = sub.row[0]? := by
      rw [hd1, List.append_assoc, List.getElem?_append_right (by omega), List.getElem?_append_left (by omega)]
      congr 1; omega
    rw [List.getElem?_eq_getElem hkt, List.getElem?_eq_getElem (by omega)] at h1
    injection h1
  rw [hele] at hx
  rw [hd3] at HU5 ⊢
  obtain ⟨bu, ou, c', e, hy⟩ := HU5.out.at_ (k := 0) (by omega)
  cases e
  have HZ := Lib.hid (at_zero hqq (by omega))
  rw [Nat.add_zero] at hy
  generalize sub.row[0]'(by omega) = y at hx hy
  have hpl : (0 : Int) < (sub.row.length : Int) := by omega
  have hpl2 : 0 < sub.row.length := by omega
  have hpn : ((sub.row.length : Int) == 0) = false := by rw [beq_eq_false_iff_ne]; omega
  generalize sub.row.length = pl at hple hpl hpl2 hpn ⊢
  have hk0 : (0 : Int) ≤ (k : Int) := by omega
  have hkl : (k : Int) < (t.length : Int) := by omega
  have hw : IntKind.i64.wrap ((t.length : Int) - (k : Int)) = (t.length : Int) - (k : Int) := by rw [IntKind.wrap_i64]; omega
  clear hd1 hd2 hd3 hd7 hll hele hpe hqq hvo
  have HTY := Lib.hid (HT2.out.keep HB5.out)
  go_wp2_with fail
  have ea := World.new_ne w5 _ m0
  have eb := World.new_ne w5 _ hx
  have ec := World.new_ne w5 _ hy
  go_region_held3 (fun w' => w'.cell? ⟨w1.heap.size, 0, none⟩ = some (.int .i64 sorts) ∧ w'.cell? ⟨w1.heap.size, 1, none⟩ = some (.slice Au rows.length cu) ∧ w'.cell? ⟨bt, ot + k, none⟩ = some (.int .i64 y) ∧ w'.cell? ⟨bu, ou, none⟩ = some (.int .i64 y)) (first | go_keep)
    (first
      | (go_at_call 16; refine (termAt_any ⟨sorts, rows⟩ vars t 0 w5.drew _ _ _ HSM.out (HS2.out.keep (bel_drew HB5.out)) (HV2.out.keep (bel_drew HB5.out)) (HT2.out.keep (bel_drew HB5.out))).mono ?_; rw [HZ.out]; rintro e w6 ⟨uz, rfl, hoz, hb6⟩; obtain ⟨Az, cz, rfl, -⟩ := hoz.reads.form; have HZ6 := Lib.hid hoz.reads; have HB6 := Lib.hid (show Below w5.heap.size w5 w6 from bel_undrew hb6); have j0 := cell_keep HB6.out m0; have j1 := cell_keep HB6.out m1; have j2 := cell_keep HB6.out hx; have j3 := cell_keep HB6.out hy; clear hoz hb6)
      | (go_at_call 23; refine (sameInts_is _ _ t t _ true (by unfold sameI; simp) HZ6.out (HTY.out.keep HB6.out)).mono ?_; rintro e w7 ⟨rfl, hd7⟩; have HB7 := Lib.hid (fit_keep HB6.out hd7.below); have i0 := cell_keep HB7.out m0; have i1 := cell_keep HB7.out m1; have i2 := cell_keep HB7.out hx; have i3 := cell_keep HB7.out hy; clear hd7))
  clear m0 m1 hx hy j0 j1 j2 j3 i0 i1 i2 i3 ea eb ec
  have HB8 := Lib.hid (HB2.out.trans ((fit_keep HB5.out HB7.out).mono HB2.out.size))
  go_wp2
  go_ret
  exact ⟨rfl, HB8.out⟩

set_option maxRecDepth 100000 in
theorem lifted_FnTermAt (os : Os) (started : os.Started) (H : Type) (enc : TypeId × Value → H) :
    ReturnsInHanded {} Try.checked os 7 .any (Rows.fnTermAtSpec.pre6 enc Try.prog Try.f7 Rows.fnTermAtRow.domain false) (Rows.fnTermAtSpec.post enc Try.prog Try.f7 false true false false) := by
  refine returnsInHanded_of_change (C := Try.checked) own started (by kernel_rfl) Try.func7
    (ChangeSpec.witness6 (enc := enc) (C := Try.checked) false ⟨#[], #[.slice none 0 0], []⟩ 8 (by kernel_rfl) (by kernel_rfl) (by kernel_rfl) (by kernel_rfl)) ?_
  intro W base args ds gs before hval0 hW hcnd _
  have hval : ∀ (j : Nat) t v, Try.f7.params[j]? = some t → args[j]? = some v → Value.okWide Try.prog W .any base t v := hval0
  have hW' := hW
  obtain ⟨p, q, hA0, hV, rfl, hfz, hnd⟩ := hW
  have hA : DataW.TrodAll enc Try.prog W 0 (fun _ => true) true Try.f7.params.toList args.toList ds p := hA0
  rw [Try.params7] at hA hval
  obtain ⟨v0, vs0, d0, ds0, p0, q0, hargs, rfl, rfl, h0, r0⟩ := trodAll_cons hA
  obtain ⟨rfl, rfl, rfl⟩ := trodAll_nil r0
  obtain rfl : args = #[v0] := by cases args; simp_all
  obtain ⟨rfl, rfl⟩ := trodVars_none hV
  obtain ⟨a0, len0, cap0, rfl⟩ := okWide_slice Try.underlying22 (hval 0 22 v0 rfl rfl)
  have k0 := h0
  have lt0 : ∀ x ∈ p0, x.block < W.heap.size := by obtain ⟨m, hm⟩ := k0; exact DataW.trod_lt m _ _ _ hm
  obtain ⟨bs, w0⟩ : ∃ bs, RBytes W W.heap.size (.slice a0 len0 cap0) bs := by
    obtain ⟨fuel, hf⟩ := h0
    rcases open_ints Try.underlying22 Try.underlying5 (by kernel_rfl) hf with ⟨hcs, _⟩ | ⟨x, l, c, zs, hcs, _, hl, hm, hz, _, hcell, hwz⟩
    · simp [Value.cells] at hcs
      obtain ⟨rfl, rfl, rfl⟩ := hcs
      exact ⟨[], bytes_nil _ _⟩
    · simp [Value.cells] at hcs
      obtain ⟨rfl, rfl, rfl⟩ := hcs
      exact ⟨_, bytes_of hl hm (by simpa using hz) hcell hwz⟩
  clear hA0 hval0
  refine (walk_FnTermAt _ bs W w0).mono fun e W' ⟨he, bel⟩ => ?_
  subst he
  exact ⟨_, rfl, _, _, _, [], _, [], hW', trodAll_mk1 (shut_bool Try.underlying4 _), (trodAll_cons_mk (Below.trod laidOut (by kernel_rfl) (of_decide_eq_true (by kernel_rfl)) k0 bel lt0) trodAll_mk0), rfl, bel.frame _, fun h => by cases h⟩

theorem over_FnTermAt : Rows.fnTermAtRow.holds Try.pinned (OpenSpec.ofChange Rows.fnTermAtSpec) :=
  OpenClaim.holds_of_wide 7 Try.f7 rfl rfl rfl rfl rfl rfl rfl ⟨rfl, rfl, rfl, rfl, rfl⟩ rfl rfl rfl rfl rfl (by kernel_rfl) Try.func7 (by kernel_rfl)
    (of_decide_eq_true (by kernel_rfl)) (by unfold Func.isWrapper; first | (rw [if_pos (by decide +kernel)]; kernel_rfl) | (rw [if_neg (by decide +kernel)]; exact ⟨rfl, rfl⟩))
    (fun os started H enc _ => lifted_FnTermAt os started H enc)

theorem proved_FnTermAt : Rows.FnTermAtSaid := over_FnTermAt
end Go.Proofs.Ytcbjfedhebeogab
