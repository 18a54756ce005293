/- FnOpLeaves answers true at every slice of bytes. No condition. -/
import Derived.Test.YtmafipngpbmgdaaFrame
import Derived.Test.YtmafipngpbmgdaaPure3
import Derived.Test.YtmafipngpbmgdaaDraw4
namespace Go.Proofs.Ytmafipngpbmgdaa
open Go.ChangeShapes Go.WideShapes Go.ChangeAt Go.RowKit
set_option linter.unusedVariables false

theorem leaves_bound (s : MSig) (op : Int) : leavesM s op = -1 ∨ (0 ≤ leavesM s op ∧ leavesM s op < s.sorts) := by
  cases hv : hasOpB s op with
  | false => left; unfold leavesM; rw [hv]; rfl
  | true =>
    right
    obtain ⟨k, rfl, hk, hval⟩ := hasOp_nat hv
    have hvr := valid_row hval hk
    rw [leaves_nat hv hk, last_at (by omega)]
    exact hvr.2.2 _ (List.getElem_mem _)

theorem walk_FnOpLeaves (v : Value) (bs : List Int) (w : World) (h : RBytes w w.heap.size v bs) :
    Calls Try.prog 5 #[v] w fun e w' => e = .returned (.bool true) ∧ Below w.heap.size w w' := by
  have HW := Lib.hid h
  obtain ⟨A, c, rfl, hc1, hc2, -⟩ := h
  rw [maxLen_eq] at hc2
  by_cases hl : 1048576 < bs.length
  · go_enter Try.func5, Try.ntmps5
    go_wp2
    go_ret
    exact ⟨rfl, Below.refl _ _⟩
  · go_enter Try.func5, Try.ntmps5
    go_wp2_with fail
    refine (drawOpLeaves_any _ bs _ HW.out).mono ?_
    rintro e w1 ⟨v, ⟨sorts, rows⟩, op, rfl, ⟨u, rfl, ho⟩, hs, hb1⟩
    have hrr := ho.reads
    obtain ⟨Au, cu, rfl, -⟩ := hrr.form
    have HB1 := Lib.hid hb1
    have HS := Lib.hid (show RSig (w1.alloc (.cells #[.int .i64 sorts, .slice Au rows.length cu] 25)) (.agg #[.int .i64 sorts, .slice Au rows.length cu]) ⟨sorts, rows⟩ from ⟨_, rfl, hrr.keep (below_alloc _ _)⟩)
    have hbx := Lib.hid (box_cells w1 (.int .i64 sorts) (.slice Au rows.length cu) 25)
    have HA := Lib.hid (below_alloc w1 (.cells #[.int .i64 sorts, .slice Au rows.length cu] 25))
    clear ho hs hb1 hrr
    have hlb := leaves_bound ⟨sorts, rows⟩ op
    simp only at hlb
    obtain ⟨n, hn⟩ : ∃ n, n = leavesM ⟨sorts, rows⟩ op := ⟨_, rfl⟩
    rw [← hn] at hlb
    have HN := Lib.hid hn
    clear hn
    go_wp2_with fail
    refine (opLeaves_any _ ⟨sorts, rows⟩ op _ HS.out).mono ?_
    rw [← HN.out]
    rintro e w2 ⟨rfl, hb2⟩
    have HB2 := Lib.hid hb2
    have f0 := cell_keep hb2 hbx.out.1
    have f1 := cell_keep hb2 hbx.out.2
    clear hb2
    go_wp2_with fail
    refine (specOpLeaves_any _ ⟨sorts, rows⟩ op _ (HS.out.keep HB2.out)).mono ?_
    rw [← HN.out]
    rintro e w3 ⟨rfl, hb3⟩
    have HB3 := Lib.hid hb3
    have g0 := cell_keep hb3 f0
    have g1 := cell_keep hb3 f1
    clear hb3 f0 f1
    have e1 : (n != n) = false := by simp
    have e2 : (n == n) = true := by simp
    have hge : -1 ≤ n := by omega
    have s1 := HB1.out.size
    have s2 := HA.out.size
    have s3 := HB2.out.size
    have s4 := HB3.out.size
    have HZ := Lib.hid (And.intro s1 (And.intro s2 (And.intro s3 s4)))
    clear s1 s2 s3 s4
    by_cases hneg : n < 0
    · go_wp2_with fail
      refine (alive_any _).mono ?_
      rintro e w5 ⟨rfl, hb5⟩
      have HB5 := Lib.hid hb5
      clear hb5
      go_wp2
      go_ret
      obtain ⟨s1, s2, s3, s4⟩ := HZ.out
      exact ⟨rfl, (((HB1.out.trans (HA.out.mono s1)).trans (HB2.out.mono (by omega))).trans (HB3.out.mono (by omega))).trans (HB5.out.mono (by omega))⟩
    · have hlt : n < sorts := by omega
      go_wp2_with fail
      refine (alive_any _).mono ?_
      rintro e w5 ⟨rfl, hb5⟩
      have HB5 := Lib.hid hb5
      clear hb5
      go_wp2
      go_ret
      obtain ⟨s1, s2, s3, s4⟩ := HZ.out
      exact ⟨rfl, (((HB1.out.trans (HA.out.mono s1)).trans (HB2.out.mono (by omega))).trans (HB3.out.mono (by omega))).trans (HB5.out.mono (by omega))⟩

set_option maxRecDepth 100000 in
theorem lifted_FnOpLeaves (os : Os) (started : os.Started) (H : Type) (enc : TypeId × Value → H) :
    ReturnsInHanded {} Try.checked os 5 .any (Rows.fnOpLeavesSpec.pre6 enc Try.prog Try.f5 Rows.fnOpLeavesRow.domain false) (Rows.fnOpLeavesSpec.post enc Try.prog Try.f5 false true false false) := by
  refine returnsInHanded_of_change (C := Try.checked) own started (by kernel_rfl) Try.func5
    (ChangeSpec.witness6 (enc := enc) (C := Try.checked) false ⟨#[], #[.slice none 0 0], []⟩ 8 (by kernel_rfl) (by kernel_rfl) (by kernel_rfl) (by kernel_rfl)) ?_
  intro W base args ds gs before hval0 hW hcnd _
  have hval : ∀ (j : Nat) t v, Try.f5.params[j]? = some t → args[j]? = some v → Value.okWide Try.prog W .any base t v := hval0
  have hW' := hW
  obtain ⟨p, q, hA0, hV, rfl, hfz, hnd⟩ := hW
  have hA : DataW.TrodAll enc Try.prog W 0 (fun _ => true) true Try.f5.params.toList args.toList ds p := hA0
  rw [Try.params5] at hA hval
  obtain ⟨v0, vs0, d0, ds0, p0, q0, hargs, rfl, rfl, h0, r0⟩ := trodAll_cons hA
  obtain ⟨rfl, rfl, rfl⟩ := trodAll_nil r0
  obtain rfl : args = #[v0] := by cases args; simp_all
  obtain ⟨rfl, rfl⟩ := trodVars_none hV
  obtain ⟨a0, len0, cap0, rfl⟩ := okWide_slice Try.underlying22 (hval 0 22 v0 rfl rfl)
  have k0 := h0
  have lt0 : ∀ x ∈ p0, x.block < W.heap.size := by obtain ⟨m, hm⟩ := k0; exact DataW.trod_lt m _ _ _ hm
  obtain ⟨bs, w0⟩ : ∃ bs, RBytes W W.heap.size (.slice a0 len0 cap0) bs := by
    obtain ⟨fuel, hf⟩ := h0
    rcases open_ints Try.underlying22 Try.underlying5 (by kernel_rfl) hf with ⟨hcs, _⟩ | ⟨x, l, c, zs, hcs, _, hl, hm, hz, _, hcell, hwz⟩
    · simp [Value.cells] at hcs
      obtain ⟨rfl, rfl, rfl⟩ := hcs
      exact ⟨[], bytes_nil _ _⟩
    · simp [Value.cells] at hcs
      obtain ⟨rfl, rfl, rfl⟩ := hcs
      exact ⟨_, bytes_of hl hm (by simpa using hz) hcell hwz⟩
  clear hA0 hval0
  refine (walk_FnOpLeaves _ bs W w0).mono fun e W' ⟨he, bel⟩ => ?_
  subst he
  exact ⟨_, rfl, _, _, _, [], _, [], hW', trodAll_mk1 (shut_bool Try.underlying4 _), (trodAll_cons_mk (Below.trod laidOut (by kernel_rfl) (of_decide_eq_true (by kernel_rfl)) k0 bel lt0) trodAll_mk0), rfl, bel.frame _, fun h => by cases h⟩

theorem over_FnOpLeaves : Rows.fnOpLeavesRow.holds Try.pinned (OpenSpec.ofChange Rows.fnOpLeavesSpec) :=
  OpenClaim.holds_of_wide 5 Try.f5 rfl rfl rfl rfl rfl rfl rfl ⟨rfl, rfl, rfl, rfl, rfl⟩ rfl rfl rfl rfl rfl (by kernel_rfl) Try.func5 (by kernel_rfl)
    (of_decide_eq_true (by kernel_rfl)) (by unfold Func.isWrapper; first | (rw [if_pos (by decide +kernel)]; kernel_rfl) | (rw [if_neg (by decide +kernel)]; exact ⟨rfl, rfl⟩))
    (fun os started H enc _ => lifted_FnOpLeaves os started H enc)

theorem proved_FnOpLeaves : Rows.FnOpLeavesSaid := over_FnOpLeaves
end Go.Proofs.Ytmafipngpbmgdaa
