/- FnOpTakes answers true at every slice of bytes. No condition. -/
import Derived.Test.YtmafipngpbmgdaaFrame
import Derived.Test.YtmafipngpbmgdaaTakes2
import Derived.Test.YtmafipngpbmgdaaDraw4
namespace Go.Proofs.Ytmafipngpbmgdaa
open Go.ChangeShapes Go.WideShapes Go.ChangeAt Go.RowKit
set_option linter.unusedVariables false

theorem sameI_self (xs : List Int) : sameI xs xs = true := by unfold sameI; simp

theorem one_cell (w : World) (x : Value) (t : TypeId) : (w.alloc (.cells #[x] t)).cell? ⟨w.heap.size, 0, none⟩ = some x := by rw [World.cell?_alloc_at _ _ _ _ rfl]; rfl
theorem own_list {w : World} {B : Nat} {v : Value} {tk : List Int} {lv : Int} (h : w.ownsRow B 3 1 v (0 + tk.length + 1) ([] ++ tk.map (Value.int .i64) ++ [.int .i64 lv])) : OInts w B v (tk ++ [lv]) := by
  unfold OInts
  simpa using h
theorem bel_chain {w5 wA wB wC : World} {vA : Value} {n : Nat} {zs : List Value} {o : Obj} (hA : Below w5.heap.size w5 wA) (hB : Below wA.heap.size wA wB) (hO : wA.ownsRow w5.heap.size 3 1 vA n zs) (hg : (wB.alloc o).grownBy wC vA.ownBlock) : Below w5.heap.size w5 wC :=
  ((hA.trans (hB.mono hA.size)).alloc (Nat.le_trans hA.size hB.size) o).grown hg (by have := hA.size; have := hB.size; simp; omega) (fun k e => (own_lt hO k e).1)

set_option maxHeartbeats 1600000 in
set_option maxRecDepth 100000 in
theorem walk_FnOpTakes (v : Value) (bs : List Int) (w : World) (h : RBytes w w.heap.size v bs) :
    Calls Try.prog 4 #[v] w fun e w' => e = .returned (.bool true) ∧ Below w.heap.size w w' := by
  have HW := Lib.hid h
  obtain ⟨A, c, rfl, hc1, hc2, -⟩ := h
  rw [maxLen_eq] at hc2
  by_cases hl : 1048576 < bs.length
  · go_enter Try.func4, Try.ntmps4
    go_wp2
    go_ret
    exact ⟨rfl, Below.refl _ _⟩
  · go_enter Try.func4, Try.ntmps4
    go_wp2_with fail
    refine (drawOpTakes_any _ bs _ HW.out).mono ?_
    rintro e w1 ⟨v, ⟨sorts, rows⟩, op, rfl, ⟨u, rfl, ho⟩, hs, hb1⟩
    have hrr := ho.reads
    obtain ⟨Au, cu, rfl, -⟩ := hrr.form
    have HB1 := Lib.hid hb1
    have HS := Lib.hid (show RSig (w1.alloc (.cells #[.int .i64 sorts, .slice Au rows.length cu] 25)) (.agg #[.int .i64 sorts, .slice Au rows.length cu]) ⟨sorts, rows⟩ from ⟨_, rfl, hrr.keep (below_alloc _ _)⟩)
    have hbx := Lib.hid (box_cells w1 (.int .i64 sorts) (.slice Au rows.length cu) 25)
    have HA := Lib.hid (below_alloc w1 (.cells #[.int .i64 sorts, .slice Au rows.length cu] 25))
    clear ho hs hb1 hrr
    go_wp2_with fail
    refine (opTakes_any _ ⟨sorts, rows⟩ op _ HS.out).mono ?_
    rintro e w2 ⟨u2, rfl, ho2, had2, hb2⟩
    obtain ⟨A2, c2, rfl, -⟩ := ho2.reads.form
    have HO2 := Lib.hid ho2
    have HAD := Lib.hid had2
    have HB2 := Lib.hid hb2
    have f0 := cell_keep hb2 hbx.out.1
    have f1 := cell_keep hb2 hbx.out.2
    clear hb2 ho2 had2
    go_wp2_with fail
    refine (specOpTakes_any _ ⟨sorts, rows⟩ op _ (HS.out.keep HB2.out)).mono ?_
    rintro e w3 ⟨u3, rfl, ho3, hb3⟩
    obtain ⟨A3, c3, rfl, -⟩ := ho3.reads.form
    have HO3 := Lib.hid ho3
    have HB3 := Lib.hid hb3
    have g0 := cell_keep hb3 f0
    have g1 := cell_keep hb3 f1
    clear hb3 f0 f1 ho3
    go_wp2_with fail
    refine (sameInts_is _ _ _ _ _ _ (sameI_self _) (HO2.out.keep HB3.out).reads HO3.out.reads).mono ?_
    rintro e w4 ⟨rfl, hd4⟩
    have HB4 := Lib.hid hd4.below
    have k0 := cell_keep HB4.out g0
    have k1 := cell_keep HB4.out g1
    clear hd4 g0 g1
    have HS4 := Lib.hid (HS.out.keep (HB2.out.trans ((HB3.out.trans (HB4.out.mono HB3.out.size)).mono HB2.out.size)))
    have HO4 := Lib.hid ((HO2.out.keep HB3.out).keep HB4.out)
    have hsz : w.heap.size ≤ w1.heap.size ∧ w1.heap.size + 1 ≤ w4.heap.size := by
      have s1 := HB1.out.size
      have s3 := HB2.out.size
      have s4 := HB3.out.size
      have s5 := HB4.out.size
      simp at s3
      omega
    have HBW : Hid (Below w.heap.size w w4) := by
      have s1 := HB1.out.size
      have s3 := HB2.out.size
      have s4 := HB3.out.size
      simp at s3
      exact (((HB1.out.trans (HA.out.mono s1)).trans (HB2.out.mono (by simp; omega))).trans (HB3.out.mono (by omega))).trans (HB4.out.mono (by omega))
    clear HB3 HB4 HO3 HO2 HS HA hbx HB1 HB2
    go_wp2_with fail
    cases hv : validB ⟨sorts, rows⟩ with
    | false =>
      have HT := Lib.hid (show takesM ⟨sorts, rows⟩ op = [] by unfold takesM hasOpB; rw [hv]; rfl)
      have HLV := Lib.hid (show leavesM ⟨sorts, rows⟩ op = -1 by unfold leavesM hasOpB; rw [hv]; rfl)
      have HV := Lib.hid hv
      clear hv
      have htl : (takesM ⟨sorts, rows⟩ op).length = 0 := by rw [HT.out]; rfl
      refine (specSigValid_any _ ⟨sorts, rows⟩ _ HS4.out).mono ?_
      rw [HV.out]
      rintro e w5 ⟨rfl, hb5⟩
      have HB5 := Lib.hid hb5
      have j0 := cell_keep hb5 k0
      have j1 := cell_keep hb5 k1
      clear hb5 k0 k1
      go_wp2_with fail
      refine (opLeaves_any _ ⟨sorts, rows⟩ op _ (HS4.out.keep HB5.out)).mono ?_
      rw [HLV.out]
      rintro e w6 ⟨rfl, hb6⟩
      have HB6 := Lib.hid hb6
      clear hb6
      go_wp2_with fail
      refine (alive_any _).mono ?_
      rintro e w7 ⟨rfl, hb7⟩
      have HB7 := Lib.hid hb7
      clear hb7
      go_wp2
      go_ret
      have s5 := HB5.out.size
      have s6 := HB6.out.size
      exact ⟨rfl, ((HBW.out.trans (HB5.out.mono (by omega))).trans (HB6.out.mono (by omega))).trans (HB7.out.mono (by omega))⟩
    | true =>
      by_cases h0 : op < 0
      · have ho0 : hasOpB ⟨sorts, rows⟩ op = false := by unfold hasOpB; simp; omega
        have HT := Lib.hid (show takesM ⟨sorts, rows⟩ op = [] by unfold takesM; rw [ho0]; rfl)
        have HLV := Lib.hid (show leavesM ⟨sorts, rows⟩ op = -1 by unfold leavesM; rw [ho0]; rfl)
        have HV := Lib.hid hv
        clear hv ho0
        have htl : (takesM ⟨sorts, rows⟩ op).length = 0 := by rw [HT.out]; rfl
        refine (specSigValid_any _ ⟨sorts, rows⟩ _ HS4.out).mono ?_
        rw [HV.out]
        rintro e w5 ⟨rfl, hb5⟩
        have HB5 := Lib.hid hb5
        have j0 := cell_keep hb5 k0
        have j1 := cell_keep hb5 k1
        clear hb5 k0 k1
        go_wp2_with fail
        refine (opLeaves_any _ ⟨sorts, rows⟩ op _ (HS4.out.keep HB5.out)).mono ?_
        rw [HLV.out]
        rintro e w6 ⟨rfl, hb6⟩
        have HB6 := Lib.hid hb6
        clear hb6
        go_wp2_with fail
        refine (alive_any _).mono ?_
        rintro e w7 ⟨rfl, hb7⟩
        have HB7 := Lib.hid hb7
        clear hb7
        go_wp2
        go_ret
        have s5 := HB5.out.size
        have s6 := HB6.out.size
        exact ⟨rfl, ((HBW.out.trans (HB5.out.mono (by omega))).trans (HB6.out.mono (by omega))).trans (HB7.out.mono (by omega))⟩
      by_cases h1 : (rows.length : Int) ≤ op
      · have ho0 : hasOpB ⟨sorts, rows⟩ op = false := by unfold hasOpB; simp; omega
        have HT := Lib.hid (show takesM ⟨sorts, rows⟩ op = [] by unfold takesM; rw [ho0]; rfl)
        have HLV := Lib.hid (show leavesM ⟨sorts, rows⟩ op = -1 by unfold leavesM; rw [ho0]; rfl)
        have HV := Lib.hid hv
        clear hv ho0
        have htl : (takesM ⟨sorts, rows⟩ op).length = 0 := by rw [HT.out]; rfl
        refine (specSigValid_any _ ⟨sorts, rows⟩ _ HS4.out).mono ?_
        rw [HV.out]
        rintro e w5 ⟨rfl, hb5⟩
        have HB5 := Lib.hid hb5
        have j0 := cell_keep hb5 k0
        have j1 := cell_keep hb5 k1
        clear hb5 k0 k1
        go_wp2_with fail
        refine (opLeaves_any _ ⟨sorts, rows⟩ op _ (HS4.out.keep HB5.out)).mono ?_
        rw [HLV.out]
        rintro e w6 ⟨rfl, hb6⟩
        have HB6 := Lib.hid hb6
        clear hb6
        go_wp2_with fail
        refine (alive_any _).mono ?_
        rintro e w7 ⟨rfl, hb7⟩
        have HB7 := Lib.hid hb7
        clear hb7
        go_wp2
        go_ret
        have s5 := HB5.out.size
        have s6 := HB6.out.size
        exact ⟨rfl, ((HBW.out.trans (HB5.out.mono (by omega))).trans (HB6.out.mono (by omega))).trans (HB7.out.mono (by omega))⟩
      have ho1 : hasOpB ⟨sorts, rows⟩ op = true := by unfold hasOpB; simp [hv]; omega
      obtain ⟨ad, c2', he⟩ := HAD.out ho1
      cases he
      obtain ⟨k, rfl, hk, hval⟩ := hasOp_nat ho1
      simp only at hk
      have hvr := valid_row hval hk
      have HT0 := takes_nat ho1 hk
      have HL0 := leaves_nat ho1 hk
      obtain ⟨us, hus, hrows⟩ := HS4.out
      cases hus
      obtain ⟨b, o, c5, u5, e5, hcell, hri⟩ := hrows.at_ hk
      cases e5
      simp only at HT0 HL0 hvr
      have htl : (takesM ⟨sorts, rows⟩ k).length = rows[k].length - 1 := by rw [HT0]; simp
      have hsame : takesM ⟨sorts, rows⟩ k ++ [leavesM ⟨sorts, rows⟩ k] = rows[k] := by
        rw [HT0, HL0, last_at (by omega)]
        have hne : rows[k] ≠ [] := by intro h; rw [h] at hvr; simp at hvr
        rw [← List.getLast_eq_getElem hne]
        exact List.dropLast_concat_getLast hne
      generalize rows[k] = row at hcell hri htl hsame hvr
      have hr1 := hvr.1
      have hr3 := hvr.2.1
      obtain ⟨A5, c6, rfl, -⟩ := hri.form
      have HRI := Lib.hid hri
      have HCell := Lib.hid hcell
      have HSAME := Lib.hid hsame
      have HV := Lib.hid hv
      have hk' : (k : Int) < (rows.length : Int) := by omega
      have htl2 : (takesM ⟨sorts, rows⟩ k).length ≤ 2 := by omega
      clear HAD HT0 HL0 hv hcell hri hsame hvr htl ho1 hval hrows h0 h1
      generalize takesM ⟨sorts, rows⟩ k = tk at HO4 HSAME htl2 ⊢
      generalize hlv : leavesM ⟨sorts, rows⟩ k = lv at HSAME
      have HLV := Lib.hid hlv
      clear hlv
      refine (specSigValid_any _ ⟨sorts, rows⟩ _ HS4.out).mono ?_
      rw [HV.out]
      rintro e w5 ⟨rfl, hb5⟩
      have HB5 := Lib.hid hb5
      have j0 := cell_keep hb5 k0
      have j1 := cell_keep hb5 k1
      have j2 := cell_keep hb5 HCell.out
      clear hb5 k0 k1
      obtain ⟨i0, hi0, hz0, hz1, hz2⟩ := info_parts Try.tinfo_int
      obtain ⟨ab, ao, asp⟩ := ad
      have HT5 := Lib.hid (HO4.out.reads.keep HB5.out)
      have HNEWS := Lib.hid (news_any (HT5.out.keep (below_alloc w5 (.cells #[] 3))))
      have ea := World.new_ne w5 _ j0
      have eb := World.new_ne w5 _ j1
      have ec := World.new_ne w5 _ j2
      have hA1 : (tk.map (Value.int .i64)).length = tk.length * 1 := by simp
      have hA2 : 0 + tk.length ≤ maxLen := by rw [maxLen_eq]; omega
      have hA3 : (0 + tk.length) * 8 ≤ 140737488355328 := by omega
      have hA4 : w5.heap.size ≤ (w5.alloc (.cells #[] 3)).heap.size := by simp
      have HA1 := Lib.hid (And.intro hA1 (And.intro hA2 (And.intro hA3 hA4)))
      clear hA1 hA2 hA3 hA4
      go_wp2_with fail
      go_region_held3 (fun w' => w'.cell? ⟨w1.heap.size, 0, none⟩ = some (.int .i64 sorts) ∧ w'.cell? ⟨w1.heap.size, 1, none⟩ = some (.slice (some ⟨b, o, none⟩) rows.length cu) ∧ w'.cell? ⟨b, o + k, none⟩ = some (.slice A5 row.length c6))
        (first | go_keep)
        (first
          | (go_at_call 16; refine (opLeaves_any _ ⟨sorts, rows⟩ k _ (HS4.out.keep (HB5.out.trans (HBA.out.mono HB5.out.size)))).mono ?_; rw [HLV.out]; rintro e wB ⟨rfl, hbB⟩; have HBB := Lib.hid hbB; have b0 := cell_keep hbB a0; have b1 := cell_keep hbB a1; have b2 := cell_keep hbB a2; clear hbB; have HOB := Lib.hid ((own_keep HOA.out HBB.out).alloc (.cells #[.int .i64 lv] 3)); have HNB := Lib.hid (new_one (one_cell wB (.int .i64 lv) 3)); have HZ := Lib.hid (Nat.le_trans HBA.out.size (Nat.le_trans HBB.out.size (below_alloc wB (.cells #[.int .i64 lv] 3)).size)))
          | (go_at_call 14; refine (sameInts_is _ _ (tk ++ [lv]) row _ true (by rw [HSAME.out]; exact sameI_self _) (own_list HOC.out).reads (HRI.out.keep (HB5.out.trans (HBC.out.mono HB5.out.size)))).mono ?_; rintro e wD ⟨rfl, hdD⟩; have HBD := Lib.hid hdD.below; clear hdD; have d0 := cell_keep HBD.out c0; have d1 := cell_keep HBD.out c1; have d2 := cell_keep HBD.out c2)
          | (refine step_append_own rfl (.tmp 49) (.tmp 50) 32 rfl w5.heap.size 3 i0 (.int .i64 0) 1 8 Try.underlying32 hi0 hz0 hz1 hz2 rfl (by omega) _ 0 [] rfl ((own_empty w5).drew) ⟨ab, ao, asp⟩ tk.length c2 (tk.map (Value.int .i64)) rfl HA1.out.1 HNEWS.out (ints_one _) HA1.out.2.1 HA1.out.2.2.1 HA1.out.2.2.2 ?_; intro vA wA hownA hgrowA; have HOA := Lib.hid hownA; have HBA := Lib.hid (bel_grow hgrowA (fun k e => by injection e with e; exact Nat.le_of_eq e)); clear hgrowA hownA; have a0 := cell_keep HBA.out j0; have a1 := cell_keep HBA.out j1; have a2 := cell_keep HBA.out j2)
          | (refine step_append_own rfl (.tmp 51) (.tmp 55) 32 rfl w5.heap.size 3 i0 (.int .i64 0) 1 8 Try.underlying32 hi0 hz0 hz1 hz2 rfl (by omega) _ _ _ rfl HOB.out ⟨wB.heap.size, 0, none⟩ 1 1 [.int .i64 lv] rfl rfl HNB.out (ints_one [lv]) (by rw [maxLen_eq]; omega) (by omega) HZ.out ?_; intro vC wC hownC hgrowC; have HOC := Lib.hid hownC; have HBC := Lib.hid (bel_chain HBA.out HBB.out HOA.out hgrowC); clear hgrowC hownC; have c0 := cell_keep HBC.out j0; have c1 := cell_keep HBC.out j1; have c2 := cell_keep HBC.out j2))
      clear a0 a1 a2 b0 b1 b2 c0 c1 c2 d0 d1 d2 j0 j1 j2 ea eb ec
      go_wp2
      go_ret
      have s5 := HB5.out.size
      have s6 := HBC.out.size
      exact ⟨rfl, ((HBW.out.trans (HB5.out.mono (by omega))).trans (HBC.out.mono (by omega))).trans (HBD.out.mono (by omega))⟩

set_option maxRecDepth 100000 in
theorem lifted_FnOpTakes (os : Os) (started : os.Started) (H : Type) (enc : TypeId × Value → H) :
    ReturnsInHanded {} Try.checked os 4 .any (Rows.fnOpTakesSpec.pre6 enc Try.prog Try.f4 Rows.fnOpTakesRow.domain false) (Rows.fnOpTakesSpec.post enc Try.prog Try.f4 false true false false) := by
  refine returnsInHanded_of_change (C := Try.checked) own started (by kernel_rfl) Try.func4
    (ChangeSpec.witness6 (enc := enc) (C := Try.checked) false ⟨#[], #[.slice none 0 0], []⟩ 8 (by kernel_rfl) (by kernel_rfl) (by kernel_rfl) (by kernel_rfl)) ?_
  intro W base args ds gs before hval0 hW hcnd _
  have hval : ∀ (j : Nat) t v, Try.f4.params[j]? = some t → args[j]? = some v → Value.okWide Try.prog W .any base t v := hval0
  have hW' := hW
  obtain ⟨p, q, hA0, hV, rfl, hfz, hnd⟩ := hW
  have hA : DataW.TrodAll enc Try.prog W 0 (fun _ => true) true Try.f4.params.toList args.toList ds p := hA0
  rw [Try.params4] at hA hval
  obtain ⟨v0, vs0, d0, ds0, p0, q0, hargs, rfl, rfl, h0, r0⟩ := trodAll_cons hA
  obtain ⟨rfl, rfl, rfl⟩ := trodAll_nil r0
  obtain rfl : args = #[v0] := by cases args; simp_all
  obtain ⟨rfl, rfl⟩ := trodVars_none hV
  obtain ⟨a0, len0, cap0, rfl⟩ := okWide_slice Try.underlying22 (hval 0 22 v0 rfl rfl)
  have k0 := h0
  have lt0 : ∀ x ∈ p0, x.block < W.heap.size := by obtain ⟨m, hm⟩ := k0; exact DataW.trod_lt m _ _ _ hm
  obtain ⟨bs, w0⟩ : ∃ bs, RBytes W W.heap.size (.slice a0 len0 cap0) bs := by
    obtain ⟨fuel, hf⟩ := h0
    rcases open_ints Try.underlying22 Try.underlying5 (by kernel_rfl) hf with ⟨hcs, _⟩ | ⟨x, l, c, zs, hcs, _, hl, hm, hz, _, hcell, hwz⟩
    · simp [Value.cells] at hcs
      obtain ⟨rfl, rfl, rfl⟩ := hcs
      exact ⟨[], bytes_nil _ _⟩
    · simp [Value.cells] at hcs
      obtain ⟨rfl, rfl, rfl⟩ := hcs
      exact ⟨_, bytes_of hl hm (by simpa using hz) hcell hwz⟩
  clear hA0 hval0
  refine (walk_FnOpTakes _ bs W w0).mono fun e W' ⟨he, bel⟩ => ?_
  subst he
  exact ⟨_, rfl, _, _, _, [], _, [], hW', trodAll_mk1 (shut_bool Try.underlying4 _), (trodAll_cons_mk (Below.trod laidOut (by kernel_rfl) (of_decide_eq_true (by kernel_rfl)) k0 bel lt0) trodAll_mk0), rfl, bel.frame _, fun h => by cases h⟩

theorem over_FnOpTakes : Rows.fnOpTakesRow.holds Try.pinned (OpenSpec.ofChange Rows.fnOpTakesSpec) :=
  OpenClaim.holds_of_wide 4 Try.f4 rfl rfl rfl rfl rfl rfl rfl ⟨rfl, rfl, rfl, rfl, rfl⟩ rfl rfl rfl rfl rfl (by kernel_rfl) Try.func4 (by kernel_rfl)
    (of_decide_eq_true (by kernel_rfl)) (by unfold Func.isWrapper; first | (rw [if_pos (by decide +kernel)]; kernel_rfl) | (rw [if_neg (by decide +kernel)]; exact ⟨rfl, rfl⟩))
    (fun os started H enc _ => lifted_FnOpTakes os started H enc)

theorem proved_FnOpTakes : Rows.FnOpTakesSaid := over_FnOpTakes
end Go.Proofs.Ytmafipngpbmgdaa
