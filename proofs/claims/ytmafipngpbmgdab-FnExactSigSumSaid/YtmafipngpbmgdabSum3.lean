/- SigSum of the spec. -/
import Derived.Test.YtmafipngpbmgdabSum2
import Derived.Deep.DeepCutAuto
namespace Go.Proofs.Ytmafipngpbmgdab
open Go.RowKit
set_option linter.unusedVariables false

/-- the box is laid ahead of its rows -/
theorem LocC.start2 {w w2 w3 : World} {sorts : Int} {u : Value} {rows : List (List Int)} (hb : Below (w.heap.size + 1) (w.alloc (.cells #[.int .i64 0, .slice none 0 0] 27)) w2)
    (hb3 : Below (w2.alloc (.cells #[.int .i64 0, .slice none 0 0] 27)).heap.size (w2.alloc (.cells #[.int .i64 0, .slice none 0 0] 27)) w3)
    (ho : ORows w3 (w2.alloc (.cells #[.int .i64 0, .slice none 0 0] 27)).heap.size u rows) : LocC w ((w3.setCell ⟨w2.heap.size, 0, none⟩ (.int .i64 sorts)).setCell ⟨w2.heap.size, 1, none⟩ u) w2.heap.size sorts u rows := by
  have hs := hb.size
  simp at hs
  have hs3 := hb3.size
  rw [show (w2.alloc (.cells #[.int .i64 0, .slice none 0 0] 27)).heap.size = w2.heap.size + 1 by simp] at ho hb3 hs3
  have hl := (hb3.block _ (Nat.lt_succ_self _)).trans (heap_alloc_new w2 (.cells #[.int .i64 0, .slice none 0 0] 27))
  have hr : w3.heap[w.heap.size]? = some (.cells #[.int .i64 0, .slice none 0 0] 27 (0, 0)) := by
    rw [hb3.block _ (by omega), heap_alloc_old _ _ (by omega), hb.block _ (by omega)]
    exact heap_alloc_new w _
  have hbw : Below w.heap.size w w3 := (((below_alloc w _).trans (hb.mono (by omega))).trans ((below_alloc w2 _).mono (by omega))).trans (hb3.mono (by omega))
  have ne : ∀ i x (wq : World), (wq.setCell ⟨w2.heap.size, i, none⟩ x).heap[w.heap.size]? = wq.heap[w.heap.size]? := fun i x wq => Below.heap_setCell wq ⟨w2.heap.size, i, none⟩ x w.heap.size (by show w.heap.size ≠ w2.heap.size; omega)
  refine ⟨blk_set (blk_set hl 0 _) 1 u, ?_, ((ho.setLow' (by omega) 0 _).setLow' (by omega) 1 _).base (by omega), (hbw.setCell (by show w.heap.size ≤ w2.heap.size; omega) _).setCell (by show w.heap.size ≤ w2.heap.size; omega) _, by omega⟩
  rw [ne, ne]; exact hr

/-- one int more, behind an alloc and a draw -/
theorem below_app {w wr w5 : World} {o : Obj} {e : TypeId} {size n : Nat} {u : Value} {zs : List Value} (hw : Below w.heap.size w wr) (h1 : wr.ownsRow w.heap.size e size u n zs) (hg : (wr.alloc o).drew.grownBy w5 u.ownBlock) : Below w.heap.size w w5 :=
  (hw.trans ((below_alloc wr o).mono hw.size)).trans ⟨hg.os, hg.tape, hg.output, hg.size, fun k hk => hg.block k (Nat.lt_of_lt_of_le hk (Nat.le_trans hw.size (by show wr.heap.size ≤ (wr.alloc o).heap.size; simp))) (fun e => by have := (own_lt h1 k e.symm).1; omega)⟩
theorem OInts.snoc {w : World} {B l : Nat} {v : Value} {xs : List Int} {y : Int} (hl : xs.length = l) (h : w.ownsRow B 3 1 v (l + 1) (xs.map (Value.int .i64) ++ [.int .i64 y])) : OInts w B v (xs ++ [y]) := by
  subst hl
  unfold OInts
  rw [List.map_append, List.length_append]
  exact h

set_option maxHeartbeats 1600000 in
set_option maxRecDepth 100000 in
theorem specSigSum_any (va vb : Value) (a b : MSig) (w : World) (ha : RSig w va a) (hb : RSig w vb b) :
    Calls Try.prog 21 #[va, vb] w (SumPost a b w) := by
  obtain ⟨ua, rfl, hra⟩ := ha
  obtain ⟨ub, rfl, hrb⟩ := hb
  obtain ⟨asorts, aops⟩ := a
  obtain ⟨bsorts, bops⟩ := b
  have hna := hra.len
  have hnb := hrb.len
  obtain ⟨Aa, ca, rfl, -⟩ := hra.form
  obtain ⟨Ab, cb, rfl, -⟩ := hrb.form
  have hbA := below_alloc w (.cells #[.int .i64 asorts, .slice Aa aops.length ca] 27)
  have hbB := below_alloc (w.alloc (.cells #[.int .i64 asorts, .slice Aa aops.length ca] 27)) (.cells #[.int .i64 bsorts, .slice Ab bops.length cb] 27)
  have HW := Lib.hid (hbA.trans (hbB.mono (by simp)))
  have HCA := Lib.hid (And.intro (cell_keep hbB (box_cells w (.int .i64 asorts) (.slice Aa aops.length ca) 27).1) (cell_keep hbB (box_cells w (.int .i64 asorts) (.slice Aa aops.length ca) 27).2))
  have HCB := Lib.hid (box_cells (w.alloc (.cells #[.int .i64 asorts, .slice Aa aops.length ca] 27)) (.int .i64 bsorts) (.slice Ab bops.length cb) 27)
  have HSZ := Lib.hid (show ((w.alloc (.cells #[.int .i64 asorts, .slice Aa aops.length ca] 27)).alloc (.cells #[.int .i64 bsorts, .slice Ab bops.length cb] 27)).heap.size = w.heap.size + 2 by simp)
  have HRA := Lib.hid (hra.keep HW.out)
  have HRB := Lib.hid (hrb.keep HW.out)
  clear hra hrb hbA hbB
  generalize hW : (w.alloc (.cells #[.int .i64 asorts, .slice Aa aops.length ca] 27)).alloc (.cells #[.int .i64 bsorts, .slice Ab bops.length cb] 27) = W at HW HCA HCB HSZ HRA HRB
  have HB3 := Lib.hid (below_alloc W (.cells #[.int .i64 0, .slice none 0 0] 27))
  have HSZ3 := Lib.hid (show (W.alloc (.cells #[.int .i64 0, .slice none 0 0] 27)).heap.size = w.heap.size + 3 by simp [HSZ.out])
  have HZR := Lib.hid (fun w1 => zero_res (w := w) (W := W) (w1 := w1) HW.out)
  rw [HSZ.out] at HZR
  have HLS := Lib.hid (fun w1 (k : Int) (u : Value) (rows : List (List Int)) hb ho => LocC.start (w := W) (w1 := w1) (sorts := k) (u := u) (rows := rows) hb ho)
  rw [HSZ.out] at HLS
  have HLU := Lib.hid (fun w2 w3 (k : Int) (u : Value) (rows : List (List Int)) hb hb3 ho => LocC.start2 (w := W) (w2 := w2) (w3 := w3) (sorts := k) (u := u) (rows := rows) hb hb3 ho)
  rw [HSZ.out] at HLU
  have HA3 := Lib.hid (And.intro (cell_keep HB3.out HCA.out.1) (cell_keep HB3.out HCA.out.2))
  have hcb := HCB.out
  rw [show (w.alloc (.cells #[.int .i64 asorts, .slice Aa aops.length ca] 27)).heap.size = w.heap.size + 1 by simp] at hcb
  have HB3c := Lib.hid (And.intro (cell_keep HB3.out hcb.1) (cell_keep HB3.out hcb.2))
  clear hcb
  generalize hW3 : W.alloc (.cells #[.int .i64 0, .slice none 0 0] 27) = W3 at HB3 HSZ3 HZR HLS HLU HA3 HB3c
  have hsW := HSZ.out
  have f0 := HA3.out.1
  have f1 := HA3.out.2
  have f2 := HB3c.out.1
  have f3 := HB3c.out.2
  cases hva : validB ⟨asorts, aops⟩ with
  | false =>
    have HVA := Lib.hid hva
    have HOK := Lib.hid (show sumOk ⟨asorts, aops⟩ ⟨bsorts, bops⟩ = false by unfold sumOk; rw [hva]; rfl)
    clear hva
    go_enter Try.func21, Try.ntmps21
    go_wp2_with fail
    refine (specSigValid_any _ ⟨asorts, aops⟩ _ ⟨_, rfl, HRA.out.keep HB3.out⟩).mono ?_
    rw [HVA.out]
    rintro e w1 ⟨rfl, hb⟩
    have HBZ := Lib.hid hb
    obtain ⟨r0, r1, r2, r3⟩ := (HZR.out _ hb).1
    clear hb hW hW3 f0 f1 f2 f3
    go_wp2
    obtain ⟨d1, d3⟩ := (HZR.out _ HBZ.out).2
    generalize (w1.setCell ⟨w.heap.size + 2, 0, none⟩ (.int .i64 0)).setCell ⟨w.heap.size + 2, 1, none⟩ (.slice none 0 0) = w9 at d1 d3 ⊢
    have k0 := blk_cell d1 0
    have k1 := blk_cell d1 1
    simp at k0 k1
    refine bodyPost_ret (v := .tuple #[.agg #[.int .i64 0, .slice none 0 0], .bool false]) (by simp [results, Try.results21, go_sem, k0, k1]) rfl ?_
    exact ⟨.agg #[.int .i64 0, .slice none 0 0], by rw [HOK.out], by rw [show sumM ⟨asorts, aops⟩ ⟨bsorts, bops⟩ = ⟨0, []⟩ by unfold sumM; rw [HOK.out]; rfl]; exact ⟨_, rfl, ORows.nil _ _⟩, d3⟩
  | true =>
    cases hvb : validB ⟨bsorts, bops⟩ with
    | false =>
      have HVA := Lib.hid hva
      have HVB := Lib.hid hvb
      have HOK := Lib.hid (show sumOk ⟨asorts, aops⟩ ⟨bsorts, bops⟩ = false by unfold sumOk; rw [hva, hvb]; rfl)
      clear hva hvb
      go_enter Try.func21, Try.ntmps21
      go_wp2_with fail
      refine (specSigValid_any _ ⟨asorts, aops⟩ _ ⟨_, rfl, HRA.out.keep HB3.out⟩).mono ?_
      rw [HVA.out]
      rintro e w1 ⟨rfl, hb⟩
      have HB1 := Lib.hid hb
      have g2 := cell_keep hb f2
      have g3 := cell_keep hb f3
      clear hb hW hW3 f0 f1 f2 f3
      go_wp2_with fail
      refine (specSigValid_any _ ⟨bsorts, bops⟩ _ ⟨_, rfl, (HRB.out.keep HB3.out).keep HB1.out⟩).mono ?_
      rw [HVB.out]
      rintro e w2 ⟨rfl, hb⟩
      have HBZ := Lib.hid (HB1.out.trans (hb.mono HB1.out.size))
      obtain ⟨r0, r1, r2, r3⟩ := (HZR.out _ HBZ.out).1
      clear hb g2 g3
      go_wp2
      obtain ⟨d1, d3⟩ := (HZR.out _ HBZ.out).2
      generalize (w2.setCell ⟨w.heap.size + 2, 0, none⟩ (.int .i64 0)).setCell ⟨w.heap.size + 2, 1, none⟩ (.slice none 0 0) = w9 at d1 d3 ⊢
      have k0 := blk_cell d1 0
      have k1 := blk_cell d1 1
      simp at k0 k1
      refine bodyPost_ret (v := .tuple #[.agg #[.int .i64 0, .slice none 0 0], .bool false]) (by simp [results, Try.results21, go_sem, k0, k1]) rfl ?_
      exact ⟨.agg #[.int .i64 0, .slice none 0 0], by rw [HOK.out], by rw [show sumM ⟨asorts, aops⟩ ⟨bsorts, bops⟩ = ⟨0, []⟩ by unfold sumM; rw [HOK.out]; rfl]; exact ⟨_, rfl, ORows.nil _ _⟩, d3⟩
    | true =>
      have hsa := valid_sorts hva
      have hsb := valid_sorts hvb
      simp only at hsa hsb
      have hla : aops.length ≤ 6 := hsa.2.2
      have hlb : bops.length ≤ 6 := hsb.2.2
      have has : 1 ≤ asorts ∧ asorts ≤ 3 := ⟨hsa.1, hsa.2.1⟩
      have hbs : 1 ≤ bsorts ∧ bsorts ≤ 3 := ⟨hsb.1, hsb.2.1⟩
      have HROWA := Lib.hid (fun (j : Nat) (hj : j < aops.length) => valid_row (s := ⟨asorts, aops⟩) hva hj)
      have HROWB := Lib.hid (fun (j : Nat) (hj : j < bops.length) => valid_row (s := ⟨bsorts, bops⟩) hvb hj)
      have HVA := Lib.hid hva
      have HVB := Lib.hid hvb
      clear hva hvb hsa hsb
      go_enter Try.func21, Try.ntmps21
      go_wp2_with fail
      refine (specSigValid_any _ ⟨asorts, aops⟩ _ ⟨_, rfl, HRA.out.keep HB3.out⟩).mono ?_
      rw [HVA.out]
      rintro e w1 ⟨rfl, hb⟩
      have HB1 := Lib.hid hb
      have g0 := cell_keep hb f0
      have g1 := cell_keep hb f1
      have g2 := cell_keep hb f2
      have g3 := cell_keep hb f3
      clear hb hW hW3 f0 f1 f2 f3
      go_wp2_with fail
      refine (specSigValid_any _ ⟨bsorts, bops⟩ _ ⟨_, rfl, (HRB.out.keep HB3.out).keep HB1.out⟩).mono ?_
      rw [HVB.out]
      rintro e w2 ⟨rfl, hb⟩
      have HB2 := Lib.hid (HB1.out.trans (hb.mono HB1.out.size))
      have f0 := cell_keep hb g0
      have f1 := cell_keep hb g1
      have f2 := cell_keep hb g2
      have f3 := cell_keep hb g3
      have hz2 : w.heap.size + 3 ≤ w2.heap.size := by have := HB2.out.size; have := HSZ3.out; omega
      have hz2a : w.heap.size < w2.heap.size := by omega
      have hz2b : w.heap.size + 1 < w2.heap.size := by omega
      clear hb g0 g1 g2 g3
      obtain ⟨T, hT⟩ : ∃ T, T = asorts + bsorts := ⟨_, rfl⟩
      have hwT : IntKind.i64.wrap (asorts + bsorts) = T := by rw [IntKind.wrap_i64, hT]; omega
      have HT := Lib.hid hT
      clear hT
      have HKA := Lib.hid (HRA.out.keep (HB3.out.trans (HB2.out.mono HB3.out.size)))
      go_upto_region 3 with fail
      have ea := World.new_ne w2 _ f0
      have eb := World.new_ne w2 _ f2
      have HK2 := Lib.hid (HKA.out.keep (below_alloc w2 (.cells #[.int .i64 0, .slice none 0 0] 27)))
      have HX2 := Lib.hid (heap_alloc_new w2 (.cells #[.int .i64 0, .slice none 0 0] 27))
      have HBX := Lib.hid (below_alloc w2 (.cells #[.int .i64 0, .slice none 0 0] 27))
      have HSX := Lib.hid (show (w2.alloc (.cells #[.int .i64 0, .slice none 0 0] 27)).heap.size = w2.heap.size + 1 by simp)
      have HLT := Lib.hid (fun w3 (u : Value) (rows : List (List Int)) hb3 ho => HLU.out w2 w3 T u rows (HB2.out.mono (by have := HSZ3.out; omega)) hb3 ho)
      generalize hWX : w2.alloc (.cells #[.int .i64 0, .slice none 0 0] 27) = WX at HK2 HX2 HBX HSX HLT
      have x0 := cell_keep HBX.out f0
      have x1 := cell_keep HBX.out f1
      have x2 := cell_keep HBX.out f2
      go_cut [6] (fun s6 wx => ∃ (b6 : Nat) (A3 : Option Addr) (c3 : Nat), s6 = .pointer (some ⟨b6, 0, none⟩) ∧ LocC W wx b6 T (.slice A3 aops.length c3) aops)
      case first =>
        go_region_law (first
          | (go_simp; go_at_call 34; refine (l1Copy_any _ aops w2.drew HKA.out (by omega) (fun j hj => by have := HROWA.out j hj; omega)).mono ?_; rintro e w3 ⟨u3, rfl, ho3, hb3⟩; obtain ⟨A3, c3, rfl, -⟩ := ho3.reads.form; have HO3 := Lib.hid (show ORows w3 w2.heap.size (.slice A3 aops.length c3) aops from ho3); have HB23 := Lib.hid (show Below w2.heap.size w2 w3 from ⟨hb3.os, hb3.tape, hb3.output, hb3.size, hb3.block⟩); clear ho3 hb3; have m0 := cell_keep HB23.out f0; have m1 := cell_keep HB23.out f1; have m2 := cell_keep HB23.out f2; have m3 := cell_keep HB23.out f3; have hz3 : w2.heap.size ≤ w3.heap.size := HB23.out.size; have hz3a : w.heap.size < w3.heap.size := (by omega); have hz3b : w.heap.size + 1 < w3.heap.size := (by omega))
          | (go_simp; go_at_call 34; refine (l1Copy_any _ aops WX.drew HK2.out (by omega) (fun j hj => by have := HROWA.out j hj; omega)).mono ?_; rintro e w3 ⟨u3, rfl, ho3, hb3⟩; obtain ⟨A3, c3, rfl, -⟩ := ho3.reads.form; have HO3 := Lib.hid (show ORows w3 WX.heap.size (.slice A3 aops.length c3) aops from ho3); have HB3X := Lib.hid (show Below WX.heap.size WX w3 from ⟨hb3.os, hb3.tape, hb3.output, hb3.size, hb3.block⟩); clear ho3 hb3; have HL3 := Lib.hid ((HB3X.out.block _ (by have := HSX.out; omega)).trans HX2.out); have m0 := blk_cell HL3.out 0; have m1 := blk_cell HL3.out 1; have m2 := blk_free HL3.out 0; have m3 := blk_free HL3.out 1; simp at m0 m1; have m4 := cell_keep HB3X.out x0; have m5 := cell_keep HB3X.out x1; have m6 := cell_keep HB3X.out x2))
        all_goals
          go_wp2_with fail
          go_meet
          first
            | exact ⟨_, _, _, rfl, HLT.out w3 _ _ HB3X.out HO3.out⟩
            | exact ⟨_, _, _, rfl, HLS.out w3 T _ _ ((HB2.out.mono (by have := HSZ3.out; omega)).trans (HB23.out.mono (by omega))) (HO3.out.base (by omega))⟩
      case rest =>
        obtain ⟨b6, A3, c3, rfl, hlc⟩ := hcut
        have HL1 := Lib.hid (show LocC W wc b6 T (.slice A3 aops.length c3) (aops ++ shiftR (bops.take 0) asorts) by simpa [shiftR] using hlc)
        clear hlc f0 f1 f2 f3 ea eb hWX x0 x1 x2 HX2 HBX HSX HLT HK2 HKA HLU HLS
        go_wp2
        go_loopw [7, 8, 9] (fun i r jj wr => ∃ j : Nat, ∃ u, j ≤ bops.length ∧ i = .int .i64 j ∧ LocC W wr b6 T u (aops ++ shiftR (bops.take j) asorts)) (fun i _ _ _ => bops.length - (intOf i).toNat)
        case atStart => exact ⟨0, _, Nat.zero_le _, rfl, HL1.out⟩
        case round =>
          obtain ⟨j, u, hjn, rfl, hl⟩ := hrel
          have HL := Lib.hid hl
          clear hl HL1
          obtain ⟨us, hu1, hu2, hu3, hu4⟩ := HL.out.own
          have hfl : (aops ++ shiftR (bops.take j) asorts).length = aops.length + j := by rw [List.length_append, shift_len, List.length_take]; omega
          have HU1 := Lib.hid hu1
          rw [hfl] at hu1
          obtain ⟨Au2, cu2, rfl, -⟩ := own_reads hu1
          have HUJ := Lib.hid hu1
          have HU2 := Lib.hid hu2
          have HU3 := Lib.hid hu3
          have HU4 := Lib.hid hu4
          have HFL := Lib.hid hfl
          clear hu1 hu2 hu3 hu4 hfl
          have hloc := HL.out.loc
          have l0 := blk_cell hloc 0
          have l1 := blk_cell hloc 1
          simp at l0 l1
          have hsz := HL.out.sz
          have hbl := HL.out.bl
          have e0 := cell_keep HL.out.bel HCA.out.1
          have hcb := HCB.out.2
          rw [show (w.alloc (.cells #[.int .i64 asorts, .slice Aa aops.length ca] 27)).heap.size = w.heap.size + 1 by simp] at hcb
          have e3 := cell_keep HL.out.bel hcb
          clear hcb
          by_cases hlt : j < bops.length
          · have HKR := Lib.hid (HRB.out.keep HL.out.bel)
            obtain ⟨b, o, c', ur, e, hcell, hri⟩ := HKR.out.at_ hlt
            cases e
            have hvr : 1 ≤ bops[j].length ∧ bops[j].length ≤ 3 ∧ ∀ x ∈ bops[j], 0 ≤ x ∧ x < bsorts := HROWB.out j hlt
            have HFT := Lib.hid (shift_take (d := asorts) hlt)
            generalize bops[j] = row at hri hvr HFT
            have hrl := hvr.2.1
            have HX := Lib.hid hvr.2.2
            obtain ⟨rs, hrs⟩ : ∃ rs, rs = row.map (· + asorts) := ⟨_, rfl⟩
            have HRL := Lib.hid (show rs.length = row.length by rw [hrs, List.length_map])
            have HRA2 := Lib.hid (fun (l : Nat) (hl : l < row.length) => show ∃ h : l < rs.length, rs[l] = row[l] + asorts from ⟨by rw [hrs, List.length_map]; exact hl, by simp [hrs]⟩)
            rw [← hrs] at HFT
            clear hrs hvr
            have HI := Lib.hid hri
            obtain ⟨A', c'', rfl, -⟩ := hri.form
            clear hri
            obtain ⟨i0, hi0, hz0, hz1, hz2⟩ := info_parts Try.tinfo_int
            obtain ⟨i1, hj, hy0, hy1, hy2⟩ := info_parts Try.tinfo_ints
            have HL7 := Lib.hid (show aops.length + j + 1 ≤ maxLen ∧ (aops.length + j + 1) * 24 ≤ 140737488355328 by rw [maxLen_eq]; omega)
            have hjl : (j : Int) < (bops.length : Int) := by omega
            obtain ⟨wo, rfl⟩ : ∃ wo : World, wo = wr := ⟨_, rfl⟩
            have HE := Lib.hid (own_empty wo)
            have HB0 := Lib.hid (below_alloc wo (.cells #[] 3))
            go_wp2
            go_loopw [8, 9] (fun r i w4 => ∃ l : Nat, ∃ u, l ≤ row.length ∧ i = .int .i64 l ∧ r = u ∧ OInts w4 wo.heap.size u (rs.take l) ∧ Below wo.heap.size wo w4) (fun _ i _ => row.length - (intOf i).toNat)
            case atStart => exact ⟨0, _, Nat.zero_le _, rfl, rfl, HE.out, HB0.out⟩
            case round =>
              obtain ⟨l, u, hl, rfl, rfl, ho, hb4⟩ := hrel
              have HB4 := Lib.hid hb4
              have hfl2 : (rs.take l).length = l := by rw [List.length_take, HRL.out]; omega
              have hu1 := ho
              unfold OInts at hu1
              rw [hfl2] at hu1
              obtain ⟨A4, c4, rfl, -⟩ := own_reads hu1
              have HO4 := Lib.hid hu1
              have HF2 := Lib.hid hfl2
              have HOL := Lib.hid ho
              have k0 := cell_keep hb4 e0
              have k3 := cell_keep hb4 e3
              have kc := cell_keep hb4 hcell
              have kl1 := cell_keep hb4 l1
              clear ho hu1 hb4 hfl2
              by_cases hll : l < row.length
              · obtain ⟨bx, ox, cx, ex, hx⟩ := (HI.out.keep HB4.out).at_ hll
                cases ex
                obtain ⟨hlr, hrl2⟩ := HRA2.out l hll
                have hx0 := HX.out row[l] (List.getElem_mem hll)
                have HTL := List.take_succ_eq_append_getElem hlr
                rw [hrl2] at HTL
                clear hrl2
                generalize row[l] = x at hx hx0 HTL
                obtain ⟨y, hy⟩ : ∃ y, y = x + asorts := ⟨_, rfl⟩
                have hwy : IntKind.i64.wrap (x + asorts) = y := by rw [IntKind.wrap_i64, hy]; omega
                rw [← hy] at HTL
                have HTL := Lib.hid HTL
                clear hy
                have HOU := Lib.hid (World.ownsRow.alloc HO4.out (.cells #[.int .i64 y] 3))
                have HN := Lib.hid (news_one wr (.int .i64 y) 3)
                have HLN := Lib.hid (show l + 1 ≤ maxLen ∧ (l + 1) * 8 ≤ 140737488355328 by rw [maxLen_eq]; omega)
                have HZ4 := Lib.hid (show wo.heap.size ≤ (wr.alloc (.cells #[.int .i64 y] 3)).heap.size by have := HB4.out.size; simp; omega)
                have hll2 : (l : Int) < (row.length : Int) := by omega
                go_wp2_with fail
                go_region_law (first
                  | (refine step_append_own rfl (.tmp 46) (.tmp 58) 31 rfl wo.heap.size 3 i0 (.int .i64 0) 1 8 Try.underlying31 hi0 hz0 hz1 hz2 rfl (by omega) _ _ _ rfl HOU.out ⟨wr.heap.size, 0, none⟩ 1 1 [.int .i64 y] rfl rfl HN.out (ints_one [y]) HLN.out.1 HLN.out.2 HZ4.out ?_; intro v5 w5 hv5 hg5; obtain ⟨A5, c5, rfl, -⟩ := own_reads hv5; have HB5 := Lib.hid (below_app (u := .slice A4 l c4) HB4.out HO4.out hg5); have HO5 := Lib.hid (show OInts w5 wo.heap.size (.slice A5 (l + 1) c5) (rs.take (l + 1)) from by rw [HTL.out]; exact OInts.snoc (HF2.out) hv5); clear hv5 hg5))
                all_goals
                  clear k0 k3 kc kl1 hx
                  go_wp2
                  go_roundw
                  case rel => exact ⟨l + 1, _, by omega, by go_num, rfl, HO5.out, HB5.out⟩
                  case measure => simp [intOf]; omega
              · have hle : l = row.length := by omega
                subst hle
                have HOR := Lib.hid (show OInts wr wo.heap.size (.slice A4 row.length c4) rs by have h := HOL.out; rw [List.take_of_length_le (by rw [HRL.out]; exact Nat.le_refl _)] at h; exact h)
                have HOU := Lib.hid ((own_keep HUJ.out HB4.out).alloc (.cells #[.slice A4 row.length c4] 31))
                have HN6 := Lib.hid (news_one wr (.slice A4 row.length c4) 31)
                have s6 := HB4.out.size
                go_wp2_with (at_builtin; refine wpList_append_own _ rfl (.tmp 61) (.tmp 63) 22 rfl (W.heap.size + 1) 31 i1 (.slice none 0 0) 1 24 Try.underlying22 hj hy0 hy1 hy2 rfl (by decide) _ _ _ rfl HOU.out ⟨wr.heap.size, 0, none⟩ 1 1 [.slice A4 row.length c4] rfl rfl HN6.out (rows_one _) HL7.out.1 HL7.out.2 (by simp; omega) ?_)
                intro v7 w7 hv7 hg7 _
                obtain ⟨A7, c7, rfl, -⟩ := own_reads hv7
                have HP := Lib.hid (HL.out.push HB4.out HOR.out HU1.out HU2.out HU3.out HU4.out (by rw [HFL.out, hsW]; exact hv7) hg7)
                have q1 := blk_cell HP.out.2 1
                have q2 := blk_free HP.out.2 1
                simp at q1
                clear hv7 hg7 k0 k3 kc kl1 l0 l1 e0 e3
                go_wp2
                go_roundw
                case rel => exact ⟨j + 1, _, by omega, by go_num, by rw [HFT.out, ← List.append_assoc]; exact HP.out.1⟩
                case measure => simp [intOf]; omega
          · have hjn' : j = bops.length := by omega
            subst hjn'
            have HSS := Lib.hid (show sumS ⟨asorts, aops⟩ ⟨bsorts, bops⟩ = ⟨T, aops ++ shiftR bops asorts⟩ by unfold sumS; rw [HT.out])
            have HLF := Lib.hid (show LocC W wr b6 T (.slice Au2 (aops.length + bops.length) cu2) (aops ++ shiftR bops asorts) by have h := HL.out; rw [take_all (Nat.le_refl _)] at h; exact h)
            have HRS := Lib.hid (show RSig wr (.agg #[.int .i64 T, .slice Au2 (aops.length + bops.length) cu2]) ⟨T, aops ++ shiftR bops asorts⟩ from ⟨_, rfl, HLF.out.own.reads⟩)
            clear HU1 HU2 HU3 HU4 HUJ HFL HL hloc
            go_wp2_with fail
            refine (specSigValid_any _ ⟨T, aops ++ shiftR bops asorts⟩ _ HRS.out).mono ?_
            cases hvs : validB ⟨T, aops ++ shiftR bops asorts⟩ with
            | false =>
              have HOK := Lib.hid (show sumOk ⟨asorts, aops⟩ ⟨bsorts, bops⟩ = false by unfold sumOk; rw [HSS.out, hvs, Bool.and_false])
              clear hvs
              rintro e w9 ⟨rfl, hb⟩
              have HLE := Lib.hid (HLF.out.keep hb)
              have hres := HLE.out.res
              rw [hsW] at hres
              have r0 := blk_cell hres 0
              have r1 := blk_cell hres 1
              have r2 := blk_free hres 0
              have r3 := blk_free hres 1
              simp at r0 r1
              have HRES := Lib.hid hres
              clear hb l0 l1 hres
              go_wp2
              have d1 := blk_set (blk_set HRES.out 0 (.int .i64 0)) 1 (.slice none 0 0)
              have d3 := ((HW.out.trans (HLE.out.bel.mono HW.out.size)).setCell (p := ⟨w.heap.size + 2, 0, none⟩) (by show w.heap.size ≤ w.heap.size + 2; omega) (.int .i64 0)).setCell (p := ⟨w.heap.size + 2, 1, none⟩) (by show w.heap.size ≤ w.heap.size + 2; omega) (.slice none 0 0)
              generalize (w9.setCell ⟨w.heap.size + 2, 0, none⟩ (.int .i64 0)).setCell ⟨w.heap.size + 2, 1, none⟩ (.slice none 0 0) = w10 at d1 d3 ⊢
              have k0 := blk_cell d1 0
              have k1 := blk_cell d1 1
              simp at k0 k1
              clear r0 r1 r2 r3
              refine bodyPost_ret (v := .tuple #[.agg #[.int .i64 0, .slice none 0 0], .bool false]) (by simp [results, Try.results21, go_sem, k0, k1]) rfl ?_
              exact ⟨.agg #[.int .i64 0, .slice none 0 0], by rw [HOK.out], by rw [show sumM ⟨asorts, aops⟩ ⟨bsorts, bops⟩ = ⟨0, []⟩ by unfold sumM; rw [HOK.out]; rfl]; exact ⟨_, rfl, ORows.nil _ _⟩, d3⟩
            | true =>
              have HOK := Lib.hid (show sumOk ⟨asorts, aops⟩ ⟨bsorts, bops⟩ = true by unfold sumOk; rw [HSS.out, hvs, HVA.out, HVB.out]; rfl)
              clear hvs
              rintro e w9 ⟨rfl, hb⟩
              have HLE := Lib.hid (HLF.out.keep hb)
              have hres := HLE.out.res
              rw [hsW] at hres
              have r0 := blk_cell hres 0
              have r1 := blk_cell hres 1
              have r2 := blk_free hres 0
              have r3 := blk_free hres 1
              have t0 := cell_keep hb l0
              have t1 := cell_keep hb l1
              simp at r0 r1
              clear hb l0 l1 hres
              go_wp2
              obtain ⟨d1, d2, d3⟩ := HLE.out.done
              rw [hsW] at d1 d2 d3
              generalize (w9.setCell ⟨w.heap.size + 2, 0, none⟩ (.int .i64 T)).setCell ⟨w.heap.size + 2, 1, none⟩ (.slice Au2 (aops.length + bops.length) cu2) = w10 at d1 d2 d3 ⊢
              have k0 := blk_cell d1 0
              have k1 := blk_cell d1 1
              simp at k0 k1
              clear r0 r1 r2 r3 t0 t1
              refine bodyPost_ret (v := .tuple #[.agg #[.int .i64 T, .slice Au2 (aops.length + bops.length) cu2], .bool true]) (by simp [results, Try.results21, go_sem, k0, k1]) rfl ?_
              refine ⟨.agg #[.int .i64 T, .slice Au2 (aops.length + bops.length) cu2], by rw [HOK.out], ?_, HW.out.trans (d3.mono (by omega))⟩
              rw [show sumM ⟨asorts, aops⟩ ⟨bsorts, bops⟩ = ⟨T, aops ++ shiftR bops asorts⟩ by unfold sumM; rw [HOK.out, HSS.out]; rfl]
              exact ⟨_, rfl, d2.base (by omega)⟩
end Go.Proofs.Ytmafipngpbmgdab
