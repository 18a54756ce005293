/- SigSum of the program. -/
import Derived.Test.YtmafipngpbmgdabPart
namespace Go.Proofs.Ytmafipngpbmgdab
open Go.RowKit
set_option linter.unusedVariables false

def shiftR (rows : List (List Int)) (d : Int) : List (List Int) := rows.map fun r => r.map (· + d)
def sumS (a b : MSig) : MSig := ⟨a.sorts + b.sorts, a.ops ++ shiftR b.ops a.sorts⟩
def sumOk (a b : MSig) : Bool := validB a && validB b && validB (sumS a b)
def sumM (a b : MSig) : MSig := if sumOk a b then sumS a b else ⟨0, []⟩
def SumPost (a b : MSig) (w : World) (e : Ending) (w' : World) : Prop := ∃ u, e = .returned (.tuple #[u, .bool (sumOk a b)]) ∧ OSig w' w.heap.size u (sumM a b) ∧ Below w.heap.size w w'
theorem raised_add {xs : List Int} {d : Int} (h : ∀ x ∈ xs, 0 ≤ x ∧ x < 4) (h0 : 0 ≤ d) (h1 : d < 4) : raised xs d = xs.map (· + d) := by
  unfold raised
  apply List.map_congr_left
  intro x hx
  have := h x hx
  exact IntWalk.wrap64_in _ ⟨by omega, by omega⟩
theorem shift_take {rows : List (List Int)} {d : Int} {k : Nat} (hk : k < rows.length) : shiftR (rows.take (k + 1)) d = shiftR (rows.take k) d ++ [rows[k].map (· + d)] := by
  unfold shiftR; rw [List.take_succ_eq_append_getElem hk, List.map_append]; rfl
theorem shift_len {rows : List (List Int)} {d : Int} : (shiftR rows d).length = rows.length := by unfold shiftR; simp

/-- the zero value is written into the result, block r; W: with the boxes of the arguments, ahead of the result -/
theorem zero_res {w W w1 : World} (h : Below w.heap.size w W) (hb : Below (W.alloc (.cells #[.int .i64 0, .slice none 0 0] 27)).heap.size (W.alloc (.cells #[.int .i64 0, .slice none 0 0] 27)) w1) :
    (w1.cell? ⟨W.heap.size, 0, none⟩ = some (.int .i64 0) ∧ w1.cell? ⟨W.heap.size, 1, none⟩ = some (.slice none 0 0) ∧ w1.frozen? ⟨W.heap.size, 0, none⟩ = false ∧ w1.frozen? ⟨W.heap.size, 1, none⟩ = false) ∧
    ((w1.setCell ⟨W.heap.size, 0, none⟩ (.int .i64 0)).setCell ⟨W.heap.size, 1, none⟩ (.slice none 0 0)).heap[W.heap.size]? = some (.cells #[.int .i64 0, .slice none 0 0] 27 (0, 0)) ∧
    Below w.heap.size w ((w1.setCell ⟨W.heap.size, 0, none⟩ (.int .i64 0)).setCell ⟨W.heap.size, 1, none⟩ (.slice none 0 0)) := by
  have hs := h.size
  have hr : w1.heap[W.heap.size]? = some (.cells #[.int .i64 0, .slice none 0 0] 27 (0, 0)) := (hb.block _ (by simp)).trans (heap_alloc_new W _)
  refine ⟨⟨blk_cell hr 0, blk_cell hr 1, blk_free hr 0, blk_free hr 1⟩, blk_set (blk_set hr 0 _) 1 _, ?_⟩
  have h1 : Below w.heap.size w w1 := (h.alloc hs _).trans (hb.mono (by simp; omega))
  exact (h1.setCell (p := ⟨W.heap.size, 0, none⟩) hs _).setCell (p := ⟨W.heap.size, 1, none⟩) hs _

set_option maxHeartbeats 1600000 in
set_option maxRecDepth 100000 in
theorem sigSum_any (va vb : Value) (a b : MSig) (w : World) (ha : RSig w va a) (hb : RSig w vb b) :
    Calls Try.prog 22 #[va, vb] w (SumPost a b w) := by
  obtain ⟨ua, rfl, hra⟩ := ha
  obtain ⟨ub, rfl, hrb⟩ := hb
  obtain ⟨asorts, aops⟩ := a
  obtain ⟨bsorts, bops⟩ := b
  have hna := hra.len
  have hnb := hrb.len
  obtain ⟨Aa, ca, rfl, -⟩ := hra.form
  obtain ⟨Ab, cb, rfl, -⟩ := hrb.form
  have hbA := below_alloc w (.cells #[.int .i64 asorts, .slice Aa aops.length ca] 27)
  have hbB := below_alloc (w.alloc (.cells #[.int .i64 asorts, .slice Aa aops.length ca] 27)) (.cells #[.int .i64 bsorts, .slice Ab bops.length cb] 27)
  have HW := Lib.hid (hbA.trans (hbB.mono (by simp)))
  have HCA := Lib.hid (And.intro (cell_keep hbB (box_cells w (.int .i64 asorts) (.slice Aa aops.length ca) 27).1) (cell_keep hbB (box_cells w (.int .i64 asorts) (.slice Aa aops.length ca) 27).2))
  have HCB := Lib.hid (box_cells (w.alloc (.cells #[.int .i64 asorts, .slice Aa aops.length ca] 27)) (.int .i64 bsorts) (.slice Ab bops.length cb) 27)
  have HSZ := Lib.hid (show ((w.alloc (.cells #[.int .i64 asorts, .slice Aa aops.length ca] 27)).alloc (.cells #[.int .i64 bsorts, .slice Ab bops.length cb] 27)).heap.size = w.heap.size + 2 by simp)
  have HRA := Lib.hid (hra.keep HW.out)
  have HRB := Lib.hid (hrb.keep HW.out)
  clear hra hrb hbA hbB
  generalize hW : (w.alloc (.cells #[.int .i64 asorts, .slice Aa aops.length ca] 27)).alloc (.cells #[.int .i64 bsorts, .slice Ab bops.length cb] 27) = W at HW HCA HCB HSZ HRA HRB
  have HB3 := Lib.hid (below_alloc W (.cells #[.int .i64 0, .slice none 0 0] 27))
  have HSZ3 := Lib.hid (show (W.alloc (.cells #[.int .i64 0, .slice none 0 0] 27)).heap.size = w.heap.size + 3 by simp [HSZ.out])
  have HZR := Lib.hid (fun w1 => zero_res (w := w) (W := W) (w1 := w1) HW.out)
  rw [HSZ.out] at HZR
  have HLS := Lib.hid (fun w1 k hb => LocB.start (w := W) (w1 := w1) (sorts := k) hb)
  rw [HSZ.out] at HLS
  have HA3 := Lib.hid (And.intro (cell_keep HB3.out HCA.out.1) (cell_keep HB3.out HCA.out.2))
  have hcb := HCB.out
  rw [show (w.alloc (.cells #[.int .i64 asorts, .slice Aa aops.length ca] 27)).heap.size = w.heap.size + 1 by simp] at hcb
  have HB3c := Lib.hid (And.intro (cell_keep HB3.out hcb.1) (cell_keep HB3.out hcb.2))
  clear hcb
  generalize hW3 : W.alloc (.cells #[.int .i64 0, .slice none 0 0] 27) = W3 at HB3 HSZ3 HZR HLS HA3 HB3c
  have hsW := HSZ.out
  have f0 := HA3.out.1
  have f1 := HA3.out.2
  have f2 := HB3c.out.1
  have f3 := HB3c.out.2
  cases hva : validB ⟨asorts, aops⟩ with
  | false =>
    have HVA := Lib.hid hva
    have HOK := Lib.hid (show sumOk ⟨asorts, aops⟩ ⟨bsorts, bops⟩ = false by unfold sumOk; rw [hva]; rfl)
    clear hva
    go_enter Try.func22, Try.ntmps22
    go_wp2_with fail
    refine (sigValid_any _ ⟨asorts, aops⟩ _ ⟨_, rfl, HRA.out.keep HB3.out⟩).mono ?_
    rw [HVA.out]
    rintro e w1 ⟨rfl, hb⟩
    have HBZ := Lib.hid hb
    obtain ⟨r0, r1, r2, r3⟩ := (HZR.out _ hb).1
    clear hb hW hW3 f0 f1 f2 f3
    go_wp2
    obtain ⟨d1, d3⟩ := (HZR.out _ HBZ.out).2
    generalize (w1.setCell ⟨w.heap.size + 2, 0, none⟩ (.int .i64 0)).setCell ⟨w.heap.size + 2, 1, none⟩ (.slice none 0 0) = w9 at d1 d3 ⊢
    have k0 := blk_cell d1 0
    have k1 := blk_cell d1 1
    simp at k0 k1
    refine bodyPost_ret (v := .tuple #[.agg #[.int .i64 0, .slice none 0 0], .bool false]) (by simp [results, Try.results22, go_sem, k0, k1]) rfl ?_
    exact ⟨.agg #[.int .i64 0, .slice none 0 0], by rw [HOK.out], by rw [show sumM ⟨asorts, aops⟩ ⟨bsorts, bops⟩ = ⟨0, []⟩ by unfold sumM; rw [HOK.out]; rfl]; exact ⟨_, rfl, ORows.nil _ _⟩, d3⟩
  | true =>
    cases hvb : validB ⟨bsorts, bops⟩ with
    | false =>
      have HVA := Lib.hid hva
      have HVB := Lib.hid hvb
      have HOK := Lib.hid (show sumOk ⟨asorts, aops⟩ ⟨bsorts, bops⟩ = false by unfold sumOk; rw [hva, hvb]; rfl)
      clear hva hvb
      go_enter Try.func22, Try.ntmps22
      go_wp2_with fail
      refine (sigValid_any _ ⟨asorts, aops⟩ _ ⟨_, rfl, HRA.out.keep HB3.out⟩).mono ?_
      rw [HVA.out]
      rintro e w1 ⟨rfl, hb⟩
      have HB1 := Lib.hid hb
      have g2 := cell_keep hb f2
      have g3 := cell_keep hb f3
      clear hb hW hW3 f0 f1 f2 f3
      go_wp2_with fail
      refine (sigValid_any _ ⟨bsorts, bops⟩ _ ⟨_, rfl, (HRB.out.keep HB3.out).keep HB1.out⟩).mono ?_
      rw [HVB.out]
      rintro e w2 ⟨rfl, hb⟩
      have HBZ := Lib.hid (HB1.out.trans (hb.mono HB1.out.size))
      obtain ⟨r0, r1, r2, r3⟩ := (HZR.out _ HBZ.out).1
      clear hb g2 g3
      go_wp2
      obtain ⟨d1, d3⟩ := (HZR.out _ HBZ.out).2
      generalize (w2.setCell ⟨w.heap.size + 2, 0, none⟩ (.int .i64 0)).setCell ⟨w.heap.size + 2, 1, none⟩ (.slice none 0 0) = w9 at d1 d3 ⊢
      have k0 := blk_cell d1 0
      have k1 := blk_cell d1 1
      simp at k0 k1
      refine bodyPost_ret (v := .tuple #[.agg #[.int .i64 0, .slice none 0 0], .bool false]) (by simp [results, Try.results22, go_sem, k0, k1]) rfl ?_
      exact ⟨.agg #[.int .i64 0, .slice none 0 0], by rw [HOK.out], by rw [show sumM ⟨asorts, aops⟩ ⟨bsorts, bops⟩ = ⟨0, []⟩ by unfold sumM; rw [HOK.out]; rfl]; exact ⟨_, rfl, ORows.nil _ _⟩, d3⟩
    | true =>
      have hsa := valid_sorts hva
      have hsb := valid_sorts hvb
      simp only at hsa hsb
      have hla : aops.length ≤ 6 := hsa.2.2
      have hlb : bops.length ≤ 6 := hsb.2.2
      have has : 1 ≤ asorts ∧ asorts ≤ 3 := ⟨hsa.1, hsa.2.1⟩
      have hbs : 1 ≤ bsorts ∧ bsorts ≤ 3 := ⟨hsb.1, hsb.2.1⟩
      have HROWA := Lib.hid (fun (j : Nat) (hj : j < aops.length) => valid_row (s := ⟨asorts, aops⟩) hva hj)
      have HROWB := Lib.hid (fun (j : Nat) (hj : j < bops.length) => valid_row (s := ⟨bsorts, bops⟩) hvb hj)
      have HVA := Lib.hid hva
      have HVB := Lib.hid hvb
      clear hva hvb hsa hsb
      go_enter Try.func22, Try.ntmps22
      go_wp2_with fail
      refine (sigValid_any _ ⟨asorts, aops⟩ _ ⟨_, rfl, HRA.out.keep HB3.out⟩).mono ?_
      rw [HVA.out]
      rintro e w1 ⟨rfl, hb⟩
      have HB1 := Lib.hid hb
      have g0 := cell_keep hb f0
      have g1 := cell_keep hb f1
      have g2 := cell_keep hb f2
      have g3 := cell_keep hb f3
      clear hb hW hW3 f0 f1 f2 f3
      go_wp2_with fail
      refine (sigValid_any _ ⟨bsorts, bops⟩ _ ⟨_, rfl, (HRB.out.keep HB3.out).keep HB1.out⟩).mono ?_
      rw [HVB.out]
      rintro e w2 ⟨rfl, hb⟩
      have HB2 := Lib.hid (HB1.out.trans (hb.mono HB1.out.size))
      have f0 := cell_keep hb g0
      have f1 := cell_keep hb g1
      have f2 := cell_keep hb g2
      have f3 := cell_keep hb g3
      have hz2 : w.heap.size + 3 ≤ w2.heap.size := by have := HB2.out.size; have := HSZ3.out; omega
      have hz2a : w.heap.size < w2.heap.size := by omega
      have hz2b : w.heap.size + 1 < w2.heap.size := by omega
      clear hb g0 g1 g2 g3
      obtain ⟨T, hT⟩ : ∃ T, T = asorts + bsorts := ⟨_, rfl⟩
      have hwT : IntKind.i64.wrap (asorts + bsorts) = T := by rw [IntKind.wrap_i64, hT]; omega
      have HT := Lib.hid hT
      clear hT
      go_wp2
      have HL0 := Lib.hid (HLS.out w2 T (HB2.out.mono (by have := HSZ3.out; omega)))
      go_loopw [8, 29] (fun a i wr => ∃ j : Nat, ∃ u, j ≤ aops.length ∧ i = .int .i64 j ∧ LocB W wr w2.heap.size T u (aops.take j)) (fun _ i _ => aops.length - (intOf i).toNat)
      case atStart => exact ⟨0, _, Nat.zero_le _, rfl, HL0.out⟩
      case round =>
        obtain ⟨j, u, hjn, rfl, hl⟩ := hrel
        have HL := Lib.hid hl
        clear hl HL0
        obtain ⟨us, hu1, hu2, hu3, hu4⟩ := HL.out.own
        have hfl : (aops.take j).length = j := by rw [List.length_take]; omega
        have HU1 := Lib.hid hu1
        rw [hfl] at hu1
        obtain ⟨Au, cu, rfl, -⟩ := own_reads hu1
        have HUJ := Lib.hid hu1
        have HU2 := Lib.hid hu2
        have HU3 := Lib.hid hu3
        have HU4 := Lib.hid hu4
        have HFL := Lib.hid hfl
        clear hu1 hu2 hu3 hu4 hfl
        have hloc := HL.out.loc
        have l1 := blk_cell hloc 1
        simp at l1
        have hsz := HL.out.sz
        by_cases hlt : j < aops.length
        · have HKR := Lib.hid (HRA.out.keep HL.out.bel)
          obtain ⟨b, o, c', ur, e, hcell, hri⟩ := HKR.out.at_ hlt
          cases e
          have hvr : 1 ≤ aops[j].length ∧ aops[j].length ≤ 3 ∧ ∀ x ∈ aops[j], 0 ≤ x ∧ x < asorts := HROWA.out j hlt
          have HFT := Lib.hid (List.take_succ_eq_append_getElem hlt)
          generalize aops[j] = row at hri hvr HFT
          have hrl := hvr.2.1
          have HZ := Lib.hid (raised_zero (xs := row) (fun x hx => by have := hvr.2.2 x hx; omega))
          have HI := Lib.hid hri
          obtain ⟨A', c'', rfl, -⟩ := hri.form
          clear hri hvr
          obtain ⟨i1, hj, hy0, hy1, hy2⟩ := info_parts Try.tinfo_ints
          have HL7 := Lib.hid (show j + 1 ≤ maxLen ∧ (j + 1) * 24 ≤ 140737488355328 by rw [maxLen_eq]; omega)
          go_wp2_with fail
          go_region_law (first
            | (go_simp; go_at_call 32; refine (raisedRow_any _ row _ wr.drew HI.out (by omega)).mono ?_; rw [HZ.out]; rintro e w6 ⟨u6, rfl, ho6, -, hb6⟩; obtain ⟨A6, c6, rfl, -⟩ := ho6.reads.form; have HB6 := Lib.hid (show Below wr.heap.size wr w6 from ⟨hb6.os, hb6.tape, hb6.output, hb6.size, hb6.block⟩); have HO6 := Lib.hid (show OInts w6 wr.heap.size (.slice A6 row.length c6) row from ho6); clear ho6 hb6; have HOU := Lib.hid ((own_keep HUJ.out HB6.out).alloc (.cells #[.slice A6 row.length c6] 31)); have HN6 := Lib.hid (news_one w6 (.slice A6 row.length c6) 31); have m1 := cell_keep HB6.out l1; have m2 : w2.heap.size < w6.heap.size := World.block_lt_of_cell? w6 _ m1; have HZ6 := Lib.hid (show w2.heap.size + 1 ≤ (w6.alloc (.cells #[.slice A6 row.length c6] 31)).heap.size by have := HB6.out.size; simp; omega))
            | (refine step_append_own rfl (.tmp 34) (.tmp 37) 22 rfl (w2.heap.size + 1) 31 i1 (.slice none 0 0) 1 24 Try.underlying22 hj hy0 hy1 hy2 rfl (by omega) _ _ _ rfl HOU.out ⟨w6.heap.size, 0, none⟩ 1 1 [.slice A6 row.length c6] rfl rfl HN6.out (rows_one _) HL7.out.1 HL7.out.2 HZ6.out ?_; intro v7 w7 hv7 hg7; obtain ⟨A7, c7, rfl, -⟩ := own_reads hv7; have HP := Lib.hid (HL.out.push HB6.out HO6.out HU1.out HU2.out HU3.out HU4.out (by rw [HFL.out]; exact hv7) hg7); clear hv7 hg7; have q1 := blk_cell HP.out.2 1; have q2 := blk_free HP.out.2 1; simp at q1))
          all_goals
            clear l1 m1 m2 q1 q2 f0 f1 f2 f3
            go_wp2
            go_roundw
            case rel => exact ⟨j + 1, _, by omega, by go_num, by rw [HFT.out]; exact HP.out.1⟩
            case measure => simp [intOf]; omega
        · have hjn' : j = aops.length := by omega
          subst hjn'
          have HL1 := Lib.hid (show LocB W wr w2.heap.size T (.slice Au aops.length cu) (aops ++ shiftR (bops.take 0) asorts) by have h := HL.out; rw [take_all (Nat.le_refl _)] at h; simpa [shiftR] using h)
          have e0 := cell_keep HL.out.bel HCA.out.1
          have hcb := HCB.out
          rw [show (w.alloc (.cells #[.int .i64 asorts, .slice Aa aops.length ca] 27)).heap.size = w.heap.size + 1 by simp] at hcb
          have e3 := cell_keep HL.out.bel hcb.2
          clear f0 f1 f2 f3 hloc l1 hcb HU1 HU2 HU3 HU4 HUJ HFL hsz
          have HKB := Lib.hid (HRB.out.keep HL.out.bel)
          go_wp2
          clear e0 e3 HL
          go_loopw [10, 44] (fun a i wr => ∃ j : Nat, ∃ u, j ≤ bops.length ∧ i = .int .i64 j ∧ LocB W wr w2.heap.size T u (aops ++ shiftR (bops.take j) asorts)) (fun _ i _ => bops.length - (intOf i).toNat)
          case atStart => exact ⟨0, _, Nat.zero_le _, rfl, HL1.out⟩
          case round =>
            rename_i wq
            obtain ⟨j, u, hjn, rfl, hl⟩ := hrel
            have HL := Lib.hid hl
            clear hl HL1
            obtain ⟨us, hu1, hu2, hu3, hu4⟩ := HL.out.own
            have hfl : (aops ++ shiftR (bops.take j) asorts).length = aops.length + j := by rw [List.length_append, shift_len, List.length_take]; omega
            have HU1 := Lib.hid hu1
            rw [hfl] at hu1
            obtain ⟨Au2, cu2, rfl, -⟩ := own_reads hu1
            have HUJ := Lib.hid hu1
            have HU2 := Lib.hid hu2
            have HU3 := Lib.hid hu3
            have HU4 := Lib.hid hu4
            have HFL := Lib.hid hfl
            clear hu1 hu2 hu3 hu4 hfl
            have hloc := HL.out.loc
            have l0 := blk_cell hloc 0
            have l1 := blk_cell hloc 1
            simp at l0 l1
            have hsz := HL.out.sz
            by_cases hlt : j < bops.length
            · have HKR := Lib.hid (HRB.out.keep HL.out.bel)
              have e0 := cell_keep HL.out.bel HCA.out.1
              obtain ⟨b, o, c', ur, e, hcell, hri⟩ := HKR.out.at_ hlt
              cases e
              have hvr : 1 ≤ bops[j].length ∧ bops[j].length ≤ 3 ∧ ∀ x ∈ bops[j], 0 ≤ x ∧ x < bsorts := HROWB.out j hlt
              have HFT := Lib.hid (shift_take (d := asorts) hlt)
              generalize bops[j] = row at hri hvr HFT
              have hrl := hvr.2.1
              have HZ := Lib.hid (raised_add (xs := row) (d := asorts) (fun x hx => by have := hvr.2.2 x hx; omega) (by omega) (by omega))
              obtain ⟨rs, hrs⟩ : ∃ rs, rs = row.map (· + asorts) := ⟨_, rfl⟩
              rw [← hrs] at HZ HFT
              clear hrs
              have HI := Lib.hid hri
              obtain ⟨A', c'', rfl, -⟩ := hri.form
              clear hri hvr
              obtain ⟨i1, hj, hy0, hy1, hy2⟩ := info_parts Try.tinfo_ints
              have HL7 := Lib.hid (show aops.length + j + 1 ≤ maxLen ∧ (aops.length + j + 1) * 24 ≤ 140737488355328 by rw [maxLen_eq]; omega)
              go_wp2_with fail
              go_region_law (first
                | (go_simp; go_at_call 32; refine (raisedRow_any _ row _ wr.drew HI.out (by omega)).mono ?_; rw [HZ.out]; rintro e w6 ⟨u6, rfl, ho6, -, hb6⟩; obtain ⟨A6, c6, rfl, -⟩ := ho6.reads.form; have HB6 := Lib.hid (show Below wr.heap.size wr w6 from ⟨hb6.os, hb6.tape, hb6.output, hb6.size, hb6.block⟩); have HO6 := Lib.hid (show OInts w6 wr.heap.size (.slice A6 rs.length c6) rs from ho6); clear ho6 hb6; have HOU := Lib.hid ((own_keep HUJ.out HB6.out).alloc (.cells #[.slice A6 rs.length c6] 31)); have HN6 := Lib.hid (news_one w6 (.slice A6 rs.length c6) 31); have m1 := cell_keep HB6.out l1; have m2 : w2.heap.size < w6.heap.size := World.block_lt_of_cell? w6 _ m1; have HZ6 := Lib.hid (show w2.heap.size + 1 ≤ (w6.alloc (.cells #[.slice A6 rs.length c6] 31)).heap.size by have := HB6.out.size; simp; omega))
                | (refine step_append_own rfl (.tmp 49) (.tmp 54) 22 rfl (w2.heap.size + 1) 31 i1 (.slice none 0 0) 1 24 Try.underlying22 hj hy0 hy1 hy2 rfl (by omega) _ _ _ rfl HOU.out ⟨w6.heap.size, 0, none⟩ 1 1 [.slice A6 rs.length c6] rfl rfl HN6.out (rows_one _) HL7.out.1 HL7.out.2 HZ6.out ?_; intro v7 w7 hv7 hg7; obtain ⟨A7, c7, rfl, -⟩ := own_reads hv7; have HP := Lib.hid (HL.out.push HB6.out HO6.out HU1.out HU2.out HU3.out HU4.out (by rw [HFL.out]; exact hv7) hg7); clear hv7 hg7; have q1 := blk_cell HP.out.2 1; have q2 := blk_free HP.out.2 1; simp at q1))
              all_goals
                clear l0 l1 m1 m2 q1 q2 e0
                go_wp2
                go_roundw
                case rel => exact ⟨j + 1, _, by omega, by go_num, by rw [HFT.out, ← List.append_assoc]; exact HP.out.1⟩
                case measure => simp [intOf]; omega
            · have hjn' : j = bops.length := by omega
              subst hjn'
              have HSS := Lib.hid (show sumS ⟨asorts, aops⟩ ⟨bsorts, bops⟩ = ⟨T, aops ++ shiftR bops asorts⟩ by unfold sumS; rw [HT.out])
              have HLF := Lib.hid (show LocB W wr w2.heap.size T (.slice Au2 (aops.length + bops.length) cu2) (aops ++ shiftR bops asorts) by have h := HL.out; rw [take_all (Nat.le_refl _)] at h; exact h)
              have HRS := Lib.hid (show RSig wr (.agg #[.int .i64 T, .slice Au2 (aops.length + bops.length) cu2]) ⟨T, aops ++ shiftR bops asorts⟩ from ⟨_, rfl, HLF.out.own.reads⟩)
              clear HU1 HU2 HU3 HU4 HUJ HFL HL hloc HKB
              go_wp2_with fail
              refine (sigValid_any _ ⟨T, aops ++ shiftR bops asorts⟩ _ HRS.out).mono ?_
              cases hvs : validB ⟨T, aops ++ shiftR bops asorts⟩ with
              | false =>
                have HOK := Lib.hid (show sumOk ⟨asorts, aops⟩ ⟨bsorts, bops⟩ = false by unfold sumOk; rw [HSS.out, hvs, Bool.and_false])
                clear hvs
                rintro e w9 ⟨rfl, hb⟩
                have HLE := Lib.hid (HLF.out.keep hb)
                have hres := HLE.out.res
                rw [hsW] at hres
                have r0 := blk_cell hres 0
                have r1 := blk_cell hres 1
                have r2 := blk_free hres 0
                have r3 := blk_free hres 1
                simp at r0 r1
                have HRES := Lib.hid hres
                clear hb l0 l1 hres
                go_wp2
                have d1 := blk_set (blk_set HRES.out 0 (.int .i64 0)) 1 (.slice none 0 0)
                have d3 := ((HW.out.trans (HLE.out.bel.mono HW.out.size)).setCell (p := ⟨w.heap.size + 2, 0, none⟩) (by show w.heap.size ≤ w.heap.size + 2; omega) (.int .i64 0)).setCell (p := ⟨w.heap.size + 2, 1, none⟩) (by show w.heap.size ≤ w.heap.size + 2; omega) (.slice none 0 0)
                generalize (w9.setCell ⟨w.heap.size + 2, 0, none⟩ (.int .i64 0)).setCell ⟨w.heap.size + 2, 1, none⟩ (.slice none 0 0) = w10 at d1 d3 ⊢
                have k0 := blk_cell d1 0
                have k1 := blk_cell d1 1
                simp at k0 k1
                clear r0 r1 r2 r3
                refine bodyPost_ret (v := .tuple #[.agg #[.int .i64 0, .slice none 0 0], .bool false]) (by simp [results, Try.results22, go_sem, k0, k1]) rfl ?_
                exact ⟨.agg #[.int .i64 0, .slice none 0 0], by rw [HOK.out], by rw [show sumM ⟨asorts, aops⟩ ⟨bsorts, bops⟩ = ⟨0, []⟩ by unfold sumM; rw [HOK.out]; rfl]; exact ⟨_, rfl, ORows.nil _ _⟩, d3⟩
              | true =>
                have HOK := Lib.hid (show sumOk ⟨asorts, aops⟩ ⟨bsorts, bops⟩ = true by unfold sumOk; rw [HSS.out, hvs, HVA.out, HVB.out]; rfl)
                clear hvs
                rintro e w9 ⟨rfl, hb⟩
                have HLE := Lib.hid (HLF.out.keep hb)
                have hres := HLE.out.res
                rw [hsW] at hres
                have r0 := blk_cell hres 0
                have r1 := blk_cell hres 1
                have r2 := blk_free hres 0
                have r3 := blk_free hres 1
                have t0 := cell_keep hb l0
                have t1 := cell_keep hb l1
                simp at r0 r1
                clear hb l0 l1 hres
                go_wp2
                obtain ⟨d1, d2, d3⟩ := HLE.out.done
                rw [hsW] at d1 d2 d3
                generalize (w9.setCell ⟨w.heap.size + 2, 0, none⟩ (.int .i64 T)).setCell ⟨w.heap.size + 2, 1, none⟩ (.slice Au2 (aops.length + bops.length) cu2) = w10 at d1 d2 d3 ⊢
                have k0 := blk_cell d1 0
                have k1 := blk_cell d1 1
                simp at k0 k1
                clear r0 r1 r2 r3 t0 t1
                refine bodyPost_ret (v := .tuple #[.agg #[.int .i64 T, .slice Au2 (aops.length + bops.length) cu2], .bool true]) (by simp [results, Try.results22, go_sem, k0, k1]) rfl ?_
                refine ⟨.agg #[.int .i64 T, .slice Au2 (aops.length + bops.length) cu2], by rw [HOK.out], ?_, HW.out.trans (d3.mono (by omega))⟩
                rw [show sumM ⟨asorts, aops⟩ ⟨bsorts, bops⟩ = ⟨T, aops ++ shiftR bops asorts⟩ by unfold sumM; rw [HOK.out, HSS.out]; rfl]
                exact ⟨_, rfl, d2.base (by omega)⟩
end Go.Proofs.Ytmafipngpbmgdab
