/- The spec's SigPart. -/
import Derived.Test.YtmafipngpbmgdabPart
namespace Go.Proofs.Ytmafipngpbmgdab
open Go.RowKit
set_option linter.unusedVariables false

theorem LocB.boxcell {w wr : World} {a b u : Value} {t : TypeId} {b5 : Nat} {sorts : Int} {rows : List (List Int)} (h : LocB (w.alloc (.cells #[a, b] t)) wr b5 sorts u rows) : wr.cell? ⟨w.heap.size, 0, none⟩ = some a ∧ wr.cell? ⟨w.heap.size, 1, none⟩ = some b :=
  ⟨(h.bel.cell (p := ⟨w.heap.size, 0, none⟩) (by simp)).trans (box_cells w a b t).1, (h.bel.cell (p := ⟨w.heap.size, 1, none⟩) (by simp)).trans (box_cells w a b t).2⟩
def lessB (row : List Int) (k : Int) : Bool := row.all fun x => decide (x < k)
theorem lessB_below {row : List Int} {k : Int} (h : ∀ x ∈ row, 0 ≤ x) : lessB row k = belowB row k := by
  unfold lessB belowB
  rw [Bool.eq_iff_iff]
  simp only [List.all_eq_true, Bool.and_eq_true, decide_eq_true_eq]
  exact ⟨fun a x hx => ⟨h x hx, a x hx⟩, fun a x hx => (a x hx).2⟩
theorem lessB_take {xs : List Int} {m : Int} {k : Nat} (hk : k < xs.length) : lessB (xs.take (k+1)) m = (lessB (xs.take k) m && decide (xs[k] < m)) := by
  unfold lessB; rw [List.take_succ_eq_append_getElem hk, List.all_append]; simp

set_option maxHeartbeats 1600000 in
set_option maxRecDepth 100000 in
theorem specSigPart_any (v : Value) (s : MSig) (k : Int) (w : World) (h : RSig w v s) :
    Calls Try.prog 24 #[v, .int .i64 k] w (PartPost (partM s k) w) := by
  obtain ⟨u, rfl, hr⟩ := h
  obtain ⟨sorts, ops⟩ := s
  have hn := hr.len
  obtain ⟨A, c, rfl, -⟩ := hr.form
  have hbW := below_alloc w (.cells #[.int .i64 sorts, .slice A ops.length c] 27)
  have hb2 := below_alloc (w.alloc (.cells #[.int .i64 sorts, .slice A ops.length c] 27)) (.cells #[.int .i64 0, .slice none 0 0] 27)
  have HBW := Lib.hid hbW
  have H := Lib.hid hr
  have HB2 := Lib.hid (hbW.trans (hb2.mono (by simp)))
  have hbx := Lib.hid (And.intro (cell_keep hb2 (box_cells w (.int .i64 sorts) (.slice A ops.length c) 27).1) (cell_keep hb2 (box_cells w (.int .i64 sorts) (.slice A ops.length c) 27).2))
  clear hr hbW hb2
  obtain ⟨i0, hi0, hz0, hz1, hz2⟩ := info_parts Try.tinfo_int
  obtain ⟨i1, hj, hy0, hy1, hy2⟩ := info_parts Try.tinfo_ints
  cases hv2 : validB ⟨sorts, ops⟩ with
  | false =>
    have HPM := Lib.hid (show partM ⟨sorts, ops⟩ k = ⟨0, []⟩ by unfold partM; rw [if_neg (by rw [hv2]; simp)])
    have HV := Lib.hid hv2
    clear hv2
    go_enter Try.func24, Try.ntmps24
    go_wp2_with fail
    refine (specSigValid_any _ ⟨sorts, ops⟩ _ ⟨_, rfl, H.out.keep HB2.out⟩).mono ?_
    rw [HV.out]
    rintro e w1 ⟨rfl, hb⟩
    have HZB := Lib.hid (zero_back hb)
    obtain ⟨r0, r1, r2, r3⟩ := HZB.out.1
    clear hb
    go_wp2
    obtain ⟨d1, d3⟩ := HZB.out.2
    generalize (w1.setCell ⟨w.heap.size + 1, 0, none⟩ (.int .i64 0)).setCell ⟨w.heap.size + 1, 1, none⟩ (.slice none 0 0) = w9 at d1 d3 ⊢
    have k0 := blk_cell d1 0
    have k1 := blk_cell d1 1
    simp at k0 k1
    refine bodyPost_ret (v := .agg #[.int .i64 0, .slice none 0 0]) (by simp [results, Try.results24, go_sem, k0, k1]) rfl ?_
    refine ⟨_, rfl, ?_, d3⟩
    rw [HPM.out]
    exact ⟨_, rfl, ORows.nil _ _⟩
  | true =>
    cases hin : inB k 1 sorts with
    | false =>
      have HPM := Lib.hid (show partM ⟨sorts, ops⟩ k = ⟨0, []⟩ by unfold partM; rw [if_neg]; intro h; simp at h; unfold inB at hin; simp at hin; omega)
      have HV := Lib.hid hv2
      have HIN := Lib.hid hin
      clear hv2 hin
      go_enter Try.func24, Try.ntmps24
      go_wp2_with fail
      refine (specSigValid_any _ ⟨sorts, ops⟩ _ ⟨_, rfl, H.out.keep HB2.out⟩).mono ?_
      rw [HV.out]
      rintro e w1 ⟨rfl, hb⟩
      have f0 := cell_keep hb hbx.out.1
      have HZB := Lib.hid (zero_back hb)
      obtain ⟨r0, r1, r2, r3⟩ := HZB.out.1
      clear hb
      go_wp2_with (go_at_call 27; refine (l1In_is _ _ _ _ _ HIN.out).mono ?_; rintro e w' ⟨rfl, rfl⟩)
      obtain ⟨d1, d3⟩ := HZB.out.2
      generalize (w1.setCell ⟨w.heap.size + 1, 0, none⟩ (.int .i64 0)).setCell ⟨w.heap.size + 1, 1, none⟩ (.slice none 0 0) = w9 at d1 d3 ⊢
      have k0 := blk_cell d1 0
      have k1 := blk_cell d1 1
      simp at k0 k1
      refine bodyPost_ret (v := .agg #[.int .i64 0, .slice none 0 0]) (by simp [results, Try.results24, go_sem, k0, k1]) rfl ?_
      refine ⟨_, rfl, ?_, d3⟩
      rw [HPM.out]
      exact ⟨_, rfl, ORows.nil _ _⟩
    | true =>
      have hkk : 1 ≤ k ∧ k ≤ sorts := by unfold inB at hin; simpa using hin
      have HPM := Lib.hid (show partM ⟨sorts, ops⟩ k = ⟨k, ops.filter fun row => belowB row k⟩ by unfold partM; rw [if_pos]; simp [hv2, hkk.1, hkk.2])
      have hvs := valid_sorts hv2
      simp only at hvs
      have HROW := Lib.hid (fun (j : Nat) (hj : j < ops.length) => valid_row (s := ⟨sorts, ops⟩) hv2 hj)
      have HV := Lib.hid hv2
      have HIN := Lib.hid hin
      clear hv2 hin
      go_enter Try.func24, Try.ntmps24
      go_wp2_with fail
      refine (specSigValid_any _ ⟨sorts, ops⟩ _ ⟨_, rfl, H.out.keep HB2.out⟩).mono ?_
      rw [HV.out]
      rintro e w1 ⟨rfl, hb⟩
      have f0 := cell_keep hb hbx.out.1
      have f1 := cell_keep hb hbx.out.2
      have HB := Lib.hid hb
      have hz1' := hb.size
      simp at hz1'
      have hz2' : w.heap.size < w1.heap.size := by omega
      clear hb
      go_wp2_with (go_at_call 27; refine (l1In_is _ _ _ _ _ HIN.out).mono ?_; rintro e w' ⟨rfl, rfl⟩)
      have HL0 := Lib.hid (LocB.start (w := w.alloc (.cells #[.int .i64 sorts, .slice A ops.length c] 27)) (w1 := w1) (sorts := k) (HB.out.mono (by simp)))
      have HF1 := Lib.hid f1
      have HF0 := Lib.hid f0
      clear f0 f1
      go_loopw [6, 7, 8] (fun i a a' wr => ∃ j : Nat, ∃ u, j ≤ ops.length ∧ i = .int .i64 j ∧ LocB (w.alloc (.cells #[.int .i64 sorts, .slice A ops.length c] 27)) wr w1.heap.size k u ((ops.take j).filter fun row => belowB row k) ∧ wr.cell? ⟨w.heap.size, 1, none⟩ = some (.slice A ops.length c)) (fun i _ _ _ => ops.length - (intOf i).toNat)
      case atStart => exact ⟨0, _, Nat.zero_le _, rfl, HL0.out, cell_keep (below_alloc _ _) HF1.out⟩
      case round =>
        obtain ⟨j, u, hjn, rfl, hl, g1⟩ := hrel
        have HL := Lib.hid hl
        clear hl HL0
        obtain ⟨us, hu1, hu2, hu3, hu4⟩ := HL.out.own
        obtain ⟨Au, cu, rfl, -⟩ := own_reads hu1
        have HU1 := Lib.hid hu1
        have HU2 := Lib.hid hu2
        have HU3 := Lib.hid hu3
        have HU4 := Lib.hid hu4
        clear hu1 hu2 hu3 hu4
        have hloc := HL.out.loc
        have l1 := blk_cell hloc 1
        simp at l1
        have hsz := HL.out.sz
        by_cases hlt : j < ops.length
        · have HKR := Lib.hid (H.out.keep (HBW.out.trans (HL.out.bel.mono (by simp))))
          obtain ⟨b, o, c', ur, e, hcell, hri⟩ := HKR.out.at_ hlt
          cases e
          have hvr : 1 ≤ ops[j].length ∧ ops[j].length ≤ 3 ∧ ∀ x ∈ ops[j], 0 ≤ x ∧ x < sorts := HROW.out j hlt
          have HFT := Lib.hid (filter_take (p := fun row => belowB row k) hlt)
          have hfl := filter_take_le (p := fun row => belowB row k) (xs := ops) (k := j)
          generalize ops[j] = row at hri hvr HFT
          have hrl := hvr.2.1
          have HLB := Lib.hid (lessB_below (k := k) (fun x hx => (hvr.2.2 x hx).1))
          obtain ⟨bx, ox, cx, ex, -⟩ := hri.at_ (k := 0) (by omega)
          cases ex
          have HI := Lib.hid hri
          clear hri hvr
          have hjl : (j : Int) < (ops.length : Int) := by omega
          go_wp2
          obtain ⟨wo, rfl⟩ : ∃ wo : World, wo = wr := ⟨_, rfl⟩
          go_loop [7, 8] (fun a i => ∃ l : Nat, l ≤ row.length ∧ i = .int .i64 l ∧ a = .bool (lessB (row.take l) k)) (fun _ i => row.length - (intOf i).toNat)
          case atStart => exact ⟨0, Nat.zero_le _, rfl, rfl⟩
          case round =>
            obtain ⟨l, hl, rfl, rfl⟩ := hrel
            by_cases hll : l < row.length
            · obtain ⟨b', o', c3, e, hx⟩ := HI.out.at_ hll
              cases e
              have HTL := Lib.hid (lessB_take (m := k) hll)
              generalize row[l] = x at hx HTL
              cases hlb : lessB (row.take l) k with
              | false =>
                have Hlb := Lib.hid hlb
                clear hlb
                go_wp2
                go_round
                case rel => exact ⟨l + 1, by omega, by go_num, by rw [HTL.out, Hlb.out]; rfl⟩
                case measure => simp [intOf]; omega
              | true =>
                have Hlb := Lib.hid hlb
                clear hlb
                go_wp2
                go_round
                case rel => exact ⟨l + 1, by omega, by go_num, by rw [HTL.out, Hlb.out]; rfl⟩
                case measure => simp [intOf]; omega
            · have HTA := Lib.hid (show lessB (row.take l) k = belowB row k by rw [take_all (by omega)]; exact HLB.out)
              rw [HTA.out]
              cases hbb : belowB row k with
              | false =>
                have Hbb := Lib.hid hbb
                clear hbb
                go_wp2
                go_roundw
                case rel => exact ⟨j + 1, _, by omega, by go_num, by rw [show (ops.take (j + 1)).filter (fun row => belowB row k) = (ops.take j).filter (fun row => belowB row k) by rw [HFT.out]; simp [Hbb.out]]; exact HL.out, g1⟩
                case measure => simp [intOf]; omega
              | true =>
                have Hbb := Lib.hid hbb
                clear hbb
                have HEQ := Lib.hid (show (ops.take (j + 1)).filter (fun row => belowB row k) = (ops.take j).filter (fun row => belowB row k) ++ [row] by rw [HFT.out]; simp [Hbb.out])
                have hl7 : ((ops.take j).filter fun row => belowB row k).length + 1 ≤ maxLen ∧ (((ops.take j).filter fun row => belowB row k).length + 1) * 24 ≤ 140737488355328 := by rw [maxLen_eq]; omega
                have HL7 := Lib.hid hl7
                have hA1 : (row.map (Value.int .i64)).length = row.length * 1 := by simp
                have hA2 : 0 + row.length ≤ maxLen := by rw [maxLen_eq]; omega
                have hA3 : (0 + row.length) * 8 ≤ 140737488355328 := by omega
                have hA4 : wo.heap.size ≤ (wo.alloc (.cells #[] 3)).heap.size := by simp
                have HA1 := Lib.hid (And.intro hA1 (And.intro hA2 (And.intro hA3 hA4)))
                have HNEWS := Lib.hid (news_any (HI.out.keep (below_alloc wo (.cells #[] 3))))
                have hlb := World.block_lt_of_cell? wo _ hcell
                have hgb := World.block_lt_of_cell? wo _ g1
                clear hl7 hA1 hA2 hA3 hA4
                go_wp2_with fail
                go_region_law (first
                  | (refine step_append_own rfl (.tmp 55) (.tmp 60) 31 rfl wo.heap.size 3 i0 (.int .i64 0) 1 8 Try.underlying31 hi0 hz0 hz1 hz2 rfl (by omega) _ 0 [] rfl ((own_empty wo).drew) ⟨bx, ox, none⟩ row.length cx (row.map (Value.int .i64)) rfl HA1.out.1 HNEWS.out (ints_one _) HA1.out.2.1 HA1.out.2.2.1 HA1.out.2.2.2 ?_; intro v6 w6 hv6 hg6; simp only [Nat.zero_add, List.nil_append] at hv6; obtain ⟨A6, c6, rfl, -⟩ := own_reads hv6; have HB6 := Lib.hid (bel_grow hg6 (fun k e => by injection e with e; exact Nat.le_of_eq e)); have HO6 := Lib.hid (show OInts w6 wo.heap.size (.slice A6 row.length c6) row from hv6); clear hg6 hv6; have HOU := Lib.hid ((own_keep HU1.out HB6.out).alloc (.cells #[.slice A6 row.length c6] 31)); have HN6 := Lib.hid (news_one w6 (.slice A6 row.length c6) 31); have m1 := cell_keep HB6.out l1; have m2 : w1.heap.size < w6.heap.size := World.block_lt_of_cell? w6 _ m1; have m3 := cell_keep HB6.out g1; have m4 := cell_keep HB6.out hcell; have HZ6 := Lib.hid (show w1.heap.size + 1 ≤ (w6.alloc (.cells #[.slice A6 row.length c6] 31)).heap.size by have := HB6.out.size; simp; omega))
                  | (refine step_append_own rfl (.tmp 54) (.tmp 62) 22 rfl (w1.heap.size + 1) 31 i1 (.slice none 0 0) 1 24 Try.underlying22 hj hy0 hy1 hy2 rfl (by omega) _ _ _ rfl HOU.out ⟨w6.heap.size, 0, none⟩ 1 1 [.slice A6 row.length c6] rfl rfl HN6.out (rows_one _) HL7.out.1 HL7.out.2 HZ6.out ?_; intro v7 w7 hv7 hg7; obtain ⟨A7, c7, rfl, -⟩ := own_reads hv7; have HP := Lib.hid (HL.out.push HB6.out HO6.out HU1.out HU2.out HU3.out HU4.out hv7 hg7); clear hv7 hg7; have q1 := blk_cell HP.out.2 1; have q2 := blk_free HP.out.2 1; simp at q1))
                all_goals
                  clear l1 m1 m2 m3 m4 q1 q2 g1
                  go_wp2
                  go_roundw
                  case rel => exact ⟨j + 1, _, by omega, by go_num, by rw [HEQ.out]; exact HP.out.1, HP.out.1.boxcell.2⟩
                  case measure => simp [intOf]; omega
        · have HTA := Lib.hid (show (ops.take j).filter (fun row => belowB row k) = ops.filter (fun row => belowB row k) by rw [take_all (by omega)])
          have hl0 := blk_cell hloc 0
          have hres := HL.out.res
          have r0 := blk_cell hres 0
          have r1 := blk_cell hres 1
          have r2 := blk_free hres 0
          have r3 := blk_free hres 1
          simp at hl0 r0 r1 r2 r3
          clear hloc hres
          go_wp2
          obtain ⟨d1, d2, d3⟩ := HL.out.done
          rw [show (w.alloc (.cells #[.int .i64 sorts, .slice A ops.length c] 27)).heap.size = w.heap.size + 1 from by simp] at d1 d2 d3
          generalize (wr.setCell ⟨w.heap.size + 1, 0, none⟩ (.int .i64 k)).setCell ⟨w.heap.size + 1, 1, none⟩ (.slice Au ((ops.take j).filter fun row => belowB row k).length cu) = w9 at d1 d2 d3 ⊢
          have k0 := blk_cell d1 0
          have k1 := blk_cell d1 1
          simp at k0 k1
          clear hl0 r0 r1 r2 r3 l1 g1
          refine bodyPost_ret (v := .agg #[.int .i64 k, .slice Au ((ops.take j).filter fun row => belowB row k).length cu]) (by simp [results, Try.results24, go_sem, k0, k1]) rfl ?_
          refine ⟨_, rfl, ?_, HBW.out.trans (d3.mono (by omega))⟩
          rw [HPM.out]
          refine ⟨_, rfl, ?_⟩
          simp only
          rw [← HTA.out]
          exact d2.base (by omega)
end Go.Proofs.Ytmafipngpbmgdab
