/- slices.Grow (of nil), slices.Concat. -/
import Derived.Test.YtonainidjkcoeacPut
import Derived.Lib.AppendZeros
namespace Go.Proofs.Ytonainidjkcoeac
open Go.RowKit
set_option linter.unusedVariables false

theorem zeros_own (w : World) (i0 : TypeInfo) (hi0 : Try.prog.info? 3 = some i0) (hz0 : i0.zero = some (.int .i64 0)) (hz1 : i0.size = 1) (hz2 : i0.bytes = 8) (ty : TypeId) (n : Nat) (h0 : 0 < n) (h1 : n ≤ 1048576) :
    ∃ C w', (Builtin.append_ #[36, 3] ty #[.slice none 0 0, .int .i64 n]).run Try.prog w = .ok (.slice (some ⟨w.heap.size, 0, none⟩) n C) w' ∧ n ≤ C ∧ C ≤ 9223372036854775807 ∧ OInts w' w.heap.size (.slice (some ⟨w.heap.size, 0, none⟩) 0 C) [] ∧ Below w.heap.size w w' := by
  refine ⟨_, _, Lib.run_append_nil_zeros w 36 3 ty 3 i0 (.int .i64 0) .i64 .i64 Try.underlying36 Try.underlying3 hi0 hz0 n h0 (by omega) (by omega) (by rw [hz2]; omega), grownCap_ge _ _ _ _, grownCap_le_maxLen _ _ _ _ (by rw [maxLen_eq]; omega), ?_, ?_⟩
  · refine ⟨by simp, .inr ⟨w.heap.size, _, _, rfl, Nat.le_refl _, heap_alloc_new w.drew _, Nat.zero_le _, grownCap_le_maxLen _ _ _ _ (by rw [maxLen_eq]; omega), ?_, by simp⟩⟩
    rw [Array.size_append, size_zeroCells, size_zeroCells, show (Value.int .i64 0).cells.size = 1 from rfl]
    have := grownCap_ge w n 0 3
    omega
  · exact (Below.refl w.heap.size w.drew |> fun h => (⟨h.os, h.tape, h.output, h.size, h.block⟩ : Below w.heap.size w w.drew)).alloc (Nat.le_refl _) _

set_option maxRecDepth 100000 in
theorem grow_any (n : Nat) (w : World) (h0 : 0 < n) (h1 : n ≤ 1048576) :
    Calls Try.prog 116 #[.slice none 0 0, .int .i64 (n : Int)] w fun e w' => ∃ u, e = .returned u ∧ OInts w' w.heap.size u [] ∧ Below w.heap.size w w' := by
  obtain ⟨i0, hi0, hz0, hz1, hz2⟩ := info_parts Try.tinfo_int
  have hn : (0 : Int) < (n : Int) := by omega
  go_enter Try.func116, Try.ntmps116
  obtain ⟨C, w', hrun, hC1, hC2, ho, hb⟩ := zeros_own w i0 hi0 hz0 hz1 hz2 36 n h0 h1
  have HO := Lib.hid ho
  have HB := Lib.hid hb
  have HR := Lib.hid hrun
  clear ho hb hrun
  go_wp2_with (at_builtin; refine Lib.wpList_append_run _ rfl _ _ _ _ rfl _ _ rfl rfl _ _ HR.out ?_)
  go_wp2
  go_ret
  exact ⟨_, rfl, HO.out, HB.out⟩

/-- a list of rows none of which is nil -/
def RRowsS (w : World) (v : Value) (rows : List (List Int)) : Prop :=
  ∃ A c, v = .slice A rows.length c ∧ rows.length ≤ c ∧ c ≤ maxLen ∧ ∀ j row, rows[j]? = some row → ∃ b o ad c', A = some ⟨b, o, none⟩ ∧ w.cell? ⟨b, o + j, none⟩ = some (.slice (some ad) row.length c') ∧ RInts w (.slice (some ad) row.length c') row
theorem RRowsS.keep {w w' : World} {v : Value} {rows : List (List Int)} (h : RRowsS w v rows) (hb : Below w.heap.size w w') : RRowsS w' v rows := by
  obtain ⟨A, c, e, h1, h2, h3⟩ := h
  exact ⟨A, c, e, h1, h2, fun j row hj => by obtain ⟨b, o, ad, c', e, hc, hr⟩ := h3 j row hj; exact ⟨b, o, ad, c', e, cell_keep hb hc, hr.keep hb⟩⟩
theorem RRowsS.at_ {w : World} {v : Value} {rows : List (List Int)} (h : RRowsS w v rows) {k : Nat} (hk : k < rows.length) : ∃ b o c ad c', v = .slice (some ⟨b, o, none⟩) rows.length c ∧ w.cell? ⟨b, o + k, none⟩ = some (.slice (some ad) rows[k].length c') ∧ RInts w (.slice (some ad) rows[k].length c') rows[k] := by
  obtain ⟨A, c, e, h1, h2, h3⟩ := h
  obtain ⟨b, o, ad, c', rfl, hc, hr⟩ := h3 k rows[k] (List.getElem?_eq_getElem hk)
  exact ⟨b, o, c, ad, c', e, hc, hr⟩
theorem flat_take {rows : List (List Int)} {k : Nat} (hk : k < rows.length) : (rows.take (k + 1)).flatten = (rows.take k).flatten ++ rows[k] := by
  rw [List.take_succ_eq_append_getElem hk, List.flatten_append]; simp
theorem flat_le (rows : List (List Int)) (k : Nat) : (rows.take k).flatten.length ≤ rows.flatten.length := by
  have h : rows.flatten = (rows.take k).flatten ++ (rows.drop k).flatten := by rw [← List.flatten_append, List.take_append_drop]
  rw [h, List.length_append]; omega

set_option maxHeartbeats 800000 in
set_option maxRecDepth 100000 in
theorem concat_any (v : Value) (rows : List (List Int)) (w : World) (h : RRowsS w v rows) (h0 : 0 < rows.flatten.length) (h1 : rows.flatten.length ≤ 1048576) :
    Calls Try.prog 115 #[v] w fun e w' => ∃ u, e = .returned u ∧ OInts w' w.heap.size u rows.flatten ∧ Below w.heap.size w w' := by
  obtain ⟨i0, hi0, hz0, hz1, hz2⟩ := info_parts Try.tinfo_int
  have H := Lib.hid h
  obtain ⟨A, c, rfl, hc, hc2, -⟩ := h
  have hc3 : c ≤ 9223372036854775807 := hc2
  clear hc2
  go_enter Try.func115, Try.ntmps115
  go_wp2
  go_loop [3, 5, 11] (fun n x i => ∃ k : Nat, k ≤ rows.length ∧ i = .int .i64 k ∧ n = .int .i64 ((rows.take k).flatten.length : Int)) (fun _ _ i => rows.length - (intOf i).toNat)
  case atStart => exact ⟨0, Nat.zero_le _, rfl, by simp⟩
  case round =>
    obtain ⟨k, hk, rfl, rfl⟩ := hrel
    by_cases hlt : k < rows.length
    · obtain ⟨b, o, c', ad, c5, e, hcell, hri⟩ := H.out.at_ hlt
      cases e
      have HT := Lib.hid (show (rows.take (k + 1)).flatten.length = (rows.take k).flatten.length + rows[k].length by rw [flat_take hlt, List.length_append])
      have hle := flat_le rows (k + 1)
      rw [HT.out] at hle
      generalize rows[k] = r at hcell hri HT hle
      generalize (rows.take k).flatten.length = L at HT hle
      have hw : IntKind.i64.wrap ((L : Int) + (r.length : Int)) = (L : Int) + (r.length : Int) := by rw [IntKind.wrap_i64]; omega
      have hnn : ¬ ((L : Int) + (r.length : Int) < 0) := by omega
      clear hri
      go_wp2
      go_round
      case rel => exact ⟨k + 1, by omega, by go_num, by rw [HT.out]; simp⟩
      case measure => simp [intOf]; omega
    · have hlt' : ¬ (k : Int) < (rows.length : Int) := by omega
      rw [show rows.take k = rows from take_all (by omega)]
      obtain ⟨L, hL⟩ : ∃ L, L = rows.flatten.length := ⟨_, rfl⟩
      rw [← hL] at h0 h1 ⊢
      have HL := Lib.hid hL
      clear hL
      go_wp2_with fail
      refine (grow_any L _ h0 h1).mono ?_
      rintro e w1 ⟨u, rfl, ho, hb⟩
      obtain ⟨A1, c1, rfl, -⟩ := own_reads ho
      have HO := Lib.hid ho
      have HB := Lib.hid hb
      clear ho hb
      go_wp2
      go_loopw [6, 8, 27] (fun p x i wr => ∃ k : Nat, k ≤ rows.length ∧ i = .int .i64 k ∧ OInts wr w.heap.size p (rows.take k).flatten ∧ Below w.heap.size w wr) (fun _ _ i _ => rows.length - (intOf i).toNat)
      case atStart => exact ⟨0, Nat.zero_le _, rfl, HO.out, HB.out⟩
      case round =>
        obtain ⟨k, hk, rfl, ho, hb⟩ := hrel
        obtain ⟨A9, c9, rfl, -⟩ := own_reads ho
        have HO := Lib.hid ho
        have HB := Lib.hid hb
        clear ho hb
        by_cases hlt : k < rows.length
        · obtain ⟨b, o, c', ad, c5, e, hcell, hri⟩ := (H.out.keep HB.out).at_ hlt
          cases e
          have HT := Lib.hid (flat_take hlt)
          have hle := flat_le rows (k + 1)
          rw [HT.out, List.length_append, ← HL.out] at hle
          generalize rows[k] = r at hcell hri HT hle
          have HNEWS := Lib.hid (news_any hri)
          have hs1 := HB.out.size
          generalize (rows.take k).flatten = ps at HO HT hle
          clear hri
          go_wp2_with (at_builtin; refine wpList_append_own _ rfl _ _ 36 rfl w.heap.size 3 i0 (.int .i64 0) 1 8 Try.underlying36 hi0 hz0 hz1 hz2 rfl (by decide) _ ps.length (ps.map (Value.int .i64)) rfl HO.out ad r.length c5 (r.map (Value.int .i64)) rfl (by simp) HNEWS.out (ints_one _) (by rw [maxLen_eq]; omega) (by omega) hs1 ?_)
          intro v' w4 hown4 hgrow4 _
          have HO4 := Lib.hid (app_ints rfl hown4)
          have HB4 := Lib.hid (HB.out.grown hgrow4 hs1 (fun k e => (own_lt HO.out k e).1))
          clear hown4 hgrow4
          go_wp2
          go_roundw
          case rel => exact ⟨k + 1, by omega, by go_num, by rw [HT.out]; exact HO4.out, HB4.out⟩
          case measure => simp [intOf]; omega
        · have hlt'' : ¬ (k : Int) < (rows.length : Int) := by omega
          have HTA := Lib.hid (show rows.take k = rows from take_all (by omega))
          rw [HTA.out, ← HL.out] at HO ⊢
          go_wp2
          go_ret
          exact ⟨_, rfl, HO.out, HB.out⟩
end Go.Proofs.Ytonainidjkcoeac
