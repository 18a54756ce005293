/- MapSelf, MapThen of package spec. -/
import Derived.Test.YtkhabmoidpgapabK9d34b34c
namespace Go.Proofs.Ytkhabmoidpgapab
section
open Go.RowKit
set_option linter.unusedVariables false
set_option linter.unusedSimpArgs false

theorem count_take {n k : Nat} (h : k = n) : countM k = countM n := by rw [h]

set_option maxHeartbeats 3200000 in
set_option maxRecDepth 100000 in
theorem specMapSelf_any (s : MSig) (w : World) (v : Value) (h1 : RSig w v s) :
    Calls Try.prog 88 #[v] w fun e w' => ∃ u, e = .returned u ∧ OMap w' w.heap.size u (selfM s) ∧ Below w.heap.size w w' := by
  obtain ⟨i0, hi0, hz0, hz1, hz2⟩ := info_parts Try.tinfo_int
  obtain ⟨Asa, csa, rfl⟩ := h1.form
  have hb : Below w.heap.size w ((w.alloc (.cells #[.int .i64 s.sorts, .slice Asa s.ops.length csa] 25)).alloc (.cells #[.slice none 0 0, .slice none 0 0] 28)) := (below_alloc _ _).alloc (by simp) _
  have HB := Lib.hid hb
  have hsz : ((w.alloc (.cells #[.int .i64 s.sorts, .slice Asa s.ops.length csa] 25)).alloc (.cells #[.slice none 0 0, .slice none 0 0] 28)).heap.size = w.heap.size + 2 := by simp
  have Hs := Lib.hid (h1.keep hb)
  have s0 := cell_keep (below_alloc (w.alloc (.cells #[.int .i64 s.sorts, .slice Asa s.ops.length csa] 25)) (.cells #[.slice none 0 0, .slice none 0 0] 28)) (bx_at (w) #[.int .i64 s.sorts, .slice Asa s.ops.length csa] 25 (k := 0) rfl)
  have s1 := cell_keep (below_alloc (w.alloc (.cells #[.int .i64 s.sorts, .slice Asa s.ops.length csa] 25)) (.cells #[.slice none 0 0, .slice none 0 0] 28)) (bx_at (w) #[.int .i64 s.sorts, .slice Asa s.ops.length csa] 25 (k := 1) rfl)
  have HZr := Lib.hid (show ((w.alloc (.cells #[.int .i64 s.sorts, .slice Asa s.ops.length csa] 25)).alloc (.cells #[.slice none 0 0, .slice none 0 0] 28)).heap[w.heap.size + 1]? = some (.cells #[.slice none 0 0, .slice none 0 0] 28 (0, 0)) from (congrArg (fun i => ((w.alloc (.cells #[.int .i64 s.sorts, .slice Asa s.ops.length csa] 25)).alloc (.cells #[.slice none 0 0, .slice none 0 0] 28)).heap[i]?) (by simp)).trans (heap_alloc_new (w.alloc (.cells #[.int .i64 s.sorts, .slice Asa s.ops.length csa] 25)) _))
  generalize hW : (w.alloc (.cells #[.int .i64 s.sorts, .slice Asa s.ops.length csa] 25)).alloc (.cells #[.slice none 0 0, .slice none 0 0] 28) = W at HB hsz Hs s0 s1 HZr
  clear hb h1
  have hl1 := Hs.out.of.2.len
  have hwr : w.heap.size + 1 < W.heap.size := by omega
  clear hsz
  have hb3 := below_alloc W (.cells #[.slice none 0 0, .slice none 0 0] 28)
  have hl3 : (W.alloc (.cells #[.slice none 0 0, .slice none 0 0] 28)).heap[W.heap.size]? = some (.cells #[.slice none 0 0, .slice none 0 0] 28 (0, 0)) := heap_alloc_new W _
  generalize hW3 : W.alloc (.cells #[.slice none 0 0, .slice none 0 0] 28) = W3 at hb3 hl3
  have hl4 : ((W3.setCell ⟨W.heap.size, 0, none⟩ (.slice none 0 0)).setCell ⟨W.heap.size, 1, none⟩ (.slice none 0 0)).heap[W.heap.size]? = some (.cells #[.slice none 0 0, .slice none 0 0] 28 (0, 0)) := blk_set (blk_set hl3 0 (.slice none 0 0)) 1 (.slice none 0 0)
  have hb4 : Below W.heap.size W ((W3.setCell ⟨W.heap.size, 0, none⟩ (.slice none 0 0)).setCell ⟨W.heap.size, 1, none⟩ (.slice none 0 0)) := (hb3.setCell (p := ⟨W.heap.size, 0, none⟩) (Nat.le_refl _) _).setCell (p := ⟨W.heap.size, 1, none⟩) (Nat.le_refl _) _
  have j0 := blk_cell hl3 0
  have j1 := blk_cell hl3 1
  have jf0 := blk_free hl3 0
  have jf1 := blk_free hl3 1
  simp at j0 j1
  generalize hW4 : (W3.setCell ⟨W.heap.size, 0, none⟩ (.slice none 0 0)).setCell ⟨W.heap.size, 1, none⟩ (.slice none 0 0) = W4 at hl4 hb4
  have HL4 := Lib.hid hl4
  have HB4 := Lib.hid hb4
  clear hb3 hl3 hl4
  have HC0 := Lib.hid (And.intro s0 s1)
  have HC := Lib.hid (And.intro (cell_keep hb4 s0) (cell_keep hb4 s1))
  have HS0 := Lib.hid Hs.out
  have HB0 := Lib.hid HB.out
  have HZ0 := Lib.hid HZr.out
  have HZ4 := Lib.hid (blk_keep HZr.out hb4)
  replace Hs := Lib.hid (Hs.out.keep hb4)
  replace HB := Lib.hid (sz_keep HB.out hb4)
  have hlt4 : W.heap.size < W4.heap.size := (Array.getElem?_eq_some_iff.1 HL4.out).1
  clear hb4 HZr s0 s1
  cases hv : validB s with
  | false =>
    have HV := Lib.hid hv
    have HE := Lib.hid (show selfM s = noMap by unfold selfM; rw [hv]; rfl)
    clear hv
    go_enter Try.func88, Try.ntmps88
    go_wp2
    clear hW hW3 hW4 j0 j1 jf0 jf1
    go_loopw [4] (fun i wr => i = .int .i64 0 ∧ Below W4.heap.size W4 wr) (fun _ _ => 0)
    case atStart => exact ⟨rfl, Below.refl _ _⟩
    case round =>
      obtain ⟨rfl, hd⟩ := hrel
      obtain ⟨wv, rfl⟩ : ∃ wv : World, wv = wr := ⟨_, rfl⟩
      have s0 := cell_keep hd HC.out.1
      have s1 := cell_keep hd HC.out.2
      replace Hs := Lib.hid (Hs.out.keep hd)
      replace HB := Lib.hid (sz_keep HB.out hd)
      replace HZ4 := Lib.hid (blk_keep HZ4.out hd)
      replace HL4 := Lib.hid (blk_keep HL4.out hd)
      replace HC := Lib.hid (And.intro s0 s1)
      have hlt5 := hd.size
      clear hd
      by_cases hpos : 0 < s.sorts
      · go_wp2_with fail
        refine (specSigValid_any _ s _ Hs.out).mono ?_
        rw [HV.out]
        rintro e w1 ⟨rfl, hb⟩
        replace HB := Lib.hid (sz_keep HB.out hb)
        replace s0 := cell_keep hb s0
        replace s1 := cell_keep hb s1
        replace Hs := Lib.hid (Hs.out.keep hb)
        replace HZ4 := Lib.hid (blk_keep HZ4.out hb)
        replace HL4 := Lib.hid (blk_keep HL4.out hb)
        clear hb
        replace HC := Lib.hid (And.intro s0 s1)
        clear s0 s1
        go_wp2
        go_loopw [5] (fun i wr => i = .int .i64 0 ∧ Below w1.heap.size w1 wr) (fun _ _ => 0)
        case atStart => exact ⟨rfl, Below.refl _ _⟩
        case round =>
          obtain ⟨rfl, hd⟩ := hrel
          have s0 := cell_keep hd HC.out.1
          have s1 := cell_keep hd HC.out.2
          replace Hs := Lib.hid (Hs.out.keep hd)
          replace HB := Lib.hid (sz_keep HB.out hd)
          replace HZ4 := Lib.hid (blk_keep HZ4.out hd)
          replace HL4 := Lib.hid (blk_keep HL4.out hd)
          clear hd
          by_cases hpos2 : 0 < s.ops.length
          · have hp2 : (0 : Int) < (s.ops.length : Int) := by omega
            go_wp2_with fail
            refine (specSigValid_any _ s _ Hs.out).mono ?_
            rw [HV.out]
            rintro e w2 ⟨rfl, hb⟩
            replace HB := Lib.hid (sz_keep HB.out hb)
            replace HZ4 := Lib.hid (blk_keep HZ4.out hb)
            replace HL4 := Lib.hid (blk_keep HL4.out hb)
            clear hb
            clear s0 s1
            have l0 := blk_cell HL4.out 0
            have l1 := blk_cell HL4.out 1
            simp at l0 l1
            have j0 := blk_cell HZ4.out 0
            have j1 := blk_cell HZ4.out 1
            have jf0 := blk_free HZ4.out 0
            have jf1 := blk_free HZ4.out 1
            simp at j0 j1
            go_wp2
            have d1 := blk_set (blk_set (HZ4.out) 0 (.slice none 0 0)) 1 (.slice none 0 0)
            have hbz := ((HB.out.setCell (p := ⟨w.heap.size + 1, 0, none⟩) (by show w.heap.size ≤ w.heap.size + 1; omega) (.slice none 0 0)).setCell (p := ⟨w.heap.size + 1, 1, none⟩) (by show w.heap.size ≤ w.heap.size + 1; omega) (.slice none 0 0))
            generalize (w2.setCell ⟨w.heap.size + 1, 0, none⟩ (.slice none 0 0)).setCell ⟨w.heap.size + 1, 1, none⟩ (.slice none 0 0) = wz at d1 hbz  ⊢
            have k0 := blk_cell d1 0
            have k1 := blk_cell d1 1
            simp at k0 k1
            clear j0 j1 jf0 jf1 l0 l1
            refine bodyPost_ret (v := .agg #[.slice none 0 0, .slice none 0 0]) (by simp [results, Try.results88, go_sem, k0, k1]) rfl ?_
            exact ⟨_, rfl, by rw [HE.out]; exact nil_map _ _, hbz⟩
          · have hp2 : ¬ (0 : Int) < (s.ops.length : Int) := by omega
            have l0 := blk_cell HL4.out 0
            have l1 := blk_cell HL4.out 1
            simp at l0 l1
            have j0 := blk_cell HZ4.out 0
            have j1 := blk_cell HZ4.out 1
            have jf0 := blk_free HZ4.out 0
            have jf1 := blk_free HZ4.out 1
            simp at j0 j1
            go_wp2
            have d1 := blk_set (blk_set (HZ4.out) 0 (.slice none 0 0)) 1 (.slice none 0 0)
            have hbz := ((HB.out.setCell (p := ⟨w.heap.size + 1, 0, none⟩) (by show w.heap.size ≤ w.heap.size + 1; omega) (.slice none 0 0)).setCell (p := ⟨w.heap.size + 1, 1, none⟩) (by show w.heap.size ≤ w.heap.size + 1; omega) (.slice none 0 0))
            generalize (wr.setCell ⟨w.heap.size + 1, 0, none⟩ (.slice none 0 0)).setCell ⟨w.heap.size + 1, 1, none⟩ (.slice none 0 0) = wz at d1 hbz  ⊢
            have k0 := blk_cell d1 0
            have k1 := blk_cell d1 1
            simp at k0 k1
            clear j0 j1 jf0 jf1 l0 l1 s0 s1
            refine bodyPost_ret (v := .agg #[.slice none 0 0, .slice none 0 0]) (by simp [results, Try.results88, go_sem, k0, k1]) rfl ?_
            exact ⟨_, rfl, by rw [HE.out]; exact nil_map _ _, hbz⟩
      · go_wp2
        clear s0 s1
        go_loopw [5] (fun i wr => i = .int .i64 0 ∧ Below wv.heap.size wv wr) (fun _ _ => 0)
        case atStart => exact ⟨rfl, Below.refl _ _⟩
        case round =>
          obtain ⟨rfl, hd⟩ := hrel
          have s0 := cell_keep hd HC.out.1
          have s1 := cell_keep hd HC.out.2
          replace Hs := Lib.hid (Hs.out.keep hd)
          replace HB := Lib.hid (sz_keep HB.out hd)
          replace HZ4 := Lib.hid (blk_keep HZ4.out hd)
          replace HL4 := Lib.hid (blk_keep HL4.out hd)
          clear hd
          by_cases hpos2 : 0 < s.ops.length
          · have hp2 : (0 : Int) < (s.ops.length : Int) := by omega
            go_wp2_with fail
            refine (specSigValid_any _ s _ Hs.out).mono ?_
            rw [HV.out]
            rintro e w2 ⟨rfl, hb⟩
            replace HB := Lib.hid (sz_keep HB.out hb)
            replace HZ4 := Lib.hid (blk_keep HZ4.out hb)
            replace HL4 := Lib.hid (blk_keep HL4.out hb)
            clear hb
            clear s0 s1
            have l0 := blk_cell HL4.out 0
            have l1 := blk_cell HL4.out 1
            simp at l0 l1
            have j0 := blk_cell HZ4.out 0
            have j1 := blk_cell HZ4.out 1
            have jf0 := blk_free HZ4.out 0
            have jf1 := blk_free HZ4.out 1
            simp at j0 j1
            go_wp2
            have d1 := blk_set (blk_set (HZ4.out) 0 (.slice none 0 0)) 1 (.slice none 0 0)
            have hbz := ((HB.out.setCell (p := ⟨w.heap.size + 1, 0, none⟩) (by show w.heap.size ≤ w.heap.size + 1; omega) (.slice none 0 0)).setCell (p := ⟨w.heap.size + 1, 1, none⟩) (by show w.heap.size ≤ w.heap.size + 1; omega) (.slice none 0 0))
            generalize (w2.setCell ⟨w.heap.size + 1, 0, none⟩ (.slice none 0 0)).setCell ⟨w.heap.size + 1, 1, none⟩ (.slice none 0 0) = wz at d1 hbz  ⊢
            have k0 := blk_cell d1 0
            have k1 := blk_cell d1 1
            simp at k0 k1
            clear j0 j1 jf0 jf1 l0 l1
            refine bodyPost_ret (v := .agg #[.slice none 0 0, .slice none 0 0]) (by simp [results, Try.results88, go_sem, k0, k1]) rfl ?_
            exact ⟨_, rfl, by rw [HE.out]; exact nil_map _ _, hbz⟩
          · have hp2 : ¬ (0 : Int) < (s.ops.length : Int) := by omega
            have l0 := blk_cell HL4.out 0
            have l1 := blk_cell HL4.out 1
            simp at l0 l1
            have j0 := blk_cell HZ4.out 0
            have j1 := blk_cell HZ4.out 1
            have jf0 := blk_free HZ4.out 0
            have jf1 := blk_free HZ4.out 1
            simp at j0 j1
            go_wp2
            have d1 := blk_set (blk_set (HZ4.out) 0 (.slice none 0 0)) 1 (.slice none 0 0)
            have hbz := ((HB.out.setCell (p := ⟨w.heap.size + 1, 0, none⟩) (by show w.heap.size ≤ w.heap.size + 1; omega) (.slice none 0 0)).setCell (p := ⟨w.heap.size + 1, 1, none⟩) (by show w.heap.size ≤ w.heap.size + 1; omega) (.slice none 0 0))
            generalize (wr.setCell ⟨w.heap.size + 1, 0, none⟩ (.slice none 0 0)).setCell ⟨w.heap.size + 1, 1, none⟩ (.slice none 0 0) = wz at d1 hbz  ⊢
            have k0 := blk_cell d1 0
            have k1 := blk_cell d1 1
            simp at k0 k1
            clear j0 j1 jf0 jf1 l0 l1 s0 s1
            refine bodyPost_ret (v := .agg #[.slice none 0 0, .slice none 0 0]) (by simp [results, Try.results88, go_sem, k0, k1]) rfl ?_
            exact ⟨_, rfl, by rw [HE.out]; exact nil_map _ _, hbz⟩
  | true =>
    have HV := Lib.hid hv
    have hsv := valid_sorts hv
    have HE := Lib.hid (show selfM s = ⟨countM s.sorts.toNat, countM s.ops.length⟩ by unfold selfM; rw [hv]; rfl)
    clear hv Hs HB HC HZ4
    go_enter Try.func88, Try.ntmps88
    go_wp2
    clear hW hW3 hW4 j0 j1 jf0 jf1
    go_loopw [4] (fun i wr => ∃ k : Nat, ∃ u, (k : Int) ≤ s.sorts ∧ i = .int .i64 k ∧ Loc 28 W4 wr W.heap.size #[u, .slice none 0 0] u (countM k)) (fun i _ => s.sorts.toNat - (intOf i).toNat)
    case atStart => exact ⟨0, _, by omega, rfl, Loc.start HL4.out⟩
    case round =>
      obtain ⟨k, u, hk, rfl, hloc⟩ := hrel
      have HLOC := Lib.hid hloc
      have HBW := Lib.hid (hloc.below HB4.out (Nat.le_refl _))
      obtain ⟨Au, cu, rfl, -⟩ := own_reads hloc.own
      have s0 := cell_keep HBW.out HC0.out.1
      have s1 := cell_keep HBW.out HC0.out.2
      clear hloc
      by_cases hlt : (k : Int) < s.sorts
      · skip
        go_wp2_with fail
        refine (specSigValid_any _ s _ (HS0.out.keep HBW.out)).mono ?_
        rw [HV.out]
        rintro e w1 ⟨rfl, hb⟩
        have HL1 := Lib.hid (HLOC.out.keep hb)
        have hs1 := HBW.out.size
        have hs2 := hb.size
        have hs3 := HLOC.out.gr.size
        have HLEN := Lib.hid (countM_len k)
        have HSUC := Lib.hid (countM_succ k)
        have l0 := blk_cell HL1.out.loc 0
        simp at l0
        generalize countM k = ps at HL1 HLEN HSUC l0
        clear hb s0 s1
        go_wp2_with (at_builtin; refine wpList_append_own _ rfl _ _ 26 rfl W4.heap.size 3 i0 (.int .i64 0) 1 8 Try.underlying26 hi0 hz0 hz1 hz2 rfl (by decide) _ ps.length (ps.map (Value.int .i64)) rfl (own_keep HL1.out.own (below_alloc w1 _)) ⟨w1.heap.size, 0, none⟩ 1 1 ([(k : Int)].map (Value.int .i64)) rfl (by simp) (led_new w1 (k : Int)) (ints_one _) (by rw [HLEN.out, maxLen_eq]; omega) (by rw [HLEN.out]; omega) (by simp; omega) ?_)
        intro v6 w6 hv6 hg6 _
        have HO6 := Lib.hid (led_app (rs := [(k : Int)]) rfl hv6)
        obtain ⟨A6, c6, rfl, -⟩ := own_reads hv6
        have HN := Lib.hid (HL1.out.push (cs' := #[.slice A6 (ps.length + 1) c6, .slice none 0 0]) hg6 HO6.out 0 rfl)
        have hl6 := HL1.out.grown hg6
        have q0 := blk_cell hl6 0
        have qf := blk_free hl6 0
        simp at q0
        clear hv6 hg6 hl6 l0
        go_wp2
        go_roundw
        case rel => exact ⟨k + 1, _, by omega, by go_num, by rw [HSUC.out]; exact HN.out⟩
        case measure => simp [intOf]; omega
      · obtain ⟨wz, rfl⟩ : ∃ wz : World, wz = wr := ⟨_, rfl⟩
        have hks : s.sorts.toNat = k := by omega
        have HKS := Lib.hid hks
        have OU := Lib.hid HLOC.out.own
        have HLZ := Lib.hid HLOC.out.loc
        have HBZ := Lib.hid HBW.out
        have hz4 := HLOC.out.gr.size
        go_wp2
        clear s0 s1 hks HBW HLOC
        go_loopw [5] (fun i wr => ∃ j : Nat, ∃ u, j ≤ s.ops.length ∧ i = .int .i64 j ∧ Loc 28 wz wr W.heap.size #[.slice Au (countM k).length cu, u] u (countM j)) (fun i _ => s.ops.length - (intOf i).toNat)
        case atStart => exact ⟨0, _, Nat.zero_le _, rfl, Loc.start HLZ.out⟩
        case round =>
          obtain ⟨j, u, hj, rfl, hloc⟩ := hrel
          have HLOC := Lib.hid hloc
          have HBW := Lib.hid (hloc.below HBZ.out (Nat.le_refl _))
          obtain ⟨Av, cv, rfl, -⟩ := own_reads hloc.own
          have s0 := cell_keep HBW.out HC0.out.1
          have s1 := cell_keep HBW.out HC0.out.2
          clear hloc
          by_cases hlt2 : j < s.ops.length
          · have hlt3 : (j : Int) < (s.ops.length : Int) := by omega
            go_wp2_with fail
            refine (specSigValid_any _ s _ (HS0.out.keep HBW.out)).mono ?_
            rw [HV.out]
            rintro e w1 ⟨rfl, hb⟩
            have HL1 := Lib.hid (HLOC.out.keep hb)
            have hs1 := HBW.out.size
            have hs2 := hb.size
            have hs3 := HLOC.out.gr.size
            have HLEN := Lib.hid (countM_len j)
            have HSUC := Lib.hid (countM_succ j)
            have l0 := blk_cell HL1.out.loc 1
            simp at l0
            generalize countM j = ps at HL1 HLEN HSUC l0
            clear hb s0 s1
            go_wp2_with (at_builtin; refine wpList_append_own _ rfl _ _ 26 rfl wz.heap.size 3 i0 (.int .i64 0) 1 8 Try.underlying26 hi0 hz0 hz1 hz2 rfl (by decide) _ ps.length (ps.map (Value.int .i64)) rfl (own_keep HL1.out.own (below_alloc w1 _)) ⟨w1.heap.size, 0, none⟩ 1 1 ([(j : Int)].map (Value.int .i64)) rfl (by simp) (led_new w1 (j : Int)) (ints_one _) (by rw [HLEN.out, maxLen_eq]; omega) (by rw [HLEN.out]; omega) (by simp; omega) ?_)
            intro v6 w6 hv6 hg6 _
            have HO6 := Lib.hid (led_app (rs := [(j : Int)]) rfl hv6)
            obtain ⟨A6, c6, rfl, -⟩ := own_reads hv6
            have HN := Lib.hid (HL1.out.push (cs' := #[.slice Au (countM k).length cu, .slice A6 (ps.length + 1) c6]) hg6 HO6.out 1 rfl)
            have hl6 := HL1.out.grown hg6
            have q0 := blk_cell hl6 1
            have qf := blk_free hl6 1
            simp at q0
            clear hv6 hg6 hl6 l0
            go_wp2
            go_roundw
            case rel => exact ⟨j + 1, _, by omega, by go_num, by rw [HSUC.out]; exact HN.out⟩
            case measure => simp [intOf]; omega
          · have hlt3 : ¬ (j : Int) < (s.ops.length : Int) := by omega
            have hjn : j = s.ops.length := by omega
            have OU2 := Lib.hid (HLOC.out.other OU.out hlt4)
            have OV := Lib.hid HLOC.out.own
            have AP := Lib.hid (HLOC.out.apart OU.out)
            have HL4' := Lib.hid HLOC.out.loc
            have HB := Lib.hid (sz_keep HB0.out HBW.out)
            have HZ4 := Lib.hid (blk_keep HZ0.out HBW.out)
            have HE2 := Lib.hid (show selfM s = ⟨countM k, countM j⟩ by rw [HE.out, HKS.out, hjn])
            clear hjn
            have l0 := blk_cell HL4'.out 0
            have l1 := blk_cell HL4'.out 1
            simp at l0 l1
            have j0 := blk_cell HZ4.out 0
            have j1 := blk_cell HZ4.out 1
            have jf0 := blk_free HZ4.out 0
            have jf1 := blk_free HZ4.out 1
            simp at j0 j1
            go_wp2
            have d1 := blk_set (blk_set (HZ4.out) 0 (.slice Au (countM k).length cu)) 1 (.slice Av (countM j).length cv)
            have n0 := ((OU2.out.setLow (b := w.heap.size + 1) (by omega) 0 (.slice Au (countM k).length cu)).setLow (b := w.heap.size + 1) (by omega) 1 (.slice Av (countM j).length cv))
            have n1 := ((OV.out.setLow (b := w.heap.size + 1) (by omega) 0 (.slice Au (countM k).length cu)).setLow (b := w.heap.size + 1) (by omega) 1 (.slice Av (countM j).length cv))
            have hbz := ((HB.out.setCell (p := ⟨w.heap.size + 1, 0, none⟩) (by show w.heap.size ≤ w.heap.size + 1; omega) (.slice Au (countM k).length cu)).setCell (p := ⟨w.heap.size + 1, 1, none⟩) (by show w.heap.size ≤ w.heap.size + 1; omega) (.slice Av (countM j).length cv))
            generalize (wr.setCell ⟨w.heap.size + 1, 0, none⟩ (.slice Au (countM k).length cu)).setCell ⟨w.heap.size + 1, 1, none⟩ (.slice Av (countM j).length cv) = wz at d1 hbz n0 n1 ⊢
            have k0 := blk_cell d1 0
            have k1 := blk_cell d1 1
            simp at k0 k1
            clear j0 j1 jf0 jf1 l0 l1 s0 s1
            refine bodyPost_ret (v := .agg #[.slice Au (countM k).length cu, .slice Av (countM j).length cv]) (by simp [results, Try.results88, go_sem, k0, k1]) rfl ?_
            exact ⟨_, rfl, by rw [HE2.out]; exact ⟨_, _, rfl, n0.base (by omega), n1.base (by omega), AP.out⟩, hbz⟩
set_option maxHeartbeats 3200000 in
set_option maxRecDepth 100000 in
theorem specMapThen_any (a b c : MSig) (m n : MMap) (w : World) (va vb vc vm vn : Value) (h1 : RSig w va a) (h2 : RSig w vb b) (h3 : RSig w vc c) (h4 : RMap w vm m) (h5 : RMap w vn n) :
    Calls Try.prog 16 #[va, vb, vc, vm, vn] w fun e w' => ∃ u, e = .returned (.tuple #[u, .bool (thenM a b c m n).2]) ∧ OMap w' w.heap.size u (thenM a b c m n).1 ∧ Below w.heap.size w w' := by
  obtain ⟨Aaa, caa, rfl⟩ := h1.form
  obtain ⟨Aba, cba, rfl⟩ := h2.form
  obtain ⟨Aca, cca, rfl⟩ := h3.form
  obtain ⟨Ama, cma, Amb, cmb, rfl⟩ := h4.form
  obtain ⟨Ana, cna, Anb, cnb, rfl⟩ := h5.form
  have hb : Below w.heap.size w ((((((w.alloc (.cells #[.int .i64 a.sorts, .slice Aaa a.ops.length caa] 25)).alloc (.cells #[.int .i64 b.sorts, .slice Aba b.ops.length cba] 25)).alloc (.cells #[.int .i64 c.sorts, .slice Aca c.ops.length cca] 25)).alloc (.cells #[.slice Ama m.sorts.length cma, .slice Amb m.ops.length cmb] 28)).alloc (.cells #[.slice Ana n.sorts.length cna, .slice Anb n.ops.length cnb] 28)).alloc (.cells #[.slice none 0 0, .slice none 0 0] 28)) := (((((below_alloc _ _).alloc (by simp) _).alloc (by simp; omega) _).alloc (by simp; omega) _).alloc (by simp; omega) _).alloc (by simp; omega) _
  have HB := Lib.hid hb
  have hsz : ((((((w.alloc (.cells #[.int .i64 a.sorts, .slice Aaa a.ops.length caa] 25)).alloc (.cells #[.int .i64 b.sorts, .slice Aba b.ops.length cba] 25)).alloc (.cells #[.int .i64 c.sorts, .slice Aca c.ops.length cca] 25)).alloc (.cells #[.slice Ama m.sorts.length cma, .slice Amb m.ops.length cmb] 28)).alloc (.cells #[.slice Ana n.sorts.length cna, .slice Anb n.ops.length cnb] 28)).alloc (.cells #[.slice none 0 0, .slice none 0 0] 28)).heap.size = w.heap.size + 6 := by simp
  have Ha := Lib.hid (h1.keep hb)
  have a0 := cell_keep (below_alloc (((((w.alloc (.cells #[.int .i64 a.sorts, .slice Aaa a.ops.length caa] 25)).alloc (.cells #[.int .i64 b.sorts, .slice Aba b.ops.length cba] 25)).alloc (.cells #[.int .i64 c.sorts, .slice Aca c.ops.length cca] 25)).alloc (.cells #[.slice Ama m.sorts.length cma, .slice Amb m.ops.length cmb] 28)).alloc (.cells #[.slice Ana n.sorts.length cna, .slice Anb n.ops.length cnb] 28)) (.cells #[.slice none 0 0, .slice none 0 0] 28)) (cell_keep (below_alloc ((((w.alloc (.cells #[.int .i64 a.sorts, .slice Aaa a.ops.length caa] 25)).alloc (.cells #[.int .i64 b.sorts, .slice Aba b.ops.length cba] 25)).alloc (.cells #[.int .i64 c.sorts, .slice Aca c.ops.length cca] 25)).alloc (.cells #[.slice Ama m.sorts.length cma, .slice Amb m.ops.length cmb] 28)) (.cells #[.slice Ana n.sorts.length cna, .slice Anb n.ops.length cnb] 28)) (cell_keep (below_alloc (((w.alloc (.cells #[.int .i64 a.sorts, .slice Aaa a.ops.length caa] 25)).alloc (.cells #[.int .i64 b.sorts, .slice Aba b.ops.length cba] 25)).alloc (.cells #[.int .i64 c.sorts, .slice Aca c.ops.length cca] 25)) (.cells #[.slice Ama m.sorts.length cma, .slice Amb m.ops.length cmb] 28)) (cell_keep (below_alloc ((w.alloc (.cells #[.int .i64 a.sorts, .slice Aaa a.ops.length caa] 25)).alloc (.cells #[.int .i64 b.sorts, .slice Aba b.ops.length cba] 25)) (.cells #[.int .i64 c.sorts, .slice Aca c.ops.length cca] 25)) (cell_keep (below_alloc (w.alloc (.cells #[.int .i64 a.sorts, .slice Aaa a.ops.length caa] 25)) (.cells #[.int .i64 b.sorts, .slice Aba b.ops.length cba] 25)) (bx_at (w) #[.int .i64 a.sorts, .slice Aaa a.ops.length caa] 25 (k := 0) rfl)))))
  have a1 := cell_keep (below_alloc (((((w.alloc (.cells #[.int .i64 a.sorts, .slice Aaa a.ops.length caa] 25)).alloc (.cells #[.int .i64 b.sorts, .slice Aba b.ops.length cba] 25)).alloc (.cells #[.int .i64 c.sorts, .slice Aca c.ops.length cca] 25)).alloc (.cells #[.slice Ama m.sorts.length cma, .slice Amb m.ops.length cmb] 28)).alloc (.cells #[.slice Ana n.sorts.length cna, .slice Anb n.ops.length cnb] 28)) (.cells #[.slice none 0 0, .slice none 0 0] 28)) (cell_keep (below_alloc ((((w.alloc (.cells #[.int .i64 a.sorts, .slice Aaa a.ops.length caa] 25)).alloc (.cells #[.int .i64 b.sorts, .slice Aba b.ops.length cba] 25)).alloc (.cells #[.int .i64 c.sorts, .slice Aca c.ops.length cca] 25)).alloc (.cells #[.slice Ama m.sorts.length cma, .slice Amb m.ops.length cmb] 28)) (.cells #[.slice Ana n.sorts.length cna, .slice Anb n.ops.length cnb] 28)) (cell_keep (below_alloc (((w.alloc (.cells #[.int .i64 a.sorts, .slice Aaa a.ops.length caa] 25)).alloc (.cells #[.int .i64 b.sorts, .slice Aba b.ops.length cba] 25)).alloc (.cells #[.int .i64 c.sorts, .slice Aca c.ops.length cca] 25)) (.cells #[.slice Ama m.sorts.length cma, .slice Amb m.ops.length cmb] 28)) (cell_keep (below_alloc ((w.alloc (.cells #[.int .i64 a.sorts, .slice Aaa a.ops.length caa] 25)).alloc (.cells #[.int .i64 b.sorts, .slice Aba b.ops.length cba] 25)) (.cells #[.int .i64 c.sorts, .slice Aca c.ops.length cca] 25)) (cell_keep (below_alloc (w.alloc (.cells #[.int .i64 a.sorts, .slice Aaa a.ops.length caa] 25)) (.cells #[.int .i64 b.sorts, .slice Aba b.ops.length cba] 25)) (bx_at (w) #[.int .i64 a.sorts, .slice Aaa a.ops.length caa] 25 (k := 1) rfl)))))
  have Hb := Lib.hid (h2.keep hb)
  have b0 := cell_keep (below_alloc (((((w.alloc (.cells #[.int .i64 a.sorts, .slice Aaa a.ops.length caa] 25)).alloc (.cells #[.int .i64 b.sorts, .slice Aba b.ops.length cba] 25)).alloc (.cells #[.int .i64 c.sorts, .slice Aca c.ops.length cca] 25)).alloc (.cells #[.slice Ama m.sorts.length cma, .slice Amb m.ops.length cmb] 28)).alloc (.cells #[.slice Ana n.sorts.length cna, .slice Anb n.ops.length cnb] 28)) (.cells #[.slice none 0 0, .slice none 0 0] 28)) (cell_keep (below_alloc ((((w.alloc (.cells #[.int .i64 a.sorts, .slice Aaa a.ops.length caa] 25)).alloc (.cells #[.int .i64 b.sorts, .slice Aba b.ops.length cba] 25)).alloc (.cells #[.int .i64 c.sorts, .slice Aca c.ops.length cca] 25)).alloc (.cells #[.slice Ama m.sorts.length cma, .slice Amb m.ops.length cmb] 28)) (.cells #[.slice Ana n.sorts.length cna, .slice Anb n.ops.length cnb] 28)) (cell_keep (below_alloc (((w.alloc (.cells #[.int .i64 a.sorts, .slice Aaa a.ops.length caa] 25)).alloc (.cells #[.int .i64 b.sorts, .slice Aba b.ops.length cba] 25)).alloc (.cells #[.int .i64 c.sorts, .slice Aca c.ops.length cca] 25)) (.cells #[.slice Ama m.sorts.length cma, .slice Amb m.ops.length cmb] 28)) (cell_keep (below_alloc ((w.alloc (.cells #[.int .i64 a.sorts, .slice Aaa a.ops.length caa] 25)).alloc (.cells #[.int .i64 b.sorts, .slice Aba b.ops.length cba] 25)) (.cells #[.int .i64 c.sorts, .slice Aca c.ops.length cca] 25)) (bx_at (w.alloc (.cells #[.int .i64 a.sorts, .slice Aaa a.ops.length caa] 25)) #[.int .i64 b.sorts, .slice Aba b.ops.length cba] 25 (k := 0) rfl))))
  have b1 := cell_keep (below_alloc (((((w.alloc (.cells #[.int .i64 a.sorts, .slice Aaa a.ops.length caa] 25)).alloc (.cells #[.int .i64 b.sorts, .slice Aba b.ops.length cba] 25)).alloc (.cells #[.int .i64 c.sorts, .slice Aca c.ops.length cca] 25)).alloc (.cells #[.slice Ama m.sorts.length cma, .slice Amb m.ops.length cmb] 28)).alloc (.cells #[.slice Ana n.sorts.length cna, .slice Anb n.ops.length cnb] 28)) (.cells #[.slice none 0 0, .slice none 0 0] 28)) (cell_keep (below_alloc ((((w.alloc (.cells #[.int .i64 a.sorts, .slice Aaa a.ops.length caa] 25)).alloc (.cells #[.int .i64 b.sorts, .slice Aba b.ops.length cba] 25)).alloc (.cells #[.int .i64 c.sorts, .slice Aca c.ops.length cca] 25)).alloc (.cells #[.slice Ama m.sorts.length cma, .slice Amb m.ops.length cmb] 28)) (.cells #[.slice Ana n.sorts.length cna, .slice Anb n.ops.length cnb] 28)) (cell_keep (below_alloc (((w.alloc (.cells #[.int .i64 a.sorts, .slice Aaa a.ops.length caa] 25)).alloc (.cells #[.int .i64 b.sorts, .slice Aba b.ops.length cba] 25)).alloc (.cells #[.int .i64 c.sorts, .slice Aca c.ops.length cca] 25)) (.cells #[.slice Ama m.sorts.length cma, .slice Amb m.ops.length cmb] 28)) (cell_keep (below_alloc ((w.alloc (.cells #[.int .i64 a.sorts, .slice Aaa a.ops.length caa] 25)).alloc (.cells #[.int .i64 b.sorts, .slice Aba b.ops.length cba] 25)) (.cells #[.int .i64 c.sorts, .slice Aca c.ops.length cca] 25)) (bx_at (w.alloc (.cells #[.int .i64 a.sorts, .slice Aaa a.ops.length caa] 25)) #[.int .i64 b.sorts, .slice Aba b.ops.length cba] 25 (k := 1) rfl))))
  have Hc := Lib.hid (h3.keep hb)
  have c0 := cell_keep (below_alloc (((((w.alloc (.cells #[.int .i64 a.sorts, .slice Aaa a.ops.length caa] 25)).alloc (.cells #[.int .i64 b.sorts, .slice Aba b.ops.length cba] 25)).alloc (.cells #[.int .i64 c.sorts, .slice Aca c.ops.length cca] 25)).alloc (.cells #[.slice Ama m.sorts.length cma, .slice Amb m.ops.length cmb] 28)).alloc (.cells #[.slice Ana n.sorts.length cna, .slice Anb n.ops.length cnb] 28)) (.cells #[.slice none 0 0, .slice none 0 0] 28)) (cell_keep (below_alloc ((((w.alloc (.cells #[.int .i64 a.sorts, .slice Aaa a.ops.length caa] 25)).alloc (.cells #[.int .i64 b.sorts, .slice Aba b.ops.length cba] 25)).alloc (.cells #[.int .i64 c.sorts, .slice Aca c.ops.length cca] 25)).alloc (.cells #[.slice Ama m.sorts.length cma, .slice Amb m.ops.length cmb] 28)) (.cells #[.slice Ana n.sorts.length cna, .slice Anb n.ops.length cnb] 28)) (cell_keep (below_alloc (((w.alloc (.cells #[.int .i64 a.sorts, .slice Aaa a.ops.length caa] 25)).alloc (.cells #[.int .i64 b.sorts, .slice Aba b.ops.length cba] 25)).alloc (.cells #[.int .i64 c.sorts, .slice Aca c.ops.length cca] 25)) (.cells #[.slice Ama m.sorts.length cma, .slice Amb m.ops.length cmb] 28)) (bx_at ((w.alloc (.cells #[.int .i64 a.sorts, .slice Aaa a.ops.length caa] 25)).alloc (.cells #[.int .i64 b.sorts, .slice Aba b.ops.length cba] 25)) #[.int .i64 c.sorts, .slice Aca c.ops.length cca] 25 (k := 0) rfl)))
  have c1 := cell_keep (below_alloc (((((w.alloc (.cells #[.int .i64 a.sorts, .slice Aaa a.ops.length caa] 25)).alloc (.cells #[.int .i64 b.sorts, .slice Aba b.ops.length cba] 25)).alloc (.cells #[.int .i64 c.sorts, .slice Aca c.ops.length cca] 25)).alloc (.cells #[.slice Ama m.sorts.length cma, .slice Amb m.ops.length cmb] 28)).alloc (.cells #[.slice Ana n.sorts.length cna, .slice Anb n.ops.length cnb] 28)) (.cells #[.slice none 0 0, .slice none 0 0] 28)) (cell_keep (below_alloc ((((w.alloc (.cells #[.int .i64 a.sorts, .slice Aaa a.ops.length caa] 25)).alloc (.cells #[.int .i64 b.sorts, .slice Aba b.ops.length cba] 25)).alloc (.cells #[.int .i64 c.sorts, .slice Aca c.ops.length cca] 25)).alloc (.cells #[.slice Ama m.sorts.length cma, .slice Amb m.ops.length cmb] 28)) (.cells #[.slice Ana n.sorts.length cna, .slice Anb n.ops.length cnb] 28)) (cell_keep (below_alloc (((w.alloc (.cells #[.int .i64 a.sorts, .slice Aaa a.ops.length caa] 25)).alloc (.cells #[.int .i64 b.sorts, .slice Aba b.ops.length cba] 25)).alloc (.cells #[.int .i64 c.sorts, .slice Aca c.ops.length cca] 25)) (.cells #[.slice Ama m.sorts.length cma, .slice Amb m.ops.length cmb] 28)) (bx_at ((w.alloc (.cells #[.int .i64 a.sorts, .slice Aaa a.ops.length caa] 25)).alloc (.cells #[.int .i64 b.sorts, .slice Aba b.ops.length cba] 25)) #[.int .i64 c.sorts, .slice Aca c.ops.length cca] 25 (k := 1) rfl)))
  have Hm := Lib.hid (h4.keep hb)
  have m0 := cell_keep (below_alloc (((((w.alloc (.cells #[.int .i64 a.sorts, .slice Aaa a.ops.length caa] 25)).alloc (.cells #[.int .i64 b.sorts, .slice Aba b.ops.length cba] 25)).alloc (.cells #[.int .i64 c.sorts, .slice Aca c.ops.length cca] 25)).alloc (.cells #[.slice Ama m.sorts.length cma, .slice Amb m.ops.length cmb] 28)).alloc (.cells #[.slice Ana n.sorts.length cna, .slice Anb n.ops.length cnb] 28)) (.cells #[.slice none 0 0, .slice none 0 0] 28)) (cell_keep (below_alloc ((((w.alloc (.cells #[.int .i64 a.sorts, .slice Aaa a.ops.length caa] 25)).alloc (.cells #[.int .i64 b.sorts, .slice Aba b.ops.length cba] 25)).alloc (.cells #[.int .i64 c.sorts, .slice Aca c.ops.length cca] 25)).alloc (.cells #[.slice Ama m.sorts.length cma, .slice Amb m.ops.length cmb] 28)) (.cells #[.slice Ana n.sorts.length cna, .slice Anb n.ops.length cnb] 28)) (bx_at (((w.alloc (.cells #[.int .i64 a.sorts, .slice Aaa a.ops.length caa] 25)).alloc (.cells #[.int .i64 b.sorts, .slice Aba b.ops.length cba] 25)).alloc (.cells #[.int .i64 c.sorts, .slice Aca c.ops.length cca] 25)) #[.slice Ama m.sorts.length cma, .slice Amb m.ops.length cmb] 28 (k := 0) rfl))
  have m1 := cell_keep (below_alloc (((((w.alloc (.cells #[.int .i64 a.sorts, .slice Aaa a.ops.length caa] 25)).alloc (.cells #[.int .i64 b.sorts, .slice Aba b.ops.length cba] 25)).alloc (.cells #[.int .i64 c.sorts, .slice Aca c.ops.length cca] 25)).alloc (.cells #[.slice Ama m.sorts.length cma, .slice Amb m.ops.length cmb] 28)).alloc (.cells #[.slice Ana n.sorts.length cna, .slice Anb n.ops.length cnb] 28)) (.cells #[.slice none 0 0, .slice none 0 0] 28)) (cell_keep (below_alloc ((((w.alloc (.cells #[.int .i64 a.sorts, .slice Aaa a.ops.length caa] 25)).alloc (.cells #[.int .i64 b.sorts, .slice Aba b.ops.length cba] 25)).alloc (.cells #[.int .i64 c.sorts, .slice Aca c.ops.length cca] 25)).alloc (.cells #[.slice Ama m.sorts.length cma, .slice Amb m.ops.length cmb] 28)) (.cells #[.slice Ana n.sorts.length cna, .slice Anb n.ops.length cnb] 28)) (bx_at (((w.alloc (.cells #[.int .i64 a.sorts, .slice Aaa a.ops.length caa] 25)).alloc (.cells #[.int .i64 b.sorts, .slice Aba b.ops.length cba] 25)).alloc (.cells #[.int .i64 c.sorts, .slice Aca c.ops.length cca] 25)) #[.slice Ama m.sorts.length cma, .slice Amb m.ops.length cmb] 28 (k := 1) rfl))
  have Hn := Lib.hid (h5.keep hb)
  have n0 := cell_keep (below_alloc (((((w.alloc (.cells #[.int .i64 a.sorts, .slice Aaa a.ops.length caa] 25)).alloc (.cells #[.int .i64 b.sorts, .slice Aba b.ops.length cba] 25)).alloc (.cells #[.int .i64 c.sorts, .slice Aca c.ops.length cca] 25)).alloc (.cells #[.slice Ama m.sorts.length cma, .slice Amb m.ops.length cmb] 28)).alloc (.cells #[.slice Ana n.sorts.length cna, .slice Anb n.ops.length cnb] 28)) (.cells #[.slice none 0 0, .slice none 0 0] 28)) (bx_at ((((w.alloc (.cells #[.int .i64 a.sorts, .slice Aaa a.ops.length caa] 25)).alloc (.cells #[.int .i64 b.sorts, .slice Aba b.ops.length cba] 25)).alloc (.cells #[.int .i64 c.sorts, .slice Aca c.ops.length cca] 25)).alloc (.cells #[.slice Ama m.sorts.length cma, .slice Amb m.ops.length cmb] 28)) #[.slice Ana n.sorts.length cna, .slice Anb n.ops.length cnb] 28 (k := 0) rfl)
  have n1 := cell_keep (below_alloc (((((w.alloc (.cells #[.int .i64 a.sorts, .slice Aaa a.ops.length caa] 25)).alloc (.cells #[.int .i64 b.sorts, .slice Aba b.ops.length cba] 25)).alloc (.cells #[.int .i64 c.sorts, .slice Aca c.ops.length cca] 25)).alloc (.cells #[.slice Ama m.sorts.length cma, .slice Amb m.ops.length cmb] 28)).alloc (.cells #[.slice Ana n.sorts.length cna, .slice Anb n.ops.length cnb] 28)) (.cells #[.slice none 0 0, .slice none 0 0] 28)) (bx_at ((((w.alloc (.cells #[.int .i64 a.sorts, .slice Aaa a.ops.length caa] 25)).alloc (.cells #[.int .i64 b.sorts, .slice Aba b.ops.length cba] 25)).alloc (.cells #[.int .i64 c.sorts, .slice Aca c.ops.length cca] 25)).alloc (.cells #[.slice Ama m.sorts.length cma, .slice Amb m.ops.length cmb] 28)) #[.slice Ana n.sorts.length cna, .slice Anb n.ops.length cnb] 28 (k := 1) rfl)
  have HZr := Lib.hid (show ((((((w.alloc (.cells #[.int .i64 a.sorts, .slice Aaa a.ops.length caa] 25)).alloc (.cells #[.int .i64 b.sorts, .slice Aba b.ops.length cba] 25)).alloc (.cells #[.int .i64 c.sorts, .slice Aca c.ops.length cca] 25)).alloc (.cells #[.slice Ama m.sorts.length cma, .slice Amb m.ops.length cmb] 28)).alloc (.cells #[.slice Ana n.sorts.length cna, .slice Anb n.ops.length cnb] 28)).alloc (.cells #[.slice none 0 0, .slice none 0 0] 28)).heap[w.heap.size + 1 + 1 + 1 + 1 + 1]? = some (.cells #[.slice none 0 0, .slice none 0 0] 28 (0, 0)) from (congrArg (fun i => ((((((w.alloc (.cells #[.int .i64 a.sorts, .slice Aaa a.ops.length caa] 25)).alloc (.cells #[.int .i64 b.sorts, .slice Aba b.ops.length cba] 25)).alloc (.cells #[.int .i64 c.sorts, .slice Aca c.ops.length cca] 25)).alloc (.cells #[.slice Ama m.sorts.length cma, .slice Amb m.ops.length cmb] 28)).alloc (.cells #[.slice Ana n.sorts.length cna, .slice Anb n.ops.length cnb] 28)).alloc (.cells #[.slice none 0 0, .slice none 0 0] 28)).heap[i]?) (by simp)).trans (heap_alloc_new (((((w.alloc (.cells #[.int .i64 a.sorts, .slice Aaa a.ops.length caa] 25)).alloc (.cells #[.int .i64 b.sorts, .slice Aba b.ops.length cba] 25)).alloc (.cells #[.int .i64 c.sorts, .slice Aca c.ops.length cca] 25)).alloc (.cells #[.slice Ama m.sorts.length cma, .slice Amb m.ops.length cmb] 28)).alloc (.cells #[.slice Ana n.sorts.length cna, .slice Anb n.ops.length cnb] 28)) _))
  simp only [World.size_alloc] at b0 b1 c0 c1 m0 m1 n0 n1
  generalize hW : (((((w.alloc (.cells #[.int .i64 a.sorts, .slice Aaa a.ops.length caa] 25)).alloc (.cells #[.int .i64 b.sorts, .slice Aba b.ops.length cba] 25)).alloc (.cells #[.int .i64 c.sorts, .slice Aca c.ops.length cca] 25)).alloc (.cells #[.slice Ama m.sorts.length cma, .slice Amb m.ops.length cmb] 28)).alloc (.cells #[.slice Ana n.sorts.length cna, .slice Anb n.ops.length cnb] 28)).alloc (.cells #[.slice none 0 0, .slice none 0 0] 28) = W at HB hsz Ha a0 a1 Hb b0 b1 Hc c0 c1 Hm m0 m1 Hn n0 n1 HZr
  clear hb h1 h2 h3 h4 h5
  have hl1 := Hm.out.of.1.len
  have hl2 := Hm.out.of.2.len
  have hl3 := Hn.out.of.1.len
  have hl4 := Hn.out.of.2.len
  cases hm : mapOkB a b m with
  | false =>
    have HM := Lib.hid hm
    have HE := Lib.hid (show thenM a b c m n = (noMap, false) by unfold thenM; rw [hm]; rfl)
    clear hm
    go_enter Try.func16, Try.ntmps16
    go_wp2_with fail
    clear hW
    refine (specMapOk_any a b m _ _ _ _ Ha.out Hb.out Hm.out).mono ?_
    rw [HM.out]
    rintro e w1 ⟨rfl, hb⟩
    replace HB := Lib.hid (sz_keep HB.out hb)
    replace HZr := Lib.hid (blk_keep HZr.out hb)
    clear hb
    clear a0 a1 b0 b1 c0 c1 m0 m1 n0 n1
    have j0 := blk_cell HZr.out 0
    have j1 := blk_cell HZr.out 1
    have jf0 := blk_free HZr.out 0
    have jf1 := blk_free HZr.out 1
    simp at j0 j1
    go_wp2
    have d1 := blk_set (blk_set (HZr.out) 0 (.slice none 0 0)) 1 (.slice none 0 0)
    have hbz := ((HB.out.setCell (p := ⟨w.heap.size + 1 + 1 + 1 + 1 + 1, 0, none⟩) (by show w.heap.size ≤ w.heap.size + 1 + 1 + 1 + 1 + 1; omega) (.slice none 0 0)).setCell (p := ⟨w.heap.size + 1 + 1 + 1 + 1 + 1, 1, none⟩) (by show w.heap.size ≤ w.heap.size + 1 + 1 + 1 + 1 + 1; omega) (.slice none 0 0))
    generalize (w1.setCell ⟨w.heap.size + 1 + 1 + 1 + 1 + 1, 0, none⟩ (.slice none 0 0)).setCell ⟨w.heap.size + 1 + 1 + 1 + 1 + 1, 1, none⟩ (.slice none 0 0) = wz at d1 hbz  ⊢
    have k0 := blk_cell d1 0
    have k1 := blk_cell d1 1
    simp at k0 k1
    clear j0 j1 jf0 jf1
    refine bodyPost_ret (v := .tuple #[.agg #[.slice none 0 0, .slice none 0 0], .bool false]) (by simp [results, Try.results16, go_sem, k0, k1]) rfl ?_
    exact ⟨_, by rw [HE.out], by rw [HE.out]; exact nil_map _ _, hbz⟩
  | true =>
    have HM := Lib.hid hm
    clear hm
    cases hn : mapOkB b c n with
    | false =>
      have HN := Lib.hid hn
      have HE := Lib.hid (show thenM a b c m n = (noMap, false) by unfold thenM; rw [hn, Bool.and_false]; rfl)
      clear hn
      go_enter Try.func16, Try.ntmps16
      go_wp2_with fail
      clear hW
      refine (specMapOk_any a b m _ _ _ _ Ha.out Hb.out Hm.out).mono ?_
      rw [HM.out]
      rintro e w1 ⟨rfl, hb⟩
      clear a0 a1 m0 m1
      replace HB := Lib.hid (sz_keep HB.out hb)
      replace b0 := cell_keep hb b0
      replace b1 := cell_keep hb b1
      replace c0 := cell_keep hb c0
      replace c1 := cell_keep hb c1
      replace n0 := cell_keep hb n0
      replace n1 := cell_keep hb n1
      replace Hb := Lib.hid (Hb.out.keep hb)
      replace Hc := Lib.hid (Hc.out.keep hb)
      replace Hn := Lib.hid (Hn.out.keep hb)
      replace HZr := Lib.hid (blk_keep HZr.out hb)
      clear hb
      go_wp2_with fail
      refine (specMapOk_any b c n _ _ _ _ Hb.out Hc.out Hn.out).mono ?_
      rw [HN.out]
      rintro e w2 ⟨rfl, hb⟩
      replace HB := Lib.hid (sz_keep HB.out hb)
      replace HZr := Lib.hid (blk_keep HZr.out hb)
      clear hb
      clear b0 b1 c0 c1 n0 n1
      have j0 := blk_cell HZr.out 0
      have j1 := blk_cell HZr.out 1
      have jf0 := blk_free HZr.out 0
      have jf1 := blk_free HZr.out 1
      simp at j0 j1
      go_wp2
      have d1 := blk_set (blk_set (HZr.out) 0 (.slice none 0 0)) 1 (.slice none 0 0)
      have hbz := ((HB.out.setCell (p := ⟨w.heap.size + 1 + 1 + 1 + 1 + 1, 0, none⟩) (by show w.heap.size ≤ w.heap.size + 1 + 1 + 1 + 1 + 1; omega) (.slice none 0 0)).setCell (p := ⟨w.heap.size + 1 + 1 + 1 + 1 + 1, 1, none⟩) (by show w.heap.size ≤ w.heap.size + 1 + 1 + 1 + 1 + 1; omega) (.slice none 0 0))
      generalize (w2.setCell ⟨w.heap.size + 1 + 1 + 1 + 1 + 1, 0, none⟩ (.slice none 0 0)).setCell ⟨w.heap.size + 1 + 1 + 1 + 1 + 1, 1, none⟩ (.slice none 0 0) = wz at d1 hbz  ⊢
      have k0 := blk_cell d1 0
      have k1 := blk_cell d1 1
      simp at k0 k1
      clear j0 j1 jf0 jf1
      refine bodyPost_ret (v := .tuple #[.agg #[.slice none 0 0, .slice none 0 0], .bool false]) (by simp [results, Try.results16, go_sem, k0, k1]) rfl ?_
      exact ⟨_, by rw [HE.out], by rw [HE.out]; exact nil_map _ _, hbz⟩
    | true =>
      have HN := Lib.hid hn
      have HE := Lib.hid (show thenM a b c m n = (⟨ledM n.sorts m.sorts, ledM n.ops m.ops⟩, true) by unfold thenM; rw [HM.out, hn]; rfl)
      have HF := Lib.hid (mapOk_facts HM.out)
      have HG := Lib.hid (mapOk_facts hn)
      have hsm := valid_sorts HF.out.va
      have hsn := valid_sorts HG.out.va
      have hml := HF.out.sl
      have hmo := HF.out.ol
      have hb1 : m.sorts.length ≤ 3 := by omega
      have hb2 : m.ops.length ≤ 6 := by omega
      clear hn hsm hsn hml hmo
      go_enter Try.func16, Try.ntmps16
      go_wp2_with fail
      clear hW
      refine (specMapOk_any a b m _ _ _ _ Ha.out Hb.out Hm.out).mono ?_
      rw [HM.out]
      rintro e w1 ⟨rfl, hb⟩
      clear a0 a1
      replace HB := Lib.hid (sz_keep HB.out hb)
      replace b0 := cell_keep hb b0
      replace b1 := cell_keep hb b1
      replace c0 := cell_keep hb c0
      replace c1 := cell_keep hb c1
      replace m0 := cell_keep hb m0
      replace m1 := cell_keep hb m1
      replace n0 := cell_keep hb n0
      replace n1 := cell_keep hb n1
      replace Hb := Lib.hid (Hb.out.keep hb)
      replace Hc := Lib.hid (Hc.out.keep hb)
      replace Hm := Lib.hid (Hm.out.keep hb)
      replace Hn := Lib.hid (Hn.out.keep hb)
      replace HZr := Lib.hid (blk_keep HZr.out hb)
      clear hb
      go_wp2_with fail
      refine (specMapOk_any b c n _ _ _ _ Hb.out Hc.out Hn.out).mono ?_
      rw [HN.out]
      rintro e w2 ⟨rfl, hb⟩
      clear b0 b1 c0 c1
      replace HB := Lib.hid (sz_keep HB.out hb)
      replace m0 := cell_keep hb m0
      replace m1 := cell_keep hb m1
      replace n0 := cell_keep hb n0
      replace n1 := cell_keep hb n1
      replace Hm := Lib.hid (Hm.out.keep hb)
      replace Hn := Lib.hid (Hn.out.keep hb)
      replace HZr := Lib.hid (blk_keep HZr.out hb)
      clear hb
      obtain ⟨i0, hi0, hz0, hz1, hz2⟩ := info_parts Try.tinfo_int
      have hwr : w.heap.size + 1 + 1 + 1 + 1 + 1 < w2.heap.size := (Array.getElem?_eq_some_iff.1 HZr.out).1
      have HC0 := Lib.hid (And.intro m0 (And.intro m1 (And.intro n0 n1)))
      have hb3 := below_alloc w2 (.cells #[.slice none 0 0, .slice none 0 0] 28)
      have hl3 : (w2.alloc (.cells #[.slice none 0 0, .slice none 0 0] 28)).heap[w2.heap.size]? = some (.cells #[.slice none 0 0, .slice none 0 0] 28 (0, 0)) := heap_alloc_new w2 _
      generalize hW3 : w2.alloc (.cells #[.slice none 0 0, .slice none 0 0] 28) = W3 at hb3 hl3
      have hl4 : ((W3.setCell ⟨w2.heap.size, 0, none⟩ (.slice none 0 0)).setCell ⟨w2.heap.size, 1, none⟩ (.slice none 0 0)).heap[w2.heap.size]? = some (.cells #[.slice none 0 0, .slice none 0 0] 28 (0, 0)) := blk_set (blk_set hl3 0 (.slice none 0 0)) 1 (.slice none 0 0)
      have hb4 : Below w2.heap.size w2 ((W3.setCell ⟨w2.heap.size, 0, none⟩ (.slice none 0 0)).setCell ⟨w2.heap.size, 1, none⟩ (.slice none 0 0)) := (hb3.setCell (p := ⟨w2.heap.size, 0, none⟩) (Nat.le_refl _) _).setCell (p := ⟨w2.heap.size, 1, none⟩) (Nat.le_refl _) _
      have j0 := blk_cell hl3 0
      have j1 := blk_cell hl3 1
      have jf0 := blk_free hl3 0
      have jf1 := blk_free hl3 1
      simp at j0 j1
      generalize hW4 : (W3.setCell ⟨w2.heap.size, 0, none⟩ (.slice none 0 0)).setCell ⟨w2.heap.size, 1, none⟩ (.slice none 0 0) = W4 at hl4 hb4
      have HL4 := Lib.hid hl4
      have HB4 := Lib.hid hb4
      clear hb3 hl3 hl4
      have hlt4 : w2.heap.size < W4.heap.size := (Array.getElem?_eq_some_iff.1 HL4.out).1
      clear hb4
      go_wp2
      clear hW3 hW4 j0 j1 jf0 jf1 m0 m1 n0 n1
      go_loopw [13] (fun i wr => ∃ k : Nat, ∃ u, k ≤ m.sorts.length ∧ i = .int .i64 k ∧ Loc 28 W4 wr w2.heap.size #[u, .slice none 0 0] u (ledM n.sorts (m.sorts.take k))) (fun i _ => m.sorts.length - (intOf i).toNat)
      case atStart => exact ⟨0, _, Nat.zero_le _, rfl, Loc.start HL4.out⟩
      case round =>
        obtain ⟨k, u, hk, rfl, hloc⟩ := hrel
        have HLOC := Lib.hid hloc
        have HBW := Lib.hid (hloc.below HB4.out (Nat.le_refl _))
        obtain ⟨Au, cu, rfl, -⟩ := own_reads hloc.own
        have m0 := cell_keep HBW.out HC0.out.1
        have m1 := cell_keep HBW.out HC0.out.2.1
        have n0 := cell_keep HBW.out HC0.out.2.2.1
        have n1 := cell_keep HBW.out HC0.out.2.2.2
        clear hloc
        by_cases hltk : k < m.sorts.length
        · have hlt' : (k : Int) < (m.sorts.length : Int) := by omega
          obtain ⟨b7, o7, d7, e, hx⟩ := Hm.out.of.1.at_ hltk
          cases e
          have HTK := Lib.hid (ledM_take (tq := n.sorts) hltk)
          have HI := Lib.hid ((HG.out.sorts_in HF.out.sb) _ (List.getElem_mem hltk) (HF.out.ss _ (List.getElem_mem hltk)))
          have HI2 := Lib.hid (HF.out.ss _ (List.getElem_mem hltk))
          generalize m.sorts[k] = x at hx HTK HI HI2
          obtain ⟨q, rfl⟩ : ∃ q : Nat, x = (q : Int) := ⟨x.toNat, by have := HI.out; omega⟩
          have hql : q < n.sorts.length := by have := HI.out; omega
          have hql' : (q : Int) < (n.sorts.length : Int) := by omega
          have hq0 : (0 : Int) ≤ (q : Int) := by omega
          obtain ⟨b8, o8, d8, e, hy⟩ := Hn.out.of.1.at_ hql
          cases e
          have HY := Lib.hid (show (if (q : Int) < 100 then n.sorts.getD (q : Int).toNat 0 else (q : Int)) = n.sorts[q] by rw [if_pos HI2.out, Int.toNat_natCast, getD_at _ hql])
          generalize n.sorts[q] = y at hy HY
          replace hx := cell_keep HBW.out hx
          replace hy := cell_keep HBW.out hy
          have HLEN := Lib.hid (show (ledM n.sorts (m.sorts.take k)).length = k by rw [ledM_len, List.length_take]; omega)
          have l0 := blk_cell HLOC.out.loc 0
          simp at l0
          generalize ledM n.sorts (m.sorts.take k) = ps at HLOC HLEN HTK l0
          have hs1 := HBW.out.size
          have hs3 := HLOC.out.gr.size
          have hp1 : ps.length + 1 ≤ maxLen := by rw [HLEN.out, maxLen_eq]; omega
          have hp2 : (ps.length + 1) * 8 ≤ 140737488355328 := by rw [HLEN.out]; omega
          have HP := Lib.hid (And.intro hp1 hp2)
          have HS3 := Lib.hid (show W4.heap.size ≤ (wr.alloc (.cells #[.int .i64 y] 3)).heap.size by simp; omega)
          have HO1 := Lib.hid (own_keep HLOC.out.own (below_alloc wr (.cells #[.int .i64 y] 3)))
          have HN1 := Lib.hid (led_new wr y)
          have ea := World.block_lt_of_cell? wr _ l0
          have eb := World.block_lt_of_cell? wr _ hx
          have ec := World.block_lt_of_cell? wr _ hy
          have ed := World.block_lt_of_cell? wr _ m0
          have ee := World.block_lt_of_cell? wr _ n0
          simp only at ea eb ec ed ee
          clear hp1 hp2
          go_wp2_with fail
          go_region_law (first
            | (refine step_append_own rfl (.tmp 37) (.tmp 47) 26 rfl W4.heap.size 3 i0 (.int .i64 0) 1 8 Try.underlying26 hi0 hz0 hz1 hz2 rfl (by omega) _ ps.length (ps.map (Value.int .i64)) rfl HO1.out.drew ⟨wr.heap.size, 0, none⟩ 1 1 ([y].map (Value.int .i64)) rfl (by simp) HN1.out (ints_one _) HP.out.1 HP.out.2 HS3.out ?_; intro v6 w6 hv6 hg6; have HO6 := Lib.hid (led_app (rs := [y]) rfl hv6); obtain ⟨A6, c6, rfl, -⟩ := own_reads hv6; have hg7 := grown_undrew hg6; have HN := Lib.hid (HLOC.out.push (cs' := #[.slice A6 (ps.length + 1) c6, .slice none 0 0]) hg7 HO6.out 0 rfl); have hl6 := HLOC.out.grown hg7; have q0 := blk_cell hl6 0; have qf := blk_free hl6 0; simp at q0; clear hv6 hg6 hg7 hl6))
          all_goals
            clear l0 hx hy ea eb ec ed ee q0 qf m0 m1 n0 n1
            go_wp2
            go_roundw
            case rel => exact ⟨k + 1, _, by omega, by go_num, by rw [HTK.out, HY.out]; exact HN.out⟩
            case measure => simp [intOf]; omega
        · have hlt' : ¬ (k : Int) < (m.sorts.length : Int) := by omega
          obtain ⟨wz, rfl⟩ : ∃ wz : World, wz = wr := ⟨_, rfl⟩
          have HTA := Lib.hid (show m.sorts.take k = m.sorts from take_all (by omega))
          rw [HTA.out] at HLOC
          have HLZ := Lib.hid HLOC.out.loc
          have OU := Lib.hid HLOC.out.own
          have HBZ := Lib.hid HBW.out
          have hz4 := HLOC.out.gr.size
          try rw [HTA.out]
          have HUL := Lib.hid (show (ledM n.sorts m.sorts).length = m.sorts.length from ledM_len _ _)
          go_wp2
          clear m0 m1 n0 n1 HBW HLOC
          go_loopw [14] (fun i wr => ∃ j : Nat, ∃ u, j ≤ m.ops.length ∧ i = .int .i64 j ∧ Loc 28 wz wr w2.heap.size #[.slice Au (ledM n.sorts m.sorts).length cu, u] u (ledM n.ops (m.ops.take j))) (fun i _ => m.ops.length - (intOf i).toNat)
          case atStart => exact ⟨0, _, Nat.zero_le _, rfl, Loc.start HLZ.out⟩
          case round =>
            obtain ⟨j, u, hj, rfl, hloc⟩ := hrel
            have HLOC := Lib.hid hloc
            have HBW := Lib.hid (hloc.below HBZ.out (Nat.le_refl _))
            obtain ⟨Av, cv, rfl, -⟩ := own_reads hloc.own
            have m0 := cell_keep HBW.out HC0.out.1
            have m1 := cell_keep HBW.out HC0.out.2.1
            have n0 := cell_keep HBW.out HC0.out.2.2.1
            have n1 := cell_keep HBW.out HC0.out.2.2.2
            clear hloc
            by_cases hltj : j < m.ops.length
            · have hlt' : (j : Int) < (m.ops.length : Int) := by omega
              obtain ⟨b7, o7, d7, e, hx⟩ := Hm.out.of.2.at_ hltj
              cases e
              have HTK := Lib.hid (ledM_take (tq := n.ops) hltj)
              have HI := Lib.hid ((show InTo n.ops m.ops from fun x hx _ => by have := HF.out.ob x hx; rw [HG.out.ol]; exact this) _ (List.getElem_mem hltj) (HF.out.os _ (List.getElem_mem hltj)))
              have HI2 := Lib.hid (HF.out.os _ (List.getElem_mem hltj))
              generalize m.ops[j] = x at hx HTK HI HI2
              obtain ⟨q, rfl⟩ : ∃ q : Nat, x = (q : Int) := ⟨x.toNat, by have := HI.out; omega⟩
              have hql : q < n.ops.length := by have := HI.out; omega
              have hql' : (q : Int) < (n.ops.length : Int) := by omega
              have hq0 : (0 : Int) ≤ (q : Int) := by omega
              obtain ⟨b8, o8, d8, e, hy⟩ := Hn.out.of.2.at_ hql
              cases e
              have HY := Lib.hid (show (if (q : Int) < 100 then n.ops.getD (q : Int).toNat 0 else (q : Int)) = n.ops[q] by rw [if_pos HI2.out, Int.toNat_natCast, getD_at _ hql])
              generalize n.ops[q] = y at hy HY
              replace hx := cell_keep HBW.out hx
              replace hy := cell_keep HBW.out hy
              have HLEN := Lib.hid (show (ledM n.ops (m.ops.take j)).length = j by rw [ledM_len, List.length_take]; omega)
              have l0 := blk_cell HLOC.out.loc 1
              simp at l0
              generalize ledM n.ops (m.ops.take j) = ps at HLOC HLEN HTK l0
              have hs1 := HBW.out.size
              have hs3 := HLOC.out.gr.size
              have hp1 : ps.length + 1 ≤ maxLen := by rw [HLEN.out, maxLen_eq]; omega
              have hp2 : (ps.length + 1) * 8 ≤ 140737488355328 := by rw [HLEN.out]; omega
              have HP := Lib.hid (And.intro hp1 hp2)
              have HS3 := Lib.hid (show wz.heap.size ≤ (wr.alloc (.cells #[.int .i64 y] 3)).heap.size by simp; omega)
              have HO1 := Lib.hid (own_keep HLOC.out.own (below_alloc wr (.cells #[.int .i64 y] 3)))
              have HN1 := Lib.hid (led_new wr y)
              have ea := World.block_lt_of_cell? wr _ l0
              have eb := World.block_lt_of_cell? wr _ hx
              have ec := World.block_lt_of_cell? wr _ hy
              have ed := World.block_lt_of_cell? wr _ m1
              have ee := World.block_lt_of_cell? wr _ n1
              simp only at ea eb ec ed ee
              clear hp1 hp2
              go_wp2_with fail
              go_region_law (first
                | (refine step_append_own rfl (.tmp 58) (.tmp 68) 26 rfl wz.heap.size 3 i0 (.int .i64 0) 1 8 Try.underlying26 hi0 hz0 hz1 hz2 rfl (by omega) _ ps.length (ps.map (Value.int .i64)) rfl HO1.out.drew ⟨wr.heap.size, 0, none⟩ 1 1 ([y].map (Value.int .i64)) rfl (by simp) HN1.out (ints_one _) HP.out.1 HP.out.2 HS3.out ?_; intro v6 w6 hv6 hg6; have HO6 := Lib.hid (led_app (rs := [y]) rfl hv6); obtain ⟨A6, c6, rfl, -⟩ := own_reads hv6; have hg7 := grown_undrew hg6; have HN := Lib.hid (HLOC.out.push (cs' := #[.slice Au (ledM n.sorts m.sorts).length cu, .slice A6 (ps.length + 1) c6]) hg7 HO6.out 1 rfl); have hl6 := HLOC.out.grown hg7; have q0 := blk_cell hl6 1; have qf := blk_free hl6 1; simp at q0; clear hv6 hg6 hg7 hl6))
              all_goals
                clear l0 hx hy ea eb ec ed ee q0 qf m0 m1 n0 n1
                go_wp2
                go_roundw
                case rel => exact ⟨j + 1, _, by omega, by go_num, by rw [HTK.out, HY.out]; exact HN.out⟩
                case measure => simp [intOf]; omega
            · have hlt' : ¬ (j : Int) < (m.ops.length : Int) := by omega
              have HTB := Lib.hid (show m.ops.take j = m.ops from take_all (by omega))
              rw [HTB.out] at HLOC
              try rw [HTB.out]
              have OU2 := Lib.hid (HLOC.out.other OU.out hlt4)
              have OV := Lib.hid HLOC.out.own
              have AP := Lib.hid (HLOC.out.apart OU.out)
              have HL4' := Lib.hid HLOC.out.loc
              replace HB := Lib.hid (sz_keep HB.out HBW.out)
              have HZ4 := Lib.hid (blk_keep HZr.out HBW.out)
              have l0 := blk_cell HL4'.out 0
              have l1 := blk_cell HL4'.out 1
              simp at l0 l1
              have mm := m1
              clear m0 m1 n0 n1
              have j0 := blk_cell HZ4.out 0
              have j1 := blk_cell HZ4.out 1
              have jf0 := blk_free HZ4.out 0
              have jf1 := blk_free HZ4.out 1
              simp at j0 j1
              go_wp2
              have d1 := blk_set (blk_set (HZ4.out) 0 (.slice Au (ledM n.sorts m.sorts).length cu)) 1 (.slice Av (ledM n.ops m.ops).length cv)
              have n0 := ((OU2.out.setLow (b := w.heap.size + 1 + 1 + 1 + 1 + 1) (by omega) 0 (.slice Au (ledM n.sorts m.sorts).length cu)).setLow (b := w.heap.size + 1 + 1 + 1 + 1 + 1) (by omega) 1 (.slice Av (ledM n.ops m.ops).length cv))
              have n1 := ((OV.out.setLow (b := w.heap.size + 1 + 1 + 1 + 1 + 1) (by omega) 0 (.slice Au (ledM n.sorts m.sorts).length cu)).setLow (b := w.heap.size + 1 + 1 + 1 + 1 + 1) (by omega) 1 (.slice Av (ledM n.ops m.ops).length cv))
              have hbz := ((HB.out.setCell (p := ⟨w.heap.size + 1 + 1 + 1 + 1 + 1, 0, none⟩) (by show w.heap.size ≤ w.heap.size + 1 + 1 + 1 + 1 + 1; omega) (.slice Au (ledM n.sorts m.sorts).length cu)).setCell (p := ⟨w.heap.size + 1 + 1 + 1 + 1 + 1, 1, none⟩) (by show w.heap.size ≤ w.heap.size + 1 + 1 + 1 + 1 + 1; omega) (.slice Av (ledM n.ops m.ops).length cv))
              generalize (wr.setCell ⟨w.heap.size + 1 + 1 + 1 + 1 + 1, 0, none⟩ (.slice Au (ledM n.sorts m.sorts).length cu)).setCell ⟨w.heap.size + 1 + 1 + 1 + 1 + 1, 1, none⟩ (.slice Av (ledM n.ops m.ops).length cv) = wz at d1 hbz n0 n1 ⊢
              have k0 := blk_cell d1 0
              have k1 := blk_cell d1 1
              simp at k0 k1
              clear j0 j1 jf0 jf1 l0 l1 mm
              refine bodyPost_ret (v := .tuple #[.agg #[.slice Au (ledM n.sorts m.sorts).length cu, .slice Av (ledM n.ops m.ops).length cv], .bool true]) (by simp [results, Try.results16, go_sem, k0, k1]) rfl ?_
              exact ⟨_, by rw [HE.out], by rw [HE.out]; exact ⟨_, _, rfl, n0.base (by omega), n1.base (by omega), AP.out⟩, hbz⟩
end
end Go.Proofs.Ytkhabmoidpgapab
