/- The draw of a model of a signature (l20ModelOf). -/
import Derived.Test.YticldaddbljleaaK10374910
import Derived.Deep.DeepCutAuto
namespace Go.Proofs.Yticldaddbljleaa
section
open Go.RowKit
set_option linter.unusedVariables false
set_option linter.unusedSimpArgs false


set_option maxHeartbeats 3200000 in
set_option maxRecDepth 100000 in
theorem modelOf_any (s : MSig) (hv : validB s = true) (g p : Nat) (w : World) (v : Value) (B : Nat) (hos : OSig w B v s) (hgB : g < B) (hr : RRd w g p) (hp : p ≤ 100000000) :
    Calls Try.prog 153 #[.pointer (some ⟨g, 0, none⟩), v] w (MdPost s g p w) := by
  have hgl := hr.lt
  have h1 := hos.reads
  have HGB := Lib.hid hgB
  clear hgB
  obtain ⟨Asa, csa, rfl⟩ := h1.form
  have hb : Below w.heap.size w ((w.alloc (.cells #[.int .i64 s.sorts, .slice Asa s.ops.length csa] 25)).alloc (.cells #[.slice none 0 0, .slice none 0 0] 28)) := (below_alloc _ _).alloc (by simp) _
  have HB := Lib.hid hb
  have hsz : ((w.alloc (.cells #[.int .i64 s.sorts, .slice Asa s.ops.length csa] 25)).alloc (.cells #[.slice none 0 0, .slice none 0 0] 28)).heap.size = w.heap.size + 2 := by simp
  have Hs := Lib.hid (h1.keep hb)
  have s0 := cell_keep (below_alloc (w.alloc (.cells #[.int .i64 s.sorts, .slice Asa s.ops.length csa] 25)) (.cells #[.slice none 0 0, .slice none 0 0] 28)) (bx_at (w) #[.int .i64 s.sorts, .slice Asa s.ops.length csa] 25 (k := 0) rfl)
  have s1 := cell_keep (below_alloc (w.alloc (.cells #[.int .i64 s.sorts, .slice Asa s.ops.length csa] 25)) (.cells #[.slice none 0 0, .slice none 0 0] 28)) (bx_at (w) #[.int .i64 s.sorts, .slice Asa s.ops.length csa] 25 (k := 1) rfl)
  have HZr := Lib.hid (show ((w.alloc (.cells #[.int .i64 s.sorts, .slice Asa s.ops.length csa] 25)).alloc (.cells #[.slice none 0 0, .slice none 0 0] 28)).heap[w.heap.size + 1]? = some (.cells #[.slice none 0 0, .slice none 0 0] 28 (0, 0)) from (congrArg (fun i => ((w.alloc (.cells #[.int .i64 s.sorts, .slice Asa s.ops.length csa] 25)).alloc (.cells #[.slice none 0 0, .slice none 0 0] 28)).heap[i]?) (by simp)).trans (heap_alloc_new (w.alloc (.cells #[.int .i64 s.sorts, .slice Asa s.ops.length csa] 25)) _))
  generalize hW : (w.alloc (.cells #[.int .i64 s.sorts, .slice Asa s.ops.length csa] 25)).alloc (.cells #[.slice none 0 0, .slice none 0 0] 28) = W at HB hsz Hs s0 s1 HZr
  clear hb h1
  have HORW := Lib.hid (osig_of hos)
  clear hos
  have HRD := Lib.hid (hr.keep HB.out)
  have HV := Lib.hid (valid_sorts hv)
  have HVV := Lib.hid hv
  obtain ⟨i0, hi0, hz0, hz1', hz2'⟩ := info_parts Try.info_int
  obtain ⟨i1, hj, hy0, hy1, hy2⟩ := info_parts Try.info_ints
  have hb3 := below_alloc W (.cells #[.slice none 0 0, .slice none 0 0] 28)
  have hl3 : (W.alloc (.cells #[.slice none 0 0, .slice none 0 0] 28)).heap[W.heap.size]? = some (.cells #[.slice none 0 0, .slice none 0 0] 28 (0, 0)) := heap_alloc_new W _
  generalize hW3 : W.alloc (.cells #[.slice none 0 0, .slice none 0 0] 28) = W3 at hb3 hl3
  have hl4 : ((W3.setCell ⟨W.heap.size, 0, none⟩ (.slice none 0 0)).setCell ⟨W.heap.size, 1, none⟩ (.slice none 0 0)).heap[W.heap.size]? = some (.cells #[.slice none 0 0, .slice none 0 0] 28 (0, 0)) := blk_set (blk_set hl3 0 (.slice none 0 0)) 1 (.slice none 0 0)
  have hb4 : Below W.heap.size W ((W3.setCell ⟨W.heap.size, 0, none⟩ (.slice none 0 0)).setCell ⟨W.heap.size, 1, none⟩ (.slice none 0 0)) := (hb3.setCell (p := ⟨W.heap.size, 0, none⟩) (Nat.le_refl _) _).setCell (p := ⟨W.heap.size, 1, none⟩) (Nat.le_refl _) _
  have j0 := blk_cell hl3 0
  have j1 := blk_cell hl3 1
  have jf0 := blk_free hl3 0
  have jf1 := blk_free hl3 1
  simp at j0 j1
  have HWS := Lib.hid hsz
  clear hsz hr hv
  generalize hW4 : (W3.setCell ⟨W.heap.size, 0, none⟩ (.slice none 0 0)).setCell ⟨W.heap.size, 1, none⟩ (.slice none 0 0) = W4 at hl4 hb4
  have HL4 := Lib.hid hl4
  have HB4 := Lib.hid hb4
  have hlt4 : W.heap.size < W4.heap.size := (Array.getElem?_eq_some_iff.1 HL4.out).1
  have HG0 := Lib.hid (show g < W.heap.size by have := HWS.out; omega)
  have HM0 : Hid (MdAt W4 W4 W.heap.size g (.slice none 0 0) (.slice none 0 0) [] p) := ⟨hl4, OInts.nil _ _, HRD.out.keep hb4, Two2.refl _ _ _, HG0.out, hlt4, fun z hz => by cases hz⟩
  clear hb3 hl3 hl4 hb4
  have HCX := Lib.hid (And.intro s0 s1)
  go_enter Try.func153, Try.ntmps153
  go_wp2
  clear hW hW3 hW4 j0 j1 jf0 jf1 s0 s1
  go_loopw [6] (fun i wr => ∃ k : Nat, ∃ u zs q, (k : Int) ≤ s.sorts ∧ i = .int .i64 k ∧ MdAt W4 wr W.heap.size g u (.slice none 0 0) zs q ∧ zs.length = k ∧ q ≤ p + k) (fun i _ => s.sorts.toNat - (intOf i).toNat)
  case atStart => exact ⟨0, _, _, _, by have := HV.out; omega, rfl, HM0.out, rfl, Nat.le_refl _⟩
  case round =>
    obtain ⟨k, u, zs, q, hk, rfl, hat, hzl, hq⟩ := hrel
    have HAT := Lib.hid hat
    have HZL := Lib.hid hzl
    obtain ⟨Au, cu, rfl, -⟩ := own_reads hat.own
    have s0 := hat.two.cell (cell_keep HB4.out HCX.out.1) (by have := HWS.out; omega) (by omega)
    have s1 := hat.two.cell (cell_keep HB4.out HCX.out.2) (by have := HWS.out; omega) (by omega)
    clear hat hzl
    by_cases hlt : (k : Int) < s.sorts
    · have hks := HV.out.2.1
      have e0 := blk_cell HAT.out.loc 0
      simp at e0
      have HA0 := Lib.hid HAT.out.drew
      have HGR := Lib.hid (show g < wr.heap.size from HAT.out.rd.lt)
      have HPP := Lib.hid (show zs.length + 1 ≤ maxLen ∧ (zs.length + 1) * 8 ≤ 140737488355328 by rw [maxLen_eq]; have := HZL.out; omega)
      go_wp2_with fail
      clear e0 s0 s1
      have e0 := blk_cell HA0.out.loc 0
      simp at e0
      refine wp_region_held_drew (S := (fun _ => True)) (by kernel_rfl) ?_ (fun hHeld => ?_)
      · exact trivial
      refine wpAnyH_take (i := 0) (oi := _) (v := ?_) rfl (by kernel_rfl) (by kernel_rfl) (by kernel_rfl) (fun _ _ _ h => h) (Or.inl ⟨by rfl, ?_⟩) (by assumption) ?_
      rotate_left
      · first | (intro w' hSw; (try dsimp only at hSw); go_simp; done) | (intro w' hSw; (try dsimp only at hSw); go_simp; with_reducible rfl)
      try simp only [Act.put, List.getElem_toArray, List.getElem_cons_zero, List.getElem_cons_succ, List.setIfInBounds_toArray, List.set_cons_zero, List.set_cons_succ]
      refine wpAnyH_take (i := 3) (oi := _) (v := ?_) rfl (by kernel_rfl) (by kernel_rfl) (by kernel_rfl) (fun _ _ _ h => h) (Or.inl ⟨by rfl, ?_⟩) (by assumption) ?_
      rotate_left
      · first | (intro w' hSw; (try dsimp only at hSw); go_simp; done) | (intro w' hSw; (try dsimp only at hSw); go_simp; with_reducible rfl)
      try simp only [Act.put, List.getElem_toArray, List.getElem_cons_zero, List.getElem_cons_succ, List.setIfInBounds_toArray, List.set_cons_zero, List.set_cons_succ]
      refine wpAnyH_ready (rs := [1, 2, 4]) (by kernel_rfl) (by simp) ?_
      refine AllReadyH.cons (o := _) rfl (fun K hK => ?_) ?_
      · go_simp
        refine hK.out _ _ trivial (fun hHeld => ?_)
        clear hK K
        try simp only [Act.put, List.getElem_toArray, List.getElem_cons_zero, List.getElem_cons_succ, List.setIfInBounds_toArray, List.set_cons_zero, List.set_cons_succ]
        refine wpAnyH_ready (rs := [2, 4]) (by kernel_rfl) (by simp) ?_
        refine AllReadyH.cons (o := _) rfl (fun K hK => ?_) ?_
        · go_simp
          have HA1 := Lib.hid (HAT.out.alloc (.cells #[.int .i64 1, .int .i64 2, .int .i64 2, .int .i64 3] 3)).drew
          have HL := Lib.hid (show (wr.alloc (.cells #[.int .i64 1, .int .i64 2, .int .i64 2, .int .i64 3] 3)).drew.heap[wr.heap.size]? = some (.cells #[.int .i64 1, .int .i64 2, .int .i64 2, .int .i64 3] 3 (0, 0)) from heap_alloc_new wr (.cells #[.int .i64 1, .int .i64 2, .int .i64 2, .int .i64 3] 3))
          refine hK.out _ _ trivial (fun hHeld => ?_)
          clear hK K
          try simp only [Act.put, List.getElem_toArray, List.getElem_cons_zero, List.getElem_cons_succ, List.setIfInBounds_toArray, List.set_cons_zero, List.set_cons_succ]
          refine wpAnyH_ready (rs := [4]) (by kernel_rfl) (by simp) ?_
          refine AllReadyH.cons (o := _) rfl (fun K hK => ?_) ?_
          · go_simp
            refine (pick_any g q _ _ HA1.out.rd (by omega)).mono ?_
            rintro e w2 ⟨y, rfl, hy, hr, hgp⟩
            have hy := hy.2 (by omega)
            obtain ⟨y, rfl⟩ := Int.eq_ofNat_of_zero_le hy.1
            have HY := Lib.hid (show y < 4 by omega)
            have HA2 := Lib.hid (HA1.out.later hgp hr)
            replace HL := Lib.hid (gr_at hgp (by have := HGR.out; omega) HL.out)
            obtain ⟨z, hz, hz1, hz2⟩ := lit4_at HL.out HY.out
            have hy4 : (y : Int) < 4 := by have := HY.out; omega
            have hy0 : (0 : Int) ≤ (y : Int) := by omega
            clear hr hgp hy
            go_wp2_with fail
            refine hK.out _ _ trivial (fun hHeld => ?_)
            clear hK K
            try simp only [Act.put, List.getElem_toArray, List.getElem_cons_zero, List.getElem_cons_succ, List.setIfInBounds_toArray, List.set_cons_zero, List.set_cons_succ]
            refine wpAnyH_ready (rs := [5]) (by kernel_rfl) (by simp) ?_
            refine AllReadyH.cons (o := _) rfl (fun K hK => ?_) ?_
            · go_simp
              refine hK.out _ _ trivial (fun hHeld => ?_)
              clear hK K
              try simp only [Act.put, List.getElem_toArray, List.getElem_cons_zero, List.getElem_cons_succ, List.setIfInBounds_toArray, List.set_cons_zero, List.set_cons_succ]
              refine wpAnyH_ready (rs := [6]) (by kernel_rfl) (by simp) ?_
              refine AllReadyH.cons (o := _) rfl (fun K hK => ?_) ?_
              · go_simp
                refine hK.out _ _ trivial (fun hHeld => ?_)
                clear hK K
                try simp only [Act.put, List.getElem_toArray, List.getElem_cons_zero, List.getElem_cons_succ, List.setIfInBounds_toArray, List.set_cons_zero, List.set_cons_succ]
                refine wpAnyH_ready (rs := [7]) (by kernel_rfl) (by simp) ?_
                refine AllReadyH.cons (o := _) rfl (fun K hK => ?_) ?_
                · go_simp
                  have HA3 := Lib.hid (HA2.out.alloc (.cells #[.int .i64 z] 3))
                  have hn1 := led_new (w2) z
                  have HN1 := Lib.hid hn1
                  clear hn1
                  refine hK.out _ _ trivial (fun hHeld => ?_)
                  clear hK K
                  try simp only [Act.put, List.getElem_toArray, List.getElem_cons_zero, List.getElem_cons_succ, List.setIfInBounds_toArray, List.set_cons_zero, List.set_cons_succ]
                  refine wpAnyH_ready (rs := [8]) (by kernel_rfl) (by simp) ?_
                  refine AllReadyH.cons (o := _) rfl (fun K hK => ?_) ?_
                  · refine step_append_own rfl (.tmp 22) (.tmp 28) 26 rfl W4.heap.size 3 i0 (.int .i64 0) 1 8 Try.underlying26 hi0 hz0 hz1' hz2' rfl (by omega) _ zs.length (zs.map (Value.int .i64)) rfl HA3.out.own ⟨w2.heap.size, 0, none⟩ 1 1 ([z].map (Value.int .i64)) rfl (by simp) HN1.out (ints_one _) HPP.out.1 HPP.out.2 (by have := HA3.out.two.size; exact this) ?_
                    intro v6 w6 hv6 hg6
                    have HO6 := Lib.hid (led_app (rs := [z]) rfl hv6)
                    obtain ⟨A6, c6, rfl, -⟩ := own_reads hv6
                    have HP := Lib.hid (HA2.out.push hg6 HO6.out ⟨hz1, hz2⟩)
                    have q0 := blk_cell HP.out.2 0
                    have qf := blk_free HP.out.2 0
                    simp at q0
                    clear hv6 hg6
                    refine hK.out _ _ trivial (fun hHeld => ?_)
                    clear hK K
                    try simp only [Act.put, List.getElem_toArray, List.getElem_cons_zero, List.getElem_cons_succ, List.setIfInBounds_toArray, List.set_cons_zero, List.set_cons_succ]
                    refine wpAnyH_ready (rs := [9]) (by kernel_rfl) (by simp) ?_
                    refine AllReadyH.cons (o := _) rfl (fun K hK => ?_) ?_
                    · go_simp
                      refine hK.out _ _ trivial (fun hHeld => ?_)
                      clear hK K
                      try simp only [Act.put, List.getElem_toArray, List.getElem_cons_zero, List.getElem_cons_succ, List.setIfInBounds_toArray, List.set_cons_zero, List.set_cons_succ]
                      refine wpAnyH_ready (rs := [10]) (by kernel_rfl) (by simp) ?_
                      refine AllReadyH.cons (o := _) rfl (fun K hK => ?_) ?_
                      · go_simp
                        refine hK.out _ _ trivial (fun hHeld => ?_)
                        clear hK K
                        try simp only [Act.put, List.getElem_toArray, List.getElem_cons_zero, List.getElem_cons_succ, List.setIfInBounds_toArray, List.set_cons_zero, List.set_cons_succ]
                        refine wpAnyH_done (by kernel_rfl) ?_ _
                        go_wp2
                        go_roundw
                        case rel => exact ⟨k + 1, _, _, q + 1, by omega, by go_num, HP.out.1, by have := HZL.out; simp; omega, by omega⟩
                        case measure => simp [intOf]; omega
                      exact AllReadyH.nil
                    exact AllReadyH.nil
                  exact AllReadyH.nil
                exact AllReadyH.nil
              exact AllReadyH.nil
            exact AllReadyH.nil
          exact AllReadyH.nil
        refine AllReadyH.cons (o := _) rfl (fun K hK => ?_) ?_
        · go_simp
          refine (pick_any g q _ _ HA0.out.rd (by omega)).mono ?_
          rintro e w2 ⟨y, rfl, hy, hr, hgp⟩
          have hy := hy.2 (by omega)
          obtain ⟨y, rfl⟩ := Int.eq_ofNat_of_zero_le hy.1
          have HY := Lib.hid (show y < 4 by omega)
          have HA1 := Lib.hid (HA0.out.later hgp hr)
          clear hr hgp hy
          go_wp2_with fail
          refine hK.out _ _ trivial (fun hHeld => ?_)
          clear hK K
          try simp only [Act.put, List.getElem_toArray, List.getElem_cons_zero, List.getElem_cons_succ, List.setIfInBounds_toArray, List.set_cons_zero, List.set_cons_succ]
          refine wpAnyH_ready (rs := [2]) (by kernel_rfl) (by simp) ?_
          refine AllReadyH.cons (o := _) rfl (fun K hK => ?_) ?_
          · go_simp
            have HA2 := Lib.hid (HA1.out.alloc (.cells #[.int .i64 1, .int .i64 2, .int .i64 2, .int .i64 3] 3))
            have HL := Lib.hid (heap_alloc_new w2 (.cells #[.int .i64 1, .int .i64 2, .int .i64 2, .int .i64 3] 3))
            obtain ⟨z, hz, hz1, hz2⟩ := lit4_at HL.out HY.out
            have hy4 : (y : Int) < 4 := by have := HY.out; omega
            have hy0 : (0 : Int) ≤ (y : Int) := by omega
            refine hK.out _ _ trivial (fun hHeld => ?_)
            clear hK K
            try simp only [Act.put, List.getElem_toArray, List.getElem_cons_zero, List.getElem_cons_succ, List.setIfInBounds_toArray, List.set_cons_zero, List.set_cons_succ]
            refine wpAnyH_ready (rs := [5]) (by kernel_rfl) (by simp) ?_
            refine AllReadyH.cons (o := _) rfl (fun K hK => ?_) ?_
            · go_simp
              refine hK.out _ _ trivial (fun hHeld => ?_)
              clear hK K
              try simp only [Act.put, List.getElem_toArray, List.getElem_cons_zero, List.getElem_cons_succ, List.setIfInBounds_toArray, List.set_cons_zero, List.set_cons_succ]
              refine wpAnyH_ready (rs := [6]) (by kernel_rfl) (by simp) ?_
              refine AllReadyH.cons (o := _) rfl (fun K hK => ?_) ?_
              · go_simp
                refine hK.out _ _ trivial (fun hHeld => ?_)
                clear hK K
                try simp only [Act.put, List.getElem_toArray, List.getElem_cons_zero, List.getElem_cons_succ, List.setIfInBounds_toArray, List.set_cons_zero, List.set_cons_succ]
                refine wpAnyH_ready (rs := [7]) (by kernel_rfl) (by simp) ?_
                refine AllReadyH.cons (o := _) rfl (fun K hK => ?_) ?_
                · go_simp
                  have HA3 := Lib.hid (HA2.out.alloc (.cells #[.int .i64 z] 3))
                  have hn1 := led_new (w2.alloc (.cells #[.int .i64 1, .int .i64 2, .int .i64 2, .int .i64 3] 3)) z
                  simp only [World.size_alloc] at hn1
                  have HN1 := Lib.hid hn1
                  clear hn1
                  refine hK.out _ _ trivial (fun hHeld => ?_)
                  clear hK K
                  try simp only [Act.put, List.getElem_toArray, List.getElem_cons_zero, List.getElem_cons_succ, List.setIfInBounds_toArray, List.set_cons_zero, List.set_cons_succ]
                  refine wpAnyH_ready (rs := [8]) (by kernel_rfl) (by simp) ?_
                  refine AllReadyH.cons (o := _) rfl (fun K hK => ?_) ?_
                  · refine step_append_own rfl (.tmp 22) (.tmp 28) 26 rfl W4.heap.size 3 i0 (.int .i64 0) 1 8 Try.underlying26 hi0 hz0 hz1' hz2' rfl (by omega) _ zs.length (zs.map (Value.int .i64)) rfl HA3.out.own ⟨w2.heap.size + 1, 0, none⟩ 1 1 ([z].map (Value.int .i64)) rfl (by simp) HN1.out (ints_one _) HPP.out.1 HPP.out.2 (by have := HA3.out.two.size; exact this) ?_
                    intro v6 w6 hv6 hg6
                    have HO6 := Lib.hid (led_app (rs := [z]) rfl hv6)
                    obtain ⟨A6, c6, rfl, -⟩ := own_reads hv6
                    have HP := Lib.hid (HA2.out.push hg6 HO6.out ⟨hz1, hz2⟩)
                    have q0 := blk_cell HP.out.2 0
                    have qf := blk_free HP.out.2 0
                    simp at q0
                    clear hv6 hg6
                    refine hK.out _ _ trivial (fun hHeld => ?_)
                    clear hK K
                    try simp only [Act.put, List.getElem_toArray, List.getElem_cons_zero, List.getElem_cons_succ, List.setIfInBounds_toArray, List.set_cons_zero, List.set_cons_succ]
                    refine wpAnyH_ready (rs := [9]) (by kernel_rfl) (by simp) ?_
                    refine AllReadyH.cons (o := _) rfl (fun K hK => ?_) ?_
                    · go_simp
                      refine hK.out _ _ trivial (fun hHeld => ?_)
                      clear hK K
                      try simp only [Act.put, List.getElem_toArray, List.getElem_cons_zero, List.getElem_cons_succ, List.setIfInBounds_toArray, List.set_cons_zero, List.set_cons_succ]
                      refine wpAnyH_ready (rs := [10]) (by kernel_rfl) (by simp) ?_
                      refine AllReadyH.cons (o := _) rfl (fun K hK => ?_) ?_
                      · go_simp
                        refine hK.out _ _ trivial (fun hHeld => ?_)
                        clear hK K
                        try simp only [Act.put, List.getElem_toArray, List.getElem_cons_zero, List.getElem_cons_succ, List.setIfInBounds_toArray, List.set_cons_zero, List.set_cons_succ]
                        refine wpAnyH_done (by kernel_rfl) ?_ _
                        go_wp2
                        go_roundw
                        case rel => exact ⟨k + 1, _, _, q + 1, by omega, by go_num, HP.out.1, by have := HZL.out; simp; omega, by omega⟩
                        case measure => simp [intOf]; omega
                      exact AllReadyH.nil
                    exact AllReadyH.nil
                  exact AllReadyH.nil
                exact AllReadyH.nil
              exact AllReadyH.nil
            exact AllReadyH.nil
          exact AllReadyH.nil
        exact AllReadyH.nil
      refine AllReadyH.cons (o := _) rfl (fun K hK => ?_) ?_
      · go_simp
        have HA1 := Lib.hid (HAT.out.alloc (.cells #[.int .i64 1, .int .i64 2, .int .i64 2, .int .i64 3] 3)).drew
        have HL := Lib.hid (show (wr.alloc (.cells #[.int .i64 1, .int .i64 2, .int .i64 2, .int .i64 3] 3)).drew.heap[wr.heap.size]? = some (.cells #[.int .i64 1, .int .i64 2, .int .i64 2, .int .i64 3] 3 (0, 0)) from heap_alloc_new wr (.cells #[.int .i64 1, .int .i64 2, .int .i64 2, .int .i64 3] 3))
        have e1 := blk_cell HA1.out.loc 0
        simp at e1
        refine hK.out _ _ trivial (fun hHeld => ?_)
        clear hK K
        try simp only [Act.put, List.getElem_toArray, List.getElem_cons_zero, List.getElem_cons_succ, List.setIfInBounds_toArray, List.set_cons_zero, List.set_cons_succ]
        refine wpAnyH_ready (rs := [1, 4]) (by kernel_rfl) (by simp) ?_
        refine AllReadyH.cons (o := _) rfl (fun K hK => ?_) ?_
        · go_simp
          refine hK.out _ _ trivial (fun hHeld => ?_)
          clear hK K
          try simp only [Act.put, List.getElem_toArray, List.getElem_cons_zero, List.getElem_cons_succ, List.setIfInBounds_toArray, List.set_cons_zero, List.set_cons_succ]
          refine wpAnyH_ready (rs := [4]) (by kernel_rfl) (by simp) ?_
          refine AllReadyH.cons (o := _) rfl (fun K hK => ?_) ?_
          · go_simp
            refine (pick_any g q _ _ HA1.out.rd (by omega)).mono ?_
            rintro e w2 ⟨y, rfl, hy, hr, hgp⟩
            have hy := hy.2 (by omega)
            obtain ⟨y, rfl⟩ := Int.eq_ofNat_of_zero_le hy.1
            have HY := Lib.hid (show y < 4 by omega)
            have HA2 := Lib.hid (HA1.out.later hgp hr)
            replace HL := Lib.hid (gr_at hgp (by have := HGR.out; omega) HL.out)
            obtain ⟨z, hz, hz1, hz2⟩ := lit4_at HL.out HY.out
            have hy4 : (y : Int) < 4 := by have := HY.out; omega
            have hy0 : (0 : Int) ≤ (y : Int) := by omega
            clear hr hgp hy
            go_wp2_with fail
            refine hK.out _ _ trivial (fun hHeld => ?_)
            clear hK K
            try simp only [Act.put, List.getElem_toArray, List.getElem_cons_zero, List.getElem_cons_succ, List.setIfInBounds_toArray, List.set_cons_zero, List.set_cons_succ]
            refine wpAnyH_ready (rs := [5]) (by kernel_rfl) (by simp) ?_
            refine AllReadyH.cons (o := _) rfl (fun K hK => ?_) ?_
            · go_simp
              refine hK.out _ _ trivial (fun hHeld => ?_)
              clear hK K
              try simp only [Act.put, List.getElem_toArray, List.getElem_cons_zero, List.getElem_cons_succ, List.setIfInBounds_toArray, List.set_cons_zero, List.set_cons_succ]
              refine wpAnyH_ready (rs := [6]) (by kernel_rfl) (by simp) ?_
              refine AllReadyH.cons (o := _) rfl (fun K hK => ?_) ?_
              · go_simp
                refine hK.out _ _ trivial (fun hHeld => ?_)
                clear hK K
                try simp only [Act.put, List.getElem_toArray, List.getElem_cons_zero, List.getElem_cons_succ, List.setIfInBounds_toArray, List.set_cons_zero, List.set_cons_succ]
                refine wpAnyH_ready (rs := [7]) (by kernel_rfl) (by simp) ?_
                refine AllReadyH.cons (o := _) rfl (fun K hK => ?_) ?_
                · go_simp
                  have HA3 := Lib.hid (HA2.out.alloc (.cells #[.int .i64 z] 3))
                  have hn1 := led_new (w2) z
                  have HN1 := Lib.hid hn1
                  clear hn1
                  refine hK.out _ _ trivial (fun hHeld => ?_)
                  clear hK K
                  try simp only [Act.put, List.getElem_toArray, List.getElem_cons_zero, List.getElem_cons_succ, List.setIfInBounds_toArray, List.set_cons_zero, List.set_cons_succ]
                  refine wpAnyH_ready (rs := [8]) (by kernel_rfl) (by simp) ?_
                  refine AllReadyH.cons (o := _) rfl (fun K hK => ?_) ?_
                  · refine step_append_own rfl (.tmp 22) (.tmp 28) 26 rfl W4.heap.size 3 i0 (.int .i64 0) 1 8 Try.underlying26 hi0 hz0 hz1' hz2' rfl (by omega) _ zs.length (zs.map (Value.int .i64)) rfl HA3.out.own ⟨w2.heap.size, 0, none⟩ 1 1 ([z].map (Value.int .i64)) rfl (by simp) HN1.out (ints_one _) HPP.out.1 HPP.out.2 (by have := HA3.out.two.size; exact this) ?_
                    intro v6 w6 hv6 hg6
                    have HO6 := Lib.hid (led_app (rs := [z]) rfl hv6)
                    obtain ⟨A6, c6, rfl, -⟩ := own_reads hv6
                    have HP := Lib.hid (HA2.out.push hg6 HO6.out ⟨hz1, hz2⟩)
                    have q0 := blk_cell HP.out.2 0
                    have qf := blk_free HP.out.2 0
                    simp at q0
                    clear hv6 hg6
                    refine hK.out _ _ trivial (fun hHeld => ?_)
                    clear hK K
                    try simp only [Act.put, List.getElem_toArray, List.getElem_cons_zero, List.getElem_cons_succ, List.setIfInBounds_toArray, List.set_cons_zero, List.set_cons_succ]
                    refine wpAnyH_ready (rs := [9]) (by kernel_rfl) (by simp) ?_
                    refine AllReadyH.cons (o := _) rfl (fun K hK => ?_) ?_
                    · go_simp
                      refine hK.out _ _ trivial (fun hHeld => ?_)
                      clear hK K
                      try simp only [Act.put, List.getElem_toArray, List.getElem_cons_zero, List.getElem_cons_succ, List.setIfInBounds_toArray, List.set_cons_zero, List.set_cons_succ]
                      refine wpAnyH_ready (rs := [10]) (by kernel_rfl) (by simp) ?_
                      refine AllReadyH.cons (o := _) rfl (fun K hK => ?_) ?_
                      · go_simp
                        refine hK.out _ _ trivial (fun hHeld => ?_)
                        clear hK K
                        try simp only [Act.put, List.getElem_toArray, List.getElem_cons_zero, List.getElem_cons_succ, List.setIfInBounds_toArray, List.set_cons_zero, List.set_cons_succ]
                        refine wpAnyH_done (by kernel_rfl) ?_ _
                        go_wp2
                        go_roundw
                        case rel => exact ⟨k + 1, _, _, q + 1, by omega, by go_num, HP.out.1, by have := HZL.out; simp; omega, by omega⟩
                        case measure => simp [intOf]; omega
                      exact AllReadyH.nil
                    exact AllReadyH.nil
                  exact AllReadyH.nil
                exact AllReadyH.nil
              exact AllReadyH.nil
            exact AllReadyH.nil
          exact AllReadyH.nil
        refine AllReadyH.cons (o := _) rfl (fun K hK => ?_) ?_
        · go_simp
          refine (pick_any g q _ _ HA1.out.rd (by omega)).mono ?_
          rintro e w2 ⟨y, rfl, hy, hr, hgp⟩
          have hy := hy.2 (by omega)
          obtain ⟨y, rfl⟩ := Int.eq_ofNat_of_zero_le hy.1
          have HY := Lib.hid (show y < 4 by omega)
          have HA2 := Lib.hid (HA1.out.later hgp hr)
          replace HL := Lib.hid (gr_at hgp (by have := HGR.out; omega) HL.out)
          obtain ⟨z, hz, hz1, hz2⟩ := lit4_at HL.out HY.out
          have hy4 : (y : Int) < 4 := by have := HY.out; omega
          have hy0 : (0 : Int) ≤ (y : Int) := by omega
          have e2 := blk_cell HA2.out.loc 0
          simp at e2
          clear hr hgp hy
          go_wp2_with fail
          refine hK.out _ _ trivial (fun hHeld => ?_)
          clear hK K
          try simp only [Act.put, List.getElem_toArray, List.getElem_cons_zero, List.getElem_cons_succ, List.setIfInBounds_toArray, List.set_cons_zero, List.set_cons_succ]
          refine wpAnyH_ready (rs := [1, 5]) (by kernel_rfl) (by simp) ?_
          refine AllReadyH.cons (o := _) rfl (fun K hK => ?_) ?_
          · go_simp
            refine hK.out _ _ trivial (fun hHeld => ?_)
            clear hK K
            try simp only [Act.put, List.getElem_toArray, List.getElem_cons_zero, List.getElem_cons_succ, List.setIfInBounds_toArray, List.set_cons_zero, List.set_cons_succ]
            refine wpAnyH_ready (rs := [5]) (by kernel_rfl) (by simp) ?_
            refine AllReadyH.cons (o := _) rfl (fun K hK => ?_) ?_
            · go_simp
              refine hK.out _ _ trivial (fun hHeld => ?_)
              clear hK K
              try simp only [Act.put, List.getElem_toArray, List.getElem_cons_zero, List.getElem_cons_succ, List.setIfInBounds_toArray, List.set_cons_zero, List.set_cons_succ]
              refine wpAnyH_ready (rs := [6]) (by kernel_rfl) (by simp) ?_
              refine AllReadyH.cons (o := _) rfl (fun K hK => ?_) ?_
              · go_simp
                refine hK.out _ _ trivial (fun hHeld => ?_)
                clear hK K
                try simp only [Act.put, List.getElem_toArray, List.getElem_cons_zero, List.getElem_cons_succ, List.setIfInBounds_toArray, List.set_cons_zero, List.set_cons_succ]
                refine wpAnyH_ready (rs := [7]) (by kernel_rfl) (by simp) ?_
                refine AllReadyH.cons (o := _) rfl (fun K hK => ?_) ?_
                · go_simp
                  have HA3 := Lib.hid (HA2.out.alloc (.cells #[.int .i64 z] 3))
                  have hn1 := led_new (w2) z
                  have HN1 := Lib.hid hn1
                  clear hn1
                  refine hK.out _ _ trivial (fun hHeld => ?_)
                  clear hK K
                  try simp only [Act.put, List.getElem_toArray, List.getElem_cons_zero, List.getElem_cons_succ, List.setIfInBounds_toArray, List.set_cons_zero, List.set_cons_succ]
                  refine wpAnyH_ready (rs := [8]) (by kernel_rfl) (by simp) ?_
                  refine AllReadyH.cons (o := _) rfl (fun K hK => ?_) ?_
                  · refine step_append_own rfl (.tmp 22) (.tmp 28) 26 rfl W4.heap.size 3 i0 (.int .i64 0) 1 8 Try.underlying26 hi0 hz0 hz1' hz2' rfl (by omega) _ zs.length (zs.map (Value.int .i64)) rfl HA3.out.own ⟨w2.heap.size, 0, none⟩ 1 1 ([z].map (Value.int .i64)) rfl (by simp) HN1.out (ints_one _) HPP.out.1 HPP.out.2 (by have := HA3.out.two.size; exact this) ?_
                    intro v6 w6 hv6 hg6
                    have HO6 := Lib.hid (led_app (rs := [z]) rfl hv6)
                    obtain ⟨A6, c6, rfl, -⟩ := own_reads hv6
                    have HP := Lib.hid (HA2.out.push hg6 HO6.out ⟨hz1, hz2⟩)
                    have q0 := blk_cell HP.out.2 0
                    have qf := blk_free HP.out.2 0
                    simp at q0
                    clear hv6 hg6
                    refine hK.out _ _ trivial (fun hHeld => ?_)
                    clear hK K
                    try simp only [Act.put, List.getElem_toArray, List.getElem_cons_zero, List.getElem_cons_succ, List.setIfInBounds_toArray, List.set_cons_zero, List.set_cons_succ]
                    refine wpAnyH_ready (rs := [9]) (by kernel_rfl) (by simp) ?_
                    refine AllReadyH.cons (o := _) rfl (fun K hK => ?_) ?_
                    · go_simp
                      refine hK.out _ _ trivial (fun hHeld => ?_)
                      clear hK K
                      try simp only [Act.put, List.getElem_toArray, List.getElem_cons_zero, List.getElem_cons_succ, List.setIfInBounds_toArray, List.set_cons_zero, List.set_cons_succ]
                      refine wpAnyH_ready (rs := [10]) (by kernel_rfl) (by simp) ?_
                      refine AllReadyH.cons (o := _) rfl (fun K hK => ?_) ?_
                      · go_simp
                        refine hK.out _ _ trivial (fun hHeld => ?_)
                        clear hK K
                        try simp only [Act.put, List.getElem_toArray, List.getElem_cons_zero, List.getElem_cons_succ, List.setIfInBounds_toArray, List.set_cons_zero, List.set_cons_succ]
                        refine wpAnyH_done (by kernel_rfl) ?_ _
                        go_wp2
                        go_roundw
                        case rel => exact ⟨k + 1, _, _, q + 1, by omega, by go_num, HP.out.1, by have := HZL.out; simp; omega, by omega⟩
                        case measure => simp [intOf]; omega
                      exact AllReadyH.nil
                    exact AllReadyH.nil
                  exact AllReadyH.nil
                exact AllReadyH.nil
              exact AllReadyH.nil
            exact AllReadyH.nil
          refine AllReadyH.cons (o := _) rfl (fun K hK => ?_) ?_
          · go_simp
            refine hK.out _ _ trivial (fun hHeld => ?_)
            clear hK K
            try simp only [Act.put, List.getElem_toArray, List.getElem_cons_zero, List.getElem_cons_succ, List.setIfInBounds_toArray, List.set_cons_zero, List.set_cons_succ]
            refine wpAnyH_ready (rs := [1, 6]) (by kernel_rfl) (by simp) ?_
            refine AllReadyH.cons (o := _) rfl (fun K hK => ?_) ?_
            · go_simp
              refine hK.out _ _ trivial (fun hHeld => ?_)
              clear hK K
              try simp only [Act.put, List.getElem_toArray, List.getElem_cons_zero, List.getElem_cons_succ, List.setIfInBounds_toArray, List.set_cons_zero, List.set_cons_succ]
              refine wpAnyH_ready (rs := [6]) (by kernel_rfl) (by simp) ?_
              refine AllReadyH.cons (o := _) rfl (fun K hK => ?_) ?_
              · go_simp
                refine hK.out _ _ trivial (fun hHeld => ?_)
                clear hK K
                try simp only [Act.put, List.getElem_toArray, List.getElem_cons_zero, List.getElem_cons_succ, List.setIfInBounds_toArray, List.set_cons_zero, List.set_cons_succ]
                refine wpAnyH_ready (rs := [7]) (by kernel_rfl) (by simp) ?_
                refine AllReadyH.cons (o := _) rfl (fun K hK => ?_) ?_
                · go_simp
                  have HA3 := Lib.hid (HA2.out.alloc (.cells #[.int .i64 z] 3))
                  have hn1 := led_new (w2) z
                  have HN1 := Lib.hid hn1
                  clear hn1
                  refine hK.out _ _ trivial (fun hHeld => ?_)
                  clear hK K
                  try simp only [Act.put, List.getElem_toArray, List.getElem_cons_zero, List.getElem_cons_succ, List.setIfInBounds_toArray, List.set_cons_zero, List.set_cons_succ]
                  refine wpAnyH_ready (rs := [8]) (by kernel_rfl) (by simp) ?_
                  refine AllReadyH.cons (o := _) rfl (fun K hK => ?_) ?_
                  · refine step_append_own rfl (.tmp 22) (.tmp 28) 26 rfl W4.heap.size 3 i0 (.int .i64 0) 1 8 Try.underlying26 hi0 hz0 hz1' hz2' rfl (by omega) _ zs.length (zs.map (Value.int .i64)) rfl HA3.out.own ⟨w2.heap.size, 0, none⟩ 1 1 ([z].map (Value.int .i64)) rfl (by simp) HN1.out (ints_one _) HPP.out.1 HPP.out.2 (by have := HA3.out.two.size; exact this) ?_
                    intro v6 w6 hv6 hg6
                    have HO6 := Lib.hid (led_app (rs := [z]) rfl hv6)
                    obtain ⟨A6, c6, rfl, -⟩ := own_reads hv6
                    have HP := Lib.hid (HA2.out.push hg6 HO6.out ⟨hz1, hz2⟩)
                    have q0 := blk_cell HP.out.2 0
                    have qf := blk_free HP.out.2 0
                    simp at q0
                    clear hv6 hg6
                    refine hK.out _ _ trivial (fun hHeld => ?_)
                    clear hK K
                    try simp only [Act.put, List.getElem_toArray, List.getElem_cons_zero, List.getElem_cons_succ, List.setIfInBounds_toArray, List.set_cons_zero, List.set_cons_succ]
                    refine wpAnyH_ready (rs := [9]) (by kernel_rfl) (by simp) ?_
                    refine AllReadyH.cons (o := _) rfl (fun K hK => ?_) ?_
                    · go_simp
                      refine hK.out _ _ trivial (fun hHeld => ?_)
                      clear hK K
                      try simp only [Act.put, List.getElem_toArray, List.getElem_cons_zero, List.getElem_cons_succ, List.setIfInBounds_toArray, List.set_cons_zero, List.set_cons_succ]
                      refine wpAnyH_ready (rs := [10]) (by kernel_rfl) (by simp) ?_
                      refine AllReadyH.cons (o := _) rfl (fun K hK => ?_) ?_
                      · go_simp
                        refine hK.out _ _ trivial (fun hHeld => ?_)
                        clear hK K
                        try simp only [Act.put, List.getElem_toArray, List.getElem_cons_zero, List.getElem_cons_succ, List.setIfInBounds_toArray, List.set_cons_zero, List.set_cons_succ]
                        refine wpAnyH_done (by kernel_rfl) ?_ _
                        go_wp2
                        go_roundw
                        case rel => exact ⟨k + 1, _, _, q + 1, by omega, by go_num, HP.out.1, by have := HZL.out; simp; omega, by omega⟩
                        case measure => simp [intOf]; omega
                      exact AllReadyH.nil
                    exact AllReadyH.nil
                  exact AllReadyH.nil
                exact AllReadyH.nil
              exact AllReadyH.nil
            refine AllReadyH.cons (o := _) rfl (fun K hK => ?_) ?_
            · go_simp
              refine hK.out _ _ trivial (fun hHeld => ?_)
              clear hK K
              try simp only [Act.put, List.getElem_toArray, List.getElem_cons_zero, List.getElem_cons_succ, List.setIfInBounds_toArray, List.set_cons_zero, List.set_cons_succ]
              refine wpAnyH_ready (rs := [1, 7]) (by kernel_rfl) (by simp) ?_
              refine AllReadyH.cons (o := _) rfl (fun K hK => ?_) ?_
              · go_simp
                refine hK.out _ _ trivial (fun hHeld => ?_)
                clear hK K
                try simp only [Act.put, List.getElem_toArray, List.getElem_cons_zero, List.getElem_cons_succ, List.setIfInBounds_toArray, List.set_cons_zero, List.set_cons_succ]
                refine wpAnyH_ready (rs := [7]) (by kernel_rfl) (by simp) ?_
                refine AllReadyH.cons (o := _) rfl (fun K hK => ?_) ?_
                · go_simp
                  have HA3 := Lib.hid (HA2.out.alloc (.cells #[.int .i64 z] 3))
                  have hn1 := led_new (w2) z
                  have HN1 := Lib.hid hn1
                  clear hn1
                  refine hK.out _ _ trivial (fun hHeld => ?_)
                  clear hK K
                  try simp only [Act.put, List.getElem_toArray, List.getElem_cons_zero, List.getElem_cons_succ, List.setIfInBounds_toArray, List.set_cons_zero, List.set_cons_succ]
                  refine wpAnyH_ready (rs := [8]) (by kernel_rfl) (by simp) ?_
                  refine AllReadyH.cons (o := _) rfl (fun K hK => ?_) ?_
                  · refine step_append_own rfl (.tmp 22) (.tmp 28) 26 rfl W4.heap.size 3 i0 (.int .i64 0) 1 8 Try.underlying26 hi0 hz0 hz1' hz2' rfl (by omega) _ zs.length (zs.map (Value.int .i64)) rfl HA3.out.own ⟨w2.heap.size, 0, none⟩ 1 1 ([z].map (Value.int .i64)) rfl (by simp) HN1.out (ints_one _) HPP.out.1 HPP.out.2 (by have := HA3.out.two.size; exact this) ?_
                    intro v6 w6 hv6 hg6
                    have HO6 := Lib.hid (led_app (rs := [z]) rfl hv6)
                    obtain ⟨A6, c6, rfl, -⟩ := own_reads hv6
                    have HP := Lib.hid (HA2.out.push hg6 HO6.out ⟨hz1, hz2⟩)
                    have q0 := blk_cell HP.out.2 0
                    have qf := blk_free HP.out.2 0
                    simp at q0
                    clear hv6 hg6
                    refine hK.out _ _ trivial (fun hHeld => ?_)
                    clear hK K
                    try simp only [Act.put, List.getElem_toArray, List.getElem_cons_zero, List.getElem_cons_succ, List.setIfInBounds_toArray, List.set_cons_zero, List.set_cons_succ]
                    refine wpAnyH_ready (rs := [9]) (by kernel_rfl) (by simp) ?_
                    refine AllReadyH.cons (o := _) rfl (fun K hK => ?_) ?_
                    · go_simp
                      refine hK.out _ _ trivial (fun hHeld => ?_)
                      clear hK K
                      try simp only [Act.put, List.getElem_toArray, List.getElem_cons_zero, List.getElem_cons_succ, List.setIfInBounds_toArray, List.set_cons_zero, List.set_cons_succ]
                      refine wpAnyH_ready (rs := [10]) (by kernel_rfl) (by simp) ?_
                      refine AllReadyH.cons (o := _) rfl (fun K hK => ?_) ?_
                      · go_simp
                        refine hK.out _ _ trivial (fun hHeld => ?_)
                        clear hK K
                        try simp only [Act.put, List.getElem_toArray, List.getElem_cons_zero, List.getElem_cons_succ, List.setIfInBounds_toArray, List.set_cons_zero, List.set_cons_succ]
                        refine wpAnyH_done (by kernel_rfl) ?_ _
                        go_wp2
                        go_roundw
                        case rel => exact ⟨k + 1, _, _, q + 1, by omega, by go_num, HP.out.1, by have := HZL.out; simp; omega, by omega⟩
                        case measure => simp [intOf]; omega
                      exact AllReadyH.nil
                    exact AllReadyH.nil
                  exact AllReadyH.nil
                exact AllReadyH.nil
              refine AllReadyH.cons (o := _) rfl (fun K hK => ?_) ?_
              · go_simp
                have HA3 := Lib.hid (HA2.out.alloc (.cells #[.int .i64 z] 3))
                have hn1 := led_new (w2) z
                have HN1 := Lib.hid hn1
                clear hn1
                have e3 := blk_cell HA3.out.loc 0
                simp at e3
                refine hK.out _ _ trivial (fun hHeld => ?_)
                clear hK K
                try simp only [Act.put, List.getElem_toArray, List.getElem_cons_zero, List.getElem_cons_succ, List.setIfInBounds_toArray, List.set_cons_zero, List.set_cons_succ]
                refine wpAnyH_ready (rs := [1]) (by kernel_rfl) (by simp) ?_
                refine AllReadyH.cons (o := _) rfl (fun K hK => ?_) ?_
                · go_simp
                  refine hK.out _ _ trivial (fun hHeld => ?_)
                  clear hK K
                  try simp only [Act.put, List.getElem_toArray, List.getElem_cons_zero, List.getElem_cons_succ, List.setIfInBounds_toArray, List.set_cons_zero, List.set_cons_succ]
                  refine wpAnyH_ready (rs := [8]) (by kernel_rfl) (by simp) ?_
                  refine AllReadyH.cons (o := _) rfl (fun K hK => ?_) ?_
                  · refine step_append_own rfl (.tmp 22) (.tmp 28) 26 rfl W4.heap.size 3 i0 (.int .i64 0) 1 8 Try.underlying26 hi0 hz0 hz1' hz2' rfl (by omega) _ zs.length (zs.map (Value.int .i64)) rfl HA3.out.own ⟨w2.heap.size, 0, none⟩ 1 1 ([z].map (Value.int .i64)) rfl (by simp) HN1.out (ints_one _) HPP.out.1 HPP.out.2 (by have := HA3.out.two.size; exact this) ?_
                    intro v6 w6 hv6 hg6
                    have HO6 := Lib.hid (led_app (rs := [z]) rfl hv6)
                    obtain ⟨A6, c6, rfl, -⟩ := own_reads hv6
                    have HP := Lib.hid (HA2.out.push hg6 HO6.out ⟨hz1, hz2⟩)
                    have q0 := blk_cell HP.out.2 0
                    have qf := blk_free HP.out.2 0
                    simp at q0
                    clear hv6 hg6
                    refine hK.out _ _ trivial (fun hHeld => ?_)
                    clear hK K
                    try simp only [Act.put, List.getElem_toArray, List.getElem_cons_zero, List.getElem_cons_succ, List.setIfInBounds_toArray, List.set_cons_zero, List.set_cons_succ]
                    refine wpAnyH_ready (rs := [9]) (by kernel_rfl) (by simp) ?_
                    refine AllReadyH.cons (o := _) rfl (fun K hK => ?_) ?_
                    · go_simp
                      refine hK.out _ _ trivial (fun hHeld => ?_)
                      clear hK K
                      try simp only [Act.put, List.getElem_toArray, List.getElem_cons_zero, List.getElem_cons_succ, List.setIfInBounds_toArray, List.set_cons_zero, List.set_cons_succ]
                      refine wpAnyH_ready (rs := [10]) (by kernel_rfl) (by simp) ?_
                      refine AllReadyH.cons (o := _) rfl (fun K hK => ?_) ?_
                      · go_simp
                        refine hK.out _ _ trivial (fun hHeld => ?_)
                        clear hK K
                        try simp only [Act.put, List.getElem_toArray, List.getElem_cons_zero, List.getElem_cons_succ, List.setIfInBounds_toArray, List.set_cons_zero, List.set_cons_succ]
                        refine wpAnyH_done (by kernel_rfl) ?_ _
                        go_wp2
                        go_roundw
                        case rel => exact ⟨k + 1, _, _, q + 1, by omega, by go_num, HP.out.1, by have := HZL.out; simp; omega, by omega⟩
                        case measure => simp [intOf]; omega
                      exact AllReadyH.nil
                    exact AllReadyH.nil
                  exact AllReadyH.nil
                exact AllReadyH.nil
              exact AllReadyH.nil
            exact AllReadyH.nil
          exact AllReadyH.nil
        exact AllReadyH.nil
      refine AllReadyH.cons (o := _) rfl (fun K hK => ?_) ?_
      · go_simp
        refine (pick_any g q _ _ HA0.out.rd (by omega)).mono ?_
        rintro e w2 ⟨y, rfl, hy, hr, hgp⟩
        have hy := hy.2 (by omega)
        obtain ⟨y, rfl⟩ := Int.eq_ofNat_of_zero_le hy.1
        have HY := Lib.hid (show y < 4 by omega)
        have HA1 := Lib.hid (HA0.out.later hgp hr)
        have e1 := blk_cell HA1.out.loc 0
        simp at e1
        clear hr hgp hy
        go_wp2_with fail
        refine hK.out _ _ trivial (fun hHeld => ?_)
        clear hK K
        try simp only [Act.put, List.getElem_toArray, List.getElem_cons_zero, List.getElem_cons_succ, List.setIfInBounds_toArray, List.set_cons_zero, List.set_cons_succ]
        refine wpAnyH_ready (rs := [1, 2]) (by kernel_rfl) (by simp) ?_
        refine AllReadyH.cons (o := _) rfl (fun K hK => ?_) ?_
        · go_simp
          refine hK.out _ _ trivial (fun hHeld => ?_)
          clear hK K
          try simp only [Act.put, List.getElem_toArray, List.getElem_cons_zero, List.getElem_cons_succ, List.setIfInBounds_toArray, List.set_cons_zero, List.set_cons_succ]
          refine wpAnyH_ready (rs := [2]) (by kernel_rfl) (by simp) ?_
          refine AllReadyH.cons (o := _) rfl (fun K hK => ?_) ?_
          · go_simp
            have HA2 := Lib.hid (HA1.out.alloc (.cells #[.int .i64 1, .int .i64 2, .int .i64 2, .int .i64 3] 3))
            have HL := Lib.hid (heap_alloc_new w2 (.cells #[.int .i64 1, .int .i64 2, .int .i64 2, .int .i64 3] 3))
            obtain ⟨z, hz, hz1, hz2⟩ := lit4_at HL.out HY.out
            have hy4 : (y : Int) < 4 := by have := HY.out; omega
            have hy0 : (0 : Int) ≤ (y : Int) := by omega
            refine hK.out _ _ trivial (fun hHeld => ?_)
            clear hK K
            try simp only [Act.put, List.getElem_toArray, List.getElem_cons_zero, List.getElem_cons_succ, List.setIfInBounds_toArray, List.set_cons_zero, List.set_cons_succ]
            refine wpAnyH_ready (rs := [5]) (by kernel_rfl) (by simp) ?_
            refine AllReadyH.cons (o := _) rfl (fun K hK => ?_) ?_
            · go_simp
              refine hK.out _ _ trivial (fun hHeld => ?_)
              clear hK K
              try simp only [Act.put, List.getElem_toArray, List.getElem_cons_zero, List.getElem_cons_succ, List.setIfInBounds_toArray, List.set_cons_zero, List.set_cons_succ]
              refine wpAnyH_ready (rs := [6]) (by kernel_rfl) (by simp) ?_
              refine AllReadyH.cons (o := _) rfl (fun K hK => ?_) ?_
              · go_simp
                refine hK.out _ _ trivial (fun hHeld => ?_)
                clear hK K
                try simp only [Act.put, List.getElem_toArray, List.getElem_cons_zero, List.getElem_cons_succ, List.setIfInBounds_toArray, List.set_cons_zero, List.set_cons_succ]
                refine wpAnyH_ready (rs := [7]) (by kernel_rfl) (by simp) ?_
                refine AllReadyH.cons (o := _) rfl (fun K hK => ?_) ?_
                · go_simp
                  have HA3 := Lib.hid (HA2.out.alloc (.cells #[.int .i64 z] 3))
                  have hn1 := led_new (w2.alloc (.cells #[.int .i64 1, .int .i64 2, .int .i64 2, .int .i64 3] 3)) z
                  simp only [World.size_alloc] at hn1
                  have HN1 := Lib.hid hn1
                  clear hn1
                  refine hK.out _ _ trivial (fun hHeld => ?_)
                  clear hK K
                  try simp only [Act.put, List.getElem_toArray, List.getElem_cons_zero, List.getElem_cons_succ, List.setIfInBounds_toArray, List.set_cons_zero, List.set_cons_succ]
                  refine wpAnyH_ready (rs := [8]) (by kernel_rfl) (by simp) ?_
                  refine AllReadyH.cons (o := _) rfl (fun K hK => ?_) ?_
                  · refine step_append_own rfl (.tmp 22) (.tmp 28) 26 rfl W4.heap.size 3 i0 (.int .i64 0) 1 8 Try.underlying26 hi0 hz0 hz1' hz2' rfl (by omega) _ zs.length (zs.map (Value.int .i64)) rfl HA3.out.own ⟨w2.heap.size + 1, 0, none⟩ 1 1 ([z].map (Value.int .i64)) rfl (by simp) HN1.out (ints_one _) HPP.out.1 HPP.out.2 (by have := HA3.out.two.size; exact this) ?_
                    intro v6 w6 hv6 hg6
                    have HO6 := Lib.hid (led_app (rs := [z]) rfl hv6)
                    obtain ⟨A6, c6, rfl, -⟩ := own_reads hv6
                    have HP := Lib.hid (HA2.out.push hg6 HO6.out ⟨hz1, hz2⟩)
                    have q0 := blk_cell HP.out.2 0
                    have qf := blk_free HP.out.2 0
                    simp at q0
                    clear hv6 hg6
                    refine hK.out _ _ trivial (fun hHeld => ?_)
                    clear hK K
                    try simp only [Act.put, List.getElem_toArray, List.getElem_cons_zero, List.getElem_cons_succ, List.setIfInBounds_toArray, List.set_cons_zero, List.set_cons_succ]
                    refine wpAnyH_ready (rs := [9]) (by kernel_rfl) (by simp) ?_
                    refine AllReadyH.cons (o := _) rfl (fun K hK => ?_) ?_
                    · go_simp
                      refine hK.out _ _ trivial (fun hHeld => ?_)
                      clear hK K
                      try simp only [Act.put, List.getElem_toArray, List.getElem_cons_zero, List.getElem_cons_succ, List.setIfInBounds_toArray, List.set_cons_zero, List.set_cons_succ]
                      refine wpAnyH_ready (rs := [10]) (by kernel_rfl) (by simp) ?_
                      refine AllReadyH.cons (o := _) rfl (fun K hK => ?_) ?_
                      · go_simp
                        refine hK.out _ _ trivial (fun hHeld => ?_)
                        clear hK K
                        try simp only [Act.put, List.getElem_toArray, List.getElem_cons_zero, List.getElem_cons_succ, List.setIfInBounds_toArray, List.set_cons_zero, List.set_cons_succ]
                        refine wpAnyH_done (by kernel_rfl) ?_ _
                        go_wp2
                        go_roundw
                        case rel => exact ⟨k + 1, _, _, q + 1, by omega, by go_num, HP.out.1, by have := HZL.out; simp; omega, by omega⟩
                        case measure => simp [intOf]; omega
                      exact AllReadyH.nil
                    exact AllReadyH.nil
                  exact AllReadyH.nil
                exact AllReadyH.nil
              exact AllReadyH.nil
            exact AllReadyH.nil
          exact AllReadyH.nil
        refine AllReadyH.cons (o := _) rfl (fun K hK => ?_) ?_
        · go_simp
          have HA2 := Lib.hid (HA1.out.alloc (.cells #[.int .i64 1, .int .i64 2, .int .i64 2, .int .i64 3] 3))
          have HL := Lib.hid (heap_alloc_new w2 (.cells #[.int .i64 1, .int .i64 2, .int .i64 2, .int .i64 3] 3))
          obtain ⟨z, hz, hz1, hz2⟩ := lit4_at HL.out HY.out
          have hy4 : (y : Int) < 4 := by have := HY.out; omega
          have hy0 : (0 : Int) ≤ (y : Int) := by omega
          have e2 := blk_cell HA2.out.loc 0
          simp at e2
          refine hK.out _ _ trivial (fun hHeld => ?_)
          clear hK K
          try simp only [Act.put, List.getElem_toArray, List.getElem_cons_zero, List.getElem_cons_succ, List.setIfInBounds_toArray, List.set_cons_zero, List.set_cons_succ]
          refine wpAnyH_ready (rs := [1, 5]) (by kernel_rfl) (by simp) ?_
          refine AllReadyH.cons (o := _) rfl (fun K hK => ?_) ?_
          · go_simp
            refine hK.out _ _ trivial (fun hHeld => ?_)
            clear hK K
            try simp only [Act.put, List.getElem_toArray, List.getElem_cons_zero, List.getElem_cons_succ, List.setIfInBounds_toArray, List.set_cons_zero, List.set_cons_succ]
            refine wpAnyH_ready (rs := [5]) (by kernel_rfl) (by simp) ?_
            refine AllReadyH.cons (o := _) rfl (fun K hK => ?_) ?_
            · go_simp
              refine hK.out _ _ trivial (fun hHeld => ?_)
              clear hK K
              try simp only [Act.put, List.getElem_toArray, List.getElem_cons_zero, List.getElem_cons_succ, List.setIfInBounds_toArray, List.set_cons_zero, List.set_cons_succ]
              refine wpAnyH_ready (rs := [6]) (by kernel_rfl) (by simp) ?_
              refine AllReadyH.cons (o := _) rfl (fun K hK => ?_) ?_
              · go_simp
                refine hK.out _ _ trivial (fun hHeld => ?_)
                clear hK K
                try simp only [Act.put, List.getElem_toArray, List.getElem_cons_zero, List.getElem_cons_succ, List.setIfInBounds_toArray, List.set_cons_zero, List.set_cons_succ]
                refine wpAnyH_ready (rs := [7]) (by kernel_rfl) (by simp) ?_
                refine AllReadyH.cons (o := _) rfl (fun K hK => ?_) ?_
                · go_simp
                  have HA3 := Lib.hid (HA2.out.alloc (.cells #[.int .i64 z] 3))
                  have hn1 := led_new (w2.alloc (.cells #[.int .i64 1, .int .i64 2, .int .i64 2, .int .i64 3] 3)) z
                  simp only [World.size_alloc] at hn1
                  have HN1 := Lib.hid hn1
                  clear hn1
                  refine hK.out _ _ trivial (fun hHeld => ?_)
                  clear hK K
                  try simp only [Act.put, List.getElem_toArray, List.getElem_cons_zero, List.getElem_cons_succ, List.setIfInBounds_toArray, List.set_cons_zero, List.set_cons_succ]
                  refine wpAnyH_ready (rs := [8]) (by kernel_rfl) (by simp) ?_
                  refine AllReadyH.cons (o := _) rfl (fun K hK => ?_) ?_
                  · refine step_append_own rfl (.tmp 22) (.tmp 28) 26 rfl W4.heap.size 3 i0 (.int .i64 0) 1 8 Try.underlying26 hi0 hz0 hz1' hz2' rfl (by omega) _ zs.length (zs.map (Value.int .i64)) rfl HA3.out.own ⟨w2.heap.size + 1, 0, none⟩ 1 1 ([z].map (Value.int .i64)) rfl (by simp) HN1.out (ints_one _) HPP.out.1 HPP.out.2 (by have := HA3.out.two.size; exact this) ?_
                    intro v6 w6 hv6 hg6
                    have HO6 := Lib.hid (led_app (rs := [z]) rfl hv6)
                    obtain ⟨A6, c6, rfl, -⟩ := own_reads hv6
                    have HP := Lib.hid (HA2.out.push hg6 HO6.out ⟨hz1, hz2⟩)
                    have q0 := blk_cell HP.out.2 0
                    have qf := blk_free HP.out.2 0
                    simp at q0
                    clear hv6 hg6
                    refine hK.out _ _ trivial (fun hHeld => ?_)
                    clear hK K
                    try simp only [Act.put, List.getElem_toArray, List.getElem_cons_zero, List.getElem_cons_succ, List.setIfInBounds_toArray, List.set_cons_zero, List.set_cons_succ]
                    refine wpAnyH_ready (rs := [9]) (by kernel_rfl) (by simp) ?_
                    refine AllReadyH.cons (o := _) rfl (fun K hK => ?_) ?_
                    · go_simp
                      refine hK.out _ _ trivial (fun hHeld => ?_)
                      clear hK K
                      try simp only [Act.put, List.getElem_toArray, List.getElem_cons_zero, List.getElem_cons_succ, List.setIfInBounds_toArray, List.set_cons_zero, List.set_cons_succ]
                      refine wpAnyH_ready (rs := [10]) (by kernel_rfl) (by simp) ?_
                      refine AllReadyH.cons (o := _) rfl (fun K hK => ?_) ?_
                      · go_simp
                        refine hK.out _ _ trivial (fun hHeld => ?_)
                        clear hK K
                        try simp only [Act.put, List.getElem_toArray, List.getElem_cons_zero, List.getElem_cons_succ, List.setIfInBounds_toArray, List.set_cons_zero, List.set_cons_succ]
                        refine wpAnyH_done (by kernel_rfl) ?_ _
                        go_wp2
                        go_roundw
                        case rel => exact ⟨k + 1, _, _, q + 1, by omega, by go_num, HP.out.1, by have := HZL.out; simp; omega, by omega⟩
                        case measure => simp [intOf]; omega
                      exact AllReadyH.nil
                    exact AllReadyH.nil
                  exact AllReadyH.nil
                exact AllReadyH.nil
              exact AllReadyH.nil
            exact AllReadyH.nil
          refine AllReadyH.cons (o := _) rfl (fun K hK => ?_) ?_
          · go_simp
            refine hK.out _ _ trivial (fun hHeld => ?_)
            clear hK K
            try simp only [Act.put, List.getElem_toArray, List.getElem_cons_zero, List.getElem_cons_succ, List.setIfInBounds_toArray, List.set_cons_zero, List.set_cons_succ]
            refine wpAnyH_ready (rs := [1, 6]) (by kernel_rfl) (by simp) ?_
            refine AllReadyH.cons (o := _) rfl (fun K hK => ?_) ?_
            · go_simp
              refine hK.out _ _ trivial (fun hHeld => ?_)
              clear hK K
              try simp only [Act.put, List.getElem_toArray, List.getElem_cons_zero, List.getElem_cons_succ, List.setIfInBounds_toArray, List.set_cons_zero, List.set_cons_succ]
              refine wpAnyH_ready (rs := [6]) (by kernel_rfl) (by simp) ?_
              refine AllReadyH.cons (o := _) rfl (fun K hK => ?_) ?_
              · go_simp
                refine hK.out _ _ trivial (fun hHeld => ?_)
                clear hK K
                try simp only [Act.put, List.getElem_toArray, List.getElem_cons_zero, List.getElem_cons_succ, List.setIfInBounds_toArray, List.set_cons_zero, List.set_cons_succ]
                refine wpAnyH_ready (rs := [7]) (by kernel_rfl) (by simp) ?_
                refine AllReadyH.cons (o := _) rfl (fun K hK => ?_) ?_
                · go_simp
                  have HA3 := Lib.hid (HA2.out.alloc (.cells #[.int .i64 z] 3))
                  have hn1 := led_new (w2.alloc (.cells #[.int .i64 1, .int .i64 2, .int .i64 2, .int .i64 3] 3)) z
                  simp only [World.size_alloc] at hn1
                  have HN1 := Lib.hid hn1
                  clear hn1
                  refine hK.out _ _ trivial (fun hHeld => ?_)
                  clear hK K
                  try simp only [Act.put, List.getElem_toArray, List.getElem_cons_zero, List.getElem_cons_succ, List.setIfInBounds_toArray, List.set_cons_zero, List.set_cons_succ]
                  refine wpAnyH_ready (rs := [8]) (by kernel_rfl) (by simp) ?_
                  refine AllReadyH.cons (o := _) rfl (fun K hK => ?_) ?_
                  · refine step_append_own rfl (.tmp 22) (.tmp 28) 26 rfl W4.heap.size 3 i0 (.int .i64 0) 1 8 Try.underlying26 hi0 hz0 hz1' hz2' rfl (by omega) _ zs.length (zs.map (Value.int .i64)) rfl HA3.out.own ⟨w2.heap.size + 1, 0, none⟩ 1 1 ([z].map (Value.int .i64)) rfl (by simp) HN1.out (ints_one _) HPP.out.1 HPP.out.2 (by have := HA3.out.two.size; exact this) ?_
                    intro v6 w6 hv6 hg6
                    have HO6 := Lib.hid (led_app (rs := [z]) rfl hv6)
                    obtain ⟨A6, c6, rfl, -⟩ := own_reads hv6
                    have HP := Lib.hid (HA2.out.push hg6 HO6.out ⟨hz1, hz2⟩)
                    have q0 := blk_cell HP.out.2 0
                    have qf := blk_free HP.out.2 0
                    simp at q0
                    clear hv6 hg6
                    refine hK.out _ _ trivial (fun hHeld => ?_)
                    clear hK K
                    try simp only [Act.put, List.getElem_toArray, List.getElem_cons_zero, List.getElem_cons_succ, List.setIfInBounds_toArray, List.set_cons_zero, List.set_cons_succ]
                    refine wpAnyH_ready (rs := [9]) (by kernel_rfl) (by simp) ?_
                    refine AllReadyH.cons (o := _) rfl (fun K hK => ?_) ?_
                    · go_simp
                      refine hK.out _ _ trivial (fun hHeld => ?_)
                      clear hK K
                      try simp only [Act.put, List.getElem_toArray, List.getElem_cons_zero, List.getElem_cons_succ, List.setIfInBounds_toArray, List.set_cons_zero, List.set_cons_succ]
                      refine wpAnyH_ready (rs := [10]) (by kernel_rfl) (by simp) ?_
                      refine AllReadyH.cons (o := _) rfl (fun K hK => ?_) ?_
                      · go_simp
                        refine hK.out _ _ trivial (fun hHeld => ?_)
                        clear hK K
                        try simp only [Act.put, List.getElem_toArray, List.getElem_cons_zero, List.getElem_cons_succ, List.setIfInBounds_toArray, List.set_cons_zero, List.set_cons_succ]
                        refine wpAnyH_done (by kernel_rfl) ?_ _
                        go_wp2
                        go_roundw
                        case rel => exact ⟨k + 1, _, _, q + 1, by omega, by go_num, HP.out.1, by have := HZL.out; simp; omega, by omega⟩
                        case measure => simp [intOf]; omega
                      exact AllReadyH.nil
                    exact AllReadyH.nil
                  exact AllReadyH.nil
                exact AllReadyH.nil
              exact AllReadyH.nil
            refine AllReadyH.cons (o := _) rfl (fun K hK => ?_) ?_
            · go_simp
              refine hK.out _ _ trivial (fun hHeld => ?_)
              clear hK K
              try simp only [Act.put, List.getElem_toArray, List.getElem_cons_zero, List.getElem_cons_succ, List.setIfInBounds_toArray, List.set_cons_zero, List.set_cons_succ]
              refine wpAnyH_ready (rs := [1, 7]) (by kernel_rfl) (by simp) ?_
              refine AllReadyH.cons (o := _) rfl (fun K hK => ?_) ?_
              · go_simp
                refine hK.out _ _ trivial (fun hHeld => ?_)
                clear hK K
                try simp only [Act.put, List.getElem_toArray, List.getElem_cons_zero, List.getElem_cons_succ, List.setIfInBounds_toArray, List.set_cons_zero, List.set_cons_succ]
                refine wpAnyH_ready (rs := [7]) (by kernel_rfl) (by simp) ?_
                refine AllReadyH.cons (o := _) rfl (fun K hK => ?_) ?_
                · go_simp
                  have HA3 := Lib.hid (HA2.out.alloc (.cells #[.int .i64 z] 3))
                  have hn1 := led_new (w2.alloc (.cells #[.int .i64 1, .int .i64 2, .int .i64 2, .int .i64 3] 3)) z
                  simp only [World.size_alloc] at hn1
                  have HN1 := Lib.hid hn1
                  clear hn1
                  refine hK.out _ _ trivial (fun hHeld => ?_)
                  clear hK K
                  try simp only [Act.put, List.getElem_toArray, List.getElem_cons_zero, List.getElem_cons_succ, List.setIfInBounds_toArray, List.set_cons_zero, List.set_cons_succ]
                  refine wpAnyH_ready (rs := [8]) (by kernel_rfl) (by simp) ?_
                  refine AllReadyH.cons (o := _) rfl (fun K hK => ?_) ?_
                  · refine step_append_own rfl (.tmp 22) (.tmp 28) 26 rfl W4.heap.size 3 i0 (.int .i64 0) 1 8 Try.underlying26 hi0 hz0 hz1' hz2' rfl (by omega) _ zs.length (zs.map (Value.int .i64)) rfl HA3.out.own ⟨w2.heap.size + 1, 0, none⟩ 1 1 ([z].map (Value.int .i64)) rfl (by simp) HN1.out (ints_one _) HPP.out.1 HPP.out.2 (by have := HA3.out.two.size; exact this) ?_
                    intro v6 w6 hv6 hg6
                    have HO6 := Lib.hid (led_app (rs := [z]) rfl hv6)
                    obtain ⟨A6, c6, rfl, -⟩ := own_reads hv6
                    have HP := Lib.hid (HA2.out.push hg6 HO6.out ⟨hz1, hz2⟩)
                    have q0 := blk_cell HP.out.2 0
                    have qf := blk_free HP.out.2 0
                    simp at q0
                    clear hv6 hg6
                    refine hK.out _ _ trivial (fun hHeld => ?_)
                    clear hK K
                    try simp only [Act.put, List.getElem_toArray, List.getElem_cons_zero, List.getElem_cons_succ, List.setIfInBounds_toArray, List.set_cons_zero, List.set_cons_succ]
                    refine wpAnyH_ready (rs := [9]) (by kernel_rfl) (by simp) ?_
                    refine AllReadyH.cons (o := _) rfl (fun K hK => ?_) ?_
                    · go_simp
                      refine hK.out _ _ trivial (fun hHeld => ?_)
                      clear hK K
                      try simp only [Act.put, List.getElem_toArray, List.getElem_cons_zero, List.getElem_cons_succ, List.setIfInBounds_toArray, List.set_cons_zero, List.set_cons_succ]
                      refine wpAnyH_ready (rs := [10]) (by kernel_rfl) (by simp) ?_
                      refine AllReadyH.cons (o := _) rfl (fun K hK => ?_) ?_
                      · go_simp
                        refine hK.out _ _ trivial (fun hHeld => ?_)
                        clear hK K
                        try simp only [Act.put, List.getElem_toArray, List.getElem_cons_zero, List.getElem_cons_succ, List.setIfInBounds_toArray, List.set_cons_zero, List.set_cons_succ]
                        refine wpAnyH_done (by kernel_rfl) ?_ _
                        go_wp2
                        go_roundw
                        case rel => exact ⟨k + 1, _, _, q + 1, by omega, by go_num, HP.out.1, by have := HZL.out; simp; omega, by omega⟩
                        case measure => simp [intOf]; omega
                      exact AllReadyH.nil
                    exact AllReadyH.nil
                  exact AllReadyH.nil
                exact AllReadyH.nil
              refine AllReadyH.cons (o := _) rfl (fun K hK => ?_) ?_
              · go_simp
                have HA3 := Lib.hid (HA2.out.alloc (.cells #[.int .i64 z] 3))
                have hn1 := led_new (w2.alloc (.cells #[.int .i64 1, .int .i64 2, .int .i64 2, .int .i64 3] 3)) z
                simp only [World.size_alloc] at hn1
                have HN1 := Lib.hid hn1
                clear hn1
                have e3 := blk_cell HA3.out.loc 0
                simp at e3
                refine hK.out _ _ trivial (fun hHeld => ?_)
                clear hK K
                try simp only [Act.put, List.getElem_toArray, List.getElem_cons_zero, List.getElem_cons_succ, List.setIfInBounds_toArray, List.set_cons_zero, List.set_cons_succ]
                refine wpAnyH_ready (rs := [1]) (by kernel_rfl) (by simp) ?_
                refine AllReadyH.cons (o := _) rfl (fun K hK => ?_) ?_
                · go_simp
                  refine hK.out _ _ trivial (fun hHeld => ?_)
                  clear hK K
                  try simp only [Act.put, List.getElem_toArray, List.getElem_cons_zero, List.getElem_cons_succ, List.setIfInBounds_toArray, List.set_cons_zero, List.set_cons_succ]
                  refine wpAnyH_ready (rs := [8]) (by kernel_rfl) (by simp) ?_
                  refine AllReadyH.cons (o := _) rfl (fun K hK => ?_) ?_
                  · refine step_append_own rfl (.tmp 22) (.tmp 28) 26 rfl W4.heap.size 3 i0 (.int .i64 0) 1 8 Try.underlying26 hi0 hz0 hz1' hz2' rfl (by omega) _ zs.length (zs.map (Value.int .i64)) rfl HA3.out.own ⟨w2.heap.size + 1, 0, none⟩ 1 1 ([z].map (Value.int .i64)) rfl (by simp) HN1.out (ints_one _) HPP.out.1 HPP.out.2 (by have := HA3.out.two.size; exact this) ?_
                    intro v6 w6 hv6 hg6
                    have HO6 := Lib.hid (led_app (rs := [z]) rfl hv6)
                    obtain ⟨A6, c6, rfl, -⟩ := own_reads hv6
                    have HP := Lib.hid (HA2.out.push hg6 HO6.out ⟨hz1, hz2⟩)
                    have q0 := blk_cell HP.out.2 0
                    have qf := blk_free HP.out.2 0
                    simp at q0
                    clear hv6 hg6
                    refine hK.out _ _ trivial (fun hHeld => ?_)
                    clear hK K
                    try simp only [Act.put, List.getElem_toArray, List.getElem_cons_zero, List.getElem_cons_succ, List.setIfInBounds_toArray, List.set_cons_zero, List.set_cons_succ]
                    refine wpAnyH_ready (rs := [9]) (by kernel_rfl) (by simp) ?_
                    refine AllReadyH.cons (o := _) rfl (fun K hK => ?_) ?_
                    · go_simp
                      refine hK.out _ _ trivial (fun hHeld => ?_)
                      clear hK K
                      try simp only [Act.put, List.getElem_toArray, List.getElem_cons_zero, List.getElem_cons_succ, List.setIfInBounds_toArray, List.set_cons_zero, List.set_cons_succ]
                      refine wpAnyH_ready (rs := [10]) (by kernel_rfl) (by simp) ?_
                      refine AllReadyH.cons (o := _) rfl (fun K hK => ?_) ?_
                      · go_simp
                        refine hK.out _ _ trivial (fun hHeld => ?_)
                        clear hK K
                        try simp only [Act.put, List.getElem_toArray, List.getElem_cons_zero, List.getElem_cons_succ, List.setIfInBounds_toArray, List.set_cons_zero, List.set_cons_succ]
                        refine wpAnyH_done (by kernel_rfl) ?_ _
                        go_wp2
                        go_roundw
                        case rel => exact ⟨k + 1, _, _, q + 1, by omega, by go_num, HP.out.1, by have := HZL.out; simp; omega, by omega⟩
                        case measure => simp [intOf]; omega
                      exact AllReadyH.nil
                    exact AllReadyH.nil
                  exact AllReadyH.nil
                exact AllReadyH.nil
              exact AllReadyH.nil
            exact AllReadyH.nil
          exact AllReadyH.nil
        exact AllReadyH.nil
      exact AllReadyH.nil

    · have HM1 := Lib.hid HAT.out.tabs
      have HZS := Lib.hid (show (zs.length : Int) = s.sorts by have := HZL.out; have := HV.out; omega)
      have HQ := Lib.hid hq
      have hol := HV.out.2.2
      clear hq hk HAT
      obtain ⟨wa, hwa⟩ : ∃ x : World, x = wr := ⟨_, rfl⟩
      subst hwa
      go_wp2
      clear s0 s1
      go_loopw [7, 8, 9, 10, 11, 12, 13] (fun i _ _ _ _ _ _ wr => ∃ k : Nat, ∃ x rows q2, k ≤ s.ops.length ∧ i = .int .i64 k ∧ MdTab W4 wa wr W.heap.size g (.slice Au zs.length cu) x zs rows q2 ∧ rows.length = k ∧ (∀ row ∈ rows, 1 ≤ row.length ∧ row.length ≤ 9) ∧ q2 ≤ p + 3 + 10 * k) (fun i _ _ _ _ _ _ _ => s.ops.length - (intOf i).toNat)
      case atStart => exact ⟨0, _, _, _, Nat.zero_le _, rfl, HM1.out, rfl, (fun row h => by cases h), by have := HQ.out; have := HZL.out; have := HZS.out; have := HV.out; omega⟩
      case round =>
        obtain ⟨k, x, rows, q2, hk, rfl, hat, hrl, hrow, hq2⟩ := hrel
        have HAT := Lib.hid hat
        have HRL := Lib.hid hrl
        have HROW := Lib.hid hrow
        have HQ2 := Lib.hid hq2
        have s0 := hat.two.cell (cell_keep HB4.out HCX.out.1) (by have := HWS.out; omega) (by omega)
        have s1 := hat.two.cell (cell_keep HB4.out HCX.out.2) (by have := HWS.out; omega) (by omega)
        have hgrw := hat.two.below (w0 := w) (gr_below (gr_below (gr_refl w g) HB.out) HB4.out) (by have := HWS.out; omega)
        have HGRW := Lib.hid hgrw
        clear hat hrl hrow hq2 hgrw
        by_cases hks : k < s.ops.length
        · have hks' : (k : Int) < (s.ops.length : Int) := by omega
          obtain ⟨bo, oo, co, uo, e, hx, hro⟩ := orows_at (HORW.out.grown HGRW.out (fun k e => by injection e with e; have := HGB.out; omega)) hks
          cases e
          obtain ⟨r1, r2, r3⟩ := opRow_valid HVV.out hks
          have HRI : Hid (OInts wr B uo (opRow s k)) := by rw [opRow_at hks]; exact hro
          have HR3 := Lib.hid r3
          clear hro r3
          generalize opRow s k = row at HRI HR3 r1 r2
          obtain ⟨nr, hnr⟩ : ∃ nr : Nat, row.length = nr + 1 := ⟨row.length - 1, by omega⟩
          have hne : nr < row.length := by omega
          obtain ⟨br, or_, cr, rfl, hyr⟩ := HRI.out.reads.at_ hne
          have HLI := Lib.hid (HR3.out _ (List.getElem_mem hne))
          have HNR := Lib.hid hnr
          generalize row[nr] = last at hyr HLI
          obtain ⟨l, rfl⟩ : ∃ l : Nat, last = (l : Int) := ⟨last.toNat, by have := HLI.out; omega⟩
          have hlz : l < zs.length := by have := HLI.out; have := HZS.out; omega
          have hlz' : (l : Int) < (zs.length : Int) := by omega
          have hl0 : (0 : Int) ≤ (l : Int) := by omega
          obtain ⟨bz, oz, cz, e, hzc⟩ := HAT.out.own.reads.at_ hlz
          cases e
          have HZN := Lib.hid (HAT.out.sz _ (List.getElem_mem hlz))
          generalize zs[l] = nn at hzc HZN
          have e0 := blk_cell HAT.out.loc 0
          simp at e0
          have hnr0 : IntKind.i64.wrap ((row.length : Int) - 1) = (nr : Int) := by have := HNR.out; rw [IntKind.wrap_i64]; omega
          have hnr1 : (nr : Int) < (row.length : Int) := by have := HNR.out; omega
          have hrl3' : (row.length : Int) ≤ 3 := by omega
          clear hnr hne
          go_wp2_with fail
          refine wp_region_held_drew (S := (fun w' => w'.cell? ⟨W.heap.size, 0, none⟩ = some (.slice (some ⟨bz, oz, none⟩) zs.length cu) ∧ w'.cell? ⟨br, or_ + nr, none⟩ = some (.int .i64 (l : Int)) ∧ w'.cell? ⟨bz, oz + l, none⟩ = some (.int .i64 nn))) (by kernel_rfl) ?_ (fun hHeld => ?_)
          · exact ⟨e0, hyr, hzc⟩
          refine wpAnyH_take (i := 0) (oi := _) (v := ?_) rfl (by kernel_rfl) (by kernel_rfl) (by kernel_rfl) (fun _ _ _ h => h) (Or.inl ⟨by rfl, ?_⟩) (by assumption) ?_
          rotate_left
          · first | (intro w' hSw; (try dsimp only at hSw); go_simp; done) | (intro w' hSw; (try dsimp only at hSw); go_simp; with_reducible rfl)
          try simp only [Act.put, List.getElem_toArray, List.getElem_cons_zero, List.getElem_cons_succ, List.setIfInBounds_toArray, List.set_cons_zero, List.set_cons_succ]
          refine wpAnyH_take (i := 1) (oi := _) (v := ?_) rfl (by kernel_rfl) (by kernel_rfl) (by kernel_rfl) (fun _ _ _ h => h) (Or.inl ⟨by rfl, ?_⟩) (by assumption) ?_
          rotate_left
          · first | (intro w' hSw; (try dsimp only at hSw); go_simp; done) | (intro w' hSw; (try dsimp only at hSw); go_simp; with_reducible rfl)
          try simp only [Act.put, List.getElem_toArray, List.getElem_cons_zero, List.getElem_cons_succ, List.setIfInBounds_toArray, List.set_cons_zero, List.set_cons_succ]
          refine wpAnyH_take (i := 2) (oi := _) (v := ?_) rfl (by kernel_rfl) (by kernel_rfl) (by kernel_rfl) (fun _ _ _ h => h) (Or.inl ⟨by rfl, ?_⟩) (by assumption) ?_
          rotate_left
          · first | (intro w' hSw; (try dsimp only at hSw); go_simp; done) | (intro w' hSw; (try dsimp only at hSw); go_simp; with_reducible rfl)
          try simp only [Act.put, List.getElem_toArray, List.getElem_cons_zero, List.getElem_cons_succ, List.setIfInBounds_toArray, List.set_cons_zero, List.set_cons_succ]
          refine wpAnyH_take (i := 3) (oi := _) (v := ?_) rfl (by kernel_rfl) (by kernel_rfl) (by kernel_rfl) (fun _ _ _ h => h) (Or.inl ⟨by rfl, ?_⟩) (by assumption) ?_
          rotate_left
          · first | (intro w' hSw; (try dsimp only at hSw); go_simp; done) | (intro w' hSw; (try dsimp only at hSw); go_simp; with_reducible rfl)
          try simp only [Act.put, List.getElem_toArray, List.getElem_cons_zero, List.getElem_cons_succ, List.setIfInBounds_toArray, List.set_cons_zero, List.set_cons_succ]
          refine wpAnyH_take (i := 4) (oi := _) (v := ?_) rfl (by kernel_rfl) (by kernel_rfl) (by kernel_rfl) (fun _ _ _ h => h) (Or.inl ⟨by rfl, ?_⟩) (by assumption) ?_
          rotate_left
          · first | (intro w' hSw; (try dsimp only at hSw); go_simp; done) | (intro w' hSw; (try dsimp only at hSw); go_simp; with_reducible rfl)
          try simp only [Act.put, List.getElem_toArray, List.getElem_cons_zero, List.getElem_cons_succ, List.setIfInBounds_toArray, List.set_cons_zero, List.set_cons_succ]
          refine wpAnyH_take (i := 5) (oi := _) (v := ?_) rfl (by kernel_rfl) (by kernel_rfl) (by kernel_rfl) (fun _ _ _ h => h) (Or.inl ⟨by rfl, ?_⟩) (by assumption) ?_
          rotate_left
          · first | (intro w' hSw; (try dsimp only at hSw); go_simp; done) | (intro w' hSw; (try dsimp only at hSw); go_simp; with_reducible rfl)
          try simp only [Act.put, List.getElem_toArray, List.getElem_cons_zero, List.getElem_cons_succ, List.setIfInBounds_toArray, List.set_cons_zero, List.set_cons_succ]
          refine wpAnyH_take (i := 6) (oi := _) (v := ?_) rfl (by kernel_rfl) (by kernel_rfl) (by kernel_rfl) (fun _ _ _ h => h) (Or.inl ⟨by rfl, ?_⟩) (by assumption) ?_
          rotate_left
          · first | (intro w' hSw; (try dsimp only at hSw); go_simp; done) | (intro w' hSw; (try dsimp only at hSw); go_simp; with_reducible rfl)
          try simp only [Act.put, List.getElem_toArray, List.getElem_cons_zero, List.getElem_cons_succ, List.setIfInBounds_toArray, List.set_cons_zero, List.set_cons_succ]
          refine wpAnyH_take (i := 7) (oi := _) (v := ?_) rfl (by kernel_rfl) (by kernel_rfl) (by kernel_rfl) (fun _ _ _ h => h) (Or.inl ⟨by rfl, ?_⟩) (by assumption) ?_
          rotate_left
          · first | (intro w' hSw; (try dsimp only at hSw); go_simp; done) | (intro w' hSw; (try dsimp only at hSw); go_simp; with_reducible rfl)
          try simp only [Act.put, List.getElem_toArray, List.getElem_cons_zero, List.getElem_cons_succ, List.setIfInBounds_toArray, List.set_cons_zero, List.set_cons_succ]
          refine wpAnyH_take (i := 8) (oi := _) (v := ?_) rfl (by kernel_rfl) (by kernel_rfl) (by kernel_rfl) (fun _ _ _ h => h) (Or.inl ⟨by rfl, ?_⟩) (by assumption) ?_
          rotate_left
          · first | (intro w' hSw; (try dsimp only at hSw); go_simp; done) | (intro w' hSw; (try dsimp only at hSw); go_simp; with_reducible rfl)
          try simp only [Act.put, List.getElem_toArray, List.getElem_cons_zero, List.getElem_cons_succ, List.setIfInBounds_toArray, List.set_cons_zero, List.set_cons_succ]
          refine wpAnyH_take (i := 9) (oi := _) (v := ?_) rfl (by kernel_rfl) (by kernel_rfl) (by kernel_rfl) (fun _ _ _ h => h) (Or.inl ⟨by rfl, ?_⟩) (by assumption) ?_
          rotate_left
          · first | (intro w' hSw; (try dsimp only at hSw); go_simp; done) | (intro w' hSw; (try dsimp only at hSw); go_simp; with_reducible rfl)
          try simp only [Act.put, List.getElem_toArray, List.getElem_cons_zero, List.getElem_cons_succ, List.setIfInBounds_toArray, List.set_cons_zero, List.set_cons_succ]
          refine wpAnyH_take (i := 10) (oi := _) (v := ?_) rfl (by kernel_rfl) (by kernel_rfl) (by kernel_rfl) (fun _ _ _ h => h) (Or.inl ⟨by rfl, ?_⟩) (by assumption) ?_
          rotate_left
          · first | (intro w' hSw; (try dsimp only at hSw); go_simp; done) | (intro w' hSw; (try dsimp only at hSw); go_simp; with_reducible rfl)
          try simp only [Act.put, List.getElem_toArray, List.getElem_cons_zero, List.getElem_cons_succ, List.setIfInBounds_toArray, List.set_cons_zero, List.set_cons_succ]
          refine wpAnyH_done (by kernel_rfl) ?_ _
          clear e0 hyr hzc hx
          have HA1 := Lib.hid HAT.out.drew
          go_wp2_with fail
          refine (pick_any g q2 _ _ HA1.out.rd (by have := HQ2.out; omega)).mono ?_
          rintro e w2 ⟨kd, rfl, hkd, hr, hgp⟩
          have hkd := hkd.2 (by omega)
          have HKD := Lib.hid hkd
          have HA2 := Lib.hid (HA1.out.later hgp hr)
          have HRI2 := Lib.hid (show OInts w2 B (.slice (some ⟨br, or_, none⟩) row.length cr) row from own_past (w := wr.drew) HRI.out hgp HGB.out)
          have HR0 : Hid (RowAt w2 w2 (w2.alloc (.cells #[] 3)) g (.slice (some ⟨w2.heap.size, 0, none⟩) 0 0) [] (q2 + 1)) := ⟨own_empty w2, hr.keep (below_alloc _ _), gr_alloc (gr_refl _ _) _⟩
          clear hr hgp hkd s0 s1
          have hzl3 : zs.length ≤ 3 := by have := HZS.out; have := HV.out; omega
          have HIN := Lib.hid (fun x (hx : x ∈ row) => (show 0 ≤ x ∧ x < (zs.length : Int) by have := HR3.out x hx; have := HZS.out; omega))
          have HSL : Hid (Sizes (ledM zs row.dropLast)) := sizes_led HAT.out.sz fun x hx => by have := HIN.out x (List.mem_of_mem_dropLast' hx); omega
          obtain ⟨N, hN⟩ : ∃ N : Nat, waysM (ledM zs row.dropLast) = (N : Int) := ⟨(waysM (ledM zs row.dropLast)).toNat, by have := ways_pos HSL.out; omega⟩
          have hN1 : 1 ≤ N := by have := ways_pos HSL.out; omega
          have hN9 : N ≤ 9 := by
            have h1 := ways_le HSL.out
            have h2 : (ledM zs row.dropLast).length ≤ 2 := by rw [ledM_len, List.length_dropLast]; omega
            have h3 : ∀ n : Nat, n ≤ 2 → (3 : Int) ^ n ≤ 9 := by
              intro n hn
              match n, hn with
              | 0, _ => decide
              | 1, _ => decide
              | 2, _ => decide
            have := h3 _ h2
            omega
          have HN := Lib.hid hN
          have HSZ0 := Lib.hid HAT.out.sz
          obtain ⟨us, hu1, hu2, hu3, hu4⟩ := HA2.out.tab
          have HU1 := Lib.hid hu1
          have HU2 := Lib.hid hu2
          have HU3 := Lib.hid hu3
          have HU4 := Lib.hid hu4
          obtain ⟨Ax, cx, rfl, -⟩ := own_reads hu1
          have HGW2 := Lib.hid HA2.out.rd.lt
          have hnn1 : 1 ≤ nn := HZN.out.1
          have hnn0 : (nn == 0) = false := by simp; omega
          clear hN hu1 hu2 hu3 hu4 HAT HA1
          go_wp2
          go_loopw [11, 12, 13] (fun tv i _ wj => ∃ j : Nat, ∃ tb q3, i = .int .i64 j ∧ tb.length = j ∧ j ≤ N ∧ RowAt w2 w2 wj g tv tb q3 ∧ q3 ≤ q2 + 1 + j) (fun _ i _ _ => N - (intOf i).toNat)
          case atStart => exact ⟨0, [], _, rfl, rfl, Nat.zero_le _, HR0.out, Nat.le_refl _⟩
          case round =>
            obtain ⟨j, tb, q3, rfl, htl, hjN, hrj, hq3⟩ := hrel
            obtain ⟨wj, hwj⟩ : ∃ x : World, x = wr := ⟨_, rfl⟩
            subst hwj
            obtain ⟨At, ct, rfl, -⟩ := own_reads hrj.own
            have HROWJ := Lib.hid hrj
            have HTL := Lib.hid htl
            have HQ3 := Lib.hid hq3
            have HMJ := Lib.hid (HA2.out.later hrj.gr hrj.rd)
            have HRJ := Lib.hid (show OInts wj B (.slice (some ⟨br, or_, none⟩) row.length cr) row from own_past HRI2.out hrj.gr HGB.out)
            have e0 := blk_cell HMJ.out.loc 0
            have e1 := blk_cell HMJ.out.loc 1
            simp at e0 e1
            clear hrj htl hq3
            go_wp2_with fail
            refine (l5Rows_any zs row _ _ _ HMJ.out.own.reads HRJ.out.reads r1 r2 HSZ0.out HIN.out hzl3).mono ?_
            rw [HN.out]
            rintro e w3 ⟨rfl, rfl⟩
            by_cases hjlt : j < N
            · have hjlt' : (j : Int) < (N : Int) := by omega
              rcases (show kd = 0 ∨ kd = 1 ∨ kd = 2 ∨ kd = 3 by have := HKD.out; omega) with rfl | rfl | rfl | rfl
              · go_wp2_with (at_builtin; refine wpList_append_own _ rfl _ _ 26 rfl w2.heap.size 3 i0 (.int .i64 0) 1 8 Try.underlying26 hi0 hz0 hz1' hz2' rfl (by decide) _ tb.length (tb.map (Value.int .i64)) rfl (own_keep HROWJ.out.own (below_alloc wj _)) ⟨wj.heap.size, 0, none⟩ 1 1 ([(0 : Int)].map (Value.int .i64)) rfl (by simp) (led_new wj (0 : Int)) (ints_one _) (by rw [maxLen_eq]; have := HTL.out; omega) (by have := HTL.out; omega) (by have := HROWJ.out.gr.size; simp; omega) ?_)
                intro v6 w6 hv6 hg6 _
                have HNX := Lib.hid (row_append HROWJ.out HGW2.out (gr_refl wj g) HROWJ.out.rd hv6 hg6)
                obtain ⟨A6, c6, rfl, -⟩ := own_reads hv6
                clear hv6 hg6
                go_wp2
                go_roundw
                case rel => exact ⟨j + 1, _, _, by go_num, by have := HTL.out; simp; omega, by omega, HNX.out, by have := HQ3.out; omega⟩
                case measure => simp [intOf]; omega
              · go_wp2_with (at_builtin; refine wpList_append_own _ rfl _ _ 26 rfl w2.heap.size 3 i0 (.int .i64 0) 1 8 Try.underlying26 hi0 hz0 hz1' hz2' rfl (by decide) _ tb.length (tb.map (Value.int .i64)) rfl (own_keep HROWJ.out.own (below_alloc wj _)) ⟨wj.heap.size, 0, none⟩ 1 1 ([((j : Int) % nn)].map (Value.int .i64)) rfl (by simp) (led_new wj ((j : Int) % nn)) (ints_one _) (by rw [maxLen_eq]; have := HTL.out; omega) (by have := HTL.out; omega) (by have := HROWJ.out.gr.size; simp; omega) ?_)
                intro v6 w6 hv6 hg6 _
                have HNX := Lib.hid (row_append HROWJ.out HGW2.out (gr_refl wj g) HROWJ.out.rd hv6 hg6)
                obtain ⟨A6, c6, rfl, -⟩ := own_reads hv6
                clear hv6 hg6
                go_wp2
                go_roundw
                case rel => exact ⟨j + 1, _, _, by go_num, by have := HTL.out; simp; omega, by omega, HNX.out, by have := HQ3.out; omega⟩
                case measure => simp [intOf]; omega
              · have hmod : 0 ≤ (j : Int) % 3 ∧ (j : Int) % 3 < 3 := ⟨Int.emod_nonneg _ (by omega), Int.emod_lt_of_pos _ (by omega)⟩
                have HMOD := Lib.hid hmod
                clear hmod
                go_upto_if 90 with fail
                go_cut [13] (fun t13 wx => ∃ sec : Int, t13 = .int .i64 sec ∧ 0 ≤ sec ∧ RowAt w2 w2 wx g (.slice At tb.length ct) tb q3)
                case first =>
                  by_cases h3 : row.length = 3
                  · have h3' : ((row.length : Int) == 3) = true := by simp [h3]
                    have h1r : 1 < row.length := by omega
                    obtain ⟨b1, o1, c1, e, hr1c⟩ := HRJ.out.reads.at_ h1r
                    cases e
                    have HL1 := Lib.hid (HIN.out _ (List.getElem_mem h1r))
                    generalize row[1] = t1 at hr1c HL1
                    obtain ⟨l1, rfl⟩ : ∃ l1 : Nat, t1 = (l1 : Int) := ⟨t1.toNat, by have := HL1.out; omega⟩
                    have hl1 : l1 < zs.length := by have := HL1.out; omega
                    have hl1' : (l1 : Int) < (zs.length : Int) := by omega
                    have hl10 : (0 : Int) ≤ (l1 : Int) := by omega
                    obtain ⟨b2, o2, c2, e, hz1c⟩ := HMJ.out.own.reads.at_ hl1
                    cases e
                    have HZ1 := Lib.hid (HSZ0.out _ (List.getElem_mem hl1))
                    generalize zs[l1] = z1 at hz1c HZ1
                    have hz1ne : ¬ z1 = 0 := by have := HZ1.out.1; omega
                    have hnnne : ¬ nn = 0 := by omega
                    obtain ⟨va, hva, hva0, hva9⟩ : ∃ va, IntKind.i64.wrap ((j : Int) / z1) = va ∧ 0 ≤ va ∧ va ≤ 9 := by
                      have q1 := Int.ediv_nonneg (a := (j : Int)) (b := z1) (by omega) (by have := HZ1.out.1; omega)
                      have q2 := Int.ediv_le_self z1 (a := (j : Int)) (by omega)
                      exact ⟨_, by rw [IntKind.wrap_i64]; omega, q1, by omega⟩
                    obtain ⟨vb, hvb, hvb0, hvb3⟩ : ∃ vb, (j : Int).tmod z1 = vb ∧ 0 ≤ vb ∧ vb < 3 := by
                      refine ⟨_, Int.tmod_eq_emod_of_nonneg (by omega), Int.emod_nonneg _ hz1ne, ?_⟩
                      have := Int.emod_lt_of_pos (j : Int) (b := z1) (by have := HZ1.out.1; omega)
                      have := HZ1.out.2
                      omega
                    have hvc : IntKind.i64.wrap (va + vb) = va + vb := by rw [IntKind.wrap_i64]; omega
                    obtain ⟨vd, hvd, hvd0⟩ : ∃ vd, (va + vb).tmod nn = vd ∧ 0 ≤ vd := ⟨_, Int.tmod_eq_emod_of_nonneg (by omega), Int.emod_nonneg _ hnnne⟩
                    have hvd' : (va + vb) % nn = vd := by rw [← hvd, Int.tmod_eq_emod_of_nonneg (by omega)]
                    have h1r' : (1 : Int) < (row.length : Int) := by omega
                    have HH3 := Lib.hid h3
                    clear h3
                    go_wp2_with fail
                    refine wp_region_held_drew (S := (fun w' => w'.cell? ⟨W.heap.size, 0, none⟩ = some (.slice (some ⟨bz, oz, none⟩) zs.length cu) ∧ w'.cell? ⟨br, or_ + 1, none⟩ = some (.int .i64 (l1 : Int)) ∧ w'.cell? ⟨bz, oz + l1, none⟩ = some (.int .i64 z1))) (by kernel_rfl) ?_ (fun hHeld => ?_)
                    · exact ⟨e0, hr1c, hz1c⟩
                    refine wpAnyH_take (i := 0) (oi := _) (v := ?_) rfl (by kernel_rfl) (by kernel_rfl) (by kernel_rfl) (fun _ _ _ h => h) (Or.inl ⟨by rfl, ?_⟩) (by assumption) ?_
                    rotate_left
                    · first | (intro w' hSw; (try dsimp only at hSw); go_simp; done) | (intro w' hSw; (try dsimp only at hSw); go_simp; with_reducible rfl)
                    try simp only [Act.put, List.getElem_toArray, List.getElem_cons_zero, List.getElem_cons_succ, List.setIfInBounds_toArray, List.set_cons_zero, List.set_cons_succ]
                    refine wpAnyH_take (i := 1) (oi := _) (v := ?_) rfl (by kernel_rfl) (by kernel_rfl) (by kernel_rfl) (fun _ _ _ h => h) (Or.inl ⟨by rfl, ?_⟩) (by assumption) ?_
                    rotate_left
                    · first | (intro w' hSw; (try dsimp only at hSw); go_simp; done) | (intro w' hSw; (try dsimp only at hSw); go_simp; with_reducible rfl)
                    try simp only [Act.put, List.getElem_toArray, List.getElem_cons_zero, List.getElem_cons_succ, List.setIfInBounds_toArray, List.set_cons_zero, List.set_cons_succ]
                    refine wpAnyH_take (i := 2) (oi := _) (v := ?_) rfl (by kernel_rfl) (by kernel_rfl) (by kernel_rfl) (fun _ _ _ h => h) (Or.inl ⟨by rfl, ?_⟩) (by assumption) ?_
                    rotate_left
                    · first | (intro w' hSw; (try dsimp only at hSw); go_simp; done) | (intro w' hSw; (try dsimp only at hSw); go_simp; with_reducible rfl)
                    try simp only [Act.put, List.getElem_toArray, List.getElem_cons_zero, List.getElem_cons_succ, List.setIfInBounds_toArray, List.set_cons_zero, List.set_cons_succ]
                    refine wpAnyH_take (i := 3) (oi := _) (v := ?_) rfl (by kernel_rfl) (by kernel_rfl) (by kernel_rfl) (fun _ _ _ h => h) (Or.inl ⟨by rfl, ?_⟩) (by assumption) ?_
                    rotate_left
                    · first | (intro w' hSw; (try dsimp only at hSw); go_simp; done) | (intro w' hSw; (try dsimp only at hSw); go_simp; with_reducible rfl)
                    try simp only [Act.put, List.getElem_toArray, List.getElem_cons_zero, List.getElem_cons_succ, List.setIfInBounds_toArray, List.set_cons_zero, List.set_cons_succ]
                    refine wpAnyH_take (i := 4) (oi := _) (v := ?_) rfl (by kernel_rfl) (by kernel_rfl) (by kernel_rfl) (fun _ _ _ h => h) (Or.inl ⟨by rfl, ?_⟩) (by assumption) ?_
                    rotate_left
                    · first | (intro w' hSw; (try dsimp only at hSw); go_simp; done) | (intro w' hSw; (try dsimp only at hSw); go_simp; with_reducible rfl)
                    try simp only [Act.put, List.getElem_toArray, List.getElem_cons_zero, List.getElem_cons_succ, List.setIfInBounds_toArray, List.set_cons_zero, List.set_cons_succ]
                    refine wpAnyH_take (i := 5) (oi := _) (v := ?_) rfl (by kernel_rfl) (by kernel_rfl) (by kernel_rfl) (fun _ _ _ h => h) (Or.inl ⟨by rfl, ?_⟩) (by assumption) ?_
                    rotate_left
                    · first | (intro w' hSw; (try dsimp only at hSw); go_simp; done) | (intro w' hSw; (try dsimp only at hSw); go_simp; with_reducible rfl)
                    try simp only [Act.put, List.getElem_toArray, List.getElem_cons_zero, List.getElem_cons_succ, List.setIfInBounds_toArray, List.set_cons_zero, List.set_cons_succ]
                    refine wpAnyH_take (i := 6) (oi := _) (v := ?_) rfl (by kernel_rfl) (by kernel_rfl) (by kernel_rfl) (fun _ _ _ h => h) (Or.inl ⟨by rfl, ?_⟩) (by assumption) ?_
                    rotate_left
                    · first | (intro w' hSw; (try dsimp only at hSw); go_simp; done) | (intro w' hSw; (try dsimp only at hSw); go_simp; with_reducible rfl)
                    try simp only [Act.put, List.getElem_toArray, List.getElem_cons_zero, List.getElem_cons_succ, List.setIfInBounds_toArray, List.set_cons_zero, List.set_cons_succ]
                    refine wpAnyH_take (i := 7) (oi := _) (v := ?_) rfl (by kernel_rfl) (by kernel_rfl) (by kernel_rfl) (fun _ _ _ h => h) (Or.inl ⟨by rfl, ?_⟩) (by assumption) ?_
                    rotate_left
                    · first | (intro w' hSw; (try dsimp only at hSw); go_simp; done) | (intro w' hSw; (try dsimp only at hSw); go_simp; with_reducible rfl)
                    try simp only [Act.put, List.getElem_toArray, List.getElem_cons_zero, List.getElem_cons_succ, List.setIfInBounds_toArray, List.set_cons_zero, List.set_cons_succ]
                    refine wpAnyH_take (i := 8) (oi := _) (v := ?_) rfl (by kernel_rfl) (by kernel_rfl) (by kernel_rfl) (fun _ _ _ h => h) (Or.inl ⟨by rfl, ?_⟩) (by assumption) ?_
                    rotate_left
                    · first | (intro w' hSw; (try dsimp only at hSw); go_simp; done) | (intro w' hSw; (try dsimp only at hSw); go_simp; with_reducible rfl)
                    try simp only [Act.put, List.getElem_toArray, List.getElem_cons_zero, List.getElem_cons_succ, List.setIfInBounds_toArray, List.set_cons_zero, List.set_cons_succ]
                    refine wpAnyH_take (i := 9) (oi := _) (v := ?_) rfl (by kernel_rfl) (by kernel_rfl) (by kernel_rfl) (fun _ _ _ h => h) (Or.inl ⟨by rfl, ?_⟩) (by assumption) ?_
                    rotate_left
                    · first | (intro w' hSw; (try dsimp only at hSw); go_simp; done) | (intro w' hSw; (try dsimp only at hSw); go_simp; with_reducible rfl)
                    try simp only [Act.put, List.getElem_toArray, List.getElem_cons_zero, List.getElem_cons_succ, List.setIfInBounds_toArray, List.set_cons_zero, List.set_cons_succ]
                    refine wpAnyH_take (i := 10) (oi := _) (v := ?_) rfl (by kernel_rfl) (by kernel_rfl) (by kernel_rfl) (fun _ _ _ h => h) (Or.inl ⟨by rfl, ?_⟩) (by assumption) ?_
                    rotate_left
                    · first | (intro w' hSw; (try dsimp only at hSw); go_simp; done) | (intro w' hSw; (try dsimp only at hSw); go_simp; with_reducible rfl)
                    try simp only [Act.put, List.getElem_toArray, List.getElem_cons_zero, List.getElem_cons_succ, List.setIfInBounds_toArray, List.set_cons_zero, List.set_cons_succ]
                    refine wpAnyH_take (i := 11) (oi := _) (v := ?_) rfl (by kernel_rfl) (by kernel_rfl) (by kernel_rfl) (fun _ _ _ h => h) (Or.inl ⟨by rfl, ?_⟩) (by assumption) ?_
                    rotate_left
                    · first | (intro w' hSw; (try dsimp only at hSw); go_simp; done) | (intro w' hSw; (try dsimp only at hSw); go_simp; with_reducible rfl)
                    try simp only [Act.put, List.getElem_toArray, List.getElem_cons_zero, List.getElem_cons_succ, List.setIfInBounds_toArray, List.set_cons_zero, List.set_cons_succ]
                    refine wpAnyH_take (i := 12) (oi := _) (v := ?_) rfl (by kernel_rfl) (by kernel_rfl) (by kernel_rfl) (fun _ _ _ h => h) (Or.inl ⟨by rfl, ?_⟩) (by assumption) ?_
                    rotate_left
                    · first | (intro w' hSw; (try dsimp only at hSw); go_simp; done) | (intro w' hSw; (try dsimp only at hSw); go_simp; with_reducible rfl)
                    try simp only [Act.put, List.getElem_toArray, List.getElem_cons_zero, List.getElem_cons_succ, List.setIfInBounds_toArray, List.set_cons_zero, List.set_cons_succ]
                    refine wpAnyH_take (i := 13) (oi := _) (v := ?_) rfl (by kernel_rfl) (by kernel_rfl) (by kernel_rfl) (fun _ _ _ h => h) (Or.inl ⟨by rfl, ?_⟩) (by assumption) ?_
                    rotate_left
                    · first | (intro w' hSw; (try dsimp only at hSw); go_simp; done) | (intro w' hSw; (try dsimp only at hSw); go_simp; with_reducible rfl)
                    try simp only [Act.put, List.getElem_toArray, List.getElem_cons_zero, List.getElem_cons_succ, List.setIfInBounds_toArray, List.set_cons_zero, List.set_cons_succ]
                    refine wpAnyH_take (i := 14) (oi := _) (v := ?_) rfl (by kernel_rfl) (by kernel_rfl) (by kernel_rfl) (fun _ _ _ h => h) (Or.inl ⟨by rfl, ?_⟩) (by assumption) ?_
                    rotate_left
                    · first | (intro w' hSw; (try dsimp only at hSw); go_simp; done) | (intro w' hSw; (try dsimp only at hSw); go_simp; with_reducible rfl)
                    try simp only [Act.put, List.getElem_toArray, List.getElem_cons_zero, List.getElem_cons_succ, List.setIfInBounds_toArray, List.set_cons_zero, List.set_cons_succ]
                    refine wpAnyH_take (i := 15) (oi := _) (v := ?_) rfl (by kernel_rfl) (by kernel_rfl) (by kernel_rfl) (fun _ _ _ h => h) (Or.inl ⟨by rfl, ?_⟩) (by assumption) ?_
                    rotate_left
                    · first | (intro w' hSw; (try dsimp only at hSw); go_simp; done) | (intro w' hSw; (try dsimp only at hSw); go_simp; with_reducible rfl)
                    try simp only [Act.put, List.getElem_toArray, List.getElem_cons_zero, List.getElem_cons_succ, List.setIfInBounds_toArray, List.set_cons_zero, List.set_cons_succ]
                    refine wpAnyH_take (i := 16) (oi := _) (v := ?_) rfl (by kernel_rfl) (by kernel_rfl) (by kernel_rfl) (fun _ _ _ h => h) (Or.inl ⟨by rfl, ?_⟩) (by assumption) ?_
                    rotate_left
                    · first | (intro w' hSw; (try dsimp only at hSw); go_simp; done) | (intro w' hSw; (try dsimp only at hSw); go_simp; with_reducible rfl)
                    try simp only [Act.put, List.getElem_toArray, List.getElem_cons_zero, List.getElem_cons_succ, List.setIfInBounds_toArray, List.set_cons_zero, List.set_cons_succ]
                    refine wpAnyH_take (i := 17) (oi := _) (v := ?_) rfl (by kernel_rfl) (by kernel_rfl) (by kernel_rfl) (fun _ _ _ h => h) (Or.inl ⟨by rfl, ?_⟩) (by assumption) ?_
                    rotate_left
                    · first | (intro w' hSw; (try dsimp only at hSw); go_simp; done) | (intro w' hSw; (try dsimp only at hSw); go_simp; with_reducible rfl)
                    try simp only [Act.put, List.getElem_toArray, List.getElem_cons_zero, List.getElem_cons_succ, List.setIfInBounds_toArray, List.set_cons_zero, List.set_cons_succ]
                    refine wpAnyH_take (i := 18) (oi := _) (v := ?_) rfl (by kernel_rfl) (by kernel_rfl) (by kernel_rfl) (fun _ _ _ h => h) (Or.inl ⟨by rfl, ?_⟩) (by assumption) ?_
                    rotate_left
                    · first | (intro w' hSw; (try dsimp only at hSw); go_simp; done) | (intro w' hSw; (try dsimp only at hSw); go_simp; with_reducible rfl)
                    try simp only [Act.put, List.getElem_toArray, List.getElem_cons_zero, List.getElem_cons_succ, List.setIfInBounds_toArray, List.set_cons_zero, List.set_cons_succ]
                    refine wpAnyH_take (i := 19) (oi := _) (v := ?_) rfl (by kernel_rfl) (by kernel_rfl) (by kernel_rfl) (fun _ _ _ h => h) (Or.inl ⟨by rfl, ?_⟩) (by assumption) ?_
                    rotate_left
                    · first | (intro w' hSw; (try dsimp only at hSw); go_simp; done) | (intro w' hSw; (try dsimp only at hSw); go_simp; with_reducible rfl)
                    try simp only [Act.put, List.getElem_toArray, List.getElem_cons_zero, List.getElem_cons_succ, List.setIfInBounds_toArray, List.set_cons_zero, List.set_cons_succ]
                    refine wpAnyH_take (i := 20) (oi := _) (v := ?_) rfl (by kernel_rfl) (by kernel_rfl) (by kernel_rfl) (fun _ _ _ h => h) (Or.inl ⟨by rfl, ?_⟩) (by assumption) ?_
                    rotate_left
                    · first | (intro w' hSw; (try dsimp only at hSw); go_simp; done) | (intro w' hSw; (try dsimp only at hSw); go_simp; with_reducible rfl)
                    try simp only [Act.put, List.getElem_toArray, List.getElem_cons_zero, List.getElem_cons_succ, List.setIfInBounds_toArray, List.set_cons_zero, List.set_cons_succ]
                    refine wpAnyH_take (i := 21) (oi := _) (v := ?_) rfl (by kernel_rfl) (by kernel_rfl) (by kernel_rfl) (fun _ _ _ h => h) (Or.inl ⟨by rfl, ?_⟩) (by assumption) ?_
                    rotate_left
                    · first | (intro w' hSw; (try dsimp only at hSw); go_simp; done) | (intro w' hSw; (try dsimp only at hSw); go_simp; with_reducible rfl)
                    try simp only [Act.put, List.getElem_toArray, List.getElem_cons_zero, List.getElem_cons_succ, List.setIfInBounds_toArray, List.set_cons_zero, List.set_cons_succ]
                    refine wpAnyH_done (by kernel_rfl) ?_ _
                    go_wp2
                    go_meet
                    case rel => exact ⟨_, rfl, hvd0, ⟨HROWJ.out.own, HROWJ.out.rd, ⟨HROWJ.out.gr.os, HROWJ.out.gr.tape, HROWJ.out.gr.output, HROWJ.out.gr.size, HROWJ.out.gr.block⟩⟩⟩
                  · have h3' : ((row.length : Int) == 3) = false := by simp; omega
                    go_wp2
                    go_meet
                    case rel => exact ⟨_, rfl, HMOD.out.1, HROWJ.out⟩
                case rest =>
                  obtain ⟨sec, rfl, hsec, hrx⟩ := hcut
                  obtain ⟨wx, hwx⟩ : ∃ wx : World, wx = wc := ⟨_, rfl⟩
                  subst hwx
                  have HROWX := Lib.hid hrx
                  have hs0 := hsec
                  clear hrx
                  go_wp2_with (at_builtin; refine wpList_append_own _ rfl _ _ 26 rfl w2.heap.size 3 i0 (.int .i64 0) 1 8 Try.underlying26 hi0 hz0 hz1' hz2' rfl (by decide) _ tb.length (tb.map (Value.int .i64)) rfl (own_keep HROWX.out.own (below_alloc wx _)) ⟨wx.heap.size, 0, none⟩ 1 1 ([(sec % nn)].map (Value.int .i64)) rfl (by simp) (led_new wx (sec % nn)) (ints_one _) (by rw [maxLen_eq]; have := HTL.out; omega) (by have := HTL.out; omega) (by have := HROWX.out.gr.size; simp; omega) ?_)
                  intro v6 w6 hv6 hg6 _
                  have HNX := Lib.hid (row_append HROWX.out HGW2.out (gr_refl wx g) HROWX.out.rd hv6 hg6)
                  obtain ⟨A6, c6, rfl, -⟩ := own_reads hv6
                  clear hv6 hg6
                  go_wp2
                  go_roundw
                  case rel => exact ⟨j + 1, _, _, by go_num, by have := HTL.out; simp; omega, by omega, HNX.out, by have := HQ3.out; omega⟩
                  case measure => simp [intOf]; omega
              · go_wp2_with fail
                refine (pick_any g q3 _ _ HROWJ.out.rd (by have := HQ3.out; have := HQ2.out; omega)).mono ?_
                rintro e w5 ⟨xx, rfl, hxx, hr5, hg5⟩
                have HR5 := Lib.hid hr5
                have HG5 := Lib.hid hg5
                have HOJ5 := Lib.hid (own_past HROWJ.out.own hg5 HGW2.out)
                have HS5 := Lib.hid (show w2.heap.size ≤ w5.heap.size from Nat.le_trans HROWJ.out.gr.size hg5.size)
                clear hr5 hg5 hxx e0 e1
                go_wp2_with (at_builtin; refine wpList_append_own _ rfl _ _ 26 rfl w2.heap.size 3 i0 (.int .i64 0) 1 8 Try.underlying26 hi0 hz0 hz1' hz2' rfl (by decide) _ tb.length (tb.map (Value.int .i64)) rfl (own_keep HOJ5.out (below_alloc w5 _)) ⟨w5.heap.size, 0, none⟩ 1 1 ([xx].map (Value.int .i64)) rfl (by simp) (led_new w5 xx) (ints_one _) (by rw [maxLen_eq]; have := HTL.out; omega) (by have := HTL.out; omega) (by have := HS5.out; simp; omega) ?_)
                intro v6 w6 hv6 hg6 _
                have HNX := Lib.hid (row_append HROWJ.out HGW2.out HG5.out HR5.out hv6 hg6)
                obtain ⟨A6, c6, rfl, -⟩ := own_reads hv6
                clear hv6 hg6
                go_wp2
                go_roundw
                case rel => exact ⟨j + 1, _, _, by go_num, by have := HTL.out; simp; omega, by omega, HNX.out, by have := HQ3.out; omega⟩
                case measure => simp [intOf]; omega
            · have hjn : j = N := by omega
              have hjlt' : ¬ (j : Int) < (N : Int) := by omega
              have HUV := Lib.hid ((own_past HU1.out HROWJ.out.gr (by have := HA2.out.gl; have := HA2.out.la; have := HA2.out.aw; omega)).alloc (.cells #[.slice At tb.length ct] 26))
              have HN6 := Lib.hid (news_one5 wj (.slice At tb.length ct) 26)
              have HSW := Lib.hid (show wa.heap.size ≤ (wj.alloc (.cells #[.slice At tb.length ct] 26)).heap.size by have := HMJ.out.ww; simp; omega)
              go_wp2_with (at_builtin; refine wpList_append_own _ rfl _ _ 23 rfl wa.heap.size 26 i1 (.slice none 0 0) 1 24 Try.underlying23 hj hy0 hy1 hy2 rfl (by decide) _ _ _ rfl HUV.out ⟨wj.heap.size, 0, none⟩ 1 1 [.slice At tb.length ct] rfl rfl HN6.out (rows_one5 _) (by rw [maxLen_eq]; have := HRL.out; omega) (by have := HRL.out; omega) HSW.out ?_)
              intro v7 w7 hv7 hg7 _
              have HP := Lib.hid (HA2.out.push HROWJ.out.gr HROWJ.out.rd HROWJ.out.own HU1.out HU2.out HU3.out HU4.out hv7 hg7)
              obtain ⟨A7, c7, rfl, -⟩ := own_reads hv7
              have p1 := blk_cell HP.out.2 1
              have pf := blk_free HP.out.2 1
              simp at p1
              clear hv7 hg7 e0 e1
              go_wp2
              go_roundw
              case rel => exact ⟨k + 1, _, _, q3, by omega, by go_num, HP.out.1, by have := HRL.out; simp; omega, (fun row hr => by
                rcases List.mem_append.1 hr with h | h
                · exact HROW.out row h
                · rw [List.mem_singleton.1 h]; have := HTL.out; omega), by have := HQ3.out; have := HQ2.out; omega⟩
              case measure => simp [intOf]; omega
        · have hkn : k = s.ops.length := by omega
          have hks' : ¬ (k : Int) < (s.ops.length : Int) := by omega
          obtain ⟨us, hu1, -⟩ := HAT.out.tab
          obtain ⟨Ax, cx, rfl, -⟩ := own_reads hu1
          have e0 := blk_cell HAT.out.loc 0
          have e1 := blk_cell HAT.out.loc 1
          simp at e0 e1
          have hres := HAT.out.two.at_ (blk_held HZr.out HB4.out) (by have := HWS.out; omega) (by omega)
          have t0 := blk_cell hres 0
          have t1 := blk_cell hres 1
          have tf0 := blk_free hres 0
          have tf1 := blk_free hres 1
          simp at t0 t1
          have HRES := Lib.hid hres
          clear hu1 hres
          go_wp2
          obtain ⟨d1, d2, d3, d4⟩ := md_done HAT.out HGRW.out (show w.heap.size + 1 < wr.heap.size from (Array.getElem?_eq_some_iff.1 HRES.out).1) (by have := HWS.out; omega) (by omega) HRES.out
          generalize (wr.setCell ⟨w.heap.size + 1, 0, none⟩ (.slice Au zs.length cu)).setCell ⟨w.heap.size + 1, 1, none⟩ (.slice Ax rows.length cx) = w9 at d1 d2 d3 d4 ⊢
          have k0 := blk_cell d1 0
          have k1 := blk_cell d1 1
          simp at k0 k1
          refine bodyPost_ret (v := .agg #[.slice Au zs.length cu, .slice Ax rows.length cx]) (by simp [results, Try.results153, go_sem, k0, k1]) rfl ?_
          exact ⟨_, ⟨zs, rows⟩, q2, rfl, d2 (by have := HAT.out.la; have := HWS.out; omega), HZS.out, HAT.out.sz, by rw [HRL.out, hkn], HROW.out, d3, by have := HQ2.out; have := HV.out; omega, d4⟩
end
end Go.Proofs.Yticldaddbljleaa
