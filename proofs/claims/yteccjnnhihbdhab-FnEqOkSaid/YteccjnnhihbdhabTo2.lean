/- toSig. -/
import Derived.Test.YteccjnnhihbdhabTo
namespace Go.Proofs.Yteccjnnhihbdhab
open Go.RowKit
set_option linter.unusedVariables false

set_option maxRecDepth 100000 in
theorem toSig_any (v : Value) (s : MSig) (w : World) (h : RSig w v s) (hs : Fits s.ops) :
    Calls Try.prog 13 #[v] w fun e w' => ∃ u, e = .returned u ∧ OSig w' w.heap.size u s ∧ Below w.heap.size w w' := by
  obtain ⟨u, rfl, hr⟩ := h
  obtain ⟨sorts, ops⟩ := s
  obtain ⟨W3, hW3⟩ : ∃ W3, W3 = ((w.alloc (.cells #[.int .i64 sorts, u] 24)).alloc (.cells #[.int .i64 0, .slice none 0 0] 35)).alloc (.cells #[.int .i64 sorts, .slice none 0 0] 35) := ⟨_, rfl⟩
  have hb3 : Below w.heap.size w W3 := by rw [hW3]; exact ((below_alloc _ _).alloc (by simp) _).alloc (by simp; omega) _
  have hz3 : W3.heap.size = w.heap.size + 3 := by rw [hW3]; simp
  have e1 : W3.heap[w.heap.size + 1]? = some (.cells #[.int .i64 0, .slice none 0 0] 35 (0, 0)) := by
    rw [hW3, heap_alloc_old _ _ (by simp)]
    exact (congrArg (fun i => ((w.alloc (.cells #[.int .i64 sorts, u] 24)).alloc (.cells #[.int .i64 0, .slice none 0 0] 35)).heap[i]?) (by simp)).trans (heap_alloc_new (w.alloc (.cells #[.int .i64 sorts, u] 24)) _)
  have e2 : W3.heap[w.heap.size + 2]? = some (.cells #[.int .i64 sorts, .slice none 0 0] 35 (0, 0)) := by
    rw [hW3]
    exact (congrArg (fun i => (((w.alloc (.cells #[.int .i64 sorts, u] 24)).alloc (.cells #[.int .i64 0, .slice none 0 0] 35)).alloc (.cells #[.int .i64 sorts, .slice none 0 0] 35)).heap[i]?) (by simp)).trans (heap_alloc_new ((w.alloc (.cells #[.int .i64 sorts, u] 24)).alloc (.cells #[.int .i64 0, .slice none 0 0] 35)) _)
  have H := Lib.hid (show RRows (((w.alloc (.cells #[.int .i64 sorts, u] 24)).alloc (.cells #[.int .i64 0, .slice none 0 0] 35)).alloc (.cells #[.int .i64 sorts, .slice none 0 0] 35)) u ops by rw [← hW3]; exact hr.keep hb3)
  have HW3 := Lib.hid (And.intro hW3 (And.intro hb3 (And.intro hz3 (And.intro e1 e2))))
  have HS := Lib.hid hs
  obtain ⟨A, c, rfl, -⟩ := hr.form
  clear hr hW3 hb3 hz3 e1 e2 hs
  go_enter Try.func13, Try.ntmps13
  go_wp2_with fail
  refine (toIntSS_any _ ops _ H.out HS.out).mono ?_
  rintro e w4 ⟨v, rfl, ho, hb⟩
  obtain ⟨hW3, hb3, hz3, e1, e2⟩ := HW3.out
  rw [← hW3] at ho hb
  have f1 := (hb.block _ (by omega)).trans e1
  have f2 := (hb.block _ (by omega)).trans e2
  rw [hz3] at ho
  have hsz := hb.size
  rw [hz3] at hsz
  have HO := Lib.hid ho
  have HB := Lib.hid (hb3.trans (hb.mono (by omega)))
  obtain ⟨A4, c4, rfl, -⟩ := ho.reads.form
  have j0 := block_cell' f1 0
  have j1 := block_cell' f1 1
  have j2 := block_free' f1 0
  have j3 := block_free' f1 1
  have j4 := block_cell' f2 0
  have j5 := block_cell' f2 1
  have j6 := block_free' f2 1
  simp at j0 j1 j4 j5
  have HF := Lib.hid (And.intro f1 f2)
  clear ho hb hb3 hz3 e1 e2 f1 f2 hW3 HW3
  go_wp2
  obtain ⟨f1, f2⟩ := HF.out
  have d1 := blk_set (blk_set ((Below.heap_setCell w4 ⟨w.heap.size + 2, 1, none⟩ (.slice A4 ops.length c4) (w.heap.size + 1) (by show w.heap.size + 1 ≠ w.heap.size + 2; omega)).trans f1) 0 (.int .i64 sorts)) 1 (.slice A4 ops.length c4)
  have d2 := ((HO.out.setLow' (b := w.heap.size + 2) (by omega) 1 (.slice A4 ops.length c4)).setLow' (b := w.heap.size + 1) (by omega) 0 (.int .i64 sorts)).setLow' (b := w.heap.size + 1) (by omega) 1 (.slice A4 ops.length c4)
  have d3 := ((HB.out.setCell (p := ⟨w.heap.size + 2, 1, none⟩) (by show w.heap.size ≤ w.heap.size + 2; omega) (.slice A4 ops.length c4)).setCell (p := ⟨w.heap.size + 1, 0, none⟩) (by show w.heap.size ≤ w.heap.size + 1; omega) (.int .i64 sorts)).setCell (p := ⟨w.heap.size + 1, 1, none⟩) (by show w.heap.size ≤ w.heap.size + 1; omega) (.slice A4 ops.length c4)
  generalize ((w4.setCell ⟨w.heap.size + 2, 1, none⟩ (.slice A4 ops.length c4)).setCell ⟨w.heap.size + 1, 0, none⟩ (.int .i64 sorts)).setCell ⟨w.heap.size + 1, 1, none⟩ (.slice A4 ops.length c4) = w9 at d1 d2 d3 ⊢
  have k0 := blk_cell d1 0
  have k1 := blk_cell d1 1
  simp at k0 k1
  clear j0 j1 j2 j3 j4 j5 j6 f1 f2
  refine bodyPost_ret (v := .agg #[.int .i64 sorts, .slice A4 ops.length c4]) (by simp [results, Try.results13, go_sem, k0, k1]) rfl ?_
  exact ⟨_, rfl, ⟨_, rfl, d2.base (by omega)⟩, d3⟩
end Go.Proofs.Yteccjnnhihbdhab
