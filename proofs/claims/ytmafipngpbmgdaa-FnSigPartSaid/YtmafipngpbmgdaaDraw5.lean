/- DrawSigPart. -/
import Derived.Test.YtmafipngpbmgdaaDraw4
namespace Go.Proofs.Ytmafipngpbmgdaa
open Go.RowKit
set_option linter.unusedVariables false

set_option maxRecDepth 100000 in
theorem drawSigPart_any (v : Value) (bs : List Int) (w : World) (h : RBytes w w.heap.size v bs) :
    Calls Try.prog 24 #[v] w (DrawOpPost w) := by
  have hb0 := below_alloc w (.cells #[.int .i64 0, .slice none 0 0] 25)
  have HW := Lib.hid (bytes_alloc h hb0)
  obtain ⟨A, c, rfl, -⟩ := h
  go_enter Try.func24, Try.ntmps24
  go_wp2_with fail
  refine (open_any _ bs _ HW.out).mono ?_
  rintro e w1 ⟨rfl, hr1, hb1⟩
  have hr1' : RRd w1 (w.heap.size + 1) 0 := by simpa using hr1
  have HR1 := Lib.hid hr1'
  have HB1 := Lib.hid hb1
  clear hr1 hr1' hb1
  go_wp2_with fail
  refine (sig_any (w.heap.size + 1) 0 _ _ HR1.out (by omega) (by omega) (by omega)).mono ?_
  rintro e w2 ⟨v, ⟨sorts, rows⟩, q, rfl, ⟨u, rfl, ho⟩, hs2, hr2, hq2, hg2⟩
  have hu := ho
  obtain ⟨us0, hu0, -⟩ := hu
  obtain ⟨Au, cu, rfl, -⟩ := own_reads hu0
  simp only at hs2 hu0 ho
  have HR2 := Lib.hid hr2
  have HG2 := Lib.hid hg2
  have HO2 := Lib.hid ho
  clear hr2 hg2 ho hu0
  go_wp2_with fail
  refine (pick_any (w.heap.size + 1) q _ _ HR2.out (by omega)).mono ?_
  rintro e w3 ⟨x, rfl, hx, hr3, hg3⟩
  have hlt1 := HR1.out.lt
  have hsz := HB1.out.size
  simp at hsz
  have hres := gr_at hg3 (by omega) (gr_at HG2.out (by omega) ((HB1.out.block w.heap.size (by simp)).trans (heap_alloc_new w _)))
  have hbel : Below w.heap.size w w3 := ((hb0.trans (HB1.out.mono (by simp))).trans (below_of_gr' HG2.out (by omega))).trans (below_of_gr' hg3 (by omega) (by have := HG2.out.size; omega))
  have D := Lib.hid (res_done (sorts := sorts) hres ((HO2.out.grown hg3 (fun k e => by injection e with e; omega)).base (B' := w.heap.size + 1) (by omega)) (by omega) hbel (Nat.le_refl _))
  have e3 := block_cell hres 0
  have e4 := block_cell hres 1
  have e5 := block_free hres 0
  have e6 := block_free hres 1
  simp at e3 e4
  clear hres hr3 hg3 hbel
  go_wp2
  obtain ⟨d1, d2, d3⟩ := D.out
  generalize (w3.setCell ⟨w.heap.size, 0, none⟩ (.int .i64 sorts)).setCell ⟨w.heap.size, 1, none⟩ (.slice Au rows.length cu) = w9 at d1 d2 d3 ⊢
  have k0 := block_cell d1 0
  have k1 := block_cell d1 1
  simp at k0 k1
  refine bodyPost_ret (v := .tuple #[.agg #[.int .i64 sorts, .slice Au rows.length cu], .int .i64 x]) (by simp [results, Try.results24, go_sem, k0, k1]) rfl ?_
  exact ⟨_, ⟨sorts, rows⟩, x, rfl, ⟨_, rfl, d2.base (by omega)⟩, hs2, d3⟩
end Go.Proofs.Ytmafipngpbmgdaa
