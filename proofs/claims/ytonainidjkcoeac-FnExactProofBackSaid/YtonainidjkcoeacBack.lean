/- l3Copy (package spec): a step, copied. -/
import Derived.Test.YtonainidjkcoeacSteps
import Derived.Test.YtonainidjkcoeacCopy
import Derived.Test.YtonainidjkcoeacAt
import Derived.Deep.RegionHeld3
namespace Go.Proofs.Ytonainidjkcoeac
open Go.RowKit
set_option linter.unusedVariables false
set_option linter.unusedSimpArgs false

set_option maxHeartbeats 800000 in
set_option maxRecDepth 100000 in
theorem l3Copy_any (p : MStep) (w : World) (v : Value) (hs : FitsP p) (h : RStep w v p) :
    Calls Try.prog 49 #[v] w fun x w' => ∃ u, x = .returned u ∧ OStep w' w.heap.size u p ∧ Below w.heap.size w w' := by
  obtain ⟨Apa, cpa, rfl⟩ := h.form
  have hb : Below w.heap.size w (w.alloc (.cells #[.int .i64 p.ax, .bool p.back, .int .i64 p.at_, .slice Apa p.terms.length cpa] 82)) := below_alloc _ _
  have HB := Lib.hid hb
  have hsz : (w.alloc (.cells #[.int .i64 p.ax, .bool p.back, .int .i64 p.at_, .slice Apa p.terms.length cpa] 82)).heap.size = w.heap.size + 1 := by simp
  have Hp := Lib.hid (h.keep hb)
  have p0 := bx_at (w) #[.int .i64 p.ax, .bool p.back, .int .i64 p.at_, .slice Apa p.terms.length cpa] 82 (k := 0) rfl
  have p1 := bx_at (w) #[.int .i64 p.ax, .bool p.back, .int .i64 p.at_, .slice Apa p.terms.length cpa] 82 (k := 1) rfl
  have p2 := bx_at (w) #[.int .i64 p.ax, .bool p.back, .int .i64 p.at_, .slice Apa p.terms.length cpa] 82 (k := 2) rfl
  have p3 := bx_at (w) #[.int .i64 p.ax, .bool p.back, .int .i64 p.at_, .slice Apa p.terms.length cpa] 82 (k := 3) rfl
  generalize hW : w.alloc (.cells #[.int .i64 p.ax, .bool p.back, .int .i64 p.at_, .slice Apa p.terms.length cpa] 82) = W at HB hsz Hp p0 p1 p2 p3
  clear hb h
  have R1 := Lib.hid Hp.out.of
  have HS := Lib.hid hs
  have hba := below_alloc W (.cells #[.int .i64 0, .bool false, .int .i64 0, .slice none 0 0] 82)
  have zr := heap_alloc_new W (.cells #[.int .i64 0, .bool false, .int .i64 0, .slice none 0 0] 82)
  have hsz2 : (W.alloc (.cells #[.int .i64 0, .bool false, .int .i64 0, .slice none 0 0] 82)).heap.size = w.heap.size + 2 := by rw [World.size_alloc, hsz]
  rw [hsz] at zr
  have n0 := cell_keep hba p0
  have n1 := cell_keep hba p1
  have n2 := cell_keep hba p2
  have n3 := cell_keep hba p3
  have HBA := Lib.hid (fit_keep HB.out hba)
  have R2 := Lib.hid (R1.out.keep hba)
  generalize hW2 : W.alloc (.cells #[.int .i64 0, .bool false, .int .i64 0, .slice none 0 0] 82) = W2 at zr hsz2 n0 n1 n2 n3 HBA R2
  have ZR := Lib.hid zr
  have HC := Lib.hid (And.intro n0 (And.intro n1 (And.intro n2 n3)))
  have ea := World.new_ne W2 _ n0
  clear zr hba p0 p1 p2 p3 hs
  go_enter Try.func49, Try.ntmps49
  go_wp2_with fail
  clear hW hW2
  go_region_held3 (fun w' => w'.cell? ⟨w.heap.size, 0, none⟩ = some (.int .i64 p.ax) ∧ w'.cell? ⟨w.heap.size, 1, none⟩ = some (.bool p.back) ∧ w'.cell? ⟨w.heap.size, 2, none⟩ = some (.int .i64 p.at_) ∧ w'.cell? ⟨w.heap.size, 3, none⟩ = some (.slice Apa p.terms.length cpa)) (first | go_keep)
    (first
      | (go_at_call 93; refine (l1CopyAny _ p.terms W2.drew (R2.out.keep (bel_drew (Below.refl _ _))) HS.out.1 (fun j hj => HS.out.2 _ (List.getElem_mem hj))).mono ?_; rintro x w3 ⟨u, rfl, ho, hb⟩; obtain ⟨A3, c3, rfl, -⟩ := ho.reads.form; have HB3 := Lib.hid (show Below W2.heap.size W2 w3 from bel_undrew hb); have HO := Lib.hid (show ORows w3 W2.heap.size (.slice A3 p.terms.length c3) p.terms from ho); have j0 := cell_keep HB3.out n0; have j1 := cell_keep HB3.out n1; have j2 := cell_keep HB3.out n2; have j3 := cell_keep HB3.out n3; have zb := (HB3.out.block (w.heap.size + 1) (by omega)).trans ZR.out; have y0 : w3.cell? ⟨w.heap.size + 1, 0, none⟩ = some (.int .i64 0) := blk_cell zb 0; have y1 : w3.cell? ⟨w.heap.size + 1, 1, none⟩ = some (.bool false) := blk_cell zb 1; have y2 : w3.cell? ⟨w.heap.size + 1, 2, none⟩ = some (.int .i64 0) := blk_cell zb 2; have y3 : w3.cell? ⟨w.heap.size + 1, 3, none⟩ = some (.slice none 0 0) := blk_cell zb 3; have f0 := blk_free zb 0; have f1 := blk_free zb 1; have f2 := blk_free zb 2; have f3 := blk_free zb 3; have ZB := Lib.hid zb; clear ho hb zb))
  go_wp2
  have r1 := blk_set (blk_set (blk_set (blk_set ZB.out 0 (.int .i64 p.ax)) 1 (.bool p.back)) 2 (.int .i64 p.at_)) 3 (.slice A3 p.terms.length c3)
  have o1 := (((HO.out.setLow' (b := w.heap.size + 1) (by omega) 0 (.int .i64 p.ax)).setLow' (b := w.heap.size + 1) (by omega) 1 (.bool p.back)).setLow' (b := w.heap.size + 1) (by omega) 2 (.int .i64 p.at_)).setLow' (b := w.heap.size + 1) (by omega) 3 (.slice A3 p.terms.length c3)
  have hb := ((((fit_keep HBA.out HB3.out).setCell (p := ⟨w.heap.size + 1, 0, none⟩) (by show w.heap.size ≤ w.heap.size + 1; omega) (.int .i64 p.ax)).setCell (p := ⟨w.heap.size + 1, 1, none⟩) (by show w.heap.size ≤ w.heap.size + 1; omega) (.bool p.back)).setCell (p := ⟨w.heap.size + 1, 2, none⟩) (by show w.heap.size ≤ w.heap.size + 1; omega) (.int .i64 p.at_)).setCell (p := ⟨w.heap.size + 1, 3, none⟩) (by show w.heap.size ≤ w.heap.size + 1; omega) (.slice A3 p.terms.length c3)
  generalize (((w3.setCell ⟨w.heap.size + 1, 0, none⟩ (.int .i64 p.ax)).setCell ⟨w.heap.size + 1, 1, none⟩ (.bool p.back)).setCell ⟨w.heap.size + 1, 2, none⟩ (.int .i64 p.at_)).setCell ⟨w.heap.size + 1, 3, none⟩ (.slice A3 p.terms.length c3) = W5 at r1 o1 hb ⊢
  have k0 : W5.cell? ⟨w.heap.size + 1, 0, none⟩ = some (.int .i64 p.ax) := blk_cell r1 0
  have k1 : W5.cell? ⟨w.heap.size + 1, 1, none⟩ = some (.bool p.back) := blk_cell r1 1
  have k2 : W5.cell? ⟨w.heap.size + 1, 2, none⟩ = some (.int .i64 p.at_) := blk_cell r1 2
  have k3 : W5.cell? ⟨w.heap.size + 1, 3, none⟩ = some (.slice A3 p.terms.length c3) := blk_cell r1 3
  clear y0 y1 y2 y3 f0 f1 f2 f3 j0 j1 j2 j3 n0 n1 n2 n3 ea
  refine bodyPost_ret (v := .agg #[.int .i64 p.ax, .bool p.back, .int .i64 p.at_, .slice A3 p.terms.length c3]) (by simp [results, Try.results49, go_sem, k0, k1, k2, k3]) rfl ?_
  exact ⟨_, rfl, ⟨_, rfl, o1.base (by omega)⟩, hb⟩
end Go.Proofs.Ytonainidjkcoeac
