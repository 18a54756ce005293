/- DrawSigSum. -/
import Derived.Test.YtmafipngpbmgdaaDraw4
import Derived.Test.YtmafipngpbmgdaaFill
namespace Go.Proofs.Ytmafipngpbmgdaa
open Go.RowKit
set_option linter.unusedVariables false

def DrawTwoPost (w : World) (e : Ending) (w' : World) : Prop :=
  ∃ (u1 u2 : Value) (s1 s2 : MSig), e = .returned (.tuple #[u1, u2]) ∧ OSig w' w.heap.size u1 s1 ∧ OSig w' w.heap.size u2 s2 ∧ Below w.heap.size w w'

/-- both results' cells, written at the end -/
theorem two_done {w w3 : World} {s1 s2 : Int} {u1 u2 : Value} {r1 r2 : List (List Int)} (h1 : w3.heap[w.heap.size]? = some (.cells #[.int .i64 0, .slice none 0 0] 25 (0, 0))) (h2 : w3.heap[w.heap.size + 1]? = some (.cells #[.int .i64 0, .slice none 0 0] 25 (0, 0)))
    (o1 : ORows w3 (w.heap.size + 2) u1 r1) (o2 : ORows w3 (w.heap.size + 2) u2 r2) (hb : Below w.heap.size w w3) :
    let w9 := (((w3.setCell ⟨w.heap.size, 0, none⟩ (.int .i64 s1)).setCell ⟨w.heap.size, 1, none⟩ u1).setCell ⟨w.heap.size + 1, 0, none⟩ (.int .i64 s2)).setCell ⟨w.heap.size + 1, 1, none⟩ u2
    w9.heap[w.heap.size]? = some (.cells #[.int .i64 s1, u1] 25 (0, 0)) ∧ w9.heap[w.heap.size + 1]? = some (.cells #[.int .i64 s2, u2] 25 (0, 0)) ∧ ORows w9 (w.heap.size + 2) u1 r1 ∧ ORows w9 (w.heap.size + 2) u2 r2 ∧ Below w.heap.size w w9 := by
  intro w9
  have a1 := blk_set (blk_set h1 0 (.int .i64 s1)) 1 u1
  have ne : ∀ i x (wq : World), (wq.setCell ⟨w.heap.size + 1, i, none⟩ x).heap[w.heap.size]? = wq.heap[w.heap.size]? := fun i x wq => Below.heap_setCell wq ⟨w.heap.size + 1, i, none⟩ x w.heap.size (by show w.heap.size ≠ w.heap.size + 1; omega)
  have ne2 : ∀ i x (wq : World), (wq.setCell ⟨w.heap.size, i, none⟩ x).heap[w.heap.size + 1]? = wq.heap[w.heap.size + 1]? := fun i x wq => Below.heap_setCell wq ⟨w.heap.size, i, none⟩ x (w.heap.size + 1) (by show w.heap.size + 1 ≠ w.heap.size; omega)
  refine ⟨?_, ?_, ?_, ?_, ?_⟩
  · exact (ne _ _ _).trans ((ne _ _ _).trans a1)
  · exact blk_set (blk_set ((ne2 _ _ _).trans ((ne2 _ _ _).trans h2)) 0 _) 1 u2
  · exact (((o1.setLow' (by omega) _ _).setLow' (by omega) _ _).setLow' (by omega) _ _).setLow' (by omega) _ _
  · exact (((o2.setLow' (by omega) _ _).setLow' (by omega) _ _).setLow' (by omega) _ _).setLow' (by omega) _ _
  · exact (((hb.setCell (p := ⟨w.heap.size, 0, none⟩) (Nat.le_refl _) _).setCell (p := ⟨w.heap.size, 1, none⟩) (Nat.le_refl _) _).setCell (p := ⟨w.heap.size + 1, 0, none⟩) (Nat.le_succ _) _).setCell (p := ⟨w.heap.size + 1, 1, none⟩) (Nat.le_succ _) _

set_option maxRecDepth 100000 in
theorem drawSigSum_any (v : Value) (bs : List Int) (w : World) (h : RBytes w w.heap.size v bs) :
    Calls Try.prog 19 #[v] w (DrawTwoPost w) := by
  have hA := below_alloc w (.cells #[.int .i64 0, .slice none 0 0] 25)
  have hB := below_alloc (w.alloc (.cells #[.int .i64 0, .slice none 0 0] 25)) (.cells #[.int .i64 0, .slice none 0 0] 25)
  have hb0 := hA.trans (hB.mono (by simp))
  have HW := Lib.hid (bytes_alloc h hb0)
  have HB0 := Lib.hid hb0
  have HN := Lib.hid (And.intro ((hB.block w.heap.size (by simp)).trans (heap_alloc_new w (.cells #[.int .i64 0, .slice none 0 0] 25))) (heap_alloc_new (w.alloc (.cells #[.int .i64 0, .slice none 0 0] 25)) (.cells #[.int .i64 0, .slice none 0 0] 25)))
  have HS := Lib.hid (show ((w.alloc (.cells #[.int .i64 0, .slice none 0 0] 25)).alloc (.cells #[.int .i64 0, .slice none 0 0] 25)).heap.size = w.heap.size + 2 by simp)
  clear hA hB hb0
  generalize hW0 : (w.alloc (.cells #[.int .i64 0, .slice none 0 0] 25)).alloc (.cells #[.int .i64 0, .slice none 0 0] 25) = W0 at HW HB0 HN HS
  obtain ⟨A, c, rfl, -⟩ := h
  go_enter Try.func19, Try.ntmps19
  go_wp2_with fail
  clear hW0
  refine (open_any _ bs _ HW.out).mono ?_
  rintro e w1 ⟨rfl, hr1, hb1⟩
  rw [HS.out] at hr1 hb1
  have HR1 := Lib.hid hr1
  have HB1 := Lib.hid hb1
  have hlt1 := hr1.lt
  rw [HS.out]
  clear hr1 hb1
  go_wp2_with fail
  refine (sig_any (w.heap.size + 2) 0 _ _ HR1.out (by omega) (by omega) (by omega)).mono ?_
  rintro e w2 ⟨v, ⟨s1, rows1⟩, q, rfl, ⟨u, rfl, ho⟩, hs2, hr2, hq2, hg2⟩
  have hu := ho
  obtain ⟨us0, hu0, -⟩ := hu
  obtain ⟨A1, c1, rfl, -⟩ := own_reads hu0
  simp only at hs2 hu0 ho
  have HR2 := Lib.hid hr2
  have HG2 := Lib.hid hg2
  have HO2 := Lib.hid ho
  clear hr2 hg2 ho hu0
  go_wp2_with fail
  refine (sig_any (w.heap.size + 2) q _ _ HR2.out (by omega) (by omega) (by omega)).mono ?_
  rintro e w3 ⟨v, ⟨s2, rows2⟩, q2, rfl, ⟨u, rfl, ho⟩, hs3, hr3, hq3, hg3⟩
  have hu := ho
  obtain ⟨us0, hu0, -⟩ := hu
  obtain ⟨A2, c2, rfl, -⟩ := own_reads hu0
  simp only at hs3 hu0 ho
  have z2 := HG2.out.size
  have hn1 := gr_at hg3 (by omega) (gr_at HG2.out (by omega) ((HB1.out.block w.heap.size (by omega)).trans HN.out.1))
  have hn2 := gr_at hg3 (by omega) (gr_at HG2.out (by omega) ((HB1.out.block (w.heap.size + 1) (by omega)).trans (by have h := HN.out.2; simpa using h)))
  have hbel : Below w.heap.size w w3 := ((HB0.out.trans (HB1.out.mono (by omega))).trans (below_of_gr' HG2.out (by omega))).trans (below_of_gr' hg3 (by omega) (by omega))
  have D := Lib.hid (two_done (s1 := s1) (s2 := s2) hn1 hn2 ((HO2.out.grown hg3 (fun k e => by injection e with e; omega)).base (B' := w.heap.size + 2) (by omega)) (ho.base (B' := w.heap.size + 2) (by omega)) hbel)
  have e0 := blk_cell hn1 0
  have e1 := blk_cell hn1 1
  have e2 := blk_cell hn2 0
  have e3 := blk_cell hn2 1
  have e4 := blk_free hn1 0
  have e5 := blk_free hn1 1
  have e6 := blk_free hn2 0
  have e7 := blk_free hn2 1
  simp at e0 e1 e2 e3
  clear hn1 hn2 hr3 hg3 hbel ho hu0
  go_wp2
  obtain ⟨d1, d2, d3, d4, d5⟩ := D.out
  generalize (((w3.setCell ⟨w.heap.size, 0, none⟩ (.int .i64 s1)).setCell ⟨w.heap.size, 1, none⟩ (.slice A1 rows1.length c1)).setCell ⟨w.heap.size + 1, 0, none⟩ (.int .i64 s2)).setCell ⟨w.heap.size + 1, 1, none⟩ (.slice A2 rows2.length c2) = w9 at d1 d2 d3 d4 d5 ⊢
  have k0 := blk_cell d1 0
  have k1 := blk_cell d1 1
  have k2 := blk_cell d2 0
  have k3 := blk_cell d2 1
  simp at k0 k1 k2 k3
  refine bodyPost_ret (v := .tuple #[.agg #[.int .i64 s1, .slice A1 rows1.length c1], .agg #[.int .i64 s2, .slice A2 rows2.length c2]]) (by simp [results, Try.results19, go_sem, k0, k1, k2, k3]) rfl ?_
  exact ⟨_, _, ⟨s1, rows1⟩, ⟨s2, rows2⟩, rfl, ⟨_, rfl, d3.base (by omega)⟩, ⟨_, rfl, d4.base (by omega)⟩, d5⟩
end Go.Proofs.Ytmafipngpbmgdaa
