/- The draw of FnMapSelf; laws.sameMap. -/
import Derived.Test.YtonainidjkcoeabDraw4
import Derived.Test.YtonainidjkcoeabSame
import Derived.Test.YtonainidjkcoeabMapOk
namespace Go.Proofs.Ytonainidjkcoeab
open Go.RowKit
set_option linter.unusedVariables false
set_option linter.unusedSimpArgs false

set_option maxRecDepth 100000 in
theorem drawMapSelf_any (v : Value) (bs : List Int) (w : World) (h : RBytes w w.heap.size v bs) :
    Calls Try.prog 14 #[v] w (DrawPost w) := by
  have hb0 := below_alloc w (.cells #[.int .i64 0, .slice none 0 0] 25)
  have HW := Lib.hid (show RBytes (w.alloc (.cells #[.int .i64 0, .slice none 0 0] 25)) (w.alloc (.cells #[.int .i64 0, .slice none 0 0] 25)).heap.size v bs by
    obtain ⟨A, c, e, h1, h2, h3⟩ := h
    exact ⟨A, c, e, h1, h2, fun j x hj => by obtain ⟨l, u, b, o, e, hM, hc⟩ := h3 j x hj; exact ⟨l, u, b, o, e, by simp; omega, cell_keep hb0 hc⟩⟩)
  obtain ⟨A, c, rfl, -⟩ := h
  go_enter Try.func14, Try.ntmps14
  go_wp2_with fail
  refine (open_any _ bs _ HW.out).mono ?_
  rintro e w1 ⟨rfl, hr1, hb1⟩
  have hr1' : RRd w1 (w.heap.size + 1) 0 := by simpa using hr1
  have HR1 := Lib.hid hr1'
  have HB1 := Lib.hid hb1
  clear hr1 hr1' hb1
  go_wp2_with fail
  refine (sig_any (w.heap.size + 1) 0 _ _ HR1.out (by omega) (by omega) (by omega)).mono ?_
  rintro e w2 ⟨v, s, q, rfl, ⟨u, rfl, ho⟩, hs2, hr2, hq2, hg2⟩
  have hu := ho
  obtain ⟨us0, hu0, -⟩ := hu
  obtain ⟨Au, cu, rfl, -⟩ := own_reads hu0
  have hsz := HB1.out.size
  simp at hsz
  have hres := gr_at hg2 (by omega) ((HB1.out.block w.heap.size (by simp)).trans (heap_alloc_new w _))
  have e3 := block_cell hres 0
  have e4 := block_cell hres 1
  have e5 := block_free hres 0
  have e6 := block_free hres 1
  simp at e3 e4
  have d1 := block_set (block_set hres 0 (.int .i64 s.sorts)) 1 (.slice Au s.ops.length cu)
  have D2 := Lib.hid (((ho.base (B' := w.heap.size + 1) (by omega)).setLow (b := w.heap.size) (by omega) 0 (.int .i64 s.sorts)).setLow (b := w.heap.size) (by omega) 1 (.slice Au s.ops.length cu))
  have hbel : Below w.heap.size w w2 := (hb0.trans (HB1.out.mono (by simp))).trans (below_of_gr' hg2 (by omega))
  have D3 := Lib.hid ((hbel.setCell (p := ⟨w.heap.size, 0, none⟩) (Nat.le_refl _) (.int .i64 s.sorts)).setCell (p := ⟨w.heap.size, 1, none⟩) (Nat.le_refl _) (.slice Au s.ops.length cu))
  have D1 := Lib.hid d1
  clear hu0 ho hres d1 hg2 hr2 hbel
  go_wp2
  generalize (w2.setCell ⟨w.heap.size, 0, none⟩ (.int .i64 s.sorts)).setCell ⟨w.heap.size, 1, none⟩ (.slice Au s.ops.length cu) = w9 at D1 D2 D3 ⊢
  have k0 := block_cell D1.out 0
  have k1 := block_cell D1.out 1
  simp at k0 k1
  refine bodyPost_ret (v := .agg #[.int .i64 s.sorts, .slice Au s.ops.length cu]) (by simp [results, Try.results14, go_sem, k0, k1]) rfl ?_
  exact ⟨_, s, rfl, ⟨_, rfl, D2.out.base (by omega)⟩, hs2, D3.out⟩


set_option maxRecDepth 100000 in
theorem sameMap_yes (v v' : Value) (m : MMap) (w : World) (h : RMap w v m) (h' : RMap w v' m) :
    Calls Try.prog 16 #[v, v'] w fun e w' => e = .returned (.bool true) ∧ Below w.heap.size w w' := by
  obtain ⟨p, hp⟩ : ∃ p, p = m := ⟨_, rfl⟩
  have HP := Lib.hid hp
  replace h' : RMap w v' p := by rw [hp]; exact h'
  clear hp
  obtain ⟨Ama, cma, Amb, cmb, rfl⟩ := h.form
  obtain ⟨Apa, cpa, Apb, cpb, rfl⟩ := h'.form
  have hb : Below w.heap.size w ((w.alloc (.cells #[.slice Ama m.sorts.length cma, .slice Amb m.ops.length cmb] 28)).alloc (.cells #[.slice Apa p.sorts.length cpa, .slice Apb p.ops.length cpb] 28)) := (below_alloc _ _).alloc (by simp) _
  have HB := Lib.hid hb
  have hsz : ((w.alloc (.cells #[.slice Ama m.sorts.length cma, .slice Amb m.ops.length cmb] 28)).alloc (.cells #[.slice Apa p.sorts.length cpa, .slice Apb p.ops.length cpb] 28)).heap.size = w.heap.size + 2 := by simp
  have Hm := Lib.hid (h.keep hb)
  have m0 := cell_keep (below_alloc (w.alloc (.cells #[.slice Ama m.sorts.length cma, .slice Amb m.ops.length cmb] 28)) (.cells #[.slice Apa p.sorts.length cpa, .slice Apb p.ops.length cpb] 28)) (bx_at (w) #[.slice Ama m.sorts.length cma, .slice Amb m.ops.length cmb] 28 (k := 0) rfl)
  have m1 := cell_keep (below_alloc (w.alloc (.cells #[.slice Ama m.sorts.length cma, .slice Amb m.ops.length cmb] 28)) (.cells #[.slice Apa p.sorts.length cpa, .slice Apb p.ops.length cpb] 28)) (bx_at (w) #[.slice Ama m.sorts.length cma, .slice Amb m.ops.length cmb] 28 (k := 1) rfl)
  have Hp := Lib.hid (h'.keep hb)
  have p0 := bx_at (w.alloc (.cells #[.slice Ama m.sorts.length cma, .slice Amb m.ops.length cmb] 28)) #[.slice Apa p.sorts.length cpa, .slice Apb p.ops.length cpb] 28 (k := 0) rfl
  have p1 := bx_at (w.alloc (.cells #[.slice Ama m.sorts.length cma, .slice Amb m.ops.length cmb] 28)) #[.slice Apa p.sorts.length cpa, .slice Apb p.ops.length cpb] 28 (k := 1) rfl
  simp only [World.size_alloc] at p0 p1
  generalize hW : (w.alloc (.cells #[.slice Ama m.sorts.length cma, .slice Amb m.ops.length cmb] 28)).alloc (.cells #[.slice Apa p.sorts.length cpa, .slice Apb p.ops.length cpb] 28) = W at HB hsz Hm m0 m1 Hp p0 p1
  clear hb h h'
  have HS := Lib.hid (show sameI m.sorts p.sorts = true by rw [HP.out]; unfold sameI; simp)
  have HO := Lib.hid (show sameI m.ops p.ops = true by rw [HP.out]; unfold sameI; simp)
  go_enter Try.func16, Try.ntmps16
  go_wp2_with fail
  clear hW
  refine (sameInts_any _ _ m.sorts p.sorts _ Hm.out.of.1 Hp.out.of.1).mono ?_
  rw [HS.out]
  rintro e w1 ⟨rfl, hd⟩
  have hb := hd.below
  have f0 := cell_keep hb m1
  have f1 := cell_keep hb p1
  have HB1 := Lib.hid (sz_keep HB.out hb)
  have R0 := Lib.hid (Hm.out.of.2.keep hb)
  have R1 := Lib.hid (Hp.out.of.2.keep hb)
  clear hd hb m0 m1 p0 p1
  go_wp2_with fail
  refine (sameInts_any _ _ m.ops p.ops _ R0.out R1.out).mono ?_
  rw [HO.out]
  rintro e w2 ⟨rfl, hd⟩
  have HB2 := Lib.hid (sz_keep HB1.out hd.below)
  clear hd f0 f1
  go_wp2
  go_ret
  exact ⟨rfl, HB2.out⟩
end Go.Proofs.Ytonainidjkcoeab
