/- FnBenchNew answers true at every slice of bytes. No condition. -/
import Derived.Test.YtmmnamjgpfkababK5eba5d79
namespace Go.Proofs.Ytmmnamjgpfkabab
open Go.ChangeShapes Go.WideShapes Go.ChangeAt Go.RowKit
set_option linter.unusedVariables false
set_option linter.unusedSimpArgs false

set_option maxRecDepth 100000 in
theorem drawBenchNew_any (v : Value) (bs : List Int) (w : World) (h : RBytes w w.heap.size v bs) :
    Calls Try.prog 20 #[v] w (DrawPost w) := by
  have hb0 := below_alloc w (.cells #[.int .i64 0, .slice none 0 0] 33)
  have HW := Lib.hid (show RBytes (w.alloc (.cells #[.int .i64 0, .slice none 0 0] 33)) (w.alloc (.cells #[.int .i64 0, .slice none 0 0] 33)).heap.size v bs by
    obtain ⟨A, c, e, h1, h2, h3⟩ := h
    exact ⟨A, c, e, h1, h2, fun j x hj => by obtain ⟨l, u, b, o, e, hM, hc⟩ := h3 j x hj; exact ⟨l, u, b, o, e, by simp; omega, cell_keep hb0 hc⟩⟩)
  obtain ⟨A, c, rfl, -⟩ := h
  go_enter Try.func20, Try.ntmps20
  go_wp2_with fail
  refine (open_any _ bs _ HW.out).mono ?_
  rintro e w1 ⟨rfl, hr1, hb1⟩
  have hr1' : RRd w1 (w.heap.size + 1) 0 := by simpa using hr1
  have HR1 := Lib.hid hr1'
  have HB1 := Lib.hid hb1
  clear hr1 hr1' hb1
  go_wp2_with fail
  refine (sig_any (w.heap.size + 1) 0 _ _ HR1.out (by omega) (by omega) (by omega)).mono ?_
  rintro e w2 ⟨v, s, q, rfl, ⟨u, rfl, ho⟩, hs2, hr2, hq2, hg2⟩
  have hu := ho
  obtain ⟨us0, hu0, -⟩ := hu
  obtain ⟨Au, cu, rfl, -⟩ := own_reads hu0
  have hsz := HB1.out.size
  simp at hsz
  have hres := gr_at hg2 (by omega) ((HB1.out.block w.heap.size (by simp)).trans (heap_alloc_new w _))
  have e3 := block_cell hres 0
  have e4 := block_cell hres 1
  have e5 := block_free hres 0
  have e6 := block_free hres 1
  simp at e3 e4
  have d1 := block_set (block_set hres 0 (.int .i64 s.sorts)) 1 (.slice Au s.ops.length cu)
  have D2 := Lib.hid (((ho.base (B' := w.heap.size + 1) (by omega)).setLow (b := w.heap.size) (by omega) 0 (.int .i64 s.sorts)).setLow (b := w.heap.size) (by omega) 1 (.slice Au s.ops.length cu))
  have hbel : Below w.heap.size w w2 := (hb0.trans (HB1.out.mono (by simp))).trans (below_of_gr' hg2 (by omega))
  have D3 := Lib.hid ((hbel.setCell (p := ⟨w.heap.size, 0, none⟩) (Nat.le_refl _) (.int .i64 s.sorts)).setCell (p := ⟨w.heap.size, 1, none⟩) (Nat.le_refl _) (.slice Au s.ops.length cu))
  have D1 := Lib.hid d1
  clear hu0 ho hres d1 hg2 hr2 hbel
  go_wp2
  generalize (w2.setCell ⟨w.heap.size, 0, none⟩ (.int .i64 s.sorts)).setCell ⟨w.heap.size, 1, none⟩ (.slice Au s.ops.length cu) = w9 at D1 D2 D3 ⊢
  have k0 := block_cell D1.out 0
  have k1 := block_cell D1.out 1
  simp at k0 k1
  refine bodyPost_ret (v := .agg #[.int .i64 s.sorts, .slice Au s.ops.length cu]) (by simp [results, Try.results20, go_sem, k0, k1]) rfl ?_
  exact ⟨_, s, rfl, ⟨_, rfl, D2.out.base (by omega)⟩, hs2, D3.out⟩

theorem sameSig_self9 (v v' : Value) (a : MSig) (w : World) (h : RSig w v a) (h' : RSig w v' a) :
    Calls Try.prog 25 #[v, v'] w fun e w' => e = .returned (.bool true) ∧ Below w.heap.size w w' := by
  have := sameSig_any v v' a a w h h'
  rwa [sameS_self] at this

set_option maxRecDepth 100000 in
theorem sameTheoryN (u u' : Value) (so : Int) (rows : List (List Int)) (w : World) (h : RRows w u rows) (h' : RRows w u' rows) :
    Calls Try.prog 63 #[.agg #[.int .i64 so, u, .slice none 0 0], .agg #[.int .i64 so, u', .slice none 0 0]] w fun e w' => e = .returned (.bool true) ∧ Below w.heap.size w w' := by
  obtain ⟨A, c, rfl, -⟩ := h.form
  obtain ⟨A', c', rfl, -⟩ := h'.form
  have hb : Below w.heap.size w ((w.alloc (.cells #[.int .i64 so, .slice A rows.length c, .slice none 0 0] 36)).alloc (.cells #[.int .i64 so, .slice A' rows.length c', .slice none 0 0] 36)) := (below_alloc _ _).alloc (by simp) _
  have HB := Lib.hid hb
  have p0 : ((w.alloc (.cells #[.int .i64 so, .slice A rows.length c, .slice none 0 0] 36)).alloc (.cells #[.int .i64 so, .slice A' rows.length c', .slice none 0 0] 36)).cell? ⟨w.heap.size, 0, none⟩ = some (.int .i64 so) := cell_keep (below_alloc (w.alloc (.cells #[.int .i64 so, .slice A rows.length c, .slice none 0 0] 36)) (.cells #[.int .i64 so, .slice A' rows.length c', .slice none 0 0] 36)) (bx_at w #[.int .i64 so, .slice A rows.length c, .slice none 0 0] 36 (k := 0) rfl)
  have p1 : ((w.alloc (.cells #[.int .i64 so, .slice A rows.length c, .slice none 0 0] 36)).alloc (.cells #[.int .i64 so, .slice A' rows.length c', .slice none 0 0] 36)).cell? ⟨w.heap.size, 1, none⟩ = some (.slice A rows.length c) := cell_keep (below_alloc (w.alloc (.cells #[.int .i64 so, .slice A rows.length c, .slice none 0 0] 36)) (.cells #[.int .i64 so, .slice A' rows.length c', .slice none 0 0] 36)) (bx_at w #[.int .i64 so, .slice A rows.length c, .slice none 0 0] 36 (k := 1) rfl)
  have p2 : ((w.alloc (.cells #[.int .i64 so, .slice A rows.length c, .slice none 0 0] 36)).alloc (.cells #[.int .i64 so, .slice A' rows.length c', .slice none 0 0] 36)).cell? ⟨w.heap.size, 2, none⟩ = some (.slice none 0 0) := cell_keep (below_alloc (w.alloc (.cells #[.int .i64 so, .slice A rows.length c, .slice none 0 0] 36)) (.cells #[.int .i64 so, .slice A' rows.length c', .slice none 0 0] 36)) (bx_at w #[.int .i64 so, .slice A rows.length c, .slice none 0 0] 36 (k := 2) rfl)
  have q0 : ((w.alloc (.cells #[.int .i64 so, .slice A rows.length c, .slice none 0 0] 36)).alloc (.cells #[.int .i64 so, .slice A' rows.length c', .slice none 0 0] 36)).cell? ⟨w.heap.size + 1, 0, none⟩ = some (.int .i64 so) := by have h9 := bx_at (w.alloc (.cells #[.int .i64 so, .slice A rows.length c, .slice none 0 0] 36)) #[.int .i64 so, .slice A' rows.length c', .slice none 0 0] 36 (k := 0) rfl; rw [World.size_alloc] at h9; exact h9
  have q1 : ((w.alloc (.cells #[.int .i64 so, .slice A rows.length c, .slice none 0 0] 36)).alloc (.cells #[.int .i64 so, .slice A' rows.length c', .slice none 0 0] 36)).cell? ⟨w.heap.size + 1, 1, none⟩ = some (.slice A' rows.length c') := by have h9 := bx_at (w.alloc (.cells #[.int .i64 so, .slice A rows.length c, .slice none 0 0] 36)) #[.int .i64 so, .slice A' rows.length c', .slice none 0 0] 36 (k := 1) rfl; rw [World.size_alloc] at h9; exact h9
  have q2 : ((w.alloc (.cells #[.int .i64 so, .slice A rows.length c, .slice none 0 0] 36)).alloc (.cells #[.int .i64 so, .slice A' rows.length c', .slice none 0 0] 36)).cell? ⟨w.heap.size + 1, 2, none⟩ = some (.slice none 0 0) := by have h9 := bx_at (w.alloc (.cells #[.int .i64 so, .slice A rows.length c, .slice none 0 0] 36)) #[.int .i64 so, .slice A' rows.length c', .slice none 0 0] 36 (k := 2) rfl; rw [World.size_alloc] at h9; exact h9
  have HR := Lib.hid (h.keep hb)
  have HR' := Lib.hid (h'.keep hb)
  generalize hW : ((w.alloc (.cells #[.int .i64 so, .slice A rows.length c, .slice none 0 0] 36)).alloc (.cells #[.int .i64 so, .slice A' rows.length c', .slice none 0 0] 36)) = W at HB p0 p1 p2 q0 q1 q2 HR HR'
  clear hb h h'
  have HS1 := Lib.hid (show RSig W (.agg #[.int .i64 so, .slice A rows.length c]) ⟨so, rows⟩ from ⟨_, rfl, HR.out⟩)
  have HS2 := Lib.hid (show RSig W (.agg #[.int .i64 so, .slice A' rows.length c']) ⟨so, rows⟩ from ⟨_, rfl, HR'.out⟩)
  go_enter Try.func63, Try.ntmps63
  go_wp2_with fail
  clear hW
  refine (sameSig_self9 _ _ ⟨so, rows⟩ W HS1.out HS2.out).mono ?_
  rintro _ w1 ⟨rfl, hb⟩
  have m2 := cell_keep hb p2
  have n2 := cell_keep hb q2
  have HB1 := Lib.hid (sz_keep HB.out hb)
  have HC := Lib.hid (And.intro m2 n2)
  clear hb p0 p1 p2 q0 q1 q2
  go_wp2
  go_loopw [5] (fun i wr => i = .int .i64 0 ∧ w1 = wr) (fun i _ => 1)
  case atStart => exact ⟨rfl, rfl⟩
  case round =>
    obtain ⟨rfl, rfl⟩ := hrel
    go_wp2
    go_ret
    exact ⟨rfl, HB1.out⟩

set_option maxRecDepth 100000 in
theorem sameBenchN (u u' : Value) (so : Int) (rows : List (List Int)) (w : World) (h : RRows w u rows) (h' : RRows w u' rows) :
    Calls Try.prog 21 #[.agg #[.int .i64 so, u, .slice none 0 0, .slice none 0 0], .agg #[.int .i64 so, u', .slice none 0 0, .slice none 0 0]] w fun e w' => e = .returned (.bool true) ∧ Below w.heap.size w w' := by
  obtain ⟨A, c, rfl, -⟩ := h.form
  obtain ⟨A', c', rfl, -⟩ := h'.form
  have hb : Below w.heap.size w ((w.alloc (.cells #[.int .i64 so, .slice A rows.length c, .slice none 0 0, .slice none 0 0] 39)).alloc (.cells #[.int .i64 so, .slice A' rows.length c', .slice none 0 0, .slice none 0 0] 39)) := (below_alloc _ _).alloc (by simp) _
  have HB := Lib.hid hb
  have p0 : ((w.alloc (.cells #[.int .i64 so, .slice A rows.length c, .slice none 0 0, .slice none 0 0] 39)).alloc (.cells #[.int .i64 so, .slice A' rows.length c', .slice none 0 0, .slice none 0 0] 39)).cell? ⟨w.heap.size, 0, none⟩ = some (.int .i64 so) := cell_keep (below_alloc (w.alloc (.cells #[.int .i64 so, .slice A rows.length c, .slice none 0 0, .slice none 0 0] 39)) (.cells #[.int .i64 so, .slice A' rows.length c', .slice none 0 0, .slice none 0 0] 39)) (bx_at w #[.int .i64 so, .slice A rows.length c, .slice none 0 0, .slice none 0 0] 39 (k := 0) rfl)
  have p1 : ((w.alloc (.cells #[.int .i64 so, .slice A rows.length c, .slice none 0 0, .slice none 0 0] 39)).alloc (.cells #[.int .i64 so, .slice A' rows.length c', .slice none 0 0, .slice none 0 0] 39)).cell? ⟨w.heap.size, 1, none⟩ = some (.slice A rows.length c) := cell_keep (below_alloc (w.alloc (.cells #[.int .i64 so, .slice A rows.length c, .slice none 0 0, .slice none 0 0] 39)) (.cells #[.int .i64 so, .slice A' rows.length c', .slice none 0 0, .slice none 0 0] 39)) (bx_at w #[.int .i64 so, .slice A rows.length c, .slice none 0 0, .slice none 0 0] 39 (k := 1) rfl)
  have p2 : ((w.alloc (.cells #[.int .i64 so, .slice A rows.length c, .slice none 0 0, .slice none 0 0] 39)).alloc (.cells #[.int .i64 so, .slice A' rows.length c', .slice none 0 0, .slice none 0 0] 39)).cell? ⟨w.heap.size, 2, none⟩ = some (.slice none 0 0) := cell_keep (below_alloc (w.alloc (.cells #[.int .i64 so, .slice A rows.length c, .slice none 0 0, .slice none 0 0] 39)) (.cells #[.int .i64 so, .slice A' rows.length c', .slice none 0 0, .slice none 0 0] 39)) (bx_at w #[.int .i64 so, .slice A rows.length c, .slice none 0 0, .slice none 0 0] 39 (k := 2) rfl)
  have p3 : ((w.alloc (.cells #[.int .i64 so, .slice A rows.length c, .slice none 0 0, .slice none 0 0] 39)).alloc (.cells #[.int .i64 so, .slice A' rows.length c', .slice none 0 0, .slice none 0 0] 39)).cell? ⟨w.heap.size, 3, none⟩ = some (.slice none 0 0) := cell_keep (below_alloc (w.alloc (.cells #[.int .i64 so, .slice A rows.length c, .slice none 0 0, .slice none 0 0] 39)) (.cells #[.int .i64 so, .slice A' rows.length c', .slice none 0 0, .slice none 0 0] 39)) (bx_at w #[.int .i64 so, .slice A rows.length c, .slice none 0 0, .slice none 0 0] 39 (k := 3) rfl)
  have q0 : ((w.alloc (.cells #[.int .i64 so, .slice A rows.length c, .slice none 0 0, .slice none 0 0] 39)).alloc (.cells #[.int .i64 so, .slice A' rows.length c', .slice none 0 0, .slice none 0 0] 39)).cell? ⟨w.heap.size + 1, 0, none⟩ = some (.int .i64 so) := by have h9 := bx_at (w.alloc (.cells #[.int .i64 so, .slice A rows.length c, .slice none 0 0, .slice none 0 0] 39)) #[.int .i64 so, .slice A' rows.length c', .slice none 0 0, .slice none 0 0] 39 (k := 0) rfl; rw [World.size_alloc] at h9; exact h9
  have q1 : ((w.alloc (.cells #[.int .i64 so, .slice A rows.length c, .slice none 0 0, .slice none 0 0] 39)).alloc (.cells #[.int .i64 so, .slice A' rows.length c', .slice none 0 0, .slice none 0 0] 39)).cell? ⟨w.heap.size + 1, 1, none⟩ = some (.slice A' rows.length c') := by have h9 := bx_at (w.alloc (.cells #[.int .i64 so, .slice A rows.length c, .slice none 0 0, .slice none 0 0] 39)) #[.int .i64 so, .slice A' rows.length c', .slice none 0 0, .slice none 0 0] 39 (k := 1) rfl; rw [World.size_alloc] at h9; exact h9
  have q2 : ((w.alloc (.cells #[.int .i64 so, .slice A rows.length c, .slice none 0 0, .slice none 0 0] 39)).alloc (.cells #[.int .i64 so, .slice A' rows.length c', .slice none 0 0, .slice none 0 0] 39)).cell? ⟨w.heap.size + 1, 2, none⟩ = some (.slice none 0 0) := by have h9 := bx_at (w.alloc (.cells #[.int .i64 so, .slice A rows.length c, .slice none 0 0, .slice none 0 0] 39)) #[.int .i64 so, .slice A' rows.length c', .slice none 0 0, .slice none 0 0] 39 (k := 2) rfl; rw [World.size_alloc] at h9; exact h9
  have q3 : ((w.alloc (.cells #[.int .i64 so, .slice A rows.length c, .slice none 0 0, .slice none 0 0] 39)).alloc (.cells #[.int .i64 so, .slice A' rows.length c', .slice none 0 0, .slice none 0 0] 39)).cell? ⟨w.heap.size + 1, 3, none⟩ = some (.slice none 0 0) := by have h9 := bx_at (w.alloc (.cells #[.int .i64 so, .slice A rows.length c, .slice none 0 0, .slice none 0 0] 39)) #[.int .i64 so, .slice A' rows.length c', .slice none 0 0, .slice none 0 0] 39 (k := 3) rfl; rw [World.size_alloc] at h9; exact h9
  have HR := Lib.hid (h.keep hb)
  have HR' := Lib.hid (h'.keep hb)
  generalize hW : ((w.alloc (.cells #[.int .i64 so, .slice A rows.length c, .slice none 0 0, .slice none 0 0] 39)).alloc (.cells #[.int .i64 so, .slice A' rows.length c', .slice none 0 0, .slice none 0 0] 39)) = W at HB p0 p1 p2 p3 q0 q1 q2 q3 HR HR'
  clear hb h h'
  go_enter Try.func21, Try.ntmps21
  go_wp2
  clear hW
  go_loopw [5] (fun i wr => i = .int .i64 0 ∧ W = wr) (fun i _ => 1)
  case atStart => exact ⟨rfl, rfl⟩
  case round =>
    obtain ⟨rfl, rfl⟩ := hrel
    go_wp2_with fail
    refine (sameTheoryN _ _ so rows W HR.out HR'.out).mono ?_
    rintro _ w1 ⟨rfl, hb⟩
    have HB1 := Lib.hid (sz_keep HB.out hb)
    clear hb p0 p1 p2 p3 q0 q1 q2 q3
    go_wp2
    go_ret
    exact ⟨rfl, HB1.out⟩

set_option maxRecDepth 100000 in
theorem noBenchN (u : Value) (w : World) (h : RRows w u []) :
    Calls Try.prog 23 #[.agg #[.int .i64 0, u, .slice none 0 0, .slice none 0 0]] w fun e w' => e = .returned (.bool true) ∧ Below w.heap.size w w' := by
  obtain ⟨A, c, rfl, -⟩ := h.form
  have hb := below_alloc w (.cells #[.int .i64 0, .slice A 0 c, .slice none 0 0, .slice none 0 0] 39)
  have HR := Lib.hid (h.keep hb)
  have HB := Lib.hid hb
  have p0 := bx_at w #[.int .i64 0, .slice A 0 c, .slice none 0 0, .slice none 0 0] 39 (k := 0) rfl
  have p1 := bx_at w #[.int .i64 0, .slice A 0 c, .slice none 0 0, .slice none 0 0] 39 (k := 1) rfl
  have p2 := bx_at w #[.int .i64 0, .slice A 0 c, .slice none 0 0, .slice none 0 0] 39 (k := 2) rfl
  have p3 := bx_at w #[.int .i64 0, .slice A 0 c, .slice none 0 0, .slice none 0 0] 39 (k := 3) rfl
  generalize hW : w.alloc (.cells #[.int .i64 0, .slice A 0 c, .slice none 0 0, .slice none 0 0] 39) = W at HR HB p0 p1 p2 p3
  clear hb h
  go_enter Try.func23, Try.ntmps23
  go_wp2_with fail
  clear hW
  refine (sameBenchN _ _ 0 [] W HR.out (RRows.nil _)).mono ?_
  rintro _ w1 ⟨rfl, hb⟩
  have HB1 := Lib.hid (sz_keep HB.out hb)
  clear hb p0 p1 p2 p3
  go_wp2
  go_ret
  exact ⟨rfl, HB1.out⟩

set_option maxHeartbeats 3200000 in
set_option maxRecDepth 100000 in
theorem isModel0_any (t : MThy) (m : MModel) (w : World) (v v' : Value) (he : t.eqs = []) (hth : thyB t = true) (hmo : modelB t.over m = true) (hsm : SmallT t) (h : RThy w v t) (h' : RModel w v' m) :
    Calls Try.prog 26 #[v, v'] w fun x w' => x = .returned (.bool true) ∧ Below w.heap.size w w' := by
  obtain ⟨Ata, cta, Atb, ctb, rfl⟩ := h.form
  obtain ⟨Ama, cma, Amb, cmb, rfl⟩ := h'.form
  have hb : Below w.heap.size w ((w.alloc (.cells #[.int .i64 t.over.sorts, .slice Ata t.over.ops.length cta, .slice Atb t.eqs.length ctb] 36)).alloc (.cells #[.slice Ama m.sizes.length cma, .slice Amb m.tables.length cmb] 57)) := (below_alloc _ _).alloc (by simp) _
  have HB := Lib.hid hb
  have hsz : ((w.alloc (.cells #[.int .i64 t.over.sorts, .slice Ata t.over.ops.length cta, .slice Atb t.eqs.length ctb] 36)).alloc (.cells #[.slice Ama m.sizes.length cma, .slice Amb m.tables.length cmb] 57)).heap.size = w.heap.size + 2 := by simp
  have Ht := Lib.hid (h.keep hb)
  have t0 := cell_keep (below_alloc (w.alloc (.cells #[.int .i64 t.over.sorts, .slice Ata t.over.ops.length cta, .slice Atb t.eqs.length ctb] 36)) (.cells #[.slice Ama m.sizes.length cma, .slice Amb m.tables.length cmb] 57)) (bx_at (w) #[.int .i64 t.over.sorts, .slice Ata t.over.ops.length cta, .slice Atb t.eqs.length ctb] 36 (k := 0) rfl)
  have t1 := cell_keep (below_alloc (w.alloc (.cells #[.int .i64 t.over.sorts, .slice Ata t.over.ops.length cta, .slice Atb t.eqs.length ctb] 36)) (.cells #[.slice Ama m.sizes.length cma, .slice Amb m.tables.length cmb] 57)) (bx_at (w) #[.int .i64 t.over.sorts, .slice Ata t.over.ops.length cta, .slice Atb t.eqs.length ctb] 36 (k := 1) rfl)
  have t2 := cell_keep (below_alloc (w.alloc (.cells #[.int .i64 t.over.sorts, .slice Ata t.over.ops.length cta, .slice Atb t.eqs.length ctb] 36)) (.cells #[.slice Ama m.sizes.length cma, .slice Amb m.tables.length cmb] 57)) (bx_at (w) #[.int .i64 t.over.sorts, .slice Ata t.over.ops.length cta, .slice Atb t.eqs.length ctb] 36 (k := 2) rfl)
  have Hm := Lib.hid (h'.keep hb)
  have m0 := bx_at (w.alloc (.cells #[.int .i64 t.over.sorts, .slice Ata t.over.ops.length cta, .slice Atb t.eqs.length ctb] 36)) #[.slice Ama m.sizes.length cma, .slice Amb m.tables.length cmb] 57 (k := 0) rfl
  have m1 := bx_at (w.alloc (.cells #[.int .i64 t.over.sorts, .slice Ata t.over.ops.length cta, .slice Atb t.eqs.length ctb] 36)) #[.slice Ama m.sizes.length cma, .slice Amb m.tables.length cmb] 57 (k := 1) rfl
  simp only [World.size_alloc] at m0 m1
  generalize hW : (w.alloc (.cells #[.int .i64 t.over.sorts, .slice Ata t.over.ops.length cta, .slice Atb t.eqs.length ctb] 36)).alloc (.cells #[.slice Ama m.sizes.length cma, .slice Amb m.tables.length cmb] 57) = W at HB hsz Ht t0 t1 t2 Hm m0 m1
  clear hb h h'
  obtain ⟨-, r1, r2⟩ := Ht.out.of
  have HSM := Lib.hid hsm
  have R1 := Lib.hid (show RSig W (.agg #[.int .i64 t.over.sorts, .slice Ata t.over.ops.length cta]) t.over from ⟨_, rfl, r1⟩)
  have R2 := Lib.hid r2
  have HTH := Lib.hid hth
  have HMO := Lib.hid hmo
  have HL0 := Lib.hid (show t.eqs.length = 0 by rw [he]; rfl)
  clear r1 r2 hsm hth hmo he
  go_enter Try.func26, Try.ntmps26
  go_wp2_with fail
  clear hW
  refine (theoryOk_any t _ _ HSM.out Ht.out).mono ?_
  rw [HTH.out]
  rintro x w1 ⟨rfl, hb⟩
  replace HB := Lib.hid (sz_keep HB.out hb)
  replace t0 := cell_keep hb t0
  replace t1 := cell_keep hb t1
  replace t2 := cell_keep hb t2
  replace m0 := cell_keep hb m0
  replace m1 := cell_keep hb m1
  replace Ht := Lib.hid (Ht.out.keep hb)
  replace Hm := Lib.hid (Hm.out.keep hb)
  replace R1 := Lib.hid (R1.out.keep hb)
  replace R2 := Lib.hid (R2.out.keep hb)
  clear hb
  go_wp2_with fail
  refine (modelOk_any t.over m _ _ _ R1.out Hm.out).mono ?_
  rw [HMO.out]
  rintro x w2 ⟨rfl, hb⟩
  replace HB := Lib.hid (sz_keep HB.out hb)
  replace t0 := cell_keep hb t0
  replace t1 := cell_keep hb t1
  replace t2 := cell_keep hb t2
  replace m0 := cell_keep hb m0
  replace m1 := cell_keep hb m1
  replace Ht := Lib.hid (Ht.out.keep hb)
  replace Hm := Lib.hid (Hm.out.keep hb)
  replace R1 := Lib.hid (R1.out.keep hb)
  replace R2 := Lib.hid (R2.out.keep hb)
  clear hb
  rw [HL0.out] at t2
  go_wp2
  clear t0 t1 t2 m0 m1
  go_loopw [6, 20] (fun e6 i wr => i = .int .i64 0 ∧ w2 = wr) (fun _ i _ => 1)
  case atStart => exact ⟨rfl, rfl⟩
  case round =>
    obtain ⟨rfl, rfl⟩ := hrel
    go_wp2
    go_ret
    exact ⟨rfl, HB.out⟩

set_option maxHeartbeats 6400000 in
set_option maxRecDepth 100000 in
theorem walk_FnBenchNew (v : Value) (bs : List Int) (w : World) (h : RBytes w w.heap.size v bs) :
    Calls Try.prog 5 #[v] w fun e w' => e = .returned (.bool true) ∧ Below w.heap.size w w' := by
  have HW := Lib.hid h
  obtain ⟨A, c, rfl, hc1, hc2, -⟩ := h
  rw [maxLen_eq] at hc2
  by_cases hl : 1048576 < bs.length
  · go_enter Try.func5, Try.ntmps5
    go_wp2
    go_ret
    exact ⟨rfl, Below.refl _ _⟩
  · go_enter Try.func5, Try.ntmps5
    go_wp2_with fail
    refine (drawBenchNew_any _ bs _ HW.out).mono ?_
    rintro e w1 ⟨v, s, rfl, ⟨u, rfl, ho⟩, hs, hb1⟩
    obtain ⟨Au, cu, rfl, -⟩ := ho.reads.form
    have hal := below_alloc w1 (.cells #[.int .i64 s.sorts, .slice Au s.ops.length cu] 33)
    have HS2 := Lib.hid (show RSig (w1.alloc (.cells #[.int .i64 s.sorts, .slice Au s.ops.length cu] 33)) (.agg #[.int .i64 s.sorts, .slice Au s.ops.length cu]) s from ⟨_, rfl, ho.reads.keep hal⟩)
    have s0 := bx_at w1 #[.int .i64 s.sorts, .slice Au s.ops.length cu] 33 (k := 0) rfl
    have s1 := bx_at w1 #[.int .i64 s.sorts, .slice Au s.ops.length cu] 33 (k := 1) rfl
    have HB := Lib.hid (sz_keep hb1 hal)
    generalize hW2 : w1.alloc (.cells #[.int .i64 s.sorts, .slice Au s.ops.length cu] 33) = w2 at HS2 s0 s1 HB
    have HS0 := Lib.hid (And.intro s0 s1)
    clear ho hb1 hal
    go_wp2_with fail
    clear hW2
    refine (benchNew_any s _ _ HS2.out).mono ?_
    rintro _ w3 ⟨v3, rfl, ⟨ub, rfl, hbo, hbe, hbp⟩, hb⟩
    obtain ⟨Ab, cb, rfl, -⟩ := hbo.reads.form
    have HBN := Lib.hid (show benchNewM s = ⟨⟨(benchNewM s).now.over, []⟩, []⟩ by
      generalize hm : benchNewM s = m at hbe hbp
      obtain ⟨⟨so, es⟩, ts⟩ := m
      simp only at hbe hbp
      subst hbe hbp
      rfl)
    have HNO := Lib.hid (fun h => show (benchNewM s).now.over = ⟨0, []⟩ by rw [benchNew_no (s := s) h])
    have HYE := Lib.hid (fun h => show (benchNewM s).now.over = s by rw [benchNew_yes (s := s) h])
    have HHB := Lib.hid hb
    have HHO := Lib.hid hbo.reads
    generalize hso : (benchNewM s).now.over = o9 at HHO HNO HYE HBN ⊢
    have HBO := Lib.hid hso
    clear hbo hbe hbp hso hb s0 s1
    go_wp2_with fail
    have hb := HHB.out
    have hal := below_alloc w3 (.cells #[.int .i64 o9.sorts, .slice Ab o9.ops.length cb, .slice none 0 0, .slice none 0 0] 39)
    have HRB := Lib.hid (HHO.out.keep hal)
    have b0 := bx_at w3 #[.int .i64 o9.sorts, .slice Ab o9.ops.length cb, .slice none 0 0, .slice none 0 0] 39 (k := 0) rfl
    have b1 := bx_at w3 #[.int .i64 o9.sorts, .slice Ab o9.ops.length cb, .slice none 0 0, .slice none 0 0] 39 (k := 1) rfl
    have b2 := bx_at w3 #[.int .i64 o9.sorts, .slice Ab o9.ops.length cb, .slice none 0 0, .slice none 0 0] 39 (k := 2) rfl
    have b3 := bx_at w3 #[.int .i64 o9.sorts, .slice Ab o9.ops.length cb, .slice none 0 0, .slice none 0 0] 39 (k := 3) rfl
    have hb3 := sz_keep hb hal
    have hlt3 : w2.heap.size ≤ w3.heap.size := hb.size
    generalize hW4 : w3.alloc (.cells #[.int .i64 o9.sorts, .slice Ab o9.ops.length cb, .slice none 0 0, .slice none 0 0] 39) = w4 at HRB b0 b1 b2 b3 hb3 ⊢
    have s0 := cell_keep hb3 HS0.out.1
    have s1 := cell_keep hb3 HS0.out.2
    replace HS2 := Lib.hid (HS2.out.keep hb3)
    replace HB := Lib.hid (sz_keep HB.out hb3)
    clear hb hal hb3 hW4
    have ea := World.block_lt_of_cell? w4 _ s0
    have eb := World.block_lt_of_cell? w4 _ b0
    refine wp_region_held_drew (S := (fun w' => w'.cell? ⟨w1.heap.size, 0, none⟩ = some (.int .i64 s.sorts) ∧ w'.cell? ⟨w1.heap.size, 1, none⟩ = some (.slice Au s.ops.length cu) ∧ w'.cell? ⟨w3.heap.size, 0, none⟩ = some (.int .i64 o9.sorts) ∧ w'.cell? ⟨w3.heap.size, 1, none⟩ = some (.slice Ab o9.ops.length cb) ∧ w'.cell? ⟨w3.heap.size, 2, none⟩ = some (.slice none 0 0) ∧ w'.cell? ⟨w3.heap.size, 3, none⟩ = some (.slice none 0 0))) (by kernel_rfl) ?_ (fun hHeld => ?_)
    · exact ⟨s0, s1, b0, b1, b2, b3⟩
    refine wpAnyH_take (i := 0) (oi := _) (v := ?_) rfl (by kernel_rfl) (by kernel_rfl) (by kernel_rfl) (fun _ _ _ h => h) (Or.inl ⟨by rfl, ?_⟩) (by assumption) ?_
    rotate_left
    · first | (intro w' hSw; (try dsimp only at hSw); go_simp; done) | (intro w' hSw; (try dsimp only at hSw); go_simp; with_reducible rfl)
    try simp only [Act.put, List.getElem_toArray, List.getElem_cons_zero, List.getElem_cons_succ, List.setIfInBounds_toArray, List.set_cons_zero, List.set_cons_succ]
    refine wpAnyH_take (i := 1) (oi := _) (v := ?_) rfl (by kernel_rfl) (by kernel_rfl) (by kernel_rfl) (fun _ _ _ h => h) (Or.inl ⟨by rfl, ?_⟩) (by assumption) ?_
    rotate_left
    · first | (intro w' hSw; (try dsimp only at hSw); go_simp; done) | (intro w' hSw; (try dsimp only at hSw); go_simp; with_reducible rfl)
    try simp only [Act.put, List.getElem_toArray, List.getElem_cons_zero, List.getElem_cons_succ, List.setIfInBounds_toArray, List.set_cons_zero, List.set_cons_succ]
    refine wpAnyH_ready (rs := [2]) (by kernel_rfl) (by simp) ?_
    refine AllReadyH.cons (o := _) rfl (fun K hK => ?_) AllReadyH.nil
    go_simp
    refine (specBenchNew_any s w4.drew _ (HS2.out.keep (eq_drew _))).mono ?_
    rintro _ w5 ⟨v5, rfl, ⟨uc, rfl, hbo, hbe, hbp⟩, hb⟩
    obtain ⟨Ac, cc, rfl, -⟩ := hbo.reads.form
    have HRC := Lib.hid hbo.reads
    rw [HBO.out] at HRC ⊢
    have hx := eq_undrew hb
    have HXA := Lib.hid hx
    have p0 := cell_keep hx s0
    have p1 := cell_keep hx s1
    have p2 := cell_keep hx b0
    have p3 := cell_keep hx b1
    have p4 := cell_keep hx b2
    have p5 := cell_keep hx b3
    clear hbo hbe hbp hb hx
    go_wp2_with fail
    refine hK.out _ _ ?_ (fun hHeld => ?_)
    · exact ⟨p0, p1, p2, p3, p4, p5⟩
    clear hK K
    try simp only [Act.put, List.getElem_toArray, List.getElem_cons_zero, List.getElem_cons_succ, List.setIfInBounds_toArray, List.set_cons_zero, List.set_cons_succ]
    refine wpAnyH_ready (rs := [3]) (by kernel_rfl) (by simp) ?_
    refine AllReadyH.cons (o := _) rfl (fun K hK => ?_) AllReadyH.nil
    go_simp
    refine (sameBenchN _ _ o9.sorts o9.ops w5 (HRB.out.keep HXA.out) HRC.out).mono ?_
    rintro _ w6 ⟨rfl, hb⟩
    have HX := Lib.hid (sz_keep HXA.out hb)
    have q0 := cell_keep hb p0
    have q1 := cell_keep hb p1
    have q2 := cell_keep hb p2
    have q3 := cell_keep hb p3
    have q4 := cell_keep hb p4
    have q5 := cell_keep hb p5
    clear hb
    go_wp2_with fail
    refine hK.out _ _ ?_ (fun hHeld => ?_)
    · exact ⟨q0, q1, q2, q3, q4, q5⟩
    clear hK K
    try simp only [Act.put, List.getElem_toArray, List.getElem_cons_zero, List.getElem_cons_succ, List.setIfInBounds_toArray, List.set_cons_zero, List.set_cons_succ]
    refine wpAnyH_take (i := 4) (oi := _) (v := ?_) rfl (by kernel_rfl) (by kernel_rfl) (by kernel_rfl) (fun _ _ _ h => h) (Or.inl ⟨by rfl, ?_⟩) (by assumption) ?_
    rotate_left
    · first | (intro w' hSw; (try dsimp only at hSw); go_simp; done) | (intro w' hSw; (try dsimp only at hSw); go_simp; with_reducible rfl)
    try simp only [Act.put, List.getElem_toArray, List.getElem_cons_zero, List.getElem_cons_succ, List.setIfInBounds_toArray, List.set_cons_zero, List.set_cons_succ]
    refine wpAnyH_done (by kernel_rfl) ?_ _
    have HB5 := Lib.hid (sz_keep HB.out HX.out)
    have t0 := s0
    clear s0 s1 b0 b1 b2 b3 p0 p1 p2 p3 p4 p5 t0 ea eb
    have HS5 := Lib.hid (HS2.out.keep HX.out)
    have HRB5 := Lib.hid (HRB.out.keep HX.out)
    cases hv : validB s with
    | false =>
      have HV := Lib.hid hv
      have ho9 := HNO.out hv
      subst ho9
      clear hv
      go_wp2_with fail
      refine (specSigValid_any _ s _ HS5.out).mono ?_
      rw [HV.out]
      rintro _ w6 ⟨rfl, hb⟩
      have HB6 := Lib.hid (sz_keep HB5.out hb)
      have HRB6 := Lib.hid (HRB5.out.keep hb)
      replace q2 := cell_keep hb q2
      replace q3 := cell_keep hb q3
      replace q4 := cell_keep hb q4
      replace q5 := cell_keep hb q5
      clear hb q0 q1
      go_wp2_with fail
      refine (noBenchN _ w6 HRB6.out).mono ?_
      rintro _ w7 ⟨rfl, hb⟩
      have HB7 := Lib.hid (sz_keep HB6.out hb)
      clear hb q2 q3 q4 q5
      go_wp2_with fail
      refine (alive_any _).mono ?_
      rintro _ w8 ⟨rfl, hb⟩
      have HB8 := Lib.hid (sz_keep HB7.out hb)
      clear hb
      go_wp2
      go_ret
      exact ⟨rfl, HB8.out⟩
    | true =>
      have HV := Lib.hid hv
      have ho9 := HYE.out hv
      subst ho9
      have HBV := Lib.hid (show benchB ⟨⟨o9, []⟩, []⟩ = true by
        unfold benchB thyB
        rw [hv]; rfl)
      have HTV := Lib.hid (show thyB ⟨o9, []⟩ = true by unfold thyB; rw [hv]; rfl)
      have HMV := Lib.hid (show modelB o9 (singleM o9) = true by rw [single_model]; exact hv)
      have hvs := valid_sorts hv
      clear hv
      go_wp2_with fail
      refine (specSigValid_any _ o9 _ HS5.out).mono ?_
      rw [HV.out]
      rintro _ w6 ⟨rfl, hb⟩
      have HB6 := Lib.hid (sz_keep HB5.out hb)
      have HRB6 := Lib.hid (HRB5.out.keep hb)
      have HS6 := Lib.hid (HS5.out.keep hb)
      replace q0 := cell_keep hb q0
      replace q1 := cell_keep hb q1
      replace q2 := cell_keep hb q2
      replace q3 := cell_keep hb q3
      replace q4 := cell_keep hb q4
      replace q5 := cell_keep hb q5
      clear hb
      go_wp2_with fail
      refine wp_region_held_drew (S := (fun w' => w'.cell? ⟨w1.heap.size, 0, none⟩ = some (.int .i64 o9.sorts) ∧ w'.cell? ⟨w1.heap.size, 1, none⟩ = some (.slice Au o9.ops.length cu) ∧ w'.cell? ⟨w3.heap.size, 0, none⟩ = some (.int .i64 o9.sorts) ∧ w'.cell? ⟨w3.heap.size, 1, none⟩ = some (.slice Ab o9.ops.length cb) ∧ w'.cell? ⟨w3.heap.size, 2, none⟩ = some (.slice none 0 0) ∧ w'.cell? ⟨w3.heap.size, 3, none⟩ = some (.slice none 0 0))) (by kernel_rfl) ?_ (fun hHeld => ?_)
      · exact ⟨q0, q1, q2, q3, q4, q5⟩
      refine wpAnyH_take (i := 0) (oi := _) (v := ?_) rfl (by kernel_rfl) (by kernel_rfl) (by kernel_rfl) (fun _ _ _ h => h) (Or.inl ⟨by rfl, ?_⟩) (by assumption) ?_
      rotate_left
      · first | (intro w' hSw; (try dsimp only at hSw); go_simp; done) | (intro w' hSw; (try dsimp only at hSw); go_simp; with_reducible rfl)
      try simp only [Act.put, List.getElem_toArray, List.getElem_cons_zero, List.getElem_cons_succ, List.setIfInBounds_toArray, List.set_cons_zero, List.set_cons_succ]
      refine wpAnyH_ready (rs := [1]) (by kernel_rfl) (by simp) ?_
      refine AllReadyH.cons (o := _) rfl (fun K hK => ?_) AllReadyH.nil
      go_simp
      refine (benchValid_any ⟨⟨o9, []⟩, []⟩ w6.drew _ ⟨fun e he => by simp at he, fun e he => by simp at he⟩ ⟨_, _, _, rfl, ⟨_, _, rfl, HRB6.out.keep (eq_drew _), REqs.nil _⟩, RThys.nil _⟩).mono ?_
      rw [HBV.out]
      rintro _ w7 ⟨rfl, hb⟩
      have hx := eq_undrew hb
      have HYA := Lib.hid hx
      have a0 := cell_keep hx q0
      have a1 := cell_keep hx q1
      have a2 := cell_keep hx q2
      have a3 := cell_keep hx q3
      have a4 := cell_keep hx q4
      have a5 := cell_keep hx q5
      clear hb hx
      go_wp2_with fail
      refine hK.out _ _ ?_ (fun hHeld => ?_)
      · exact ⟨a0, a1, a2, a3, a4, a5⟩
      clear hK K
      try simp only [Act.put, List.getElem_toArray, List.getElem_cons_zero, List.getElem_cons_succ, List.setIfInBounds_toArray, List.set_cons_zero, List.set_cons_succ]
      refine wpAnyH_take (i := 2) (oi := _) (v := ?_) rfl (by kernel_rfl) (by kernel_rfl) (by kernel_rfl) (fun _ _ _ h => h) (Or.inl ⟨by rfl, ?_⟩) (by assumption) ?_
      rotate_left
      · first | (intro w' hSw; (try dsimp only at hSw); go_simp; done) | (intro w' hSw; (try dsimp only at hSw); go_simp; with_reducible rfl)
      try simp only [Act.put, List.getElem_toArray, List.getElem_cons_zero, List.getElem_cons_succ, List.setIfInBounds_toArray, List.set_cons_zero, List.set_cons_succ]
      refine wpAnyH_take (i := 3) (oi := _) (v := ?_) rfl (by kernel_rfl) (by kernel_rfl) (by kernel_rfl) (fun _ _ _ h => h) (Or.inl ⟨by rfl, ?_⟩) (by assumption) ?_
      rotate_left
      · first | (intro w' hSw; (try dsimp only at hSw); go_simp; done) | (intro w' hSw; (try dsimp only at hSw); go_simp; with_reducible rfl)
      try simp only [Act.put, List.getElem_toArray, List.getElem_cons_zero, List.getElem_cons_succ, List.setIfInBounds_toArray, List.set_cons_zero, List.set_cons_succ]
      refine wpAnyH_take (i := 4) (oi := _) (v := ?_) rfl (by kernel_rfl) (by kernel_rfl) (by kernel_rfl) (fun _ _ _ h => h) (Or.inl ⟨by rfl, ?_⟩) (by assumption) ?_
      rotate_left
      · first | (intro w' hSw; (try dsimp only at hSw); go_simp; done) | (intro w' hSw; (try dsimp only at hSw); go_simp; with_reducible rfl)
      try simp only [Act.put, List.getElem_toArray, List.getElem_cons_zero, List.getElem_cons_succ, List.setIfInBounds_toArray, List.set_cons_zero, List.set_cons_succ]
      refine wpAnyH_take (i := 5) (oi := _) (v := ?_) rfl (by kernel_rfl) (by kernel_rfl) (by kernel_rfl) (fun _ _ _ h => h) (Or.inl ⟨by rfl, ?_⟩) (by assumption) ?_
      rotate_left
      · first | (intro w' hSw; (try dsimp only at hSw); go_simp; done) | (intro w' hSw; (try dsimp only at hSw); go_simp; with_reducible rfl)
      try simp only [Act.put, List.getElem_toArray, List.getElem_cons_zero, List.getElem_cons_succ, List.setIfInBounds_toArray, List.set_cons_zero, List.set_cons_succ]
      refine wpAnyH_take (i := 6) (oi := _) (v := ?_) rfl (by kernel_rfl) (by kernel_rfl) (by kernel_rfl) (fun _ _ _ h => h) (Or.inl ⟨by rfl, ?_⟩) (by assumption) ?_
      rotate_left
      · first | (intro w' hSw; (try dsimp only at hSw); go_simp; done) | (intro w' hSw; (try dsimp only at hSw); go_simp; with_reducible rfl)
      try simp only [Act.put, List.getElem_toArray, List.getElem_cons_zero, List.getElem_cons_succ, List.setIfInBounds_toArray, List.set_cons_zero, List.set_cons_succ]
      refine wpAnyH_ready (rs := [7]) (by kernel_rfl) (by simp) ?_
      refine AllReadyH.cons (o := _) rfl (fun K hK => ?_) AllReadyH.nil
      go_simp
      refine (sameSig_self9 _ _ o9 w7 ⟨_, rfl, HRB6.out.keep HYA.out⟩ (HS6.out.keep HYA.out)).mono ?_
      rintro _ w8 ⟨rfl, hb⟩
      have HYB := Lib.hid (sz_keep HYA.out hb)
      have c0 := cell_keep hb a0
      have c1 := cell_keep hb a1
      have c2 := cell_keep hb a2
      have c3 := cell_keep hb a3
      have c4 := cell_keep hb a4
      have c5 := cell_keep hb a5
      clear hb
      go_wp2_with fail
      refine hK.out _ _ ?_ (fun hHeld => ?_)
      · exact ⟨c0, c1, c2, c3, c4, c5⟩
      clear hK K
      try simp only [Act.put, List.getElem_toArray, List.getElem_cons_zero, List.getElem_cons_succ, List.setIfInBounds_toArray, List.set_cons_zero, List.set_cons_succ]
      refine wpAnyH_take (i := 8) (oi := _) (v := ?_) rfl (by kernel_rfl) (by kernel_rfl) (by kernel_rfl) (fun _ _ _ h => h) (Or.inl ⟨by rfl, ?_⟩) (by assumption) ?_
      rotate_left
      · first | (intro w' hSw; (try dsimp only at hSw); go_simp; done) | (intro w' hSw; (try dsimp only at hSw); go_simp; with_reducible rfl)
      try simp only [Act.put, List.getElem_toArray, List.getElem_cons_zero, List.getElem_cons_succ, List.setIfInBounds_toArray, List.set_cons_zero, List.set_cons_succ]
      refine wpAnyH_take (i := 9) (oi := _) (v := ?_) rfl (by kernel_rfl) (by kernel_rfl) (by kernel_rfl) (fun _ _ _ h => h) (Or.inl ⟨by rfl, ?_⟩) (by assumption) ?_
      rotate_left
      · first | (intro w' hSw; (try dsimp only at hSw); go_simp; done) | (intro w' hSw; (try dsimp only at hSw); go_simp; with_reducible rfl)
      try simp only [Act.put, List.getElem_toArray, List.getElem_cons_zero, List.getElem_cons_succ, List.setIfInBounds_toArray, List.set_cons_zero, List.set_cons_succ]
      refine wpAnyH_take (i := 10) (oi := _) (v := ?_) rfl (by kernel_rfl) (by kernel_rfl) (by kernel_rfl) (fun _ _ _ h => h) (Or.inl ⟨by rfl, ?_⟩) (by assumption) ?_
      rotate_left
      · first | (intro w' hSw; (try dsimp only at hSw); go_simp; done) | (intro w' hSw; (try dsimp only at hSw); go_simp; with_reducible rfl)
      try simp only [Act.put, List.getElem_toArray, List.getElem_cons_zero, List.getElem_cons_succ, List.setIfInBounds_toArray, List.set_cons_zero, List.set_cons_succ]
      refine wpAnyH_take (i := 11) (oi := _) (v := ?_) rfl (by kernel_rfl) (by kernel_rfl) (by kernel_rfl) (fun _ _ _ h => h) (Or.inl ⟨by rfl, ?_⟩) (by assumption) ?_
      rotate_left
      · first | (intro w' hSw; (try dsimp only at hSw); go_simp; done) | (intro w' hSw; (try dsimp only at hSw); go_simp; with_reducible rfl)
      try simp only [Act.put, List.getElem_toArray, List.getElem_cons_zero, List.getElem_cons_succ, List.setIfInBounds_toArray, List.set_cons_zero, List.set_cons_succ]
      refine wpAnyH_take (i := 12) (oi := _) (v := ?_) rfl (by kernel_rfl) (by kernel_rfl) (by kernel_rfl) (fun _ _ _ h => h) (Or.inl ⟨by rfl, ?_⟩) (by assumption) ?_
      rotate_left
      · first | (intro w' hSw; (try dsimp only at hSw); go_simp; done) | (intro w' hSw; (try dsimp only at hSw); go_simp; with_reducible rfl)
      try simp only [Act.put, List.getElem_toArray, List.getElem_cons_zero, List.getElem_cons_succ, List.setIfInBounds_toArray, List.set_cons_zero, List.set_cons_succ]
      refine wpAnyH_take (i := 13) (oi := _) (v := ?_) rfl (by kernel_rfl) (by kernel_rfl) (by kernel_rfl) (fun _ _ _ h => h) (Or.inl ⟨by rfl, ?_⟩) (by assumption) ?_
      rotate_left
      · first | (intro w' hSw; (try dsimp only at hSw); go_simp; done) | (intro w' hSw; (try dsimp only at hSw); go_simp; with_reducible rfl)
      try simp only [Act.put, List.getElem_toArray, List.getElem_cons_zero, List.getElem_cons_succ, List.setIfInBounds_toArray, List.set_cons_zero, List.set_cons_succ]
      refine wpAnyH_take (i := 14) (oi := _) (v := ?_) rfl (by kernel_rfl) (by kernel_rfl) (by kernel_rfl) (fun _ _ _ h => h) (Or.inl ⟨by rfl, ?_⟩) (by assumption) ?_
      rotate_left
      · first | (intro w' hSw; (try dsimp only at hSw); go_simp; done) | (intro w' hSw; (try dsimp only at hSw); go_simp; with_reducible rfl)
      try simp only [Act.put, List.getElem_toArray, List.getElem_cons_zero, List.getElem_cons_succ, List.setIfInBounds_toArray, List.set_cons_zero, List.set_cons_succ]
      refine wpAnyH_take (i := 15) (oi := _) (v := ?_) rfl (by kernel_rfl) (by kernel_rfl) (by kernel_rfl) (fun _ _ _ h => h) (Or.inl ⟨by rfl, ?_⟩) (by assumption) ?_
      rotate_left
      · first | (intro w' hSw; (try dsimp only at hSw); go_simp; done) | (intro w' hSw; (try dsimp only at hSw); go_simp; with_reducible rfl)
      try simp only [Act.put, List.getElem_toArray, List.getElem_cons_zero, List.getElem_cons_succ, List.setIfInBounds_toArray, List.set_cons_zero, List.set_cons_succ]
      refine wpAnyH_take (i := 16) (oi := _) (v := ?_) rfl (by kernel_rfl) (by kernel_rfl) (by kernel_rfl) (fun _ _ _ h => h) (Or.inl ⟨by rfl, ?_⟩) (by assumption) ?_
      rotate_left
      · first | (intro w' hSw; (try dsimp only at hSw); go_simp; done) | (intro w' hSw; (try dsimp only at hSw); go_simp; with_reducible rfl)
      try simp only [Act.put, List.getElem_toArray, List.getElem_cons_zero, List.getElem_cons_succ, List.setIfInBounds_toArray, List.set_cons_zero, List.set_cons_succ]
      refine wpAnyH_take (i := 17) (oi := _) (v := ?_) rfl (by kernel_rfl) (by kernel_rfl) (by kernel_rfl) (fun _ _ _ h => h) (Or.inl ⟨by rfl, ?_⟩) (by assumption) ?_
      rotate_left
      · first | (intro w' hSw; (try dsimp only at hSw); go_simp; done) | (intro w' hSw; (try dsimp only at hSw); go_simp; with_reducible rfl)
      try simp only [Act.put, List.getElem_toArray, List.getElem_cons_zero, List.getElem_cons_succ, List.setIfInBounds_toArray, List.set_cons_zero, List.set_cons_succ]
      refine wpAnyH_take (i := 18) (oi := _) (v := ?_) rfl (by kernel_rfl) (by kernel_rfl) (by kernel_rfl) (fun _ _ _ h => h) (Or.inl ⟨by rfl, ?_⟩) (by assumption) ?_
      rotate_left
      · first | (intro w' hSw; (try dsimp only at hSw); go_simp; done) | (intro w' hSw; (try dsimp only at hSw); go_simp; with_reducible rfl)
      try simp only [Act.put, List.getElem_toArray, List.getElem_cons_zero, List.getElem_cons_succ, List.setIfInBounds_toArray, List.set_cons_zero, List.set_cons_succ]
      refine wpAnyH_take (i := 19) (oi := _) (v := ?_) rfl (by kernel_rfl) (by kernel_rfl) (by kernel_rfl) (fun _ _ _ h => h) (Or.inl ⟨by rfl, ?_⟩) (by assumption) ?_
      rotate_left
      · first | (intro w' hSw; (try dsimp only at hSw); go_simp; done) | (intro w' hSw; (try dsimp only at hSw); go_simp; with_reducible rfl)
      try simp only [Act.put, List.getElem_toArray, List.getElem_cons_zero, List.getElem_cons_succ, List.setIfInBounds_toArray, List.set_cons_zero, List.set_cons_succ]
      refine wpAnyH_ready (rs := [20]) (by kernel_rfl) (by simp) ?_
      refine AllReadyH.cons (o := _) rfl (fun K hK => ?_) AllReadyH.nil
      go_simp
      refine (single_any o9 w8 _ (HS6.out.keep HYB.out) (by omega) (by omega) (by omega)).mono ?_
      rintro _ w9 ⟨um, rfl, hm, hb⟩
      obtain ⟨Am, cm, Bm, dm, rfl⟩ := hm.reads.form
      have HM := Lib.hid hm.reads
      have HYC := Lib.hid (sz_keep HYB.out hb)
      have d0 := cell_keep hb c0
      have d1 := cell_keep hb c1
      have d2 := cell_keep hb c2
      have d3 := cell_keep hb c3
      have d4 := cell_keep hb c4
      have d5 := cell_keep hb c5
      clear hb hm
      go_wp2_with fail
      refine hK.out _ _ ?_ (fun hHeld => ?_)
      · exact ⟨d0, d1, d2, d3, d4, d5⟩
      clear hK K
      try simp only [Act.put, List.getElem_toArray, List.getElem_cons_zero, List.getElem_cons_succ, List.setIfInBounds_toArray, List.set_cons_zero, List.set_cons_succ]
      refine wpAnyH_ready (rs := [21]) (by kernel_rfl) (by simp) ?_
      refine AllReadyH.cons (o := _) rfl (fun K hK => ?_) AllReadyH.nil
      go_simp
      refine (isModel0_any ⟨o9, []⟩ (singleM o9) w9 _ _ rfl HTV.out HMV.out (fun e he => by simp at he) ⟨_, _, rfl, HRB6.out.keep HYC.out, REqs.nil _⟩ HM.out).mono ?_
      rintro _ w10 ⟨rfl, hb⟩
      have HYD := Lib.hid (sz_keep HYC.out hb)
      have e0 := cell_keep hb d0
      have e1 := cell_keep hb d1
      have e2 := cell_keep hb d2
      have e3 := cell_keep hb d3
      have e4 := cell_keep hb d4
      have e5 := cell_keep hb d5
      clear hb
      go_wp2_with fail
      refine hK.out _ _ ?_ (fun hHeld => ?_)
      · exact ⟨e0, e1, e2, e3, e4, e5⟩
      clear hK K
      try simp only [Act.put, List.getElem_toArray, List.getElem_cons_zero, List.getElem_cons_succ, List.setIfInBounds_toArray, List.set_cons_zero, List.set_cons_succ]
      refine wpAnyH_take (i := 22) (oi := _) (v := ?_) rfl (by kernel_rfl) (by kernel_rfl) (by kernel_rfl) (fun _ _ _ h => h) (Or.inl ⟨by rfl, ?_⟩) (by assumption) ?_
      rotate_left
      · first | (intro w' hSw; (try dsimp only at hSw); go_simp; done) | (intro w' hSw; (try dsimp only at hSw); go_simp; with_reducible rfl)
      try simp only [Act.put, List.getElem_toArray, List.getElem_cons_zero, List.getElem_cons_succ, List.setIfInBounds_toArray, List.set_cons_zero, List.set_cons_succ]
      refine wpAnyH_take (i := 23) (oi := _) (v := ?_) rfl (by kernel_rfl) (by kernel_rfl) (by kernel_rfl) (fun _ _ _ h => h) (Or.inl ⟨by rfl, ?_⟩) (by assumption) ?_
      rotate_left
      · first | (intro w' hSw; (try dsimp only at hSw); go_simp; done) | (intro w' hSw; (try dsimp only at hSw); go_simp; with_reducible rfl)
      try simp only [Act.put, List.getElem_toArray, List.getElem_cons_zero, List.getElem_cons_succ, List.setIfInBounds_toArray, List.set_cons_zero, List.set_cons_succ]
      refine wpAnyH_done (by kernel_rfl) ?_ _
      clear q0 q1 q2 q3 q4 q5 a0 a1 a2 a3 a4 a5 c0 c1 c2 c3 c4 c5 d0 d1 d2 d3 d4 d5 e0 e1 e2 e3 e4 e5
      go_wp2
      go_ret
      exact ⟨rfl, sz_keep HB6.out HYD.out⟩

set_option maxRecDepth 100000 in
theorem lifted_FnBenchNew (os : Os) (started : os.Started) (H : Type) (enc : TypeId × Value → H) :
    ReturnsInHanded {} Try.checked os 5 .any (Rows.fnBenchNewSpec.pre6 enc Try.prog Try.f5 Rows.fnBenchNewRow.domain false) (Rows.fnBenchNewSpec.post enc Try.prog Try.f5 false true false false) := by
  refine returnsInHanded_of_change (C := Try.checked) own started (by kernel_rfl) Try.func5
    (ChangeSpec.witness6 (enc := enc) (C := Try.checked) false ⟨#[], #[.slice none 0 0], []⟩ 8 (by kernel_rfl) (by kernel_rfl) (by kernel_rfl) (by kernel_rfl)) ?_
  intro W base args ds gs before hval0 hW hcnd _
  have hval : ∀ (j : Nat) t v, Try.f5.params[j]? = some t → args[j]? = some v → Value.okWide Try.prog W .any base t v := hval0
  have hW' := hW
  obtain ⟨p, q, hA0, hV, rfl, hfz, hnd⟩ := hW
  have hA : DataW.TrodAll enc Try.prog W 0 (fun _ => true) true Try.f5.params.toList args.toList ds p := hA0
  rw [Try.params5] at hA hval
  obtain ⟨v0, vs0, d0, ds0, p0, q0, hargs, rfl, rfl, h0, r0⟩ := trodAll_cons hA
  obtain ⟨rfl, rfl, rfl⟩ := trodAll_nil r0
  obtain rfl : args = #[v0] := by cases args; simp_all
  obtain ⟨rfl, rfl⟩ := trodVars_none hV
  obtain ⟨a0, len0, cap0, rfl⟩ := okWide_slice Try.underlying50 (hval 0 50 v0 rfl rfl)
  have k0 := h0
  have lt0 : ∀ x ∈ p0, x.block < W.heap.size := by obtain ⟨m, hm⟩ := k0; exact DataW.trod_lt m _ _ _ hm
  obtain ⟨bs, w0⟩ : ∃ bs, RBytes W W.heap.size (.slice a0 len0 cap0) bs := by
    obtain ⟨fuel, hf⟩ := h0
    rcases open_ints Try.underlying50 Try.underlying5 (by kernel_rfl) hf with ⟨hcs, _⟩ | ⟨x, l, c, zs, hcs, _, hl, hm, hz, _, hcell, hwz⟩
    · simp [Value.cells] at hcs
      obtain ⟨rfl, rfl, rfl⟩ := hcs
      exact ⟨[], bytes_nil _ _⟩
    · simp [Value.cells] at hcs
      obtain ⟨rfl, rfl, rfl⟩ := hcs
      exact ⟨_, bytes_of hl hm (by simpa using hz) hcell hwz⟩
  clear hA0 hval0
  refine (walk_FnBenchNew _ bs W w0).mono fun e W' ⟨he, bel⟩ => ?_
  subst he
  exact ⟨_, rfl, _, _, _, [], _, [], hW', trodAll_mk1 (shut_bool Try.underlying4 _), (trodAll_cons_mk (Below.trod laidOut (by kernel_rfl) (of_decide_eq_true (by kernel_rfl)) k0 bel lt0) trodAll_mk0), rfl, bel.frame _, fun h => by cases h⟩

theorem over_FnBenchNew : Rows.fnBenchNewRow.holds Try.pinned (OpenSpec.ofChange Rows.fnBenchNewSpec) :=
  OpenClaim.holds_of_wide 5 Try.f5 rfl rfl rfl rfl rfl rfl rfl ⟨rfl, rfl, rfl, rfl, rfl⟩ rfl rfl rfl rfl rfl (by kernel_rfl) Try.func5 (by kernel_rfl)
    (of_decide_eq_true (by kernel_rfl)) (by unfold Func.isWrapper; first | (rw [if_pos (by decide +kernel)]; kernel_rfl) | (rw [if_neg (by decide +kernel)]; exact ⟨rfl, rfl⟩))
    (fun os started H enc _ => lifted_FnBenchNew os started H enc)

theorem proved_FnBenchNew : Rows.FnBenchNewSaid := over_FnBenchNew
end Go.Proofs.Ytmmnamjgpfkabab
