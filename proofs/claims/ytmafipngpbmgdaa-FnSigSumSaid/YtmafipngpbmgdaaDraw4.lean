/- The draws that the laws call. -/
import Derived.Test.YtmafipngpbmgdaaDraw3
import Derived.Deep.RegionHeld3
namespace Go.Proofs.Ytmafipngpbmgdaa
open Go.RowKit
set_option linter.unusedVariables false

theorem below_of_gr {w w' : World} {g : Nat} (h : w.grownBy w' (some g)) (hg : w.heap.size ≤ g) : Below w.heap.size w w' :=
  ⟨h.os, h.tape, h.output, h.size, fun k hk => h.block k hk (fun e => by injection e with e; omega)⟩

theorem below_of_gr' {w w' : World} {g B : Nat} (h : w.grownBy w' (some g)) (hg : B ≤ g) (hB : B ≤ w.heap.size := by omega) : Below B w w' :=
  ⟨h.os, h.tape, h.output, h.size, fun k hk => h.block k (by omega) (fun e => by injection e with e; omega)⟩
theorem gr_drew {w w' : World} {row : Option Nat} (h : w.drew.grownBy w' row) : w.grownBy w' row := ⟨h.os, h.tape, h.output, h.size, h.block⟩
def DrawPost (w : World) (e : Ending) (w' : World) : Prop :=
  ∃ (v : Value) (s : MSig), e = .returned v ∧ OSig w' w.heap.size v s ∧ s.ops.length ≤ 5 ∧ Below w.heap.size w w'

set_option maxRecDepth 100000 in
theorem drawSigValid_any (v : Value) (bs : List Int) (w : World) (h : RBytes w w.heap.size v bs) :
    Calls Try.prog 8 #[v] w (DrawPost w) := by
  have hb0 := below_alloc w (.cells #[.int .i64 0, .slice none 0 0] 25)
  have HW := Lib.hid (show RBytes (w.alloc (.cells #[.int .i64 0, .slice none 0 0] 25)) (w.alloc (.cells #[.int .i64 0, .slice none 0 0] 25)).heap.size v bs by
    obtain ⟨A, c, e, h1, h2, h3⟩ := h
    exact ⟨A, c, e, h1, h2, fun j x hj => by obtain ⟨l, u, b, o, e, hM, hc⟩ := h3 j x hj; exact ⟨l, u, b, o, e, by simp; omega, cell_keep hb0 hc⟩⟩)
  obtain ⟨A, c, rfl, -⟩ := h
  go_enter Try.func8, Try.ntmps8
  go_wp2_with fail
  refine (open_any _ bs _ HW.out).mono ?_
  rintro e w1 ⟨rfl, hr1, hb1⟩
  have hr1' : RRd w1 (w.heap.size + 1) 0 := by simpa using hr1
  have HR1 := Lib.hid hr1'
  have HB1 := Lib.hid hb1
  clear hr1 hr1' hb1
  go_wp2_with fail
  refine (sig_any (w.heap.size + 1) 0 _ _ HR1.out (by omega) (by omega) (by omega)).mono ?_
  rintro e w2 ⟨v, s, q, rfl, ⟨u, rfl, ho⟩, hs2, hr2, hq2, hg2⟩
  have hu := ho
  obtain ⟨us0, hu0, -⟩ := hu
  obtain ⟨Au, cu, rfl, -⟩ := own_reads hu0
  have hsz := HB1.out.size
  simp at hsz
  have hres := gr_at hg2 (by omega) ((HB1.out.block w.heap.size (by simp)).trans (heap_alloc_new w _))
  have e3 := block_cell hres 0
  have e4 := block_cell hres 1
  have e5 := block_free hres 0
  have e6 := block_free hres 1
  simp at e3 e4
  have d1 := block_set (block_set hres 0 (.int .i64 s.sorts)) 1 (.slice Au s.ops.length cu)
  have D2 := Lib.hid (((ho.base (B' := w.heap.size + 1) (by omega)).setLow (b := w.heap.size) (by omega) 0 (.int .i64 s.sorts)).setLow (b := w.heap.size) (by omega) 1 (.slice Au s.ops.length cu))
  have hbel : Below w.heap.size w w2 := (hb0.trans (HB1.out.mono (by simp))).trans (below_of_gr' hg2 (by omega))
  have D3 := Lib.hid ((hbel.setCell (p := ⟨w.heap.size, 0, none⟩) (Nat.le_refl _) (.int .i64 s.sorts)).setCell (p := ⟨w.heap.size, 1, none⟩) (Nat.le_refl _) (.slice Au s.ops.length cu))
  have D1 := Lib.hid d1
  clear hu0 ho hres d1 hg2 hr2 hbel
  go_wp2
  generalize (w2.setCell ⟨w.heap.size, 0, none⟩ (.int .i64 s.sorts)).setCell ⟨w.heap.size, 1, none⟩ (.slice Au s.ops.length cu) = w9 at D1 D2 D3 ⊢
  have k0 := block_cell D1.out 0
  have k1 := block_cell D1.out 1
  simp at k0 k1
  refine bodyPost_ret (v := .agg #[.int .i64 s.sorts, .slice Au s.ops.length cu]) (by simp [results, Try.results8, go_sem, k0, k1]) rfl ?_
  exact ⟨_, s, rfl, ⟨_, rfl, D2.out.base (by omega)⟩, hs2, D3.out⟩

def OpOfPost (g p : Nat) (w : World) (e : Ending) (w' : World) : Prop :=
  ∃ (v : Value) (s : MSig) (q : Nat) (op : Int), e = .returned (.tuple #[v, .int .i64 op]) ∧ OSig w' w.heap.size v s ∧ s.ops.length ≤ 5 ∧ RRd w' g q ∧ q ≤ p + 40 ∧ w.grownBy w' (some g)

set_option maxHeartbeats 1600000 in
set_option maxRecDepth 100000 in
theorem opOf_any (g p : Nat) (w : World) (h : RRd w g p) (hp : p ≤ 1000000) :
    Calls Try.prog 30 #[.pointer (some ⟨g, 0, none⟩)] w (OpOfPost g p w) := by
  have H := Lib.hid h
  have hgl := h.lt
  clear h
  have HR0 := Lib.hid (H.out.keep (w' := (w.alloc (.cells #[.int .i64 0, .slice none 0 0] 25))) (below_alloc _ _))
  go_enter Try.func30, Try.ntmps30
  go_wp2_with fail
  refine (sig_any g p _ _ HR0.out (by omega) (by omega) (by omega)).mono ?_
  rintro e w4 ⟨v, ⟨sorts, rows⟩, q4, rfl, ⟨u, rfl, ho⟩, hs2, hr4, hq4, hg4⟩
  have hu := ho
  obtain ⟨us0, hu0, -⟩ := hu
  obtain ⟨Au, cu, rfl, -⟩ := own_reads hu0
  simp only at hs2 hu0 ho
  clear hu0
  have HL1 := Lib.hid (loc_start (w := w) (w4 := w4) (g := g) (q := q4) (s := ⟨sorts, rows⟩) rfl ho hr4 hgl hg4)
  simp only at HL1
  have hw4 : w.heap.size + 1 ≤ w4.heap.size := by have := hg4.size; simp at this; omega
  clear ho hr4 hg4 HR0
  go_wp2_with fail
  have hl0 := block_cell HL1.out.loc 0
  have hl1 := block_cell HL1.out.loc 1
  simp at hl0 hl1
  go_region_held3 (fun w' => w'.cell? ⟨w4.heap.size, 0, none⟩ = some (.int .i64 sorts) ∧ w'.cell? ⟨w4.heap.size, 1, none⟩ = some (.slice Au rows.length cu)) (first | go_keep | exact ⟨block_cell (block_set_ne (block_set_ne HL6.out.loc 0 _ (by omega)) 1 _ (by omega)) 0, block_cell (block_set_ne (block_set_ne HL6.out.loc 0 _ (by omega)) 1 _ (by omega)) 1⟩)
    (first
      | (go_at_call_of 35 (Value.int .i64 20); refine (pick_any g (q4 + 1) 20 _ HL5.out.rd (by omega)).mono ?_; rintro e w6 ⟨x6, rfl, hx6, hr6, hg6⟩; have HL6 := Lib.hid (HL5.out.later hg6 hr6); clear hr6 hg6; have e60 := block_cell HL6.out.loc 0; have e61 := block_cell HL6.out.loc 1; simp at e60 e61; have r0 := block_cell HL6.out.res 0; have r1 := block_cell HL6.out.res 1; simp at r0 r1; have r2 := block_free HL6.out.res 0; have r3 := block_free HL6.out.res 1)
      | (go_at_call 35; refine (pick_any g q4 _ _ ?_ (by omega)).mono ?_; (exact HL1.out.rd); rintro e w5 ⟨x5, rfl, hx5, hr5, hg5⟩; have HL5 := Lib.hid (HL1.out.later (gr_drew hg5) hr5); clear hr5 hg5; have e50 := block_cell HL5.out.loc 0; have e51 := block_cell HL5.out.loc 1; simp at e50 e51))
  obtain ⟨d1, d2, d3, d4⟩ := loc_done HL6.out
  generalize (w6.setCell ⟨w.heap.size, 0, none⟩ (.int .i64 sorts)).setCell ⟨w.heap.size, 1, none⟩ (.slice Au rows.length cu) = w9 at d1 d2 d3 d4 ⊢
  generalize IntKind.i64.wrap (x5 - IntKind.i64.wrap (x6.tdiv 19)) = op
  have k0 := block_cell d1 0
  have k1 := block_cell d1 1
  simp at k0 k1
  clear e50 e51 e60 e61 r0 r1 r2 r3 hl0 hl1
  go_wp2
  refine bodyPost_ret (v := .tuple #[.agg #[.int .i64 sorts, .slice Au rows.length cu], .int .i64 op]) (by simp [results, Try.results30, go_sem, k0, k1]) rfl ?_
  exact ⟨_, ⟨sorts, rows⟩, _, op, rfl, ⟨_, rfl, d2.base (by omega)⟩, hs2, d3, by omega, d4⟩

/-- bytes that came in, behind new blocks of the call's own -/
theorem bytes_alloc {w w' : World} {v : Value} {bs : List Int} (h : RBytes w w.heap.size v bs) (hb : Below w.heap.size w w') : RBytes w' w'.heap.size v bs := by
  have hs := hb.size
  obtain ⟨A, c, e, h1, h2, h3⟩ := h
  exact ⟨A, c, e, h1, h2, fun j x hj => by obtain ⟨l, u, b, o, e, hM, hc⟩ := h3 j x hj; exact ⟨l, u, b, o, e, by omega, cell_keep hb hc⟩⟩

/-- the result cells, written at the end of a draw -/
theorem res_done {w w2 : World} {b B : Nat} {sorts : Int} {u : Value} {rows : List (List Int)} (hres : w2.heap[b]? = some (.cells #[.int .i64 0, .slice none 0 0] 25 (0, 0))) (ho : ORows w2 B u rows) (hB : b < B) (hb : Below w.heap.size w w2) (hw : w.heap.size ≤ b) :
    let w3 := (w2.setCell ⟨b, 0, none⟩ (.int .i64 sorts)).setCell ⟨b, 1, none⟩ u
    w3.heap[b]? = some (.cells #[.int .i64 sorts, u] 25 (0, 0)) ∧ ORows w3 B u rows ∧ Below w.heap.size w w3 := by
  intro w3
  exact ⟨block_set (block_set hres 0 _) 1 u, (ho.setLow hB _ _).setLow hB _ _, (hb.setCell hw _).setCell hw _⟩

def DrawOpPost (w : World) (e : Ending) (w' : World) : Prop :=
  ∃ (v : Value) (s : MSig) (op : Int), e = .returned (.tuple #[v, .int .i64 op]) ∧ OSig w' w.heap.size v s ∧ s.ops.length ≤ 5 ∧ Below w.heap.size w w'

theorem drawOpTakes_any (v : Value) (bs : List Int) (w : World) (h : RBytes w w.heap.size v bs) :
    Calls Try.prog 12 #[v] w (DrawOpPost w) := by
  have hb0 := below_alloc w (.cells #[.int .i64 0, .slice none 0 0] 25)
  have HW := Lib.hid (bytes_alloc h hb0)
  obtain ⟨A, c, rfl, -⟩ := h
  go_enter Try.func12, Try.ntmps12
  go_wp2_with fail
  refine (open_any _ bs _ HW.out).mono ?_
  rintro e w1 ⟨rfl, hr1, hb1⟩
  have hr1' : RRd w1 (w.heap.size + 1) 0 := by simpa using hr1
  have HR1 := Lib.hid hr1'
  have HB1 := Lib.hid hb1
  clear hr1 hr1' hb1
  go_wp2_with fail
  refine (opOf_any (w.heap.size + 1) 0 _ HR1.out (by omega)).mono ?_
  rintro e w2 ⟨v, ⟨sorts, rows⟩, q, op, rfl, ⟨u, rfl, ho⟩, hs2, hr2, hq2, hg2⟩
  have hu := ho
  obtain ⟨us0, hu0, -⟩ := hu
  obtain ⟨Au, cu, rfl, -⟩ := own_reads hu0
  simp only at hs2 hu0 ho
  have hsz := HB1.out.size
  simp at hsz
  have hres := gr_at hg2 (by omega) ((HB1.out.block w.heap.size (by simp)).trans (heap_alloc_new w _))
  have hbel : Below w.heap.size w w2 := (hb0.trans (HB1.out.mono (by simp))).trans (below_of_gr' hg2 (by omega))
  have D := Lib.hid (res_done (sorts := sorts) hres (ho.base (B' := w.heap.size + 1) (by omega)) (by omega) hbel (Nat.le_refl _))
  have e3 := block_cell hres 0
  have e4 := block_cell hres 1
  have e5 := block_free hres 0
  have e6 := block_free hres 1
  simp at e3 e4
  clear hu0 ho hres hg2 hr2 hbel
  go_wp2
  obtain ⟨d1, d2, d3⟩ := D.out
  generalize (w2.setCell ⟨w.heap.size, 0, none⟩ (.int .i64 sorts)).setCell ⟨w.heap.size, 1, none⟩ (.slice Au rows.length cu) = w9 at d1 d2 d3 ⊢
  have k0 := block_cell d1 0
  have k1 := block_cell d1 1
  simp at k0 k1
  refine bodyPost_ret (v := .tuple #[.agg #[.int .i64 sorts, .slice Au rows.length cu], .int .i64 op]) (by simp [results, Try.results12, go_sem, k0, k1]) rfl ?_
  exact ⟨_, ⟨sorts, rows⟩, op, rfl, ⟨_, rfl, d2.base (by omega)⟩, hs2, d3⟩

theorem drawOpLeaves_any (v : Value) (bs : List Int) (w : World) (h : RBytes w w.heap.size v bs) :
    Calls Try.prog 17 #[v] w (DrawOpPost w) := by
  have hb0 := below_alloc w (.cells #[.int .i64 0, .slice none 0 0] 25)
  have HW := Lib.hid (bytes_alloc h hb0)
  obtain ⟨A, c, rfl, -⟩ := h
  go_enter Try.func17, Try.ntmps17
  go_wp2_with fail
  refine (open_any _ bs _ HW.out).mono ?_
  rintro e w1 ⟨rfl, hr1, hb1⟩
  have hr1' : RRd w1 (w.heap.size + 1) 0 := by simpa using hr1
  have HR1 := Lib.hid hr1'
  have HB1 := Lib.hid hb1
  clear hr1 hr1' hb1
  go_wp2_with fail
  refine (opOf_any (w.heap.size + 1) 0 _ HR1.out (by omega)).mono ?_
  rintro e w2 ⟨v, ⟨sorts, rows⟩, q, op, rfl, ⟨u, rfl, ho⟩, hs2, hr2, hq2, hg2⟩
  have hu := ho
  obtain ⟨us0, hu0, -⟩ := hu
  obtain ⟨Au, cu, rfl, -⟩ := own_reads hu0
  simp only at hs2 hu0 ho
  have hsz := HB1.out.size
  simp at hsz
  have hres := gr_at hg2 (by omega) ((HB1.out.block w.heap.size (by simp)).trans (heap_alloc_new w _))
  have hbel : Below w.heap.size w w2 := (hb0.trans (HB1.out.mono (by simp))).trans (below_of_gr' hg2 (by omega))
  have D := Lib.hid (res_done (sorts := sorts) hres (ho.base (B' := w.heap.size + 1) (by omega)) (by omega) hbel (Nat.le_refl _))
  have e3 := block_cell hres 0
  have e4 := block_cell hres 1
  have e5 := block_free hres 0
  have e6 := block_free hres 1
  simp at e3 e4
  clear hu0 ho hres hg2 hr2 hbel
  go_wp2
  obtain ⟨d1, d2, d3⟩ := D.out
  generalize (w2.setCell ⟨w.heap.size, 0, none⟩ (.int .i64 sorts)).setCell ⟨w.heap.size, 1, none⟩ (.slice Au rows.length cu) = w9 at d1 d2 d3 ⊢
  have k0 := block_cell d1 0
  have k1 := block_cell d1 1
  simp at k0 k1
  refine bodyPost_ret (v := .tuple #[.agg #[.int .i64 sorts, .slice Au rows.length cu], .int .i64 op]) (by simp [results, Try.results17, go_sem, k0, k1]) rfl ?_
  exact ⟨_, ⟨sorts, rows⟩, op, rfl, ⟨_, rfl, d2.base (by omega)⟩, hs2, d3⟩
end Go.Proofs.Ytmafipngpbmgdaa
