/- ruleOf and afterStep (package impl). -/
import Derived.Test.YtonainidjkcoeacRule
import Derived.Deep.RegionHeld3
import Derived.Deep.CutRange
import Derived.Deep.DeepCutAuto
import Derived.Laws.EntriesVeiled
namespace Go.Proofs.Ytonainidjkcoeac
open Go.RowKit
set_option linter.unusedVariables false
set_option linter.unusedSimpArgs false

theorem keep4 {w w' : World} {a b c d : Addr} {x y z u : Value} (hb : Below w.heap.size w w') (h1 : w.cell? a = some x) (h2 : w.cell? b = some y) (h3 : w.cell? c = some z) (h4 : w.cell? d = some u) :
    w'.cell? a = some x ∧ w'.cell? b = some y ∧ w'.cell? c = some z ∧ w'.cell? d = some u := ⟨cell_keep hb h1, cell_keep hb h2, cell_keep hb h3, cell_keep hb h4⟩
theorem bw_alloc {a w : World} (h : Below a.heap.size a w) (o : Obj) : Below a.heap.size a (w.alloc o) := h.alloc h.size o
theorem bw_drew {a w : World} (h : Below a.heap.size a w) : Below a.heap.size a w.drew := bel_drew h
theorem bw_set {a w : World} (h : Below a.heap.size a w) {b o : Nat} (hb : a.heap.size ≤ b) (u : Value) : Below a.heap.size a (w.setCell ⟨b, o, none⟩ u) := h.setCell (p := ⟨b, o, none⟩) hb u

/-- three new one-cell blocks -/
theorem three_new {W wx : World} {T : TypeId} {x y z : Value} (hh : wx.heap = (((W.alloc (.cells #[x] T)).alloc (.cells #[y] T)).alloc (.cells #[z] T)).heap) (ho : wx.os = W.os) (ht : wx.tape = W.tape) (hp : wx.output = W.output) :
    wx.heap[W.heap.size]? = some (.cells #[x] T (0, 0)) ∧ wx.heap[W.heap.size + 1]? = some (.cells #[y] T (0, 0)) ∧ wx.heap[W.heap.size + 1 + 1]? = some (.cells #[z] T (0, 0)) ∧ Below W.heap.size W wx := by
  rw [hh]
  refine ⟨?_, ?_, ?_, ?_⟩
  · rw [heap_alloc_old _ _ (by simp; omega), heap_alloc_old _ _ (by simp)]
    exact heap_alloc_new W _
  · rw [heap_alloc_old _ _ (by simp)]
    exact (congrArg (fun i => ((W.alloc (.cells #[x] T)).alloc (.cells #[y] T)).heap[i]?) (by simp)).trans (heap_alloc_new (W.alloc (.cells #[x] T)) _)
  · exact (congrArg (fun i => (((W.alloc (.cells #[x] T)).alloc (.cells #[y] T)).alloc (.cells #[z] T)).heap[i]?) (by simp)).trans (heap_alloc_new ((W.alloc (.cells #[x] T)).alloc (.cells #[y] T)) _)
  · have hb : Below W.heap.size W (((W.alloc (.cells #[x] T)).alloc (.cells #[y] T)).alloc (.cells #[z] T)) := ((below_alloc _ _).alloc (by simp) _).alloc (by simp; omega) _
    exact ⟨ho, ht, hp, by rw [hh]; exact hb.size, fun n hn => by rw [hh]; exact hb.block n hn⟩

def RulePost (t : MThy) (e : MEq) (back : Bool) (w : World) (x : Ending) (w' : World) : Prop :=
  ∃ L F O fn, x = .returned (.agg #[L, F, O, fn]) ∧ RInts w' L e.vars ∧ RInts w' F (sideFrom e back) ∧ RInts w' O (sideTo e back) ∧ RFn w' fn t.over e.vars (sideFrom e back) (sideTo e back) ∧ (∃ c, fn = .func (Fn.func 112) #[] c) ∧ Below w.heap.size w w'

set_option maxHeartbeats 800000 in
set_option maxRecDepth 100000 in
theorem ruleOf_true (t : MThy) (k : Nat) (hk : k < t.eqs.length) (w : World) (v : Value) (h : RThy w v t) :
    Calls Try.prog 101 #[v, .int .i64 (k : Int), .bool true] w (RulePost t t.eqs[k] true w) := by
  obtain ⟨Ata, cta, Atb, ctb, rfl⟩ := h.form
  have hb : Below w.heap.size w (w.alloc (.cells #[.int .i64 t.over.sorts, .slice Ata t.over.ops.length cta, .slice Atb t.eqs.length ctb] 47)) := below_alloc _ _
  have HB := Lib.hid hb
  have hsz : (w.alloc (.cells #[.int .i64 t.over.sorts, .slice Ata t.over.ops.length cta, .slice Atb t.eqs.length ctb] 47)).heap.size = w.heap.size + 1 := by simp
  have Ht := Lib.hid (h.keep hb)
  have t0 := bx_at (w) #[.int .i64 t.over.sorts, .slice Ata t.over.ops.length cta, .slice Atb t.eqs.length ctb] 47 (k := 0) rfl
  have t1 := bx_at (w) #[.int .i64 t.over.sorts, .slice Ata t.over.ops.length cta, .slice Atb t.eqs.length ctb] 47 (k := 1) rfl
  have t2 := bx_at (w) #[.int .i64 t.over.sorts, .slice Ata t.over.ops.length cta, .slice Atb t.eqs.length ctb] 47 (k := 2) rfl
  generalize hW : w.alloc (.cells #[.int .i64 t.over.sorts, .slice Ata t.over.ops.length cta, .slice Atb t.eqs.length ctb] 47) = W at HB hsz Ht t0 t1 t2
  clear hb h
  obtain ⟨-, r1, r2⟩ := Ht.out.of
  obtain ⟨b, o, c3, x0, x1, x2, e, c00, c01, c02, q0, q1, q2⟩ := r2.at_ hk
  cases e
  have hmf : ∀ (fn : Fn) (first cap : Array Value) (w : World), (Instr.makeFunc fn first cap).run Try.prog w = .ok (.func fn first cap) w := fun _ _ _ _ => rfl
  generalize t.eqs[k] = e at q0 q1 q2
  have HR1 := Lib.hid r1
  have HX := Lib.hid (And.intro q0 (And.intro q1 q2))
  have hk' : (k : Int) < (t.eqs.length : Int) := by omega
  have hk0 : (0 : Int) ≤ (k : Int) := by omega
  obtain ⟨A0, g0, rfl, -⟩ := q0.form
  obtain ⟨A1, g1, rfl, -⟩ := q1.form
  obtain ⟨A2, g2, rfl, -⟩ := q2.form
  clear q0 q1 q2 r1 r2
  have hba := below_alloc W (.cells #[.slice none 0 0, .slice none 0 0, .slice none 0 0, .nilFunc] 128)
  have n0 := cell_keep hba t0
  have n1 := cell_keep hba t1
  have n2 := cell_keep hba t2
  have n3 := cell_keep hba c00
  have n4 := cell_keep hba c01
  have n5 := cell_keep hba c02
  have HBA := Lib.hid (fit_keep HB.out hba)
  have HKA := Lib.hid hba
  have zr := heap_alloc_new W (.cells #[.slice none 0 0, .slice none 0 0, .slice none 0 0, .nilFunc] 128)
  have hsz2 : (W.alloc (.cells #[.slice none 0 0, .slice none 0 0, .slice none 0 0, .nilFunc] 128)).heap.size = w.heap.size + 2 := by rw [World.size_alloc, hsz]
  rw [hsz] at zr
  generalize hW2 : W.alloc (.cells #[.slice none 0 0, .slice none 0 0, .slice none 0 0, .nilFunc] 128) = W2 at n0 n1 n2 n3 n4 n5 zr HBA HKA hsz2
  have ZR := Lib.hid zr
  have HN := Lib.hid (And.intro n0 n1)
  clear t0 t1 t2 c00 c01 c02 hba zr n0 n1
  have ea := World.new_ne W2 _ n2
  have eb := World.new_ne W2 _ n3
  go_enter Try.func101, Try.ntmps101
  go_wp2_with fail
  clear hW hW2
  go_cut [7, 8, 9] (fun s7 s8 s9 wx => ∃ bl bf bo : Nat, s7 = .pointer (some ⟨bl, 0, none⟩) ∧ s8 = .pointer (some ⟨bf, 0, none⟩) ∧ s9 = .pointer (some ⟨bo, 0, none⟩) ∧ wx.heap[bl]? = some (.cells #[.slice A0 e.vars.length g0] 36 (0, 0)) ∧ wx.heap[bf]? = some (.cells #[.slice A1 e.left.length g1] 36 (0, 0)) ∧ wx.heap[bo]? = some (.cells #[.slice A2 e.right.length g2] 36 (0, 0)) ∧ bl ≠ bf ∧ bl ≠ bo ∧ bf ≠ bo ∧ W2.heap.size ≤ bl ∧ W2.heap.size ≤ bf ∧ W2.heap.size ≤ bo ∧ Below W2.heap.size W2 wx)
  case first =>
   go_region_held3 (fun w' => w'.cell? ⟨w.heap.size, 2, none⟩ = some (.slice (some ⟨b, o, none⟩) t.eqs.length ctb) ∧ w'.cell? ⟨b, o + k * 3, none⟩ = some (.slice A0 e.vars.length g0) ∧ w'.cell? ⟨b, o + k * 3 + 1, none⟩ = some (.slice A1 e.left.length g1) ∧ w'.cell? ⟨b, o + k * 3 + 2, none⟩ = some (.slice A2 e.right.length g2)) (first | (refine keep4 ?_ n2 n3 n4 n5; repeat (first | exact Below.refl _ _ | apply bw_drew | apply bw_alloc | (apply bw_set; rotate_left; omega)))) (first | fail)
   all_goals
    go_wp2_with fail
    go_meet
    case rel =>
      obtain ⟨p0, p1, p2, hbx⟩ := three_new (W := W2) (wx := (((W2.alloc _).alloc _).alloc _).drew) rfl rfl rfl rfl
      rw [hsz2] at p0 p1 p2
      refine ⟨_, _, _, rfl, rfl, rfl, ?_, ?_, ?_, by omega, by omega, by omega, by omega, by omega, by omega, hbx⟩ <;> first | exact p0 | exact p1 | exact p2
  case rest =>
  obtain ⟨bl, bf, bo, rfl, rfl, rfl, w1, w2, w3, d1, d2, d3, l1, l2, l3, hbx⟩ := hcut
  clear n2 n3 n4 n5 ea eb
  have rb := (hbx.block _ (by omega)).trans ZR.out
  have s1 := blk_set w2 0 (.slice A2 e.right.length g2)
  have s2 : (wc.setCell ⟨bf, 0, none⟩ (.slice A2 e.right.length g2)).heap[bo]? = some (.cells #[.slice A2 e.right.length g2] 36 (0, 0)) := (Below.heap_setCell wc ⟨bf, 0, none⟩ _ bo (by show bo ≠ bf; exact fun h => d3 h.symm)).trans w3
  have s3 := blk_set s2 0 (.slice A1 e.left.length g1)
  have f1 : ((wc.setCell ⟨bf, 0, none⟩ (.slice A2 e.right.length g2)).setCell ⟨bo, 0, none⟩ (.slice A1 e.left.length g1)).heap[bl]? = some (.cells #[.slice A0 e.vars.length g0] 36 (0, 0)) := by
    rw [Below.heap_setCell _ ⟨bo, 0, none⟩ _ bl d2, Below.heap_setCell _ ⟨bf, 0, none⟩ _ bl d1]; exact w1
  have f2 : ((wc.setCell ⟨bf, 0, none⟩ (.slice A2 e.right.length g2)).setCell ⟨bo, 0, none⟩ (.slice A1 e.left.length g1)).heap[bf]? = some (.cells #[.slice A2 e.right.length g2] 36 (0, 0)) := by
    rw [Below.heap_setCell _ ⟨bo, 0, none⟩ _ bf d3]; exact s1
  have f3 : ((wc.setCell ⟨bf, 0, none⟩ (.slice A2 e.right.length g2)).setCell ⟨bo, 0, none⟩ (.slice A1 e.left.length g1)).heap[bo]? = some (.cells #[.slice A1 e.left.length g1] 36 (0, 0)) := s3
  have rb4 : ((wc.setCell ⟨bf, 0, none⟩ (.slice A2 e.right.length g2)).setCell ⟨bo, 0, none⟩ (.slice A1 e.left.length g1)).heap[w.heap.size + 1]? = some (.cells #[.slice none 0 0, .slice none 0 0, .slice none 0 0, .nilFunc] 128 (0, 0)) := by
    rw [Below.heap_setCell _ ⟨bo, 0, none⟩ _ _ (by show w.heap.size + 1 ≠ bo; omega), Below.heap_setCell _ ⟨bf, 0, none⟩ _ _ (by show w.heap.size + 1 ≠ bf; omega)]; exact rb
  have hb4 := (hbx.setCell (p := ⟨bf, 0, none⟩) l2 (.slice A2 e.right.length g2)).setCell (p := ⟨bo, 0, none⟩) l3 (.slice A1 e.left.length g1)
  have u2 : wc.cell? ⟨bf, 0, none⟩ = some (.slice A1 e.left.length g1) := blk_cell w2 0
  have u3 : wc.cell? ⟨bo, 0, none⟩ = some (.slice A2 e.right.length g2) := blk_cell w3 0
  have u4 := blk_free w2 0
  have u5 := blk_cell s2 0
  have u6 := blk_free s2 0
  simp at u5
  generalize hW4e : (wc.setCell ⟨bf, 0, none⟩ (.slice A2 e.right.length g2)).setCell ⟨bo, 0, none⟩ (.slice A1 e.left.length g1) = W4 at f1 f2 f3 rb4 hb4
  have HF := Lib.hid (And.intro f1 (And.intro f2 (And.intro f3 (And.intro rb4 (And.intro hb4 (And.intro l1 (And.intro l2 l3)))))))
  have v1 : W4.cell? ⟨bl, 0, none⟩ = some (.slice A0 e.vars.length g0) := blk_cell f1 0
  have v2 : W4.cell? ⟨bf, 0, none⟩ = some (.slice A2 e.right.length g2) := blk_cell f2 0
  have v3 : W4.cell? ⟨bo, 0, none⟩ = some (.slice A1 e.left.length g1) := blk_cell f3 0
  have x0 : W4.cell? ⟨w.heap.size + 1, 0, none⟩ = some (.slice none 0 0) := blk_cell rb4 0
  have x1 : W4.cell? ⟨w.heap.size + 1, 1, none⟩ = some (.slice none 0 0) := blk_cell rb4 1
  have x2 : W4.cell? ⟨w.heap.size + 1, 2, none⟩ = some (.slice none 0 0) := blk_cell rb4 2
  have x3 : W4.cell? ⟨w.heap.size + 1, 3, none⟩ = some .nilFunc := blk_cell rb4 3
  have y0 := blk_free rb4 0
  have y1 := blk_free rb4 1
  have y2 := blk_free rb4 2
  have y3 := blk_free rb4 3
  clear f1 f2 f3 rb4 hb4 w1 w2 w3 d1 d2 d3 l1 l2 l3 hbx rb s1 s2 s3
  go_wp2
  obtain ⟨f1, f2, f3, rb4, hb4, l1, l2, l3⟩ := HF.out
  obtain ⟨fn, hfn⟩ : ∃ fn, fn = Value.func (Fn.func 112) #[] #[.pointer (some ⟨w.heap.size, 0, none⟩), .pointer (some ⟨bl, 0, none⟩), .pointer (some ⟨bf, 0, none⟩), .pointer (some ⟨bo, 0, none⟩)] := ⟨_, rfl⟩
  rw [← hfn]
  have r1 := blk_set (blk_set (blk_set (blk_set rb4 0 (.slice A0 e.vars.length g0)) 1 (.slice A2 e.right.length g2)) 2 (.slice A1 e.left.length g1)) 3 fn
  have oth : ∀ b' : Nat, b' ≠ w.heap.size + 1 → ((((W4.setCell ⟨w.heap.size + 1, 0, none⟩ (.slice A0 e.vars.length g0)).setCell ⟨w.heap.size + 1, 1, none⟩ (.slice A2 e.right.length g2)).setCell ⟨w.heap.size + 1, 2, none⟩ (.slice A1 e.left.length g1)).setCell ⟨w.heap.size + 1, 3, none⟩ fn).heap[b']? = W4.heap[b']? := fun b' hb' => by
    rw [Below.heap_setCell _ ⟨w.heap.size + 1, 3, none⟩ _ b' hb', Below.heap_setCell _ ⟨w.heap.size + 1, 2, none⟩ _ b' hb', Below.heap_setCell _ ⟨w.heap.size + 1, 1, none⟩ _ b' hb', Below.heap_setCell _ ⟨w.heap.size + 1, 0, none⟩ _ b' hb']
  have hW4 : Below W.heap.size W W4 := HKA.out.trans (hb4.mono HKA.out.size)
  have hW5 := (((hW4.setCell (p := ⟨w.heap.size + 1, 0, none⟩) (by show W.heap.size ≤ w.heap.size + 1; omega) (.slice A0 e.vars.length g0)).setCell (p := ⟨w.heap.size + 1, 1, none⟩) (by show W.heap.size ≤ w.heap.size + 1; omega) (.slice A2 e.right.length g2)).setCell (p := ⟨w.heap.size + 1, 2, none⟩) (by show W.heap.size ≤ w.heap.size + 1; omega) (.slice A1 e.left.length g1)).setCell (p := ⟨w.heap.size + 1, 3, none⟩) (by show W.heap.size ≤ w.heap.size + 1; omega) fn
  generalize (((W4.setCell ⟨w.heap.size + 1, 0, none⟩ (.slice A0 e.vars.length g0)).setCell ⟨w.heap.size + 1, 1, none⟩ (.slice A2 e.right.length g2)).setCell ⟨w.heap.size + 1, 2, none⟩ (.slice A1 e.left.length g1)).setCell ⟨w.heap.size + 1, 3, none⟩ fn = W5 at r1 oth hW5 ⊢
  have k0 : W5.cell? ⟨w.heap.size + 1, 0, none⟩ = some (.slice A0 e.vars.length g0) := blk_cell r1 0
  have k1 : W5.cell? ⟨w.heap.size + 1, 1, none⟩ = some (.slice A2 e.right.length g2) := blk_cell r1 1
  have k2 : W5.cell? ⟨w.heap.size + 1, 2, none⟩ = some (.slice A1 e.left.length g1) := blk_cell r1 2
  have k3 : W5.cell? ⟨w.heap.size + 1, 3, none⟩ = some fn := blk_cell r1 3
  clear v1 v2 v3 x0 x1 x2 x3 y0 y1 y2 y3
  refine bodyPost_ret (v := .agg #[.slice A0 e.vars.length g0, .slice A2 e.right.length g2, .slice A1 e.left.length g1, fn]) (by simp [results, Try.results101, go_sem, k0, k1, k2, k3]) rfl ?_
  obtain ⟨q0, q1, q2⟩ := HX.out
  have c1 : W5.cell? ⟨w.heap.size, 0, none⟩ = some (.int .i64 t.over.sorts) := (World.cell?_of_block (oth w.heap.size (by omega))).trans (cell_keep hb4 HN.out.1)
  have c2 : W5.cell? ⟨w.heap.size, 1, none⟩ = some (.slice Ata t.over.ops.length cta) := (World.cell?_of_block (oth w.heap.size (by omega))).trans (cell_keep hb4 HN.out.2)
  have c3 := (blk_cell ((oth bl (by omega)).trans f1) 0)
  have c4 := (blk_cell ((oth bf (by omega)).trans f2) 0)
  have c5 := (blk_cell ((oth bo (by omega)).trans f3) 0)
  refine ⟨_, _, _, _, rfl, q0.keep hW5, q2.keep hW5, q1.keep hW5, ⟨w.heap.size, bl, bf, bo, _, _, _, _, hfn, c1, c2, HR1.out.keep hW5, c3, q0.keep hW5, c4, q2.keep hW5, c5, q1.keep hW5⟩, ⟨_, hfn⟩, HB.out.trans (hW5.mono HB.out.size)⟩

set_option maxHeartbeats 800000 in
set_option maxRecDepth 100000 in
theorem ruleOf_false (t : MThy) (k : Nat) (hk : k < t.eqs.length) (w : World) (v : Value) (h : RThy w v t) :
    Calls Try.prog 101 #[v, .int .i64 (k : Int), .bool false] w (RulePost t t.eqs[k] false w) := by
  obtain ⟨Ata, cta, Atb, ctb, rfl⟩ := h.form
  have hb : Below w.heap.size w (w.alloc (.cells #[.int .i64 t.over.sorts, .slice Ata t.over.ops.length cta, .slice Atb t.eqs.length ctb] 47)) := below_alloc _ _
  have HB := Lib.hid hb
  have hsz : (w.alloc (.cells #[.int .i64 t.over.sorts, .slice Ata t.over.ops.length cta, .slice Atb t.eqs.length ctb] 47)).heap.size = w.heap.size + 1 := by simp
  have Ht := Lib.hid (h.keep hb)
  have t0 := bx_at (w) #[.int .i64 t.over.sorts, .slice Ata t.over.ops.length cta, .slice Atb t.eqs.length ctb] 47 (k := 0) rfl
  have t1 := bx_at (w) #[.int .i64 t.over.sorts, .slice Ata t.over.ops.length cta, .slice Atb t.eqs.length ctb] 47 (k := 1) rfl
  have t2 := bx_at (w) #[.int .i64 t.over.sorts, .slice Ata t.over.ops.length cta, .slice Atb t.eqs.length ctb] 47 (k := 2) rfl
  generalize hW : w.alloc (.cells #[.int .i64 t.over.sorts, .slice Ata t.over.ops.length cta, .slice Atb t.eqs.length ctb] 47) = W at HB hsz Ht t0 t1 t2
  clear hb h
  obtain ⟨-, r1, r2⟩ := Ht.out.of
  obtain ⟨b, o, c3, x0, x1, x2, e, c00, c01, c02, q0, q1, q2⟩ := r2.at_ hk
  cases e
  have hmf : ∀ (fn : Fn) (first cap : Array Value) (w : World), (Instr.makeFunc fn first cap).run Try.prog w = .ok (.func fn first cap) w := fun _ _ _ _ => rfl
  generalize t.eqs[k] = e at q0 q1 q2
  have HR1 := Lib.hid r1
  have HX := Lib.hid (And.intro q0 (And.intro q1 q2))
  have hk' : (k : Int) < (t.eqs.length : Int) := by omega
  have hk0 : (0 : Int) ≤ (k : Int) := by omega
  obtain ⟨A0, g0, rfl, -⟩ := q0.form
  obtain ⟨A1, g1, rfl, -⟩ := q1.form
  obtain ⟨A2, g2, rfl, -⟩ := q2.form
  clear q0 q1 q2 r1 r2
  have hba := below_alloc W (.cells #[.slice none 0 0, .slice none 0 0, .slice none 0 0, .nilFunc] 128)
  have n0 := cell_keep hba t0
  have n1 := cell_keep hba t1
  have n2 := cell_keep hba t2
  have n3 := cell_keep hba c00
  have n4 := cell_keep hba c01
  have n5 := cell_keep hba c02
  have HBA := Lib.hid (fit_keep HB.out hba)
  have HKA := Lib.hid hba
  have zr := heap_alloc_new W (.cells #[.slice none 0 0, .slice none 0 0, .slice none 0 0, .nilFunc] 128)
  have hsz2 : (W.alloc (.cells #[.slice none 0 0, .slice none 0 0, .slice none 0 0, .nilFunc] 128)).heap.size = w.heap.size + 2 := by rw [World.size_alloc, hsz]
  rw [hsz] at zr
  generalize hW2 : W.alloc (.cells #[.slice none 0 0, .slice none 0 0, .slice none 0 0, .nilFunc] 128) = W2 at n0 n1 n2 n3 n4 n5 zr HBA HKA hsz2
  have ZR := Lib.hid zr
  have HN := Lib.hid (And.intro n0 n1)
  clear t0 t1 t2 c00 c01 c02 hba zr n0 n1
  have ea := World.new_ne W2 _ n2
  have eb := World.new_ne W2 _ n3
  go_enter Try.func101, Try.ntmps101
  go_wp2_with fail
  clear hW hW2
  go_cut [7, 8, 9] (fun s7 s8 s9 wx => ∃ bl bf bo : Nat, s7 = .pointer (some ⟨bl, 0, none⟩) ∧ s8 = .pointer (some ⟨bf, 0, none⟩) ∧ s9 = .pointer (some ⟨bo, 0, none⟩) ∧ wx.heap[bl]? = some (.cells #[.slice A0 e.vars.length g0] 36 (0, 0)) ∧ wx.heap[bf]? = some (.cells #[.slice A1 e.left.length g1] 36 (0, 0)) ∧ wx.heap[bo]? = some (.cells #[.slice A2 e.right.length g2] 36 (0, 0)) ∧ bl ≠ bf ∧ bl ≠ bo ∧ bf ≠ bo ∧ W2.heap.size ≤ bl ∧ W2.heap.size ≤ bf ∧ W2.heap.size ≤ bo ∧ Below W2.heap.size W2 wx)
  case first =>
   go_region_held3 (fun w' => w'.cell? ⟨w.heap.size, 2, none⟩ = some (.slice (some ⟨b, o, none⟩) t.eqs.length ctb) ∧ w'.cell? ⟨b, o + k * 3, none⟩ = some (.slice A0 e.vars.length g0) ∧ w'.cell? ⟨b, o + k * 3 + 1, none⟩ = some (.slice A1 e.left.length g1) ∧ w'.cell? ⟨b, o + k * 3 + 2, none⟩ = some (.slice A2 e.right.length g2)) (first | (refine keep4 ?_ n2 n3 n4 n5; repeat (first | exact Below.refl _ _ | apply bw_drew | apply bw_alloc | (apply bw_set; rotate_left; omega)))) (first | fail)
   all_goals
    go_wp2_with fail
    go_meet
    case rel =>
      obtain ⟨p0, p1, p2, hbx⟩ := three_new (W := W2) (wx := (((W2.alloc _).alloc _).alloc _).drew) rfl rfl rfl rfl
      rw [hsz2] at p0 p1 p2
      refine ⟨_, _, _, rfl, rfl, rfl, ?_, ?_, ?_, by omega, by omega, by omega, by omega, by omega, by omega, hbx⟩ <;> first | exact p0 | exact p1 | exact p2
  case rest =>
  obtain ⟨bl, bf, bo, rfl, rfl, rfl, w1, w2, w3, d1, d2, d3, l1, l2, l3, hbx⟩ := hcut
  clear n2 n3 n4 n5 ea eb
  have rb := (hbx.block _ (by omega)).trans ZR.out
  have f1 := w1
  have f2 := w2
  have f3 := w3
  have rb4 := rb
  have hb4 := hbx
  obtain ⟨W4, rfl⟩ : ∃ W4, W4 = wc := ⟨_, rfl⟩
  have HF := Lib.hid (And.intro f1 (And.intro f2 (And.intro f3 (And.intro rb4 (And.intro hb4 (And.intro l1 (And.intro l2 l3)))))))
  have v1 : W4.cell? ⟨bl, 0, none⟩ = some (.slice A0 e.vars.length g0) := blk_cell f1 0
  have v2 : W4.cell? ⟨bf, 0, none⟩ = some (.slice A1 e.left.length g1) := blk_cell f2 0
  have v3 : W4.cell? ⟨bo, 0, none⟩ = some (.slice A2 e.right.length g2) := blk_cell f3 0
  have x0 : W4.cell? ⟨w.heap.size + 1, 0, none⟩ = some (.slice none 0 0) := blk_cell rb4 0
  have x1 : W4.cell? ⟨w.heap.size + 1, 1, none⟩ = some (.slice none 0 0) := blk_cell rb4 1
  have x2 : W4.cell? ⟨w.heap.size + 1, 2, none⟩ = some (.slice none 0 0) := blk_cell rb4 2
  have x3 : W4.cell? ⟨w.heap.size + 1, 3, none⟩ = some .nilFunc := blk_cell rb4 3
  have y0 := blk_free rb4 0
  have y1 := blk_free rb4 1
  have y2 := blk_free rb4 2
  have y3 := blk_free rb4 3
  clear f1 f2 f3 rb4 hb4 w1 w2 w3 d1 d2 d3 l1 l2 l3 hbx rb 
  go_wp2
  obtain ⟨f1, f2, f3, rb4, hb4, l1, l2, l3⟩ := HF.out
  obtain ⟨fn, hfn⟩ : ∃ fn, fn = Value.func (Fn.func 112) #[] #[.pointer (some ⟨w.heap.size, 0, none⟩), .pointer (some ⟨bl, 0, none⟩), .pointer (some ⟨bf, 0, none⟩), .pointer (some ⟨bo, 0, none⟩)] := ⟨_, rfl⟩
  rw [← hfn]
  have r1 := blk_set (blk_set (blk_set (blk_set rb4 0 (.slice A0 e.vars.length g0)) 1 (.slice A1 e.left.length g1)) 2 (.slice A2 e.right.length g2)) 3 fn
  have oth : ∀ b' : Nat, b' ≠ w.heap.size + 1 → ((((W4.setCell ⟨w.heap.size + 1, 0, none⟩ (.slice A0 e.vars.length g0)).setCell ⟨w.heap.size + 1, 1, none⟩ (.slice A1 e.left.length g1)).setCell ⟨w.heap.size + 1, 2, none⟩ (.slice A2 e.right.length g2)).setCell ⟨w.heap.size + 1, 3, none⟩ fn).heap[b']? = W4.heap[b']? := fun b' hb' => by
    rw [Below.heap_setCell _ ⟨w.heap.size + 1, 3, none⟩ _ b' hb', Below.heap_setCell _ ⟨w.heap.size + 1, 2, none⟩ _ b' hb', Below.heap_setCell _ ⟨w.heap.size + 1, 1, none⟩ _ b' hb', Below.heap_setCell _ ⟨w.heap.size + 1, 0, none⟩ _ b' hb']
  have hW4 : Below W.heap.size W W4 := HKA.out.trans (hb4.mono HKA.out.size)
  have hW5 := (((hW4.setCell (p := ⟨w.heap.size + 1, 0, none⟩) (by show W.heap.size ≤ w.heap.size + 1; omega) (.slice A0 e.vars.length g0)).setCell (p := ⟨w.heap.size + 1, 1, none⟩) (by show W.heap.size ≤ w.heap.size + 1; omega) (.slice A1 e.left.length g1)).setCell (p := ⟨w.heap.size + 1, 2, none⟩) (by show W.heap.size ≤ w.heap.size + 1; omega) (.slice A2 e.right.length g2)).setCell (p := ⟨w.heap.size + 1, 3, none⟩) (by show W.heap.size ≤ w.heap.size + 1; omega) fn
  generalize (((W4.setCell ⟨w.heap.size + 1, 0, none⟩ (.slice A0 e.vars.length g0)).setCell ⟨w.heap.size + 1, 1, none⟩ (.slice A1 e.left.length g1)).setCell ⟨w.heap.size + 1, 2, none⟩ (.slice A2 e.right.length g2)).setCell ⟨w.heap.size + 1, 3, none⟩ fn = W5 at r1 oth hW5 ⊢
  have k0 : W5.cell? ⟨w.heap.size + 1, 0, none⟩ = some (.slice A0 e.vars.length g0) := blk_cell r1 0
  have k1 : W5.cell? ⟨w.heap.size + 1, 1, none⟩ = some (.slice A1 e.left.length g1) := blk_cell r1 1
  have k2 : W5.cell? ⟨w.heap.size + 1, 2, none⟩ = some (.slice A2 e.right.length g2) := blk_cell r1 2
  have k3 : W5.cell? ⟨w.heap.size + 1, 3, none⟩ = some fn := blk_cell r1 3
  clear v1 v2 v3 x0 x1 x2 x3 y0 y1 y2 y3
  refine bodyPost_ret (v := .agg #[.slice A0 e.vars.length g0, .slice A1 e.left.length g1, .slice A2 e.right.length g2, fn]) (by simp [results, Try.results101, go_sem, k0, k1, k2, k3]) rfl ?_
  obtain ⟨q0, q1, q2⟩ := HX.out
  have c1 : W5.cell? ⟨w.heap.size, 0, none⟩ = some (.int .i64 t.over.sorts) := (World.cell?_of_block (oth w.heap.size (by omega))).trans (cell_keep hb4 HN.out.1)
  have c2 : W5.cell? ⟨w.heap.size, 1, none⟩ = some (.slice Ata t.over.ops.length cta) := (World.cell?_of_block (oth w.heap.size (by omega))).trans (cell_keep hb4 HN.out.2)
  have c3 := (blk_cell ((oth bl (by omega)).trans f1) 0)
  have c4 := (blk_cell ((oth bf (by omega)).trans f2) 0)
  have c5 := (blk_cell ((oth bo (by omega)).trans f3) 0)
  refine ⟨_, _, _, _, rfl, q0.keep hW5, q1.keep hW5, q2.keep hW5, ⟨w.heap.size, bl, bf, bo, _, _, _, _, hfn, c1, c2, HR1.out.keep hW5, c3, q0.keep hW5, c4, q1.keep hW5, c5, q2.keep hW5⟩, ⟨_, hfn⟩, HB.out.trans (hW5.mono HB.out.size)⟩

end Go.Proofs.Ytonainidjkcoeac
