/- The exact laws' measure, copy and comparison of an equation: szEq, toEq, eqEq. -/
import Derived.Test.YteccjnnhihbdhaaTo2
import Derived.Test.YteccjnnhihbdhaaEqM
namespace Go.Proofs.Yteccjnnhihbdhaa
open Go.RowKit
set_option linter.unusedVariables false

def Apart (a b : Value) : Prop := a.ownBlock = none ∨ a.ownBlock ≠ b.ownBlock
def OEq (w : World) (B : Nat) (v : Value) (e : MEq) : Prop := ∃ a b c, v = .agg #[a, b, c] ∧ OInts w B a e.vars ∧ OInts w B b e.left ∧ OInts w B c e.right ∧ Apart a b ∧ Apart a c ∧ Apart b c
theorem OEq.keep {w w' : World} {B : Nat} {v : Value} {e : MEq} (h : OEq w B v e) (hb : Below w.heap.size w w') : OEq w' B v e := by
  obtain ⟨a, b, c, rfl, h1, h2, h3, h4⟩ := h; exact ⟨a, b, c, rfl, h1.keep hb, h2.keep hb, h3.keep hb, h4⟩
theorem OEq.base {w : World} {B B' : Nat} {v : Value} {e : MEq} (h : OEq w B v e) (hB : B' ≤ B) : OEq w B' v e := by
  obtain ⟨a, b, c, rfl, h1, h2, h3, h4⟩ := h; exact ⟨a, b, c, rfl, h1.base hB, h2.base hB, h3.base hB, h4⟩
theorem OEq.reads {w : World} {B : Nat} {v : Value} {e : MEq} (h : OEq w B v e) : REq w v e := by
  obtain ⟨a, b, c, rfl, h1, h2, h3, h4⟩ := h; exact ⟨a, b, c, rfl, h1.reads, h2.reads, h3.reads⟩
/-- what was made later lies in another block -/
theorem apart_later {w w' : World} {B : Nat} {a b : Value} {xs ys : List Int} (h : OInts w B a xs) (k : OInts w' w.heap.size b ys) : Apart a b := by
  unfold Apart
  cases ha : a.ownBlock with
  | none => exact .inl rfl
  | some x =>
    right
    intro e
    have p := (own_lt h x ha).2
    have q := (own_lt k x e.symm).1
    omega
theorem sz_keep {w w1 w2 : World} (h : Below w.heap.size w w1) (k : Below w1.heap.size w1 w2) : Below w.heap.size w w2 := h.trans (k.mono h.size)

theorem szEq_any (v : Value) (e : MEq) (left : Int) (w : World) (h : REq w v e) (h0 : 0 ≤ left) (h1 : left ≤ 1048576) :
    Calls Try.prog 23 #[v, .int .i64 left] w fun e' w' => ∃ r : Int, e' = .returned (.int .i64 r) ∧ (r < 0 ∨ (0 ≤ r ∧ r ≤ left ∧ FitsE e)) ∧ Below w.heap.size w w' := by
  obtain ⟨a, b, c, rfl, k0, k1, k2⟩ := h
  obtain ⟨xs, ys, zs⟩ := e
  simp only at k0 k1 k2
  have hb := below_alloc w (.cells #[a, b, c] 45)
  have HB := Lib.hid hb
  have K0 := Lib.hid (k0.keep hb)
  have K1 := Lib.hid (k1.keep hb)
  have K2 := Lib.hid (k2.keep hb)
  obtain ⟨A0, c0, rfl, -⟩ := k0.form
  obtain ⟨A1, c1, rfl, -⟩ := k1.form
  obtain ⟨A2, c2, rfl, -⟩ := k2.form
  clear k0 k1 k2 hb
  go_enter Try.func23, Try.ntmps23
  go_wp2_with fail
  refine (szIntS_any _ xs _ _ K0.out h0 h1).mono ?_
  rintro e w1 ⟨r, rfl, hr, rfl⟩
  by_cases hneg : r < 0
  · clear hr
    go_wp2
    go_ret
    exact ⟨-1, rfl, .inl (by omega), HB.out⟩
  have hr1 := hr.resolve_left hneg
  clear hr
  obtain ⟨hr2, hr3⟩ := hr1
  have HR := Lib.hid hr3
  have hr4 : r ≤ 1048576 := by omega
  clear hr3
  go_wp2_with fail
  refine (szIntS_any _ ys _ _ K1.out hr2 hr4).mono ?_
  rintro e w1 ⟨q, rfl, hr, rfl⟩
  by_cases hneg2 : q < 0
  · clear hr
    go_wp2
    go_ret
    exact ⟨-1, rfl, .inl (by omega), HB.out⟩
  have hr5 := hr.resolve_left hneg2
  clear hr
  obtain ⟨hr6, hr7⟩ := hr5
  have HQ := Lib.hid hr7
  have hr8 : q ≤ 1048576 := by omega
  clear hr7
  go_wp2_with fail
  refine (szIntS_any _ zs _ _ K2.out hr6 hr8).mono ?_
  rintro e w1 ⟨p, rfl, hr, rfl⟩
  by_cases hneg3 : p < 0
  · clear hr
    go_wp2
    go_ret
    exact ⟨-1, rfl, .inl (by omega), HB.out⟩
  have hr9 := hr.resolve_left hneg3
  clear hr
  obtain ⟨hr10, hr11⟩ := hr9
  have HP := Lib.hid hr11
  clear hr11
  go_wp2
  go_ret
  have a1 := HR.out
  have a2 := HQ.out
  have a3 := HP.out
  refine ⟨p, rfl, .inr ⟨hr10, by omega, ⟨?_, ?_, ?_⟩⟩, HB.out⟩ <;> simp only <;> omega

/-- a copy under way: the argument's box (a), the result's (r), and 'out' (cur), the first three new blocks -/
structure Mk (w wr : World) (Ta T : TypeId) (a r cur : Array Value) : Prop where
  ba : wr.heap[w.heap.size]? = some (.cells a Ta (0, 0))
  br : wr.heap[w.heap.size + 1]? = some (.cells r T (0, 0))
  bo : wr.heap[w.heap.size + 2]? = some (.cells cur T (0, 0))
  b : Below w.heap.size w wr
  z : w.heap.size + 3 ≤ wr.heap.size
theorem Mk.start (w : World) (Ta T : TypeId) (a r cur : Array Value) : Mk w (((w.alloc (.cells a Ta)).alloc (.cells r T)).alloc (.cells cur T)) Ta T a r cur := by
  refine ⟨?_, ?_, ?_, ((below_alloc _ _).alloc (by simp) _).alloc (by simp; omega) _, by simp⟩
  · rw [heap_alloc_old _ _ (by simp; omega), heap_alloc_old _ _ (by simp)]
    exact heap_alloc_new w _
  · rw [heap_alloc_old _ _ (by simp)]
    exact (congrArg (fun i => ((w.alloc (.cells a Ta)).alloc (.cells r T)).heap[i]?) (by simp)).trans (heap_alloc_new (w.alloc (.cells a Ta)) _)
  · exact (congrArg (fun i => (((w.alloc (.cells a Ta)).alloc (.cells r T)).alloc (.cells cur T)).heap[i]?) (by simp)).trans (heap_alloc_new ((w.alloc (.cells a Ta)).alloc (.cells r T)) _)
section
variable {w wr w2 : World} {Ta T : TypeId} {a r cur : Array Value}
theorem Mk.below (h : Mk w wr Ta T a r cur) (hb : Below wr.heap.size wr w2) : Mk w w2 Ta T a r cur :=
  ⟨(hb.block _ (by have := h.z; omega)).trans h.ba, (hb.block _ (by have := h.z; omega)).trans h.br, (hb.block _ (by have := h.z; omega)).trans h.bo, h.b.trans (hb.mono (by have := h.z; omega)), Nat.le_trans h.z hb.size⟩
theorem Mk.setO (h : Mk w wr Ta T a r cur) (i : Nat) (u : Value) : Mk w (wr.setCell ⟨w.heap.size + 2, i, none⟩ u) Ta T a r (cur.setIfInBounds i u) :=
  ⟨(Below.heap_setCell wr ⟨w.heap.size + 2, i, none⟩ u w.heap.size (by show w.heap.size ≠ w.heap.size + 2; omega)).trans h.ba, (Below.heap_setCell wr ⟨w.heap.size + 2, i, none⟩ u (w.heap.size + 1) (by show w.heap.size + 1 ≠ w.heap.size + 2; omega)).trans h.br, blk_set h.bo i u,
    h.b.setCell (p := ⟨w.heap.size + 2, i, none⟩) (by show w.heap.size ≤ w.heap.size + 2; omega) u, by have := h.z; simpa [World.setCell] using this⟩
theorem Mk.setR (h : Mk w wr Ta T a r cur) (i : Nat) (u : Value) : Mk w (wr.setCell ⟨w.heap.size + 1, i, none⟩ u) Ta T a (r.setIfInBounds i u) cur :=
  ⟨(Below.heap_setCell wr ⟨w.heap.size + 1, i, none⟩ u w.heap.size (by show w.heap.size ≠ w.heap.size + 1; omega)).trans h.ba, blk_set h.br i u, (Below.heap_setCell wr ⟨w.heap.size + 1, i, none⟩ u (w.heap.size + 2) (by show w.heap.size + 2 ≠ w.heap.size + 1; omega)).trans h.bo,
    h.b.setCell (p := ⟨w.heap.size + 1, i, none⟩) (by show w.heap.size ≤ w.heap.size + 1; omega) u, by have := h.z; simpa [World.setCell] using this⟩
theorem Mk.ca (h : Mk w wr Ta T a r cur) (i : Nat) : wr.cell? ⟨w.heap.size, i, none⟩ = a[i]? := blk_cell h.ba i
theorem Mk.co (h : Mk w wr Ta T a r cur) (i : Nat) : wr.cell? ⟨w.heap.size + 2, i, none⟩ = cur[i]? := blk_cell h.bo i
theorem Mk.fo (h : Mk w wr Ta T a r cur) (i : Nat) : wr.frozen? ⟨w.heap.size + 2, i, none⟩ = false := blk_free h.bo i
theorem Mk.cr (h : Mk w wr Ta T a r cur) (i : Nat) : wr.cell? ⟨w.heap.size + 1, i, none⟩ = r[i]? := blk_cell h.br i
theorem Mk.fr (h : Mk w wr Ta T a r cur) (i : Nat) : wr.frozen? ⟨w.heap.size + 1, i, none⟩ = false := blk_free h.br i
theorem OInts.setLow {B b : Nat} {v : Value} {xs : List Int} (h : OInts wr B v xs) (hb : b < B) (i : Nat) (x : Value) : OInts (wr.setCell ⟨b, i, none⟩ x) B v xs := ownsRow_setCell_below h hb _
end

set_option maxRecDepth 100000 in
theorem toEq_any (v : Value) (e : MEq) (w : World) (h : REq w v e) (hs : FitsE e) :
    Calls Try.prog 25 #[v] w fun e' w' => ∃ u, e' = .returned u ∧ OEq w' w.heap.size u e ∧ Below w.heap.size w w' := by
  obtain ⟨x0, x1, x2, rfl, h0, h1, h2⟩ := h
  obtain ⟨xs, ys, zs⟩ := e
  obtain ⟨hs0, hs1, hs2⟩ := hs
  simp only at h0 h1 h2 hs0 hs1 hs2
  obtain ⟨A0, c0, rfl, -⟩ := h0.form
  obtain ⟨A1, c1, rfl, -⟩ := h1.form
  obtain ⟨A2, c2, rfl, -⟩ := h2.form
  have hm := Mk.start w 45 49 #[.slice A0 xs.length c0, .slice A1 ys.length c1, .slice A2 zs.length c2] #[.slice none 0 0, .slice none 0 0, .slice none 0 0] #[.slice none 0 0, .slice none 0 0, .slice none 0 0]
  generalize hW : ((w.alloc (.cells #[.slice A0 xs.length c0, .slice A1 ys.length c1, .slice A2 zs.length c2] 45)).alloc (.cells #[.slice none 0 0, .slice none 0 0, .slice none 0 0] 49)).alloc (.cells #[.slice none 0 0, .slice none 0 0, .slice none 0 0] 49) = W at hm
  have H0 := Lib.hid (h0.keep hm.b)
  have H1 := Lib.hid h1
  have H2 := Lib.hid h2
  have p0 : W.cell? ⟨w.heap.size, 0, none⟩ = some (.slice A0 xs.length c0) := hm.ca 0
  have HM := Lib.hid hm
  clear h0 h1 h2 hm
  go_enter Try.func25, Try.ntmps25
  go_wp2_with fail
  clear hW
  refine (toIntS_any _ xs _ H0.out hs0).mono ?_
  rintro e w4 ⟨u0, rfl, ho, hb⟩
  have hz := HM.out.z
  have hm := HM.out.below hb
  obtain ⟨B0, d0, rfl, -⟩ := ho.reads.form
  have q0 : w4.cell? ⟨w.heap.size + 2, 0, none⟩ = some (.slice none 0 0) := hm.co 0
  have q1 := hm.fo 0
  have hm5 := hm.setO 0 (.slice B0 xs.length d0)
  have ho5 := ho.setLow (b := w.heap.size + 2) (by omega) 0 (.slice B0 xs.length d0)
  generalize hW5 : w4.setCell ⟨w.heap.size + 2, 0, none⟩ (.slice B0 xs.length d0) = w5 at hm5 ho5
  have p1 : w5.cell? ⟨w.heap.size, 1, none⟩ = some (.slice A1 ys.length c1) := hm5.ca 1
  have HO5 := Lib.hid ho5
  have HM5 := Lib.hid hm5
  have H1 := Lib.hid (H1.out.keep hm5.b)
  clear ho hb hm p0 hm5 ho5 H0
  go_wp2_with fail
  clear hW5 q0 q1
  refine (toIntS_any _ ys _ H1.out hs1).mono ?_
  rintro e w6 ⟨u1, rfl, ho, hb⟩
  have hz5 := HM5.out.z
  have hm := HM5.out.below hb
  obtain ⟨B1, d1, rfl, -⟩ := ho.reads.form
  have q0 : w6.cell? ⟨w.heap.size + 2, 1, none⟩ = some (.slice none 0 0) := hm.co 1
  have q1 := hm.fo 1
  have ha1 := apart_later HO5.out ho
  have hm7 := hm.setO 1 (.slice B1 ys.length d1)
  have ho7 := ho.setLow (b := w.heap.size + 2) (by omega) 1 (.slice B1 ys.length d1)
  have hn7 := (HO5.out.keep hb).setLow (b := w.heap.size + 2) (by omega) 1 (.slice B1 ys.length d1)
  generalize hW7 : w6.setCell ⟨w.heap.size + 2, 1, none⟩ (.slice B1 ys.length d1) = w7 at hm7 ho7 hn7
  have p2 : w7.cell? ⟨w.heap.size, 2, none⟩ = some (.slice A2 zs.length c2) := hm7.ca 2
  have HO7 := Lib.hid ho7
  have HN7 := Lib.hid hn7
  have HA1 := Lib.hid ha1
  have HM7 := Lib.hid hm7
  have H2 := Lib.hid (H2.out.keep hm7.b)
  clear ho hb hm p1 hm7 ho7 hn7 ha1 H1 HO5
  go_wp2_with fail
  clear hW7 q0 q1
  refine (toIntS_any _ zs _ H2.out hs2).mono ?_
  rintro e w8 ⟨u2, rfl, ho, hb⟩
  have hz7 := HM7.out.z
  have hm := HM7.out.below hb
  obtain ⟨B2, d2, rfl, -⟩ := ho.reads.form
  have ha2 := apart_later HN7.out ho
  have ha3 := apart_later HO7.out ho
  have hm9 := (((hm.setO 2 (.slice B2 zs.length d2)).setR 0 (.slice B0 xs.length d0)).setR 1 (.slice B1 ys.length d1)).setR 2 (.slice B2 zs.length d2)
  have o0 := ((((HN7.out.keep hb).setLow (b := w.heap.size + 2) (by omega) 2 (.slice B2 zs.length d2)).setLow (b := w.heap.size + 1) (by omega) 0 (.slice B0 xs.length d0)).setLow (b := w.heap.size + 1) (by omega) 1 (.slice B1 ys.length d1)).setLow (b := w.heap.size + 1) (by omega) 2 (.slice B2 zs.length d2)
  have o1 := ((((HO7.out.keep hb).setLow (b := w.heap.size + 2) (by omega) 2 (.slice B2 zs.length d2)).setLow (b := w.heap.size + 1) (by omega) 0 (.slice B0 xs.length d0)).setLow (b := w.heap.size + 1) (by omega) 1 (.slice B1 ys.length d1)).setLow (b := w.heap.size + 1) (by omega) 2 (.slice B2 zs.length d2)
  have o2 := (((ho.setLow (b := w.heap.size + 2) (by omega) 2 (.slice B2 zs.length d2)).setLow (b := w.heap.size + 1) (by omega) 0 (.slice B0 xs.length d0)).setLow (b := w.heap.size + 1) (by omega) 1 (.slice B1 ys.length d1)).setLow (b := w.heap.size + 1) (by omega) 2 (.slice B2 zs.length d2)
  have HF := Lib.hid (And.intro o0 (And.intro o1 (And.intro o2 (And.intro HA1.out (And.intro ha2 ha3)))))
  have HM9 := Lib.hid hm9
  have q0 : w8.cell? ⟨w.heap.size + 2, 0, none⟩ = some (.slice B0 xs.length d0) := hm.co 0
  have q1 : w8.cell? ⟨w.heap.size + 2, 1, none⟩ = some (.slice B1 ys.length d1) := hm.co 1
  have q2 : w8.cell? ⟨w.heap.size + 2, 2, none⟩ = some (.slice none 0 0) := hm.co 2
  have q3 := hm.fo 2
  have q4 : w8.cell? ⟨w.heap.size + 1, 0, none⟩ = some (.slice none 0 0) := hm.cr 0
  have q5 : w8.cell? ⟨w.heap.size + 1, 1, none⟩ = some (.slice none 0 0) := hm.cr 1
  have q6 : w8.cell? ⟨w.heap.size + 1, 2, none⟩ = some (.slice none 0 0) := hm.cr 2
  have q7 := hm.fr 0
  have q8 := hm.fr 1
  have q9 := hm.fr 2
  clear ho hb hm hm9 o0 o1 o2 ha2 ha3 HO7 HN7 HA1 H2 p2
  go_wp2
  obtain ⟨o0, o1, o2, a1, a2, a3⟩ := HF.out
  have hm9 := HM9.out
  generalize (((w8.setCell ⟨w.heap.size + 2, 2, none⟩ (.slice B2 zs.length d2)).setCell ⟨w.heap.size + 1, 0, none⟩ (.slice B0 xs.length d0)).setCell ⟨w.heap.size + 1, 1, none⟩ (.slice B1 ys.length d1)).setCell ⟨w.heap.size + 1, 2, none⟩ (.slice B2 zs.length d2) = w9 at o0 o1 o2 hm9 ⊢
  have k0 : w9.cell? ⟨w.heap.size + 1, 0, none⟩ = some (.slice B0 xs.length d0) := hm9.cr 0
  have k1 : w9.cell? ⟨w.heap.size + 1, 1, none⟩ = some (.slice B1 ys.length d1) := hm9.cr 1
  have k2 : w9.cell? ⟨w.heap.size + 1, 2, none⟩ = some (.slice B2 zs.length d2) := hm9.cr 2
  clear q0 q1 q2 q3 q4 q5 q6 q7 q8 q9
  refine bodyPost_ret (v := .agg #[.slice B0 xs.length d0, .slice B1 ys.length d1, .slice B2 zs.length d2]) (by simp [results, Try.results25, go_sem, k0, k1, k2]) rfl ?_
  exact ⟨_, rfl, ⟨_, _, _, rfl, o0.base (by omega), o1.base (by omega), o2.base (by omega), a1, a2, a3⟩, hm9.b⟩

theorem eqEq_any (v v' : Value) (a b : MEq) (w : World) (h : REq w v a) (h' : REq w v' b) :
    Calls Try.prog 27 #[v, v'] w fun e w' => e = .returned (.bool (sameE a b)) ∧ Below w.heap.size w w' := by
  obtain ⟨x0, x1, x2, rfl, h0, h1, h2⟩ := h
  obtain ⟨y0, y1, y2, rfl, k0, k1, k2⟩ := h'
  have hb2 : Below w.heap.size w ((w.alloc (.cells #[x0, x1, x2] 49)).alloc (.cells #[y0, y1, y2] 49)) := (below_alloc _ _).alloc (by simp) _
  have HB := Lib.hid hb2
  have H0 := Lib.hid (h0.keep hb2)
  have H1 := Lib.hid (h1.keep hb2)
  have H2 := Lib.hid (h2.keep hb2)
  have K0 := Lib.hid (k0.keep hb2)
  have K1 := Lib.hid (k1.keep hb2)
  have K2 := Lib.hid (k2.keep hb2)
  obtain ⟨a0, a1, a2⟩ := a
  obtain ⟨b0, b1, b2⟩ := b
  simp only at h0 h1 h2 k0 k1 k2 H0 H1 H2 K0 K1 K2
  obtain ⟨A0, c0, rfl, -⟩ := h0.form
  obtain ⟨A1, c1, rfl, -⟩ := h1.form
  obtain ⟨A2, c2, rfl, -⟩ := h2.form
  obtain ⟨D0, d0, rfl, -⟩ := k0.form
  obtain ⟨D1, d1, rfl, -⟩ := k1.form
  obtain ⟨D2, d2, rfl, -⟩ := k2.form
  clear h0 h1 h2 k0 k1 k2 hb2
  have c0' := cell_keep (below_alloc (w.alloc (.cells #[.slice A0 a0.length c0, .slice A1 a1.length c1, .slice A2 a2.length c2] 49)) (.cells #[.slice D0 b0.length d0, .slice D1 b1.length d1, .slice D2 b2.length d2] 49)) (bx_at w #[.slice A0 a0.length c0, .slice A1 a1.length c1, .slice A2 a2.length c2] 49 (k := 0) rfl)
  have c1' := cell_keep (below_alloc (w.alloc (.cells #[.slice A0 a0.length c0, .slice A1 a1.length c1, .slice A2 a2.length c2] 49)) (.cells #[.slice D0 b0.length d0, .slice D1 b1.length d1, .slice D2 b2.length d2] 49)) (bx_at w #[.slice A0 a0.length c0, .slice A1 a1.length c1, .slice A2 a2.length c2] 49 (k := 1) rfl)
  have c2' := cell_keep (below_alloc (w.alloc (.cells #[.slice A0 a0.length c0, .slice A1 a1.length c1, .slice A2 a2.length c2] 49)) (.cells #[.slice D0 b0.length d0, .slice D1 b1.length d1, .slice D2 b2.length d2] 49)) (bx_at w #[.slice A0 a0.length c0, .slice A1 a1.length c1, .slice A2 a2.length c2] 49 (k := 2) rfl)
  have d0' := bx_at (w.alloc (.cells #[.slice A0 a0.length c0, .slice A1 a1.length c1, .slice A2 a2.length c2] 49)) #[.slice D0 b0.length d0, .slice D1 b1.length d1, .slice D2 b2.length d2] 49 (k := 0) rfl
  have d1' := bx_at (w.alloc (.cells #[.slice A0 a0.length c0, .slice A1 a1.length c1, .slice A2 a2.length c2] 49)) #[.slice D0 b0.length d0, .slice D1 b1.length d1, .slice D2 b2.length d2] 49 (k := 1) rfl
  have d2' := bx_at (w.alloc (.cells #[.slice A0 a0.length c0, .slice A1 a1.length c1, .slice A2 a2.length c2] 49)) #[.slice D0 b0.length d0, .slice D1 b1.length d1, .slice D2 b2.length d2] 49 (k := 2) rfl
  simp only [World.size_alloc] at d0' d1' d2'
  generalize hW : (w.alloc (.cells #[.slice A0 a0.length c0, .slice A1 a1.length c1, .slice A2 a2.length c2] 49)).alloc (.cells #[.slice D0 b0.length d0, .slice D1 b1.length d1, .slice D2 b2.length d2] 49) = W at HB H0 H1 H2 K0 K1 K2 c0' c1' c2' d0' d1' d2'
  have HE : Hid (sameE ⟨a0, a1, a2⟩ ⟨b0, b1, b2⟩ = ((sameI a0 b0 && sameI a1 b1) && sameI a2 b2)) := rfl
  cases x0 : sameI a0 b0 with
  | false =>
    rw [x0] at HE
    have X0 := Lib.hid x0
    clear x0
    go_enter Try.func27, Try.ntmps27
    go_wp2_with (go_at_call 20; refine (eqIntS_is _ _ _ _ _ _ X0.out H0.out K0.out).mono ?_; rintro e w1 ⟨rfl, hd⟩)
    go_ret
    exact ⟨ret_bool HE.out.symm, sz_keep HB.out hd.below⟩
  | true =>
    rw [x0] at HE
    have X0 := Lib.hid x0
    clear x0
    cases x1 : sameI a1 b1 with
    | false =>
      rw [x1] at HE
      have X1 := Lib.hid x1
      clear x1
      go_enter Try.func27, Try.ntmps27
      go_wp2_with fail
      clear hW
      refine (eqIntS_is _ _ _ _ _ _ X0.out H0.out K0.out).mono ?_
      rintro e w1 ⟨rfl, hd⟩
      have hb := hd.below
      have HB1 := Lib.hid (sz_keep HB.out hb)
      have m1 := cell_keep hb c1'
      have m2 := cell_keep hb d1'
      have H1' := Lib.hid (H1.out.keep hb)
      have K1' := Lib.hid (K1.out.keep hb)
      clear hd hb c0' c1' c2' d0' d1' d2' H0 H1 H2 K0 K1 K2
      go_wp2_with fail
      refine (eqIntS_is _ _ _ _ _ _ X1.out H1'.out K1'.out).mono ?_
      rintro e w2 ⟨rfl, hd⟩
      go_wp2
      go_ret
      exact ⟨ret_bool HE.out.symm, sz_keep HB1.out hd.below⟩
    | true =>
      rw [x1] at HE
      have X1 := Lib.hid x1
      clear x1
      cases x2 : sameI a2 b2 with
      | false =>
        rw [x2] at HE
        have X2 := Lib.hid x2
        clear x2
        go_enter Try.func27, Try.ntmps27
        go_wp2_with fail
        clear hW
        refine (eqIntS_is _ _ _ _ _ _ X0.out H0.out K0.out).mono ?_
        rintro e w1 ⟨rfl, hd⟩
        have hb := hd.below
        have HB1 := Lib.hid (sz_keep HB.out hb)
        have m1 := cell_keep hb c1'
        have m2 := cell_keep hb d1'
        have m3 := cell_keep hb c2'
        have m4 := cell_keep hb d2'
        have H1' := Lib.hid (H1.out.keep hb)
        have K1' := Lib.hid (K1.out.keep hb)
        have H2' := Lib.hid (H2.out.keep hb)
        have K2' := Lib.hid (K2.out.keep hb)
        clear hd hb c0' c1' c2' d0' d1' d2' H0 H1 H2 K0 K1 K2
        go_wp2_with fail
        refine (eqIntS_is _ _ _ _ _ _ X1.out H1'.out K1'.out).mono ?_
        rintro e w2 ⟨rfl, hd⟩
        have hb := hd.below
        have HB2 := Lib.hid (sz_keep HB1.out hb)
        have n3 := cell_keep hb m3
        have n4 := cell_keep hb m4
        have H2'' := Lib.hid (H2'.out.keep hb)
        have K2'' := Lib.hid (K2'.out.keep hb)
        clear hd hb m1 m2 m3 m4 H1' K1' H2' K2'
        go_wp2_with fail
        refine (eqIntS_is _ _ _ _ _ _ X2.out H2''.out K2''.out).mono ?_
        rintro e w3 ⟨rfl, hd⟩
        go_wp2
        go_ret
        exact ⟨ret_bool HE.out.symm, sz_keep HB2.out hd.below⟩
      | true =>
        rw [x2] at HE
        have X2 := Lib.hid x2
        clear x2
        go_enter Try.func27, Try.ntmps27
        go_wp2_with fail
        clear hW
        refine (eqIntS_is _ _ _ _ _ _ X0.out H0.out K0.out).mono ?_
        rintro e w1 ⟨rfl, hd⟩
        have hb := hd.below
        have HB1 := Lib.hid (sz_keep HB.out hb)
        have m1 := cell_keep hb c1'
        have m2 := cell_keep hb d1'
        have m3 := cell_keep hb c2'
        have m4 := cell_keep hb d2'
        have H1' := Lib.hid (H1.out.keep hb)
        have K1' := Lib.hid (K1.out.keep hb)
        have H2' := Lib.hid (H2.out.keep hb)
        have K2' := Lib.hid (K2.out.keep hb)
        clear hd hb c0' c1' c2' d0' d1' d2' H0 H1 H2 K0 K1 K2
        go_wp2_with fail
        refine (eqIntS_is _ _ _ _ _ _ X1.out H1'.out K1'.out).mono ?_
        rintro e w2 ⟨rfl, hd⟩
        have hb := hd.below
        have HB2 := Lib.hid (sz_keep HB1.out hb)
        have n3 := cell_keep hb m3
        have n4 := cell_keep hb m4
        have H2'' := Lib.hid (H2'.out.keep hb)
        have K2'' := Lib.hid (K2'.out.keep hb)
        clear hd hb m1 m2 m3 m4 H1' K1' H2' K2'
        go_wp2_with fail
        refine (eqIntS_is _ _ _ _ _ _ X2.out H2''.out K2''.out).mono ?_
        rintro e w3 ⟨rfl, hd⟩
        go_wp2
        go_ret
        exact ⟨ret_bool HE.out.symm, sz_keep HB2.out hd.below⟩
theorem eqEq_is (v v' : Value) (a b : MEq) (w : World) (r : Bool) (hr : sameE a b = r) (h : REq w v a) (h' : REq w v' b) :
    Calls Try.prog 27 #[v, v'] w fun e w' => e = .returned (.bool r) ∧ Below w.heap.size w w' := by
  subst hr; exact eqEq_any v v' a b w h h'
end Go.Proofs.Yteccjnnhihbdhaa
