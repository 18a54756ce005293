/- The plain functions of equations, theories and steps; small numbers. No walk. · The exact laws' measure, copy and comparison of an equation: szEq, toEq, eqEq. · The exact laws' measure, copy and comparison of lists of equations: szEqS, toEqS, eqEqS. · The exact laws' measure, copy and comparison of a theory: szTheory, toTheory, eqTheory. · The exact laws' marks: markIntS, heldIntS, markIntSS, markSig. · The marks of a list of rows, to the number: markIntSS, heldIntSS, markSig, heldSig. -/
import Derived.Test.YticldaddbljleaaK41db4bc6
namespace Go.Proofs.Yticldaddbljleaa
section
open Go.RowKit
set_option linter.unusedVariables false

def eqOkB (s : MSig) (e : MEq) : Bool := decide (0 ≤ sortM s e.vars e.left) && decide (sortM s e.vars e.right = sortM s e.vars e.left)
def thyB (t : MThy) : Bool := (validB t.over && decide (t.eqs.length ≤ 6)) && t.eqs.all (eqOkB t.over)
def SmallE (e : MEq) : Prop := Small e.left ∧ Small e.right
def SmallT (t : MThy) : Prop := ∀ e ∈ t.eqs, SmallE e
/-- rows of an equation that are not too long -/
def FitsE (e : MEq) : Prop := e.vars.length ≤ 1048576 ∧ e.left.length ≤ 1048576 ∧ e.right.length ≤ 1048576
def FitsEs (es : List MEq) : Prop := es.length ≤ 1048576 ∧ ∀ e ∈ es, FitsE e
def sameE (a b : MEq) : Bool := (sameI a.vars b.vars && sameI a.left b.left) && sameI a.right b.right
theorem sameE_self (a : MEq) : sameE a a = true := by unfold sameE sameI; simp
theorem sameE_eq {a b : MEq} : sameE a b = true ↔ a = b := by
  obtain ⟨a1, a2, a3⟩ := a
  obtain ⟨b1, b2, b3⟩ := b
  unfold sameE sameI
  simp [and_assoc]
def sameEs : List MEq → List MEq → Bool
  | [], [] => true
  | a :: xs, b :: ys => sameE a b && sameEs xs ys
  | _, _ => false
theorem sameEs_eq {xs bs : List MEq} : sameEs xs bs = true ↔ xs = bs := by
  induction xs generalizing bs with
  | nil => cases bs <;> simp [sameEs]
  | cons a xs ih => cases bs with
    | nil => simp [sameEs]
    | cons b bs => simp [sameEs, sameE_eq, ih]
theorem sameEs_self (xs : List MEq) : sameEs xs xs = true := sameEs_eq.2 rfl
theorem eqOkB_bad {s : MSig} {e : MEq} (h : validB s = false) : eqOkB s e = false := by
  unfold eqOkB
  have : ¬ 0 ≤ sortM s e.vars e.left := fun hh => by
    obtain ⟨tm, hv, -⟩ := sortM_to hh
    rw [(vars_valid hv).1] at h
    cases h
  simp [this]
end

section
open Go.RowKit
set_option linter.unusedVariables false

def Apart (a b : Value) : Prop := a.ownBlock = none ∨ a.ownBlock ≠ b.ownBlock
def OEq (w : World) (B : Nat) (v : Value) (e : MEq) : Prop := ∃ a b c, v = .agg #[a, b, c] ∧ OInts w B a e.vars ∧ OInts w B b e.left ∧ OInts w B c e.right ∧ Apart a b ∧ Apart a c ∧ Apart b c
theorem OEq.keep {w w' : World} {B : Nat} {v : Value} {e : MEq} (h : OEq w B v e) (hb : Below w.heap.size w w') : OEq w' B v e := by
  obtain ⟨a, b, c, rfl, h1, h2, h3, h4⟩ := h; exact ⟨a, b, c, rfl, h1.keep hb, h2.keep hb, h3.keep hb, h4⟩
theorem OEq.base {w : World} {B B' : Nat} {v : Value} {e : MEq} (h : OEq w B v e) (hB : B' ≤ B) : OEq w B' v e := by
  obtain ⟨a, b, c, rfl, h1, h2, h3, h4⟩ := h; exact ⟨a, b, c, rfl, h1.base hB, h2.base hB, h3.base hB, h4⟩
theorem OEq.reads {w : World} {B : Nat} {v : Value} {e : MEq} (h : OEq w B v e) : REq w v e := by
  obtain ⟨a, b, c, rfl, h1, h2, h3, h4⟩ := h; exact ⟨a, b, c, rfl, h1.reads, h2.reads, h3.reads⟩
/-- what was made later lies in another block -/
theorem apart_later {w w' : World} {B : Nat} {a b : Value} {xs ys : List Int} (h : OInts w B a xs) (k : OInts w' w.heap.size b ys) : Apart a b := by
  unfold Apart
  cases ha : a.ownBlock with
  | none => exact .inl rfl
  | some x =>
    right
    intro e
    have p := (own_lt h x ha).2
    have q := (own_lt k x e.symm).1
    omega
theorem sz_keep {w w1 w2 : World} (h : Below w.heap.size w w1) (k : Below w1.heap.size w1 w2) : Below w.heap.size w w2 := h.trans (k.mono h.size)

theorem szEq_any (v : Value) (e : MEq) (left : Int) (w : World) (h : REq w v e) (h0 : 0 ≤ left) (h1 : left ≤ 1048576) :
    Calls Try.prog 38 #[v, .int .i64 left] w fun e' w' => ∃ r : Int, e' = .returned (.int .i64 r) ∧ (r < 0 ∨ (0 ≤ r ∧ r ≤ left ∧ FitsE e)) ∧ Below w.heap.size w w' := by
  obtain ⟨a, b, c, rfl, k0, k1, k2⟩ := h
  obtain ⟨xs, ys, zs⟩ := e
  simp only at k0 k1 k2
  have hb := below_alloc w (.cells #[a, b, c] 70)
  have HB := Lib.hid hb
  have K0 := Lib.hid (k0.keep hb)
  have K1 := Lib.hid (k1.keep hb)
  have K2 := Lib.hid (k2.keep hb)
  obtain ⟨A0, c0, rfl, -⟩ := k0.form
  obtain ⟨A1, c1, rfl, -⟩ := k1.form
  obtain ⟨A2, c2, rfl, -⟩ := k2.form
  clear k0 k1 k2 hb
  go_enter Try.func38, Try.ntmps38
  go_wp2_with fail
  refine (szIntS_any _ xs _ _ K0.out h0 h1).mono ?_
  rintro e w1 ⟨r, rfl, hr, rfl⟩
  by_cases hneg : r < 0
  · clear hr
    go_wp2
    go_ret
    exact ⟨-1, rfl, .inl (by omega), HB.out⟩
  have hr1 := hr.resolve_left hneg
  clear hr
  obtain ⟨hr2, hr3⟩ := hr1
  have HR := Lib.hid hr3
  have hr4 : r ≤ 1048576 := by omega
  clear hr3
  go_wp2_with fail
  refine (szIntS_any _ ys _ _ K1.out hr2 hr4).mono ?_
  rintro e w1 ⟨q, rfl, hr, rfl⟩
  by_cases hneg2 : q < 0
  · clear hr
    go_wp2
    go_ret
    exact ⟨-1, rfl, .inl (by omega), HB.out⟩
  have hr5 := hr.resolve_left hneg2
  clear hr
  obtain ⟨hr6, hr7⟩ := hr5
  have HQ := Lib.hid hr7
  have hr8 : q ≤ 1048576 := by omega
  clear hr7
  go_wp2_with fail
  refine (szIntS_any _ zs _ _ K2.out hr6 hr8).mono ?_
  rintro e w1 ⟨p, rfl, hr, rfl⟩
  by_cases hneg3 : p < 0
  · clear hr
    go_wp2
    go_ret
    exact ⟨-1, rfl, .inl (by omega), HB.out⟩
  have hr9 := hr.resolve_left hneg3
  clear hr
  obtain ⟨hr10, hr11⟩ := hr9
  have HP := Lib.hid hr11
  clear hr11
  go_wp2
  go_ret
  have a1 := HR.out
  have a2 := HQ.out
  have a3 := HP.out
  refine ⟨p, rfl, .inr ⟨hr10, by omega, ⟨?_, ?_, ?_⟩⟩, HB.out⟩ <;> simp only <;> omega

/-- a copy under way: the argument's box (a), the result's (r), and 'out' (cur), the first three new blocks -/
structure Mk (w wr : World) (Ta T : TypeId) (a r cur : Array Value) : Prop where
  ba : wr.heap[w.heap.size]? = some (.cells a Ta (0, 0))
  br : wr.heap[w.heap.size + 1]? = some (.cells r T (0, 0))
  bo : wr.heap[w.heap.size + 2]? = some (.cells cur T (0, 0))
  b : Below w.heap.size w wr
  z : w.heap.size + 3 ≤ wr.heap.size
theorem Mk.start (w : World) (Ta T : TypeId) (a r cur : Array Value) : Mk w (((w.alloc (.cells a Ta)).alloc (.cells r T)).alloc (.cells cur T)) Ta T a r cur := by
  refine ⟨?_, ?_, ?_, ((below_alloc _ _).alloc (by simp) _).alloc (by simp; omega) _, by simp⟩
  · rw [heap_alloc_old _ _ (by simp; omega), heap_alloc_old _ _ (by simp)]
    exact heap_alloc_new w _
  · rw [heap_alloc_old _ _ (by simp)]
    exact (congrArg (fun i => ((w.alloc (.cells a Ta)).alloc (.cells r T)).heap[i]?) (by simp)).trans (heap_alloc_new (w.alloc (.cells a Ta)) _)
  · exact (congrArg (fun i => (((w.alloc (.cells a Ta)).alloc (.cells r T)).alloc (.cells cur T)).heap[i]?) (by simp)).trans (heap_alloc_new ((w.alloc (.cells a Ta)).alloc (.cells r T)) _)
section
variable {w wr w2 : World} {Ta T : TypeId} {a r cur : Array Value}
theorem Mk.below (h : Mk w wr Ta T a r cur) (hb : Below wr.heap.size wr w2) : Mk w w2 Ta T a r cur :=
  ⟨(hb.block _ (by have := h.z; omega)).trans h.ba, (hb.block _ (by have := h.z; omega)).trans h.br, (hb.block _ (by have := h.z; omega)).trans h.bo, h.b.trans (hb.mono (by have := h.z; omega)), Nat.le_trans h.z hb.size⟩
theorem Mk.setO (h : Mk w wr Ta T a r cur) (i : Nat) (u : Value) : Mk w (wr.setCell ⟨w.heap.size + 2, i, none⟩ u) Ta T a r (cur.setIfInBounds i u) :=
  ⟨(Below.heap_setCell wr ⟨w.heap.size + 2, i, none⟩ u w.heap.size (by show w.heap.size ≠ w.heap.size + 2; omega)).trans h.ba, (Below.heap_setCell wr ⟨w.heap.size + 2, i, none⟩ u (w.heap.size + 1) (by show w.heap.size + 1 ≠ w.heap.size + 2; omega)).trans h.br, blk_set h.bo i u,
    h.b.setCell (p := ⟨w.heap.size + 2, i, none⟩) (by show w.heap.size ≤ w.heap.size + 2; omega) u, by have := h.z; simpa [World.setCell] using this⟩
theorem Mk.setR (h : Mk w wr Ta T a r cur) (i : Nat) (u : Value) : Mk w (wr.setCell ⟨w.heap.size + 1, i, none⟩ u) Ta T a (r.setIfInBounds i u) cur :=
  ⟨(Below.heap_setCell wr ⟨w.heap.size + 1, i, none⟩ u w.heap.size (by show w.heap.size ≠ w.heap.size + 1; omega)).trans h.ba, blk_set h.br i u, (Below.heap_setCell wr ⟨w.heap.size + 1, i, none⟩ u (w.heap.size + 2) (by show w.heap.size + 2 ≠ w.heap.size + 1; omega)).trans h.bo,
    h.b.setCell (p := ⟨w.heap.size + 1, i, none⟩) (by show w.heap.size ≤ w.heap.size + 1; omega) u, by have := h.z; simpa [World.setCell] using this⟩
theorem Mk.ca (h : Mk w wr Ta T a r cur) (i : Nat) : wr.cell? ⟨w.heap.size, i, none⟩ = a[i]? := blk_cell h.ba i
theorem Mk.co (h : Mk w wr Ta T a r cur) (i : Nat) : wr.cell? ⟨w.heap.size + 2, i, none⟩ = cur[i]? := blk_cell h.bo i
theorem Mk.fo (h : Mk w wr Ta T a r cur) (i : Nat) : wr.frozen? ⟨w.heap.size + 2, i, none⟩ = false := blk_free h.bo i
theorem Mk.cr (h : Mk w wr Ta T a r cur) (i : Nat) : wr.cell? ⟨w.heap.size + 1, i, none⟩ = r[i]? := blk_cell h.br i
theorem Mk.fr (h : Mk w wr Ta T a r cur) (i : Nat) : wr.frozen? ⟨w.heap.size + 1, i, none⟩ = false := blk_free h.br i
theorem OInts.setLow {B b : Nat} {v : Value} {xs : List Int} (h : OInts wr B v xs) (hb : b < B) (i : Nat) (x : Value) : OInts (wr.setCell ⟨b, i, none⟩ x) B v xs := ownsRow_setCell_below h hb _
end

set_option maxRecDepth 100000 in
theorem toEq_any (v : Value) (e : MEq) (w : World) (h : REq w v e) (hs : FitsE e) :
    Calls Try.prog 43 #[v] w fun e' w' => ∃ u, e' = .returned u ∧ OEq w' w.heap.size u e ∧ Below w.heap.size w w' := by
  obtain ⟨x0, x1, x2, rfl, h0, h1, h2⟩ := h
  obtain ⟨xs, ys, zs⟩ := e
  obtain ⟨hs0, hs1, hs2⟩ := hs
  simp only at h0 h1 h2 hs0 hs1 hs2
  obtain ⟨A0, c0, rfl, -⟩ := h0.form
  obtain ⟨A1, c1, rfl, -⟩ := h1.form
  obtain ⟨A2, c2, rfl, -⟩ := h2.form
  have hm := Mk.start w 70 41 #[.slice A0 xs.length c0, .slice A1 ys.length c1, .slice A2 zs.length c2] #[.slice none 0 0, .slice none 0 0, .slice none 0 0] #[.slice none 0 0, .slice none 0 0, .slice none 0 0]
  generalize hW : ((w.alloc (.cells #[.slice A0 xs.length c0, .slice A1 ys.length c1, .slice A2 zs.length c2] 70)).alloc (.cells #[.slice none 0 0, .slice none 0 0, .slice none 0 0] 41)).alloc (.cells #[.slice none 0 0, .slice none 0 0, .slice none 0 0] 41) = W at hm
  have H0 := Lib.hid (h0.keep hm.b)
  have H1 := Lib.hid h1
  have H2 := Lib.hid h2
  have p0 : W.cell? ⟨w.heap.size, 0, none⟩ = some (.slice A0 xs.length c0) := hm.ca 0
  have HM := Lib.hid hm
  clear h0 h1 h2 hm
  go_enter Try.func43, Try.ntmps43
  go_wp2_with fail
  clear hW
  refine (toIntS_any _ xs _ H0.out hs0).mono ?_
  rintro e w4 ⟨u0, rfl, ho, hb⟩
  have hz := HM.out.z
  have hm := HM.out.below hb
  obtain ⟨B0, d0, rfl, -⟩ := ho.reads.form
  have q0 : w4.cell? ⟨w.heap.size + 2, 0, none⟩ = some (.slice none 0 0) := hm.co 0
  have q1 := hm.fo 0
  have hm5 := hm.setO 0 (.slice B0 xs.length d0)
  have ho5 := ho.setLow (b := w.heap.size + 2) (by omega) 0 (.slice B0 xs.length d0)
  generalize hW5 : w4.setCell ⟨w.heap.size + 2, 0, none⟩ (.slice B0 xs.length d0) = w5 at hm5 ho5
  have p1 : w5.cell? ⟨w.heap.size, 1, none⟩ = some (.slice A1 ys.length c1) := hm5.ca 1
  have HO5 := Lib.hid ho5
  have HM5 := Lib.hid hm5
  have H1 := Lib.hid (H1.out.keep hm5.b)
  clear ho hb hm p0 hm5 ho5 H0
  go_wp2_with fail
  clear hW5 q0 q1
  refine (toIntS_any _ ys _ H1.out hs1).mono ?_
  rintro e w6 ⟨u1, rfl, ho, hb⟩
  have hz5 := HM5.out.z
  have hm := HM5.out.below hb
  obtain ⟨B1, d1, rfl, -⟩ := ho.reads.form
  have q0 : w6.cell? ⟨w.heap.size + 2, 1, none⟩ = some (.slice none 0 0) := hm.co 1
  have q1 := hm.fo 1
  have ha1 := apart_later HO5.out ho
  have hm7 := hm.setO 1 (.slice B1 ys.length d1)
  have ho7 := ho.setLow (b := w.heap.size + 2) (by omega) 1 (.slice B1 ys.length d1)
  have hn7 := (HO5.out.keep hb).setLow (b := w.heap.size + 2) (by omega) 1 (.slice B1 ys.length d1)
  generalize hW7 : w6.setCell ⟨w.heap.size + 2, 1, none⟩ (.slice B1 ys.length d1) = w7 at hm7 ho7 hn7
  have p2 : w7.cell? ⟨w.heap.size, 2, none⟩ = some (.slice A2 zs.length c2) := hm7.ca 2
  have HO7 := Lib.hid ho7
  have HN7 := Lib.hid hn7
  have HA1 := Lib.hid ha1
  have HM7 := Lib.hid hm7
  have H2 := Lib.hid (H2.out.keep hm7.b)
  clear ho hb hm p1 hm7 ho7 hn7 ha1 H1 HO5
  go_wp2_with fail
  clear hW7 q0 q1
  refine (toIntS_any _ zs _ H2.out hs2).mono ?_
  rintro e w8 ⟨u2, rfl, ho, hb⟩
  have hz7 := HM7.out.z
  have hm := HM7.out.below hb
  obtain ⟨B2, d2, rfl, -⟩ := ho.reads.form
  have ha2 := apart_later HN7.out ho
  have ha3 := apart_later HO7.out ho
  have hm9 := (((hm.setO 2 (.slice B2 zs.length d2)).setR 0 (.slice B0 xs.length d0)).setR 1 (.slice B1 ys.length d1)).setR 2 (.slice B2 zs.length d2)
  have o0 := ((((HN7.out.keep hb).setLow (b := w.heap.size + 2) (by omega) 2 (.slice B2 zs.length d2)).setLow (b := w.heap.size + 1) (by omega) 0 (.slice B0 xs.length d0)).setLow (b := w.heap.size + 1) (by omega) 1 (.slice B1 ys.length d1)).setLow (b := w.heap.size + 1) (by omega) 2 (.slice B2 zs.length d2)
  have o1 := ((((HO7.out.keep hb).setLow (b := w.heap.size + 2) (by omega) 2 (.slice B2 zs.length d2)).setLow (b := w.heap.size + 1) (by omega) 0 (.slice B0 xs.length d0)).setLow (b := w.heap.size + 1) (by omega) 1 (.slice B1 ys.length d1)).setLow (b := w.heap.size + 1) (by omega) 2 (.slice B2 zs.length d2)
  have o2 := (((ho.setLow (b := w.heap.size + 2) (by omega) 2 (.slice B2 zs.length d2)).setLow (b := w.heap.size + 1) (by omega) 0 (.slice B0 xs.length d0)).setLow (b := w.heap.size + 1) (by omega) 1 (.slice B1 ys.length d1)).setLow (b := w.heap.size + 1) (by omega) 2 (.slice B2 zs.length d2)
  have HF := Lib.hid (And.intro o0 (And.intro o1 (And.intro o2 (And.intro HA1.out (And.intro ha2 ha3)))))
  have HM9 := Lib.hid hm9
  have q0 : w8.cell? ⟨w.heap.size + 2, 0, none⟩ = some (.slice B0 xs.length d0) := hm.co 0
  have q1 : w8.cell? ⟨w.heap.size + 2, 1, none⟩ = some (.slice B1 ys.length d1) := hm.co 1
  have q2 : w8.cell? ⟨w.heap.size + 2, 2, none⟩ = some (.slice none 0 0) := hm.co 2
  have q3 := hm.fo 2
  have q4 : w8.cell? ⟨w.heap.size + 1, 0, none⟩ = some (.slice none 0 0) := hm.cr 0
  have q5 : w8.cell? ⟨w.heap.size + 1, 1, none⟩ = some (.slice none 0 0) := hm.cr 1
  have q6 : w8.cell? ⟨w.heap.size + 1, 2, none⟩ = some (.slice none 0 0) := hm.cr 2
  have q7 := hm.fr 0
  have q8 := hm.fr 1
  have q9 := hm.fr 2
  clear ho hb hm hm9 o0 o1 o2 ha2 ha3 HO7 HN7 HA1 H2 p2
  go_wp2
  obtain ⟨o0, o1, o2, a1, a2, a3⟩ := HF.out
  have hm9 := HM9.out
  generalize (((w8.setCell ⟨w.heap.size + 2, 2, none⟩ (.slice B2 zs.length d2)).setCell ⟨w.heap.size + 1, 0, none⟩ (.slice B0 xs.length d0)).setCell ⟨w.heap.size + 1, 1, none⟩ (.slice B1 ys.length d1)).setCell ⟨w.heap.size + 1, 2, none⟩ (.slice B2 zs.length d2) = w9 at o0 o1 o2 hm9 ⊢
  have k0 : w9.cell? ⟨w.heap.size + 1, 0, none⟩ = some (.slice B0 xs.length d0) := hm9.cr 0
  have k1 : w9.cell? ⟨w.heap.size + 1, 1, none⟩ = some (.slice B1 ys.length d1) := hm9.cr 1
  have k2 : w9.cell? ⟨w.heap.size + 1, 2, none⟩ = some (.slice B2 zs.length d2) := hm9.cr 2
  clear q0 q1 q2 q3 q4 q5 q6 q7 q8 q9
  refine bodyPost_ret (v := .agg #[.slice B0 xs.length d0, .slice B1 ys.length d1, .slice B2 zs.length d2]) (by simp [results, Try.results43, go_sem, k0, k1, k2]) rfl ?_
  exact ⟨_, rfl, ⟨_, _, _, rfl, o0.base (by omega), o1.base (by omega), o2.base (by omega), a1, a2, a3⟩, hm9.b⟩

theorem eqEq_any (v v' : Value) (a b : MEq) (w : World) (h : REq w v a) (h' : REq w v' b) :
    Calls Try.prog 50 #[v, v'] w fun e w' => e = .returned (.bool (sameE a b)) ∧ Below w.heap.size w w' := by
  obtain ⟨x0, x1, x2, rfl, h0, h1, h2⟩ := h
  obtain ⟨y0, y1, y2, rfl, k0, k1, k2⟩ := h'
  have hb2 : Below w.heap.size w ((w.alloc (.cells #[x0, x1, x2] 41)).alloc (.cells #[y0, y1, y2] 41)) := (below_alloc _ _).alloc (by simp) _
  have HB := Lib.hid hb2
  have H0 := Lib.hid (h0.keep hb2)
  have H1 := Lib.hid (h1.keep hb2)
  have H2 := Lib.hid (h2.keep hb2)
  have K0 := Lib.hid (k0.keep hb2)
  have K1 := Lib.hid (k1.keep hb2)
  have K2 := Lib.hid (k2.keep hb2)
  obtain ⟨a0, a1, a2⟩ := a
  obtain ⟨b0, b1, b2⟩ := b
  simp only at h0 h1 h2 k0 k1 k2 H0 H1 H2 K0 K1 K2
  obtain ⟨A0, c0, rfl, -⟩ := h0.form
  obtain ⟨A1, c1, rfl, -⟩ := h1.form
  obtain ⟨A2, c2, rfl, -⟩ := h2.form
  obtain ⟨D0, d0, rfl, -⟩ := k0.form
  obtain ⟨D1, d1, rfl, -⟩ := k1.form
  obtain ⟨D2, d2, rfl, -⟩ := k2.form
  clear h0 h1 h2 k0 k1 k2 hb2
  have c0' := cell_keep (below_alloc (w.alloc (.cells #[.slice A0 a0.length c0, .slice A1 a1.length c1, .slice A2 a2.length c2] 41)) (.cells #[.slice D0 b0.length d0, .slice D1 b1.length d1, .slice D2 b2.length d2] 41)) (bx_at w #[.slice A0 a0.length c0, .slice A1 a1.length c1, .slice A2 a2.length c2] 41 (k := 0) rfl)
  have c1' := cell_keep (below_alloc (w.alloc (.cells #[.slice A0 a0.length c0, .slice A1 a1.length c1, .slice A2 a2.length c2] 41)) (.cells #[.slice D0 b0.length d0, .slice D1 b1.length d1, .slice D2 b2.length d2] 41)) (bx_at w #[.slice A0 a0.length c0, .slice A1 a1.length c1, .slice A2 a2.length c2] 41 (k := 1) rfl)
  have c2' := cell_keep (below_alloc (w.alloc (.cells #[.slice A0 a0.length c0, .slice A1 a1.length c1, .slice A2 a2.length c2] 41)) (.cells #[.slice D0 b0.length d0, .slice D1 b1.length d1, .slice D2 b2.length d2] 41)) (bx_at w #[.slice A0 a0.length c0, .slice A1 a1.length c1, .slice A2 a2.length c2] 41 (k := 2) rfl)
  have d0' := bx_at (w.alloc (.cells #[.slice A0 a0.length c0, .slice A1 a1.length c1, .slice A2 a2.length c2] 41)) #[.slice D0 b0.length d0, .slice D1 b1.length d1, .slice D2 b2.length d2] 41 (k := 0) rfl
  have d1' := bx_at (w.alloc (.cells #[.slice A0 a0.length c0, .slice A1 a1.length c1, .slice A2 a2.length c2] 41)) #[.slice D0 b0.length d0, .slice D1 b1.length d1, .slice D2 b2.length d2] 41 (k := 1) rfl
  have d2' := bx_at (w.alloc (.cells #[.slice A0 a0.length c0, .slice A1 a1.length c1, .slice A2 a2.length c2] 41)) #[.slice D0 b0.length d0, .slice D1 b1.length d1, .slice D2 b2.length d2] 41 (k := 2) rfl
  simp only [World.size_alloc] at d0' d1' d2'
  generalize hW : (w.alloc (.cells #[.slice A0 a0.length c0, .slice A1 a1.length c1, .slice A2 a2.length c2] 41)).alloc (.cells #[.slice D0 b0.length d0, .slice D1 b1.length d1, .slice D2 b2.length d2] 41) = W at HB H0 H1 H2 K0 K1 K2 c0' c1' c2' d0' d1' d2'
  have HE : Hid (sameE ⟨a0, a1, a2⟩ ⟨b0, b1, b2⟩ = ((sameI a0 b0 && sameI a1 b1) && sameI a2 b2)) := rfl
  cases x0 : sameI a0 b0 with
  | false =>
    rw [x0] at HE
    have X0 := Lib.hid x0
    clear x0
    go_enter Try.func50, Try.ntmps50
    go_wp2_with (go_at_call 51; refine (eqIntS_is _ _ _ _ _ _ X0.out H0.out K0.out).mono ?_; rintro e w1 ⟨rfl, hd⟩)
    go_ret
    exact ⟨ret_bool HE.out.symm, sz_keep HB.out hd.below⟩
  | true =>
    rw [x0] at HE
    have X0 := Lib.hid x0
    clear x0
    cases x1 : sameI a1 b1 with
    | false =>
      rw [x1] at HE
      have X1 := Lib.hid x1
      clear x1
      go_enter Try.func50, Try.ntmps50
      go_wp2_with fail
      clear hW
      refine (eqIntS_is _ _ _ _ _ _ X0.out H0.out K0.out).mono ?_
      rintro e w1 ⟨rfl, hd⟩
      have hb := hd.below
      have HB1 := Lib.hid (sz_keep HB.out hb)
      have m1 := cell_keep hb c1'
      have m2 := cell_keep hb d1'
      have H1' := Lib.hid (H1.out.keep hb)
      have K1' := Lib.hid (K1.out.keep hb)
      clear hd hb c0' c1' c2' d0' d1' d2' H0 H1 H2 K0 K1 K2
      go_wp2_with fail
      refine (eqIntS_is _ _ _ _ _ _ X1.out H1'.out K1'.out).mono ?_
      rintro e w2 ⟨rfl, hd⟩
      go_wp2
      go_ret
      exact ⟨ret_bool HE.out.symm, sz_keep HB1.out hd.below⟩
    | true =>
      rw [x1] at HE
      have X1 := Lib.hid x1
      clear x1
      cases x2 : sameI a2 b2 with
      | false =>
        rw [x2] at HE
        have X2 := Lib.hid x2
        clear x2
        go_enter Try.func50, Try.ntmps50
        go_wp2_with fail
        clear hW
        refine (eqIntS_is _ _ _ _ _ _ X0.out H0.out K0.out).mono ?_
        rintro e w1 ⟨rfl, hd⟩
        have hb := hd.below
        have HB1 := Lib.hid (sz_keep HB.out hb)
        have m1 := cell_keep hb c1'
        have m2 := cell_keep hb d1'
        have m3 := cell_keep hb c2'
        have m4 := cell_keep hb d2'
        have H1' := Lib.hid (H1.out.keep hb)
        have K1' := Lib.hid (K1.out.keep hb)
        have H2' := Lib.hid (H2.out.keep hb)
        have K2' := Lib.hid (K2.out.keep hb)
        clear hd hb c0' c1' c2' d0' d1' d2' H0 H1 H2 K0 K1 K2
        go_wp2_with fail
        refine (eqIntS_is _ _ _ _ _ _ X1.out H1'.out K1'.out).mono ?_
        rintro e w2 ⟨rfl, hd⟩
        have hb := hd.below
        have HB2 := Lib.hid (sz_keep HB1.out hb)
        have n3 := cell_keep hb m3
        have n4 := cell_keep hb m4
        have H2'' := Lib.hid (H2'.out.keep hb)
        have K2'' := Lib.hid (K2'.out.keep hb)
        clear hd hb m1 m2 m3 m4 H1' K1' H2' K2'
        go_wp2_with fail
        refine (eqIntS_is _ _ _ _ _ _ X2.out H2''.out K2''.out).mono ?_
        rintro e w3 ⟨rfl, hd⟩
        go_wp2
        go_ret
        exact ⟨ret_bool HE.out.symm, sz_keep HB2.out hd.below⟩
      | true =>
        rw [x2] at HE
        have X2 := Lib.hid x2
        clear x2
        go_enter Try.func50, Try.ntmps50
        go_wp2_with fail
        clear hW
        refine (eqIntS_is _ _ _ _ _ _ X0.out H0.out K0.out).mono ?_
        rintro e w1 ⟨rfl, hd⟩
        have hb := hd.below
        have HB1 := Lib.hid (sz_keep HB.out hb)
        have m1 := cell_keep hb c1'
        have m2 := cell_keep hb d1'
        have m3 := cell_keep hb c2'
        have m4 := cell_keep hb d2'
        have H1' := Lib.hid (H1.out.keep hb)
        have K1' := Lib.hid (K1.out.keep hb)
        have H2' := Lib.hid (H2.out.keep hb)
        have K2' := Lib.hid (K2.out.keep hb)
        clear hd hb c0' c1' c2' d0' d1' d2' H0 H1 H2 K0 K1 K2
        go_wp2_with fail
        refine (eqIntS_is _ _ _ _ _ _ X1.out H1'.out K1'.out).mono ?_
        rintro e w2 ⟨rfl, hd⟩
        have hb := hd.below
        have HB2 := Lib.hid (sz_keep HB1.out hb)
        have n3 := cell_keep hb m3
        have n4 := cell_keep hb m4
        have H2'' := Lib.hid (H2'.out.keep hb)
        have K2'' := Lib.hid (K2'.out.keep hb)
        clear hd hb m1 m2 m3 m4 H1' K1' H2' K2'
        go_wp2_with fail
        refine (eqIntS_is _ _ _ _ _ _ X2.out H2''.out K2''.out).mono ?_
        rintro e w3 ⟨rfl, hd⟩
        go_wp2
        go_ret
        exact ⟨ret_bool HE.out.symm, sz_keep HB2.out hd.below⟩
theorem eqEq_is (v v' : Value) (a b : MEq) (w : World) (r : Bool) (hr : sameE a b = r) (h : REq w v a) (h' : REq w v' b) :
    Calls Try.prog 50 #[v, v'] w fun e w' => e = .returned (.bool r) ∧ Below w.heap.size w w' := by
  subst hr; exact eqEq_any v v' a b w h h'
end

section
open Go.RowKit
set_option linter.unusedVariables false

/-- the rows of equations, three an equation -/
def rows3 : List MEq → List (List Int)
  | [] => []
  | e :: es => e.vars :: e.left :: e.right :: rows3 es
theorem rows3_len : ∀ es : List MEq, (rows3 es).length = es.length * 3
  | [] => rfl
  | e :: es => by simp only [rows3, List.length_cons, rows3_len es]; omega
theorem rows3_at : ∀ (es : List MEq) (k : Nat) (e : MEq), es[k]? = some e → (rows3 es)[k * 3]? = some e.vars ∧ (rows3 es)[k * 3 + 1]? = some e.left ∧ (rows3 es)[k * 3 + 2]? = some e.right
  | [], k, e, h => by simp at h
  | x :: es, 0, e, h => by simp at h; subst h; simp [rows3]
  | x :: es, k + 1, e, h => by
    have := rows3_at es k e (by simpa using h)
    rw [show (k + 1) * 3 = k * 3 + 3 by omega]
    simpa [rows3] using this
theorem run_make_wide (t e : TypeId) (z : Value) (size bytes : Nat) (ht : Try.prog.underlying t = some (.slice e)) (hinfo : (Try.prog.info? e).map (fun i => (i.zero, i.size, i.bytes)) = some (some z, size, bytes))
    (kl kc : IntKind) (n : Nat) (hbytes : bytes * n ≤ 281474976710656) (h63 : n ≤ 9223372036854775807) (w : World) :
    (Instr.makeSlice t (.int kl (n : Int)) (.int kc (n : Int))).run Try.prog w = .ok (.slice (some ⟨w.heap.size, 0, none⟩) n n) (w.alloc (.cells (madeCells z.cells (n * size)) e)) := by
  obtain ⟨i, hi, hzz⟩ := Option.map_eq_some_iff.1 hinfo
  simp only [Prod.mk.injEq] at hzz
  obtain ⟨hz, hs, hb⟩ := hzz
  have := run_make (P := Try.prog) w t e i z ht hi hz kl kc n n (by omega) (by omega) (by rw [hb]; omega) (by omega)
  simpa [hs] using this
theorem Try.tinfo_Eq : (Try.prog.info? 41).map (fun i => (i.zero, i.size, i.bytes)) = some (some (.agg #[.slice none 0 0, .slice none 0 0, .slice none 0 0]), 3, 72) := by kernel_rfl

/-- a block that is being filled with rows, cell by cell -/
def FillF (T : TypeId) (w wr : World) (rows : List (List Int)) (k : Nat) : Prop :=
  ∃ cur : Array Value, wr.heap[w.heap.size]? = some (.cells cur T (0, 0)) ∧ cur.size = rows.length ∧ (∀ (j : Nat) (row : List Int), j < k → rows[j]? = some row → ∃ u, cur[j]? = some u ∧ OInts wr (w.heap.size + 1) u row) ∧
    (∀ (i j : Nat) (u u' : Value), i < j → j < k → cur[i]? = some u → cur[j]? = some u' → Apart u u') ∧ Below w.heap.size w wr
section
variable {T : TypeId} {w wr w1 : World} {rows : List (List Int)} {k : Nat}
theorem FillF.start (T : TypeId) (w : World) (rows : List (List Int)) (cur : Array Value) (h : cur.size = rows.length) : FillF T w (w.alloc (.cells cur T)) rows 0 :=
  ⟨cur, heap_alloc_new w _, h, fun j row hj => by omega, fun i j u u' _ hj => by omega, below_alloc _ _⟩
theorem FillF.bel (h : FillF T w wr rows k) : Below w.heap.size w wr := by obtain ⟨_, _, _, _, _, hb⟩ := h; exact hb
theorem FillF.lt (h : FillF T w wr rows k) : w.heap.size < wr.heap.size := by obtain ⟨cur, h1, _⟩ := h; exact (Array.getElem?_eq_some_iff.1 h1).1
theorem FillF.keep (h : FillF T w wr rows k) (hb : Below wr.heap.size wr w1) : FillF T w w1 rows k := by
  have hl := h.lt
  obtain ⟨cur, h1, h2, h3, h4, h5⟩ := h
  exact ⟨cur, (hb.block _ hl).trans h1, h2, fun j row hj hr => by obtain ⟨u, a, b⟩ := h3 j row hj hr; exact ⟨u, a, b.keep hb⟩, h4, h5.trans (hb.mono (by omega))⟩
theorem FillF.cell (h : FillF T w wr rows k) {j : Nat} (hj : j < rows.length) : ∃ u, wr.cell? ⟨w.heap.size, j, none⟩ = some u ∧ wr.frozen? ⟨w.heap.size, j, none⟩ = false := by
  obtain ⟨cur, h1, h2, h3, h4, h5⟩ := h
  exact ⟨cur[j]'(by omega), (blk_cell h1 j).trans (Array.getElem?_eq_getElem (by omega)), blk_free h1 j⟩
/-- what stands there -/
theorem FillF.old (h : FillF T w wr rows k) {j : Nat} {x : Value} (hj : j < k) (hk : k ≤ rows.length) (hx : wr.cell? ⟨w.heap.size, j, none⟩ = some x) : ∀ b, x.ownBlock = some b → b < wr.heap.size := by
  obtain ⟨cur, h1, h2, h3, h4, h5⟩ := h
  obtain ⟨u, a, b⟩ := h3 j rows[j] hj (List.getElem?_eq_getElem (by omega))
  rw [blk_cell h1, a] at hx
  cases hx
  exact fun b' hb' => (own_lt b b' hb').2
theorem FillF.put (h : FillF T w wr rows k) (hk : k < rows.length) {u : Value} {row : List Int} (hr : rows[k]? = some row) (hu : OInts wr (w.heap.size + 1) u row) (ha : ∀ (i : Nat) (x : Value), i < k → wr.cell? ⟨w.heap.size, i, none⟩ = some x → Apart x u) :
    FillF T w (wr.setCell ⟨w.heap.size, k, none⟩ u) rows (k + 1) := by
  obtain ⟨cur, h1, h2, h3, h4, h5⟩ := h
  refine ⟨_, blk_set h1 k u, by simpa using h2, fun j row' hj hrow => ?_, fun i j x x' hij hjk hi hj => ?_, h5.setCell (Nat.le_refl _) _⟩
  · by_cases hjk : k = j
    · subst hjk
      rw [hr] at hrow
      cases hrow
      exact ⟨u, by rw [Array.getElem?_setIfInBounds, if_pos rfl, if_pos (by omega)], hu.setLow (by omega) _ _⟩
    · obtain ⟨x, hx, hxo⟩ := h3 j row' (by omega) hrow
      exact ⟨x, by rw [Array.getElem?_setIfInBounds, if_neg hjk]; exact hx, hxo.setLow (by omega) _ _⟩
  · rw [Array.getElem?_setIfInBounds, if_neg (by omega)] at hi
    by_cases hjk' : k = j
    · subst hjk'
      rw [Array.getElem?_setIfInBounds, if_pos rfl, if_pos (by omega)] at hj
      cases hj
      exact ha i x hij (by rw [blk_cell h1]; exact hi)
    · rw [Array.getElem?_setIfInBounds, if_neg hjk'] at hj
      exact h4 i j x x' hij (by omega) hi hj
theorem apart_old {w1 : World} {B : Nat} {x u : Value} {row : List Int} (hx : ∀ b, x.ownBlock = some b → b < B) (hu : OInts w1 B u row) : Apart x u := by
  unfold Apart
  cases hb : x.ownBlock with
  | none => exact .inl rfl
  | some b => right; intro e; have := hx b hb; have := (own_lt hu b e.symm).1; omega
theorem FillF.put3 (h : FillF T w wr rows (k * 3)) (hb : Below wr.heap.size wr w1) {a b c : Value} {e : MEq} (he : OEq w1 wr.heap.size (.agg #[a, b, c]) e) (hk : k * 3 + 3 ≤ rows.length)
    (r0 : rows[k * 3]? = some e.vars) (r1 : rows[k * 3 + 1]? = some e.left) (r2 : rows[k * 3 + 2]? = some e.right) :
    FillF T w (((w1.setCell ⟨w.heap.size, k * 3, none⟩ a).setCell ⟨w.heap.size, k * 3 + 1, none⟩ b).setCell ⟨w.heap.size, k * 3 + 2, none⟩ c) rows (k * 3 + 3) := by
  have hl := h.lt
  obtain ⟨a', b', c', e', h1, h2, h3, p1, p2, p3⟩ := he
  injection e' with e'
  simp at e'
  obtain ⟨rfl, rfl, rfl⟩ := e'
  have h0 := h.keep hb
  have old : ∀ (j : Nat) (x : Value), j < k * 3 → w1.cell? ⟨w.heap.size, j, none⟩ = some x → ∀ b, x.ownBlock = some b → b < wr.heap.size := fun j x hj hx => by
    refine h.old hj (by omega) ?_
    obtain ⟨cur, q1, _⟩ := h
    have q2 := (hb.block _ hl).trans q1
    rw [blk_cell q2] at hx
    rw [blk_cell q1]; exact hx
  have f1 := h0.put (by omega) r0 (h1.base (by omega)) (fun i x hi hx => apart_old (old i x hi hx) h1)
  have c1 : ∀ (i : Nat) (x u : Value), (w1.setCell ⟨w.heap.size, k * 3, none⟩ u).cell? ⟨w.heap.size, i, none⟩ = some x → i < k * 3 → w1.cell? ⟨w.heap.size, i, none⟩ = some x := fun i x u hx hi => by
    rwa [World.cell?_setCell_other _ _ _ _ (by intro e; injection e; omega)] at hx
  have f2 := f1.put (by omega) r1 ((h2.base (by omega)).setLow (by omega) _ _) (fun i x hi hx => by
    by_cases hi3 : i < k * 3
    · exact apart_old (old i x hi3 (c1 i x _ hx hi3)) h2
    · have : i = k * 3 := by omega
      subst this
      obtain ⟨cur, q1, q2, -⟩ := h0
      rw [blk_cell (blk_set q1 (k * 3) a), Array.getElem?_setIfInBounds, if_pos rfl, if_pos (by omega)] at hx
      cases hx
      exact p1)
  have f3 := f2.put (by omega) r2 (((h3.base (by omega)).setLow (by omega) _ _).setLow (by omega) _ _) (fun i x hi hx => by
    obtain ⟨cur, q1, q2, -⟩ := h0
    have s1 := blk_set q1 (k * 3) a
    have s2 := blk_set s1 (k * 3 + 1) b
    rw [blk_cell s2, Array.getElem?_setIfInBounds] at hx
    by_cases hi4 : k * 3 + 1 = i
    · subst hi4
      rw [if_pos rfl, if_pos (by simp; omega)] at hx
      cases hx
      exact p3
    · rw [if_neg hi4, Array.getElem?_setIfInBounds] at hx
      by_cases hi5 : k * 3 = i
      · subst hi5
        rw [if_pos rfl, if_pos (by omega)] at hx
        cases hx
        exact p2
      · rw [if_neg hi5] at hx
        exact apart_old (old i x (by omega) (by rw [blk_cell q1]; exact hx)) h3)
  exact f3
theorem FillF.done {n size : Nat} (h : FillF T w wr rows k) (hk : k = rows.length) (hn : n * size = rows.length) (hm : n ≤ 9223372036854775807) : ORowsT T size n wr w.heap.size (.slice (some ⟨w.heap.size, 0, none⟩) n n) rows ∧ Below w.heap.size w wr := by
  obtain ⟨cur, h1, h2, h3, h4, h5⟩ := h
  subst hk
  refine ⟨⟨cur.toList, ?_, by simpa using h2, fun j u row hu hrow => ?_, fun i j u u' hij hi hj => ?_⟩, h5⟩
  · refine ⟨by simp [h2, hn], .inr ⟨w.heap.size, _, cur, rfl, Nat.le_refl _, h1, Nat.le_refl _, by rw [maxLen_eq]; exact hm, by omega, List.take_of_length_le (by simp; omega)⟩⟩
  · obtain ⟨x, hx, hxo⟩ := h3 j row (List.getElem?_eq_some_iff.1 hrow).1 hrow
    rw [Array.getElem?_toList, hx] at hu
    cases hu
    exact hxo.base (by omega)
  · rw [Array.getElem?_toList] at hi hj
    exact h4 i j u u' hij (by have := (Array.getElem?_eq_some_iff.1 hj).1; omega) hi hj
end

def OEqs (w : World) (B : Nat) (v : Value) (es : List MEq) : Prop := ORowsT 41 3 es.length w B v (rows3 es)
section
variable {T : TypeId} {size n : Nat} {w w' : World} {B B' : Nat} {v : Value} {rows : List (List Int)} {es : List MEq}
theorem ORowsT.keep (h : ORowsT T size n w B v rows) (hb : Below w.heap.size w w') : ORowsT T size n w' B v rows := by
  obtain ⟨us, h1, h2, h3, h4⟩ := h
  exact ⟨us, own_keep h1 hb, h2, fun j u row a b => (h3 j u row a b).keep hb, h4⟩
theorem ORowsT.base (h : ORowsT T size n w B v rows) (hB : B' ≤ B) : ORowsT T size n w B' v rows := by
  obtain ⟨us, h1, h2, h3, h4⟩ := h
  exact ⟨us, own_base h1 hB, h2, fun j u row a b => (h3 j u row a b).base hB, h4⟩
theorem ORowsT.setLow {b : Nat} (h : ORowsT T size n w B v rows) (hb : b < B) (i : Nat) (x : Value) : ORowsT T size n (w.setCell ⟨b, i, none⟩ x) B v rows := by
  obtain ⟨us, h1, h2, h3, h4⟩ := h
  exact ⟨us, ownsRow_setCell_below h1 hb _, h2, fun j u row a b' => (h3 j u row a b').setLow hb _ _, h4⟩
theorem wide_reads {e : TypeId} {zs : List Value} (h : w.ownsRow B e size v n zs) : ∃ A c, v = .slice A n c ∧ n ≤ c ∧ c ≤ maxLen ∧ ∀ j x, zs[j]? = some x → ∃ b, A = some ⟨b, 0, none⟩ ∧ w.cell? ⟨b, j, none⟩ = some x := by
  obtain ⟨hl, h⟩ := h
  rcases h with ⟨rfl, rfl⟩ | ⟨g, cap, cur, rfl, hg, hh, h1, h2, h3, h4⟩
  · refine ⟨none, 0, rfl, Nat.le_refl _, Nat.zero_le _, fun j x hj => ?_⟩
    have : zs = [] := List.eq_nil_of_length_eq_zero (by simpa using hl)
    subst this
    simp at hj
  · refine ⟨_, cap, rfl, h1, h2, fun j x hj => ⟨g, rfl, ?_⟩⟩
    subst h4
    rw [List.getElem?_take] at hj
    split at hj
    · simpa [World.cell?, hh] using hj
    · cases hj
theorem OEqs.reads (h : OEqs w B v es) : REqs w v es := by
  obtain ⟨us, h1, h2, h3, -⟩ := h
  obtain ⟨A, c, e, k1, k2, k3⟩ := wide_reads h1
  refine ⟨A, c, e, k1, k2, fun j q hj => ?_⟩
  obtain ⟨r0, r1, r2⟩ := rows3_at es j q hj
  have hjl := (List.getElem?_eq_some_iff.1 hj).1
  have hl := rows3_len es
  have get : ∀ i, i < es.length * 3 → ∃ u, us[i]? = some u := fun i hi => ⟨us[i]'(by omega), List.getElem?_eq_getElem _⟩
  obtain ⟨x, hx⟩ := get (j * 3) (by omega)
  obtain ⟨y, hy⟩ := get (j * 3 + 1) (by omega)
  obtain ⟨z, hz⟩ := get (j * 3 + 2) (by omega)
  obtain ⟨b, ea, c0⟩ := k3 _ x hx
  obtain ⟨b1, ea1, c1⟩ := k3 _ y hy
  obtain ⟨b2, ea2, c2⟩ := k3 _ z hz
  rw [ea] at ea1 ea2
  cases ea1
  cases ea2
  exact ⟨b, 0, x, y, z, ea, by simpa using c0, by simpa using c1, by simpa using c2, (h3 _ _ _ hx r0).reads, (h3 _ _ _ hy r1).reads, (h3 _ _ _ hz r2).reads⟩
end

theorem szEqS_any (v : Value) (es : List MEq) (left : Int) (w : World) (h : REqs w v es) (h0 : 0 ≤ left) (h1 : left ≤ 1048576) :
    Calls Try.prog 101 #[v, .int .i64 left] w fun e w' => ∃ r : Int, e = .returned (.int .i64 r) ∧ (r < 0 ∨ (0 ≤ r ∧ r ≤ left ∧ FitsEs es)) ∧ Below w.heap.size w w' := by
  have H := Lib.hid h
  have hn := h.len
  obtain ⟨A, c, rfl, -⟩ := h.form
  clear h
  by_cases hl : left - (es.length : Int) < 0
  · go_enter Try.func101, Try.ntmps101
    go_wp2
    go_ret
    exact ⟨-1, rfl, .inl (by omega), Below.refl _ _⟩
  · go_enter Try.func101, Try.ntmps101
    go_wp2
    go_loopw [1, 5] (fun l i wr => ∃ k : Nat, ∃ r : Int, k ≤ es.length ∧ i = .int .i64 k ∧ l = .int .i64 r ∧ 0 ≤ r ∧ r ≤ left ∧ (∀ e ∈ es.take k, FitsE e) ∧ Below w.heap.size w wr) (fun _ i _ => es.length - (intOf i).toNat)
    case atStart => exact ⟨0, _, Nat.zero_le _, rfl, rfl, by omega, by omega, by simp, Below.refl _ _⟩
    case round =>
      obtain ⟨k, r, hk, rfl, rfl, hr0, hr1, hb0, hbw⟩ := hrel
      have hb := Lib.hid hb0
      have HBW := Lib.hid hbw
      clear hb0 hbw
      by_cases hlt : k < es.length
      · obtain ⟨b, o, c', x, y, z, e, c0, c1, c2, q0, q1, q2⟩ := (H.out.keep HBW.out).at_ hlt
        cases e
        have HT := Lib.hid (List.take_succ_eq_append_getElem hlt)
        generalize es[k] = e at q0 q1 q2 HT
        have HI := Lib.hid (show REq wr (.agg #[x, y, z]) e from ⟨x, y, z, rfl, q0, q1, q2⟩)
        obtain ⟨A0, d0, rfl, -⟩ := q0.form
        obtain ⟨A1, d1, rfl, -⟩ := q1.form
        obtain ⟨A2, d2, rfl, -⟩ := q2.form
        clear q0 q1 q2
        go_wp2_with fail
        refine (szEq_any _ e _ _ HI.out hr0 (by omega)).mono ?_
        rintro e' w1 ⟨r', rfl, hr', hb1⟩
        have HB1 := Lib.hid (sz_keep HBW.out hb1)
        clear hb1 c0 c1 c2
        by_cases hneg : r' < 0
        · clear hr'
          go_wp2
          go_ret
          exact ⟨-1, rfl, .inl (by omega), HB1.out⟩
        · obtain ⟨h2, h3, h4⟩ := hr'.resolve_left hneg
          have HR := Lib.hid (And.intro h3 h4)
          clear h3 h4 hr'
          go_wp2
          go_roundw
          case rel =>
            refine ⟨k + 1, r', by omega, by go_num, rfl, h2, by have := HR.out.1; omega, ?_, HB1.out⟩
            rw [HT.out]
            intro x hx
            rcases List.mem_append.1 hx with hx | hx
            · exact hb.out x hx
            · simp at hx; subst hx; exact HR.out.2
          case measure => simp [intOf]; omega
      · go_wp2
        go_ret
        have h := hb.out
        rw [take_all (by omega)] at h
        exact ⟨r, rfl, .inr ⟨hr0, hr1, by omega, h⟩, HBW.out⟩

set_option maxRecDepth 100000 in
theorem toEqS_any (v : Value) (es : List MEq) (w : World) (h : REqs w v es) (hs : FitsEs es) :
    Calls Try.prog 109 #[v] w fun e w' => ∃ u, e = .returned u ∧ OEqs w' w.heap.size u es ∧ Below w.heap.size w w' := by
  have H := Lib.hid h
  have HS := Lib.hid hs
  obtain ⟨A, c, rfl, -⟩ := h.form
  have hlen := hs.1
  have HL := Lib.hid (rows3_len es)
  clear h hs
  have hmk := run_make_wide 78 41 _ 3 72 Try.underlying78 Try.tinfo_Eq .i64 .i64 es.length (by omega) (by omega)
  go_enter Try.func109, Try.ntmps109
  go_wp2
  go_loopw [4] (fun i wr => ∃ k : Nat, k ≤ es.length ∧ i = .int .i64 k ∧ FillF 41 w wr (rows3 es) (k * 3)) (fun i _ => es.length - (intOf i).toNat)
  case atStart => exact ⟨0, Nat.zero_le _, rfl, FillF.start _ w _ _ (by rw [HL.out]; simp [madeCells])⟩
  case round =>
    obtain ⟨k, hk, rfl, hf⟩ := hrel
    have HF := Lib.hid hf
    clear hf hmk
    by_cases hlt : k < es.length
    · obtain ⟨b, o, c', x, y, z, e, c0, c1, c2, q0, q1, q2⟩ := (H.out.keep HF.out.bel).at_ hlt
      cases e
      have hfe := HS.out.2 _ (List.getElem_mem hlt)
      have HR3 := Lib.hid (rows3_at es k _ (List.getElem?_eq_getElem hlt))
      generalize es[k] = e at q0 q1 q2 hfe HR3
      have HI := Lib.hid (show REq wr (.agg #[x, y, z]) e from ⟨x, y, z, rfl, q0, q1, q2⟩)
      have HFE := Lib.hid hfe
      obtain ⟨A0, d0, rfl, -⟩ := q0.form
      obtain ⟨A1, d1, rfl, -⟩ := q1.form
      obtain ⟨A2, d2, rfl, -⟩ := q2.form
      clear q0 q1 q2 hfe
      go_wp2_with fail
      refine (toEq_any _ e _ HI.out HFE.out).mono ?_
      rintro e' w1 ⟨u, rfl, ho, hb⟩
      obtain ⟨B0, g0, B1, g1, B2, g2, rfl⟩ := ho.reads.form
      have hkp := HF.out.keep hb
      obtain ⟨z0, m0, n0⟩ := hkp.cell (j := k * 3) (by have := HL.out; omega)
      obtain ⟨z1, m1, n1⟩ := hkp.cell (j := k * 3 + 1) (by have := HL.out; omega)
      obtain ⟨z2, m2, n2⟩ := hkp.cell (j := k * 3 + 2) (by have := HL.out; omega)
      have HN := Lib.hid (HF.out.put3 hb ho (by have := HL.out; omega) HR3.out.1 HR3.out.2.1 HR3.out.2.2)
      clear ho hb hkp c0 c1 c2
      go_wp2
      go_roundw
      case rel => exact ⟨k + 1, by omega, by go_num, by rw [show (k + 1) * 3 = k * 3 + 3 by omega]; exact HN.out⟩
      case measure => simp [intOf]; omega
    · have hkn : k = es.length := by omega
      go_wp2
      go_ret
      obtain ⟨r1, r2⟩ := HF.out.done (n := es.length) (size := 3) (by rw [HL.out]; omega) (by rw [HL.out]) (by omega)
      exact ⟨_, rfl, r1, r2⟩

theorem eq_drew (w : World) : Below w.heap.size w w.drew := ⟨rfl, rfl, rfl, Nat.le_refl _, fun _ _ => rfl⟩
theorem eq_undrew {w w' : World} (h : Below w.drew.heap.size w.drew w') : Below w.heap.size w w' := ⟨h.os, h.tape, h.output, h.size, h.block⟩
theorem takeE_bad {xs ys : List MEq} {k : Nat} (hx : k < xs.length) (hy : k < ys.length) (he : sameE xs[k] ys[k] = false) : sameEs xs ys = false := by
  cases h : sameEs xs ys with
  | false => rfl
  | true =>
    have := sameEs_eq.1 h
    subst this
    rw [sameE_self] at he
    cases he
theorem eqEqS_any (v v' : Value) (xs ys : List MEq) (w : World) (h : REqs w v xs) (h' : REqs w v' ys) :
    Calls Try.prog 117 #[v, v'] w fun e w' => e = .returned (.bool (sameEs xs ys)) ∧ Below w.heap.size w w' := by
  have H := Lib.hid h
  have H' := Lib.hid h'
  have hn := h.len
  have hn' := h'.len
  obtain ⟨A, c, rfl, -⟩ := h.form
  obtain ⟨A', c', rfl, -⟩ := h'.form
  clear h h'
  by_cases hl : xs.length = ys.length
  · have hl' : ((xs.length : Int) != (ys.length : Int)) = false := by simp [hl]
    have HL := Lib.hid hl
    have hle : xs.length ≤ ys.length := by omega
    have hge : ys.length ≤ xs.length := by omega
    clear hl
    go_enter Try.func117, Try.ntmps117
    go_wp2
    go_loopw [5] (fun i wr => ∃ k : Nat, k ≤ xs.length ∧ i = .int .i64 k ∧ xs.take k = ys.take k ∧ Below w.heap.size w wr) (fun i _ => xs.length - (intOf i).toNat)
    case atStart => exact ⟨0, Nat.zero_le _, rfl, rfl, Below.refl _ _⟩
    case round =>
      obtain ⟨k, hk, rfl, hb0, hd⟩ := hrel
      have hb := Lib.hid hb0
      have HD := Lib.hid hd
      clear hb0 hd
      by_cases hlt : k < xs.length
      · obtain ⟨b, o, c3, x0, x1, x2, e, c00, c01, c02, q0, q1, q2⟩ := (H.out.keep HD.out).at_ hlt
        cases e
        obtain ⟨b', o', c4, y0, y1, y2, e, d00, d01, d02, p0, p1, p2⟩ := (H'.out.keep HD.out).at_ (show k < ys.length by omega)
        cases e
        have hs1 : (k : Int) < (xs.length : Int) := by omega
        have hs2 : (k : Int) < (ys.length : Int) := by omega
        have HT := Lib.hid (take_succ_eq hlt (show k < ys.length by omega) hb.out)
        have HN := Lib.hid (takeE_bad hlt (show k < ys.length by omega))
        generalize xs[k] = x at q0 q1 q2 HT HN
        generalize ys[k]'(by omega) = y at p0 p1 p2 HT HN
        have HX := Lib.hid (show REq wr (.agg #[x0, x1, x2]) x from ⟨x0, x1, x2, rfl, q0, q1, q2⟩)
        have HY := Lib.hid (show REq wr (.agg #[y0, y1, y2]) y from ⟨y0, y1, y2, rfl, p0, p1, p2⟩)
        obtain ⟨A0, g0, rfl, -⟩ := q0.form
        obtain ⟨A1, g1, rfl, -⟩ := q1.form
        obtain ⟨A2, g2, rfl, -⟩ := q2.form
        obtain ⟨B0, h0, rfl, -⟩ := p0.form
        obtain ⟨B1, h1, rfl, -⟩ := p1.form
        obtain ⟨B2, h2, rfl, -⟩ := p2.form
        clear q0 q1 q2 p0 p1 p2
        have ea := World.new_ne wr _ c00
        have eb := World.new_ne wr _ d00
        cases hxy : sameE x y with
        | true =>
          have HXY := Lib.hid hxy
          clear hxy
          go_wp2_with fail
          go_region_held3 (fun w' => w'.cell? ⟨b, o + k * 3, none⟩ = some (.slice A0 x.vars.length g0) ∧ w'.cell? ⟨b, o + k * 3 + 1, none⟩ = some (.slice A1 x.left.length g1) ∧ w'.cell? ⟨b, o + k * 3 + 2, none⟩ = some (.slice A2 x.right.length g2) ∧ w'.cell? ⟨b', o' + k * 3, none⟩ = some (.slice B0 y.vars.length h0) ∧ w'.cell? ⟨b', o' + k * 3 + 1, none⟩ = some (.slice B1 y.left.length h1) ∧ w'.cell? ⟨b', o' + k * 3 + 2, none⟩ = some (.slice B2 y.right.length h2)) (first | go_keep)
            (first
              | (go_at_call 50; refine (eqEq_is _ _ _ _ wr.drew _ HXY.out (HX.out.keep (eq_drew _)) (HY.out.keep (eq_drew _))).mono ?_; rintro e w2 ⟨rfl, hb2⟩; have HB2 := Lib.hid (eq_undrew hb2); have j0 := cell_keep HB2.out c00; have j1 := cell_keep HB2.out c01; have j2 := cell_keep HB2.out c02; have j3 := cell_keep HB2.out d00; have j4 := cell_keep HB2.out d01; have j5 := cell_keep HB2.out d02; clear hb2))
          have HBN := Lib.hid (sz_keep HD.out HB2.out)
          clear c00 c01 c02 d00 d01 d02 j0 j1 j2 j3 j4 j5 ea eb
          go_wp2
          go_roundw
          case rel => exact ⟨k + 1, by omega, by go_num, HT.out (sameE_eq.1 HXY.out), HBN.out⟩
          case measure => simp [intOf]; omega
        | false =>
          have HXY := Lib.hid hxy
          clear hxy
          go_wp2_with fail
          go_region_held3 (fun w' => w'.cell? ⟨b, o + k * 3, none⟩ = some (.slice A0 x.vars.length g0) ∧ w'.cell? ⟨b, o + k * 3 + 1, none⟩ = some (.slice A1 x.left.length g1) ∧ w'.cell? ⟨b, o + k * 3 + 2, none⟩ = some (.slice A2 x.right.length g2) ∧ w'.cell? ⟨b', o' + k * 3, none⟩ = some (.slice B0 y.vars.length h0) ∧ w'.cell? ⟨b', o' + k * 3 + 1, none⟩ = some (.slice B1 y.left.length h1) ∧ w'.cell? ⟨b', o' + k * 3 + 2, none⟩ = some (.slice B2 y.right.length h2)) (first | go_keep)
            (first
              | (go_at_call 50; refine (eqEq_is _ _ _ _ wr.drew _ HXY.out (HX.out.keep (eq_drew _)) (HY.out.keep (eq_drew _))).mono ?_; rintro e w2 ⟨rfl, hb2⟩; have HB2 := Lib.hid (eq_undrew hb2); have j0 := cell_keep HB2.out c00; have j1 := cell_keep HB2.out c01; have j2 := cell_keep HB2.out c02; have j3 := cell_keep HB2.out d00; have j4 := cell_keep HB2.out d01; have j5 := cell_keep HB2.out d02; clear hb2))
          have HBN := Lib.hid (sz_keep HD.out HB2.out)
          clear c00 c01 c02 d00 d01 d02 j0 j1 j2 j3 j4 j5 ea eb
          go_wp2
          go_ret
          exact ⟨ret_bool (HN.out HXY.out).symm, HBN.out⟩
      · go_wp2
        go_ret
        have h := hb.out
        rw [take_all (by omega), take_all (by omega)] at h
        exact ⟨ret_bool (by rw [h, sameEs_self]), HD.out⟩
  · have hl' : ((xs.length : Int) != (ys.length : Int)) = true := by simp; omega
    have HL := Lib.hid hl
    clear hl
    go_enter Try.func117, Try.ntmps117
    go_wp2
    go_ret
    refine ⟨ret_bool ?_, Below.refl _ _⟩
    cases h : sameEs xs ys with
    | false => rfl
    | true => have := sameEs_eq.1 h; subst this; exact absurd rfl HL.out
end

section
open Go.RowKit
set_option linter.unusedVariables false

/-- a theory that a call has made: the rows of its operations lie apart from those of its axioms -/
def OThy (w : World) (B : Nat) (v : Value) (t : MThy) : Prop := ∃ u x, v = .agg #[.int .i64 t.over.sorts, u, x] ∧ ∃ (wc : World) (B0 : Nat), B ≤ B0 ∧ B0 ≤ wc.heap.size ∧ wc.heap.size ≤ w.heap.size ∧ ORows wc B0 u t.over.ops ∧ (∀ k, B0 ≤ k → k < wc.heap.size → w.heap[k]? = wc.heap[k]?) ∧ OEqs w wc.heap.size x t.eqs
theorem orows_same {w w' : World} {B : Nat} {v : Value} {rows : List (List Int)} (h : ORows w B v rows) (hk : ∀ k, B ≤ k → k < w.heap.size → w'.heap[k]? = w.heap[k]?) : ORows w' B v rows := by
  obtain ⟨us, h1, h2, h3, h4⟩ := h
  have same : ∀ {B2 : Nat} {e : TypeId} {size n : Nat} {v : Value} {zs : List Value}, B ≤ B2 → w.ownsRow B2 e size v n zs → w'.ownsRow B2 e size v n zs := fun hB h => by
    refine ⟨h.1, ?_⟩
    rcases h.2 with h2 | ⟨g, cap, cur, rfl, hg, hh, r⟩
    · exact .inl h2
    · exact .inr ⟨g, cap, cur, rfl, hg, (hk g (by omega) (Array.getElem?_eq_some_iff.1 hh).1).trans hh, r⟩
  exact ⟨us, same (Nat.le_refl _) h1, h2, fun j u row a b => same (Nat.le_refl _) (h3 j u row a b), h4⟩
theorem orowsT_same {T : TypeId} {size n : Nat} {w w' : World} {B : Nat} {v : Value} {rows : List (List Int)} (h : ORowsT T size n w B v rows) (hk : ∀ k, B ≤ k → k < w.heap.size → w'.heap[k]? = w.heap[k]?) : ORowsT T size n w' B v rows := by
  obtain ⟨us, h1, h2, h3, h4⟩ := h
  have same : ∀ {B2 : Nat} {e : TypeId} {size n : Nat} {v : Value} {zs : List Value}, B ≤ B2 → w.ownsRow B2 e size v n zs → w'.ownsRow B2 e size v n zs := fun hB h => by
    refine ⟨h.1, ?_⟩
    rcases h.2 with h2 | ⟨g, cap, cur, rfl, hg, hh, r⟩
    · exact .inl h2
    · exact .inr ⟨g, cap, cur, rfl, hg, (hk g (by omega) (Array.getElem?_eq_some_iff.1 hh).1).trans hh, r⟩
  exact ⟨us, same (Nat.le_refl _) h1, h2, fun j u row a b => same (Nat.le_refl _) (h3 j u row a b), h4⟩
section
variable {w w' : World} {B B' : Nat} {v : Value} {t : MThy}
theorem OThy.same (h : OThy w B v t) (hs : w.heap.size ≤ w'.heap.size) (hk : ∀ k, B ≤ k → k < w.heap.size → w'.heap[k]? = w.heap[k]?) : OThy w' B v t := by
  obtain ⟨u, x, rfl, wc, B0, z, a, b, c, d, e⟩ := h
  exact ⟨u, x, rfl, wc, B0, z, a, by omega, c, fun k h1 h2 => (hk k (by omega) (by omega)).trans (d k h1 h2), orowsT_same e fun k h1 h2 => hk k (by omega) h2⟩
theorem OThy.keep (h : OThy w B v t) (hb : Below w.heap.size w w') : OThy w' B v t := h.same hb.size fun k _ hk => hb.block k hk
theorem OThy.base (h : OThy w B v t) (hB : B' ≤ B) : OThy w B' v t := by
  obtain ⟨u, x, rfl, wc, B0, z, r⟩ := h
  exact ⟨u, x, rfl, wc, B0, by omega, r⟩
theorem OThy.rows (h : OThy w B v t) : ∃ u x, v = .agg #[.int .i64 t.over.sorts, u, x] ∧ ORows w B u t.over.ops ∧ OEqs w B x t.eqs := by
  obtain ⟨u, x, rfl, wc, B0, z, a, b, c, d, e⟩ := h
  exact ⟨u, x, rfl, (orows_same c d).base z, e.base (by omega)⟩
theorem OThy.reads (h : OThy w B v t) : RThy w v t := by
  obtain ⟨u, x, rfl, h1, h2⟩ := h.rows
  exact ⟨u, x, rfl, h1.reads, h2.reads⟩
end
def FitsT (t : MThy) : Prop := Fits t.over.ops ∧ FitsEs t.eqs
def sameT (a b : MThy) : Bool := sameS a.over b.over && sameEs a.eqs b.eqs
theorem sameT_self (a : MThy) : sameT a a = true := by unfold sameT; rw [sameS_self, sameEs_self]; rfl

set_option maxRecDepth 100000 in
theorem szTheory_any (v : Value) (t : MThy) (left : Int) (w : World) (h : RThy w v t) (h0 : 0 ≤ left) (h1 : left ≤ 1048576) :
    Calls Try.prog 37 #[v, .int .i64 left] w fun e w' => ∃ r : Int, e = .returned (.int .i64 r) ∧ (r < 0 ∨ (0 ≤ r ∧ r ≤ left ∧ FitsT t)) ∧ Below w.heap.size w w' := by
  obtain ⟨Ata, cta, Atb, ctb, rfl⟩ := h.form
  have hb : Below w.heap.size w (w.alloc (.cells #[.int .i64 t.over.sorts, .slice Ata t.over.ops.length cta, .slice Atb t.eqs.length ctb] 69)) := below_alloc _ _
  have HB := Lib.hid hb
  have hsz : (w.alloc (.cells #[.int .i64 t.over.sorts, .slice Ata t.over.ops.length cta, .slice Atb t.eqs.length ctb] 69)).heap.size = w.heap.size + 1 := by simp
  have Ht := Lib.hid (h.keep hb)
  have t0 := bx_at (w) #[.int .i64 t.over.sorts, .slice Ata t.over.ops.length cta, .slice Atb t.eqs.length ctb] 69 (k := 0) rfl
  have t1 := bx_at (w) #[.int .i64 t.over.sorts, .slice Ata t.over.ops.length cta, .slice Atb t.eqs.length ctb] 69 (k := 1) rfl
  have t2 := bx_at (w) #[.int .i64 t.over.sorts, .slice Ata t.over.ops.length cta, .slice Atb t.eqs.length ctb] 69 (k := 2) rfl
  generalize hW : w.alloc (.cells #[.int .i64 t.over.sorts, .slice Ata t.over.ops.length cta, .slice Atb t.eqs.length ctb] 69) = W at HB hsz Ht t0 t1 t2
  clear hb h
  obtain ⟨-, r1, r2⟩ := Ht.out.of
  have R1 := Lib.hid (show RSig W (.agg #[.int .i64 t.over.sorts, .slice Ata t.over.ops.length cta]) t.over from ⟨_, rfl, r1⟩)
  have R2 := Lib.hid r2
  clear r1 r2
  go_enter Try.func37, Try.ntmps37
  go_wp2_with fail
  clear hW
  refine (szSig_any _ t.over _ _ R1.out h0 h1).mono ?_
  rintro e w1 ⟨r, rfl, hr, hb⟩
  have HB1 := Lib.hid (sz_keep HB.out hb)
  have R21 := Lib.hid (R2.out.keep hb)
  have m1 := cell_keep hb t2
  clear hb t0 t1 t2
  by_cases hneg : r < 0
  · clear hr
    go_wp2
    go_ret
    exact ⟨-1, rfl, .inl (by omega), HB1.out⟩
  obtain ⟨hr2, hr3, hr4⟩ := hr.resolve_left hneg
  have HR := Lib.hid hr4
  have hr5 : r ≤ 1048576 := by omega
  clear hr hr4
  go_wp2_with fail
  refine (szEqS_any _ t.eqs _ _ R21.out hr2 hr5).mono ?_
  rintro e w2 ⟨q, rfl, hr, hb⟩
  have HB2 := Lib.hid (sz_keep HB1.out hb)
  clear hb m1
  by_cases hneg2 : q < 0
  · clear hr
    go_wp2
    go_ret
    exact ⟨-1, rfl, .inl (by omega), HB2.out⟩
  obtain ⟨hr6, hr7, hr8⟩ := hr.resolve_left hneg2
  have HQ := Lib.hid hr8
  clear hr hr8
  go_wp2
  go_ret
  exact ⟨q, rfl, .inr ⟨hr6, by omega, HR.out, HQ.out⟩, HB2.out⟩

theorem ORows.setLowT {w : World} {B b : Nat} {v : Value} {rows : List (List Int)} (h : ORows w B v rows) (hb : b < B) (i : Nat) (x : Value) : ORows (w.setCell ⟨b, i, none⟩ x) B v rows := h.setLow' hb i x

set_option maxRecDepth 100000 in
theorem toTheory_any (v : Value) (t : MThy) (w : World) (h : RThy w v t) (hs : FitsT t) :
    Calls Try.prog 42 #[v] w fun e' w' => ∃ u, e' = .returned u ∧ OThy w' w.heap.size u t ∧ Below w.heap.size w w' := by
  obtain ⟨At, ct, Bt, dt, rfl⟩ := h.form
  obtain ⟨-, h1, h2⟩ := h.of
  obtain ⟨hs1, hs2⟩ := hs
  have hm := Mk.start w 69 80 #[.int .i64 t.over.sorts, .slice At t.over.ops.length ct, .slice Bt t.eqs.length dt] #[.int .i64 0, .slice none 0 0, .slice none 0 0] #[.int .i64 0, .slice none 0 0, .slice none 0 0]
  generalize hW : ((w.alloc (.cells #[.int .i64 t.over.sorts, .slice At t.over.ops.length ct, .slice Bt t.eqs.length dt] 69)).alloc (.cells #[.int .i64 0, .slice none 0 0, .slice none 0 0] 80)).alloc (.cells #[.int .i64 0, .slice none 0 0, .slice none 0 0] 80) = W at hm
  have H1 := Lib.hid (show RSig W (.agg #[.int .i64 t.over.sorts, .slice At t.over.ops.length ct]) t.over from ⟨_, rfl, h1.keep hm.b⟩)
  have H2 := Lib.hid h2
  have HS1 := Lib.hid hs1
  have HS2 := Lib.hid hs2
  have p0 : W.cell? ⟨w.heap.size, 0, none⟩ = some (.int .i64 t.over.sorts) := hm.ca 0
  have p1 : W.cell? ⟨w.heap.size, 1, none⟩ = some (.slice At t.over.ops.length ct) := hm.ca 1
  have HM := Lib.hid hm
  clear h h1 h2 hm hs1 hs2
  go_enter Try.func42, Try.ntmps42
  go_wp2_with fail
  clear hW
  refine (toSig_any _ t.over _ H1.out HS1.out).mono ?_
  rintro e w4 ⟨u0, rfl, ho, hb⟩
  have hz := HM.out.z
  have hm := HM.out.below hb
  obtain ⟨B0, d0, rfl⟩ := ho.reads.form
  obtain ⟨u', eu, ho'⟩ := ho
  injection eu with eu
  simp at eu
  subst eu
  have q0 : w4.cell? ⟨w.heap.size + 2, 0, none⟩ = some (.int .i64 0) := hm.co 0
  have q1 : w4.cell? ⟨w.heap.size + 2, 1, none⟩ = some (.slice none 0 0) := hm.co 1
  have q2 := hm.fo 0
  have q3 := hm.fo 1
  have hm5 := (hm.setO 0 (.int .i64 t.over.sorts)).setO 1 (.slice B0 t.over.ops.length d0)
  have ho5 := (ho'.setLow' (b := w.heap.size + 2) (by omega) 0 (.int .i64 t.over.sorts)).setLow' (b := w.heap.size + 2) (by omega) 1 (.slice B0 t.over.ops.length d0)
  generalize hW5 : (w4.setCell ⟨w.heap.size + 2, 0, none⟩ (.int .i64 t.over.sorts)).setCell ⟨w.heap.size + 2, 1, none⟩ (.slice B0 t.over.ops.length d0) = w5 at hm5 ho5
  have p2 : w5.cell? ⟨w.heap.size, 2, none⟩ = some (.slice Bt t.eqs.length dt) := hm5.ca 2
  have HO5 := Lib.hid ho5
  have HM5 := Lib.hid hm5
  have HM5sz := Lib.hid (show W.heap.size ≤ w5.heap.size by have := hb.size; rw [← hW5]; simpa [World.setCell] using this)
  have H2 := Lib.hid (H2.out.keep hm5.b)
  clear ho' hb hm p0 p1 hm5 ho5 H1
  go_wp2_with fail
  clear hW5 q0 q1 q2 q3
  refine (toEqS_any _ t.eqs _ H2.out HS2.out).mono ?_
  rintro e w8 ⟨u2, rfl, ho, hb⟩
  have hz7 := HM5.out.z
  have hm := HM5.out.below hb
  obtain ⟨B2, d2, rfl, -⟩ := ho.reads.form
  have hm9 := (((hm.setO 2 (.slice B2 t.eqs.length d2)).setR 0 (.int .i64 t.over.sorts)).setR 1 (.slice B0 t.over.ops.length d0)).setR 2 (.slice B2 t.eqs.length d2)
  have o2 := (((ho.setLow (b := w.heap.size + 2) (by omega) 2 (.slice B2 t.eqs.length d2)).setLow (b := w.heap.size + 1) (by omega) 0 (.int .i64 t.over.sorts)).setLow (b := w.heap.size + 1) (by omega) 1 (.slice B0 t.over.ops.length d0)).setLow (b := w.heap.size + 1) (by omega) 2 (.slice B2 t.eqs.length d2)
  have hkk : ∀ k, w.heap.size + 3 ≤ k → k < w5.heap.size → ((((w8.setCell ⟨w.heap.size + 2, 2, none⟩ (.slice B2 t.eqs.length d2)).setCell ⟨w.heap.size + 1, 0, none⟩ (.int .i64 t.over.sorts)).setCell ⟨w.heap.size + 1, 1, none⟩ (.slice B0 t.over.ops.length d0)).setCell ⟨w.heap.size + 1, 2, none⟩ (.slice B2 t.eqs.length d2)).heap[k]? = w5.heap[k]? := fun k h1 h2 => by
    rw [Below.heap_setCell _ ⟨w.heap.size + 1, 2, none⟩ _ k (by show k ≠ w.heap.size + 1; omega), Below.heap_setCell _ ⟨w.heap.size + 1, 1, none⟩ _ k (by show k ≠ w.heap.size + 1; omega), Below.heap_setCell _ ⟨w.heap.size + 1, 0, none⟩ _ k (by show k ≠ w.heap.size + 1; omega), Below.heap_setCell _ ⟨w.heap.size + 2, 2, none⟩ _ k (by show k ≠ w.heap.size + 2; omega)]
    exact hb.block k h2
  have hsz9 : w5.heap.size ≤ ((((w8.setCell ⟨w.heap.size + 2, 2, none⟩ (.slice B2 t.eqs.length d2)).setCell ⟨w.heap.size + 1, 0, none⟩ (.int .i64 t.over.sorts)).setCell ⟨w.heap.size + 1, 1, none⟩ (.slice B0 t.over.ops.length d0)).setCell ⟨w.heap.size + 1, 2, none⟩ (.slice B2 t.eqs.length d2)).heap.size := by have := hb.size; simpa [World.setCell] using this
  have HF := Lib.hid (And.intro o2 (And.intro hkk hsz9))
  have HM9 := Lib.hid hm9
  have q0 : w8.cell? ⟨w.heap.size + 2, 0, none⟩ = some (.int .i64 t.over.sorts) := hm.co 0
  have q1 : w8.cell? ⟨w.heap.size + 2, 1, none⟩ = some (.slice B0 t.over.ops.length d0) := hm.co 1
  have q2 : w8.cell? ⟨w.heap.size + 2, 2, none⟩ = some (.slice none 0 0) := hm.co 2
  have q3 := hm.fo 2
  have q4 : w8.cell? ⟨w.heap.size + 1, 0, none⟩ = some (.int .i64 0) := hm.cr 0
  have q5 : w8.cell? ⟨w.heap.size + 1, 1, none⟩ = some (.slice none 0 0) := hm.cr 1
  have q6 : w8.cell? ⟨w.heap.size + 1, 2, none⟩ = some (.slice none 0 0) := hm.cr 2
  have q7 := hm.fr 0
  have q8 := hm.fr 1
  have q9 := hm.fr 2
  clear ho hb hm hm9 o2 hkk hsz9 H2 p2
  go_wp2
  obtain ⟨o2, hkk, hsz9⟩ := HF.out
  have hm9 := HM9.out
  generalize (((w8.setCell ⟨w.heap.size + 2, 2, none⟩ (.slice B2 t.eqs.length d2)).setCell ⟨w.heap.size + 1, 0, none⟩ (.int .i64 t.over.sorts)).setCell ⟨w.heap.size + 1, 1, none⟩ (.slice B0 t.over.ops.length d0)).setCell ⟨w.heap.size + 1, 2, none⟩ (.slice B2 t.eqs.length d2) = w9 at o2 hkk hsz9 hm9 ⊢
  have k0 : w9.cell? ⟨w.heap.size + 1, 0, none⟩ = some (.int .i64 t.over.sorts) := hm9.cr 0
  have k1 : w9.cell? ⟨w.heap.size + 1, 1, none⟩ = some (.slice B0 t.over.ops.length d0) := hm9.cr 1
  have k2 : w9.cell? ⟨w.heap.size + 1, 2, none⟩ = some (.slice B2 t.eqs.length d2) := hm9.cr 2
  clear q0 q1 q2 q3 q4 q5 q6 q7 q8 q9
  refine bodyPost_ret (v := .agg #[.int .i64 t.over.sorts, .slice B0 t.over.ops.length d0, .slice B2 t.eqs.length d2]) (by simp [results, Try.results42, go_sem, k0, k1, k2]) rfl ?_
  exact ⟨_, rfl, ⟨_, _, rfl, w5, W.heap.size, by omega, HM5sz.out, hsz9, HO5.out, fun k h1 h2 => hkk k (by omega) h2, o2⟩, hm9.b⟩

theorem eqTheory_is (v v' : Value) (a b : MThy) (w : World) (r : Bool) (hr : sameT a b = r) (h : RThy w v a) (h' : RThy w v' b) :
    Calls Try.prog 49 #[v, v'] w fun e w' => e = .returned (.bool r) ∧ Below w.heap.size w w' := by
  subst hr
  obtain ⟨Aaa, caa, Aab, cab, rfl⟩ := h.form
  obtain ⟨Aba, cba, Abb, cbb, rfl⟩ := h'.form
  have hb : Below w.heap.size w ((w.alloc (.cells #[.int .i64 a.over.sorts, .slice Aaa a.over.ops.length caa, .slice Aab a.eqs.length cab] 80)).alloc (.cells #[.int .i64 b.over.sorts, .slice Aba b.over.ops.length cba, .slice Abb b.eqs.length cbb] 80)) := (below_alloc _ _).alloc (by simp) _
  have HB := Lib.hid hb
  have hsz : ((w.alloc (.cells #[.int .i64 a.over.sorts, .slice Aaa a.over.ops.length caa, .slice Aab a.eqs.length cab] 80)).alloc (.cells #[.int .i64 b.over.sorts, .slice Aba b.over.ops.length cba, .slice Abb b.eqs.length cbb] 80)).heap.size = w.heap.size + 2 := by simp
  have Ha := Lib.hid (h.keep hb)
  have a0 := cell_keep (below_alloc (w.alloc (.cells #[.int .i64 a.over.sorts, .slice Aaa a.over.ops.length caa, .slice Aab a.eqs.length cab] 80)) (.cells #[.int .i64 b.over.sorts, .slice Aba b.over.ops.length cba, .slice Abb b.eqs.length cbb] 80)) (bx_at (w) #[.int .i64 a.over.sorts, .slice Aaa a.over.ops.length caa, .slice Aab a.eqs.length cab] 80 (k := 0) rfl)
  have a1 := cell_keep (below_alloc (w.alloc (.cells #[.int .i64 a.over.sorts, .slice Aaa a.over.ops.length caa, .slice Aab a.eqs.length cab] 80)) (.cells #[.int .i64 b.over.sorts, .slice Aba b.over.ops.length cba, .slice Abb b.eqs.length cbb] 80)) (bx_at (w) #[.int .i64 a.over.sorts, .slice Aaa a.over.ops.length caa, .slice Aab a.eqs.length cab] 80 (k := 1) rfl)
  have a2 := cell_keep (below_alloc (w.alloc (.cells #[.int .i64 a.over.sorts, .slice Aaa a.over.ops.length caa, .slice Aab a.eqs.length cab] 80)) (.cells #[.int .i64 b.over.sorts, .slice Aba b.over.ops.length cba, .slice Abb b.eqs.length cbb] 80)) (bx_at (w) #[.int .i64 a.over.sorts, .slice Aaa a.over.ops.length caa, .slice Aab a.eqs.length cab] 80 (k := 2) rfl)
  have Hb := Lib.hid (h'.keep hb)
  have b0 := bx_at (w.alloc (.cells #[.int .i64 a.over.sorts, .slice Aaa a.over.ops.length caa, .slice Aab a.eqs.length cab] 80)) #[.int .i64 b.over.sorts, .slice Aba b.over.ops.length cba, .slice Abb b.eqs.length cbb] 80 (k := 0) rfl
  have b1 := bx_at (w.alloc (.cells #[.int .i64 a.over.sorts, .slice Aaa a.over.ops.length caa, .slice Aab a.eqs.length cab] 80)) #[.int .i64 b.over.sorts, .slice Aba b.over.ops.length cba, .slice Abb b.eqs.length cbb] 80 (k := 1) rfl
  have b2 := bx_at (w.alloc (.cells #[.int .i64 a.over.sorts, .slice Aaa a.over.ops.length caa, .slice Aab a.eqs.length cab] 80)) #[.int .i64 b.over.sorts, .slice Aba b.over.ops.length cba, .slice Abb b.eqs.length cbb] 80 (k := 2) rfl
  simp only [World.size_alloc] at b0 b1 b2
  generalize hW : (w.alloc (.cells #[.int .i64 a.over.sorts, .slice Aaa a.over.ops.length caa, .slice Aab a.eqs.length cab] 80)).alloc (.cells #[.int .i64 b.over.sorts, .slice Aba b.over.ops.length cba, .slice Abb b.eqs.length cbb] 80) = W at HB hsz Ha a0 a1 a2 Hb b0 b1 b2
  clear hb h h'
  obtain ⟨-, r1, r2⟩ := Ha.out.of
  obtain ⟨-, k1, k2⟩ := Hb.out.of
  have R1 := Lib.hid (show RSig W (.agg #[.int .i64 a.over.sorts, .slice Aaa a.over.ops.length caa]) a.over from ⟨_, rfl, r1⟩)
  have K1 := Lib.hid (show RSig W (.agg #[.int .i64 b.over.sorts, .slice Aba b.over.ops.length cba]) b.over from ⟨_, rfl, k1⟩)
  have R2 := Lib.hid r2
  have K2 := Lib.hid k2
  clear r1 r2 k1 k2
  cases x0 : sameS a.over b.over with
  | false =>
    have X0 := Lib.hid x0
    clear x0
    go_enter Try.func49, Try.ntmps49
    go_wp2_with fail
    clear hW
    refine (eqSig_is _ _ _ _ _ _ X0.out R1.out K1.out).mono ?_
    rintro e w1 ⟨rfl, hd⟩
    go_wp2
    go_ret
    exact ⟨ret_bool (by unfold sameT; rw [X0.out]; rfl), sz_keep HB.out hd⟩
  | true =>
    have X0 := Lib.hid x0
    clear x0
    obtain ⟨r, hr⟩ : ∃ r, sameEs a.eqs b.eqs = r := ⟨_, rfl⟩
    have HR := Lib.hid hr
    clear hr
    go_enter Try.func49, Try.ntmps49
    go_wp2_with fail
    clear hW
    refine (eqSig_is _ _ _ _ _ _ X0.out R1.out K1.out).mono ?_
    rintro e w1 ⟨rfl, hb⟩
    have HB1 := Lib.hid (sz_keep HB.out hb)
    have m1 := cell_keep hb a2
    have m2 := cell_keep hb b2
    have R2' := Lib.hid (R2.out.keep hb)
    have K2' := Lib.hid (K2.out.keep hb)
    clear hb a0 a1 a2 b0 b1 b2
    go_wp2_with fail
    refine (eqEqS_any _ _ _ _ _ R2'.out K2'.out).mono ?_
    rw [HR.out]
    rintro e w2 ⟨rfl, hb⟩
    have HB2 := Lib.hid (sz_keep HB1.out hb)
    clear hb m1 m2
    cases r with
    | false =>
      go_wp2
      go_ret
      exact ⟨ret_bool (by unfold sameT; rw [X0.out, HR.out]; rfl), HB2.out⟩
    | true =>
      go_wp2
      go_ret
      exact ⟨ret_bool (by unfold sameT; rw [X0.out, HR.out]; rfl), HB2.out⟩
end

section
open Go.RowKit
set_option linter.unusedVariables false

def marks (k : Int) (n : Nat) : List Int := (List.range n).map fun (i : Nat) => k + (i : Int)
theorem marks_len (k : Int) (n : Nat) : (marks k n).length = n := by simp [marks]
theorem marks_at {k : Int} {n j : Nat} (h : j < (marks k n).length) : (marks k n)[j] = k + (j : Int) := by simp [marks]

/-- of w's blocks only those from B on and below M may have turned, and none is new -/
structure Outside (B M : Nat) (w w' : World) : Prop where
  os : w'.os = w.os
  tape : w'.tape = w.tape
  output : w'.output = w.output
  size : w'.heap.size = w.heap.size
  block : ∀ k, k < B ∨ M ≤ k → w'.heap[k]? = w.heap[k]?
theorem Outside.refl (B M : Nat) (w : World) : Outside B M w w := ⟨rfl, rfl, rfl, rfl, fun _ _ => rfl⟩
theorem Outside.trans {B M : Nat} {a b c : World} (h : Outside B M a b) (k : Outside B M b c) : Outside B M a c :=
  ⟨k.os.trans h.os, k.tape.trans h.tape, k.output.trans h.output, k.size.trans h.size, fun i hi => (k.block i hi).trans (h.block i hi)⟩
theorem Outside.below {B M : Nat} {w w' : World} (h : Outside B M w w') : Below B w w' := ⟨h.os, h.tape, h.output, Nat.le_of_eq h.size.symm, fun k hk => h.block k (.inl hk)⟩
theorem Outside.mono {B M B' M' : Nat} {w w' : World} (h : Outside B M w w') (hB : B' ≤ B) (hM : M ≤ M') : Outside B' M' w w' := ⟨h.os, h.tape, h.output, h.size, fun k hk => h.block k (by omega)⟩
theorem own_outside {w w' : World} {B M C : Nat} {e : TypeId} {size n : Nat} {v : Value} {zs : List Value} (h : w.ownsRow C e size v n zs) (ho : Outside B M w w') (hC : ∀ k, v.ownBlock = some k → k < B ∨ M ≤ k) : w'.ownsRow C e size v n zs := by
  refine ⟨h.1, ?_⟩
  rcases h.2 with h2 | ⟨g, cap, cur, rfl, hg, hh, r⟩
  · exact .inl h2
  · exact .inr ⟨g, cap, cur, rfl, hg, (ho.block g (hC g rfl)).trans hh, r⟩

/-- a row of the call's own whose first k places bear marks -/
def Marking (w wr : World) (B : Nat) (v : Value) (xs : List Int) (k0 : Int) (k : Nat) : Prop :=
  (∃ ys : List Int, ys.length = xs.length ∧ OInts wr B v ys ∧ ∀ j, j < k → ys[j]? = some (k0 + (j : Int))) ∧ w.grownBy wr v.ownBlock ∧ wr.heap.size = w.heap.size

theorem Marking.start {w : World} {B : Nat} {v : Value} {xs : List Int} (k0 : Int) (h : OInts w B v xs) : Marking w w B v xs k0 0 := ⟨⟨xs, rfl, h, fun j hj => by omega⟩, ⟨rfl, rfl, rfl, Nat.le_refl _, fun _ _ _ => rfl⟩, rfl⟩
theorem Marking.cell {w wr : World} {B g c : Nat} {n : Nat} {xs : List Int} {k0 : Int} {k : Nat} (h : Marking w wr B (.slice (some ⟨g, 0, none⟩) n c) xs k0 k) (hk : k < xs.length) : ∃ u, wr.cell? ⟨g, k, none⟩ = some u ∧ wr.frozen? ⟨g, k, none⟩ = false := by
  obtain ⟨⟨ys, h1, h2, h3⟩, h4⟩ := h
  rcases h2.2 with ⟨e, _⟩ | ⟨g', cap, cur, e, hg, hh, a1, a2, a3, a4⟩
  · cases e
  · injection e with e1 e2
    injection e1 with e1
    injection e1 with e1
    subst e1
    exact ⟨cur[k]'(by omega), (blk_cell hh k).trans (Array.getElem?_eq_getElem (by omega)), blk_free hh k⟩
theorem Marking.step {w wr : World} {B g c : Nat} {n : Nat} {xs : List Int} {k0 : Int} {k : Nat} (h : Marking w wr B (.slice (some ⟨g, 0, none⟩) n c) xs k0 k) (hk : k < xs.length) :
    Marking w (wr.setCell ⟨g, k, none⟩ (.int .i64 (k0 + (k : Int)))) B (.slice (some ⟨g, 0, none⟩) n c) xs k0 (k + 1) := by
  obtain ⟨⟨ys, h1, h2, h3⟩, h4⟩ := h
  have hgl := own_lt h2 g rfl
  have hn : n = ys.length := by
    obtain ⟨A, c', e, _⟩ := own_reads h2
    injection e
  subst hn
  have hst := h2.stored k (.int .i64 (k0 + (k : Int)))
  refine ⟨⟨ys.set k (k0 + (k : Int)), by simpa using h1, ?_, fun j hj => ?_⟩, ⟨h4.1.os, h4.1.tape, h4.1.output, by simpa [World.setCell] using h4.1.size, fun i hi hne => (hst.2.block i (by rw [h4.2]; exact hi) hne).trans (h4.1.block i hi hne)⟩, by simpa [World.setCell] using h4.2⟩
  · unfold OInts
    rw [List.length_set, List.map_set]
    exact hst.1
  · by_cases hjk : k = j
    · subst hjk
      rw [List.getElem?_set_self (by omega)]
    · rw [List.getElem?_set_ne hjk]
      exact h3 j (by omega)
theorem Marking.done {w wr : World} {B : Nat} {v : Value} {xs : List Int} {k0 : Int} {k : Nat} (h : Marking w wr B v xs k0 k) (hk : k = xs.length) : OInts wr B v (marks k0 xs.length) ∧ w.grownBy wr v.ownBlock ∧ wr.heap.size = w.heap.size := by
  obtain ⟨⟨ys, h1, h2, h3⟩, h4⟩ := h
  have e : ys = marks k0 xs.length := by
    apply List.ext_getElem?
    intro j
    by_cases hj : j < xs.length
    · rw [h3 j (by omega), List.getElem?_eq_getElem (by rw [marks_len]; exact hj), marks_at]
    · rw [List.getElem?_eq_none (by omega), List.getElem?_eq_none (by rw [marks_len]; omega)]
  rw [← e]; exact ⟨h2, h4⟩

theorem markIntS_any (v : Value) (B : Nat) (xs : List Int) (k0 : Int) (w : World) (h : OInts w B v xs) (hs : xs.length ≤ 1048576) (h0 : 0 ≤ k0) (h1 : k0 ≤ 1000000000000000) :
    Calls Try.prog 55 #[v, .int .i64 k0] w fun e w' => e = .returned (.int .i64 (k0 + (xs.length : Int))) ∧ OInts w' B v (marks k0 xs.length) ∧ w.grownBy w' v.ownBlock ∧ w'.heap.size = w.heap.size := by
  have H := Lib.hid (Marking.start k0 h)
  obtain ⟨A, c, rfl, hc, -⟩ := h.reads.form
  have hA : xs.length ≠ 0 → ∃ g, A = some ⟨g, 0, none⟩ := fun hne => by
    rcases h.2 with ⟨e, e2⟩ | ⟨g, cap, cur, e, -⟩
    · exact absurd e2 hne
    · injection e with e; exact ⟨g, e⟩
  have HA := Lib.hid hA
  clear h hA
  go_enter Try.func55, Try.ntmps55
  go_wp2
  go_loopw [1, 5] (fun l i wr => ∃ k : Nat, k ≤ xs.length ∧ i = .int .i64 k ∧ l = .int .i64 (k0 + (k : Int)) ∧ Marking w wr B (.slice A xs.length c) xs k0 k) (fun _ i _ => xs.length - (intOf i).toNat)
  case atStart => exact ⟨0, Nat.zero_le _, rfl, by simp, H.out⟩
  case round =>
    obtain ⟨k, hk, rfl, rfl, hm⟩ := hrel
    have HM := Lib.hid hm
    clear hm
    by_cases hlt : k < xs.length
    · obtain ⟨g, rfl⟩ := HA.out (by omega)
      obtain ⟨u, g1, g2⟩ := HM.out.cell hlt
      go_wp2
      go_roundw
      case rel => exact ⟨k + 1, by omega, by go_num, by go_num, HM.out.step hlt⟩
      case measure => simp [intOf]; omega
    · go_wp2
      go_ret
      obtain ⟨r1, r2⟩ := HM.out.done (by omega)
      have hkn : k = xs.length := by omega
      subst hkn
      exact ⟨rfl, r1, r2⟩

theorem heldIntS_any (v : Value) (n : Nat) (k0 : Int) (w : World) (h : RInts w v (marks k0 n)) (hs : n ≤ 1048576) (h0 : 0 ≤ k0) (h1 : k0 ≤ 1000000000000000) :
    Calls Try.prog 100 #[v, .int .i64 k0] w fun e w' => e = .returned (.int .i64 (k0 + (n : Int))) ∧ Drawn w w' := by
  have H := Lib.hid h
  obtain ⟨A, c, e, -⟩ := h.form
  rw [marks_len] at e
  subst e
  clear h
  go_enter Try.func100, Try.ntmps100
  go_wp2
  go_loopw [1, 5] (fun l i wr => ∃ k : Nat, k ≤ n ∧ i = .int .i64 k ∧ l = .int .i64 (k0 + (k : Int)) ∧ Drawn w wr) (fun _ i _ => n - (intOf i).toNat)
  case atStart => exact ⟨0, Nat.zero_le _, rfl, by simp, Drawn.refl _⟩
  case round =>
    obtain ⟨k, hk, rfl, rfl, hd⟩ := hrel
    have HD := Lib.hid hd
    clear hd
    by_cases hlt : k < n
    · obtain ⟨b, o, c', e, hx⟩ := (H.out.keep HD.out.below).at_ (k := k) (by rw [marks_len]; exact hlt)
      rw [marks_len] at e
      cases e
      rw [marks_at] at hx
      have e1 : (k0 + (k : Int) != k0 + (k : Int)) = false := by simp
      go_wp2
      go_roundw
      case rel => exact ⟨k + 1, by omega, by go_num, by go_num, HD.out⟩
      case measure => simp [intOf]; omega
    · go_wp2
      go_ret
      have hkn : k = n := by omega
      subst hkn
      exact ⟨rfl, HD.out⟩

/-- a list of rows of the call's own, whose rows bear whatever numbers; us: where they lie -/
structure MarkR (w wr : World) (B M : Nat) (v : Value) (us : List Value) (rows : List (List Int)) : Prop where
  own : wr.ownsRow B 26 1 v rows.length us
  len : us.length = rows.length
  row : ∀ (j : Nat) (u : Value) (row : List Int), us[j]? = some u → rows[j]? = some row → ∃ ys : List Int, ys.length = row.length ∧ OInts wr B u ys
  apart : ∀ (i j : Nat) (u u' : Value), i < j → us[i]? = some u → us[j]? = some u' → u.ownBlock = none ∨ u.ownBlock ≠ u'.ownBlock
  low : ∀ (j : Nat) (u : Value), us[j]? = some u → ∀ k, u.ownBlock = some k → B ≤ k ∧ k < M
  frame : Outside B M w wr
theorem MarkR.start {w0 w : World} {B : Nat} {v : Value} {rows : List (List Int)} (h : ORows w0 B v rows) (hb : Below w0.heap.size w0 w) : ∃ us, MarkR w w B w0.heap.size v us rows := by
  obtain ⟨us, h1, h2, h3, h4⟩ := h
  refine ⟨us, own_keep h1 hb, h2, fun j u row hu hr => ⟨row, rfl, (h3 j u row hu hr).keep hb⟩, h4, fun j u hu k hk => ?_, Outside.refl _ _ _⟩
  have hj : j < rows.length := by rw [← h2]; exact (List.getElem?_eq_some_iff.1 hu).1
  exact own_lt (h3 j u _ hu (List.getElem?_eq_getElem hj)) k hk
theorem MarkR.step {w wr w1 : World} {B M : Nat} {v u : Value} {us : List Value} {rows : List (List Int)} {j : Nat} {ys : List Int} (h : MarkR w wr B M v us rows) (hu : us[j]? = some u) (hy : OInts w1 B u ys) (hyl : ∀ row, rows[j]? = some row → ys.length = row.length)
    (hxs : ∃ xs, OInts wr B u xs) (hg : wr.grownBy w1 u.ownBlock) (hz : w1.heap.size = wr.heap.size) : MarkR w w1 B M v us rows := by
  obtain ⟨xs, hxs⟩ := hxs
  refine ⟨own_grown h.own hg (own_ne h.own hxs (by decide)), h.len, fun i x row hx hr => ?_, h.apart, h.low, h.frame.trans ⟨hg.os, hg.tape, hg.output, hz, fun k hk => ?_⟩⟩
  · by_cases hij : i = j
    · subst hij
      rw [hu] at hx
      cases hx
      exact ⟨ys, hyl row hr, hy⟩
    · obtain ⟨zs, z1, z2⟩ := h.row i x row hx hr
      refine ⟨zs, z1, own_grown z2 hg ?_⟩
      rcases Nat.lt_or_gt_of_ne hij with hlt | hgt
      · exact h.apart i j x u hlt hx hu
      · rcases h.apart j i u x hgt hu hx with e | e
        · rw [e]
          cases x.ownBlock with
          | none => exact .inl rfl
          | some k => right; simp
        · exact .inr (fun e' => e e'.symm)
  · by_cases hkl : k < wr.heap.size
    · exact hg.block k hkl (fun e => by have := h.low j u hu k e.symm; omega)
    · rw [Array.getElem?_eq_none (by omega), Array.getElem?_eq_none (by omega)]

theorem markIntSS_any (v : Value) (B : Nat) (rows : List (List Int)) (k0 : Int) (w0 w : World) (h : ORows w0 B v rows) (hb : Below w0.heap.size w0 w) (hs : rows.length ≤ 1048576) (hs2 : ∀ row ∈ rows, row.length ≤ 1048576) (h0 : 0 ≤ k0) (h1 : k0 ≤ 100) :
    Calls Try.prog 35 #[v, .int .i64 k0] w fun e w' => ∃ k : Int, e = .returned (.int .i64 k) ∧ 0 ≤ k ∧ k ≤ 10000000000000 ∧ Outside B w0.heap.size w w' := by
  obtain ⟨us, hm0⟩ := MarkR.start h hb
  have HM0 := Lib.hid hm0
  have HS2 := Lib.hid hs2
  obtain ⟨A, c, rfl, -⟩ := own_reads hm0.own
  clear h hb hm0 hs2
  go_enter Try.func35, Try.ntmps35
  go_wp2
  go_loopw [1, 5] (fun l i wr => ∃ k : Nat, ∃ x : Int, k ≤ rows.length ∧ i = .int .i64 k ∧ l = .int .i64 x ∧ 0 ≤ x ∧ x ≤ 100 + 1048576 * (k : Int) ∧ MarkR w wr B w0.heap.size (.slice A rows.length c) us rows) (fun _ i _ => rows.length - (intOf i).toNat)
  case atStart => exact ⟨0, k0, Nat.zero_le _, rfl, rfl, h0, by omega, HM0.out⟩
  case round =>
    obtain ⟨k, x, hk, rfl, rfl, hx0, hx1, hm⟩ := hrel
    have HM := Lib.hid hm
    clear hm
    by_cases hlt : k < rows.length
    · have hul : k < us.length := by rw [HM.out.len]; exact hlt
      obtain ⟨ys, hyl, hyo⟩ := HM.out.row k us[k] rows[k] (List.getElem?_eq_getElem hul) (List.getElem?_eq_getElem hlt)
      have hrl := HS2.out _ (List.getElem_mem hlt)
      obtain ⟨A0, c0, e0, -, -, hcells⟩ := own_reads HM.out.own
      cases e0
      obtain ⟨b, o, ea, hcell⟩ := hcells k us[k] (List.getElem?_eq_getElem hul)
      subst ea
      have HU := Lib.hid (List.getElem?_eq_getElem hul)
      have HYL := Lib.hid (And.intro hyl hrl)
      have HR := Lib.hid (List.getElem?_eq_getElem hlt)
      generalize us[k] = u at hyo hcell HU
      have HYO := Lib.hid hyo
      obtain ⟨Au, cu, rfl, -⟩ := own_reads hyo
      clear hyo hyl hrl hcells hul
      go_wp2_with fail
      refine (markIntS_any _ B ys _ _ HYO.out (by have := HYL.out; omega) hx0 (by omega)).mono ?_
      rintro e w1 ⟨rfl, ho, hg, hz⟩
      have HN := Lib.hid (HM.out.step HU.out ho (fun row hr => by rw [marks_len]; have h := HR.out; rw [h] at hr; cases hr; exact HYL.out.1) ⟨ys, HYO.out⟩ hg hz)
      have hyl : (ys.length : Int) ≤ 1048576 := by have := HYL.out; omega
      clear ho hg hz
      go_wp2
      go_roundw
      case rel => exact ⟨k + 1, _, by omega, by go_num, rfl, by omega, by omega, HN.out⟩
      case measure => simp [intOf]; omega
    · go_wp2
      go_ret
      exact ⟨x, rfl, hx0, by omega, HM.out.frame⟩

theorem markSig_any (v : Value) (B : Nat) (s : MSig) (k0 : Int) (w0 w : World) (h : OSig w0 B v s) (hb : Below w0.heap.size w0 w) (hs : s.ops.length ≤ 1048576) (hs2 : ∀ row ∈ s.ops, row.length ≤ 1048576) (h0 : 0 ≤ k0) (h1 : k0 ≤ 100) :
    Calls Try.prog 33 #[v, .int .i64 k0] w fun e w' => ∃ k : Int, e = .returned (.int .i64 k) ∧ 0 ≤ k ∧ k ≤ 10000000000000 ∧ ∃ o, Outside B w0.heap.size (w.alloc o) w' := by
  obtain ⟨u, rfl, ho⟩ := h
  obtain ⟨sorts, ops⟩ := s
  have HO := Lib.hid ho
  have HB := Lib.hid (hb.trans ((below_alloc w (.cells #[.int .i64 sorts, u] 25)).mono hb.size))
  have HS := Lib.hid (And.intro hs hs2)
  obtain ⟨A, c, rfl, -⟩ := ho.reads.form
  clear ho hb hs hs2
  go_enter Try.func33, Try.ntmps33
  go_wp2_with fail
  refine (markIntSS_any _ B ops _ w0 _ HO.out HB.out HS.out.1 HS.out.2 h0 h1).mono ?_
  rintro e w1 ⟨k, rfl, hk0, hk1, hout⟩
  have HOUT := Lib.hid hout
  clear hout
  go_wp2
  go_ret
  exact ⟨k, rfl, hk0, hk1, _, HOUT.out⟩
end

section
open Go.RowKit
set_option linter.unusedVariables false

def tot (rows : List (List Int)) : Nat := (rows.map List.length).sum
theorem tot_take {rows : List (List Int)} {k : Nat} (hk : k < rows.length) : tot (rows.take (k + 1)) = tot (rows.take k) + rows[k].length := by
  unfold tot; rw [List.take_succ_eq_append_getElem hk, List.map_append, List.sum_append]; simp
def marksR (k : Int) : List (List Int) → List (List Int)
  | [] => []
  | r :: rs => marks k r.length :: marksR (k + (r.length : Int)) rs
theorem marksR_at (rows : List (List Int)) : ∀ (k : Int) (j : Nat), (marksR k rows)[j]? = (rows[j]?).map fun r => marks (k + (tot (rows.take j) : Int)) r.length := by
  induction rows with
  | nil => intro k j; simp [marksR]
  | cons r rs ih =>
    intro k j
    cases j with
    | zero => simp [marksR, tot]
    | succ j =>
      simp only [marksR, List.getElem?_cons_succ, ih, List.take_succ_cons]
      congr 1
      funext x
      congr 1
      simp [tot]
      omega
theorem marksR_len (rows : List (List Int)) : ∀ k, (marksR k rows).length = rows.length := by
  induction rows with
  | nil => intro k; rfl
  | cons r rs ih => intro k; simp [marksR, ih]
theorem tot_le {rows : List (List Int)} (h : ∀ row ∈ rows, row.length ≤ 1048576) : tot rows ≤ 1048576 * rows.length := by
  unfold tot
  induction rows with
  | nil => simp
  | cons r rs ih =>
    have h1 := h r (List.mem_cons_self ..)
    have h2 := ih (fun row hr => h row (List.mem_cons_of_mem _ hr))
    simp only [List.map_cons, List.sum_cons, List.length_cons]
    omega

structure MarkP (w wr : World) (B M : Nat) (v : Value) (us : List Value) (rows : List (List Int)) (k0 : Int) (k : Nat) : Prop where
  own : wr.ownsRow B 26 1 v rows.length us
  len : us.length = rows.length
  done : ∀ (j : Nat) (u : Value) (row : List Int), j < k → us[j]? = some u → rows[j]? = some row → OInts wr B u (marks (k0 + (tot (rows.take j) : Int)) row.length)
  todo : ∀ (j : Nat) (u : Value) (row : List Int), k ≤ j → us[j]? = some u → rows[j]? = some row → OInts wr B u row
  apart : ∀ (i j : Nat) (u u' : Value), i < j → us[i]? = some u → us[j]? = some u' → u.ownBlock = none ∨ u.ownBlock ≠ u'.ownBlock
  low : ∀ (j : Nat) (u : Value), us[j]? = some u → ∀ k, u.ownBlock = some k → B ≤ k ∧ k < M
  frame : Outside B M w wr
theorem MarkP.start {w0 w : World} {B : Nat} {v : Value} {rows : List (List Int)} (k0 : Int) (h : ORows w0 B v rows) (hb : Below w0.heap.size w0 w) : ∃ us, MarkP w w B w0.heap.size v us rows k0 0 := by
  obtain ⟨us, h1, h2, h3, h4⟩ := h
  refine ⟨us, own_keep h1 hb, h2, fun j u row hj => by omega, fun j u row _ hu hr => (h3 j u row hu hr).keep hb, h4, fun j u hu k hk => ?_, Outside.refl _ _ _⟩
  have hj : j < rows.length := by rw [← h2]; exact (List.getElem?_eq_some_iff.1 hu).1
  exact own_lt (h3 j u _ hu (List.getElem?_eq_getElem hj)) k hk
theorem MarkP.step {w wr w1 : World} {B M : Nat} {v u : Value} {us : List Value} {rows : List (List Int)} {k0 : Int} {j : Nat} {row0 : List Int} (h : MarkP w wr B M v us rows k0 j) (hu : us[j]? = some u) (hr : rows[j]? = some row0)
    (hy : OInts w1 B u (marks (k0 + (tot (rows.take j) : Int)) row0.length)) (hg : wr.grownBy w1 u.ownBlock) (hz : w1.heap.size = wr.heap.size) : MarkP w w1 B M v us rows k0 (j + 1) := by
  have hxs := h.todo j u row0 (Nat.le_refl _) hu hr
  have other : ∀ {i : Nat} {x : Value} {zs : List Int}, i ≠ j → us[i]? = some x → OInts wr B x zs → OInts w1 B x zs := fun {i x zs} hij hx hz => by
    refine own_grown hz hg ?_
    rcases Nat.lt_or_gt_of_ne hij with hlt | hgt
    · exact h.apart i j x u hlt hx hu
    · rcases h.apart j i u x hgt hu hx with e | e
      · rw [e]
        cases x.ownBlock with
        | none => exact .inl rfl
        | some k => right; simp
      · exact .inr (fun e' => e e'.symm)
  refine ⟨own_grown h.own hg (own_ne h.own hxs (by decide)), h.len, fun i x row hi hx hrow => ?_, fun i x row hi hx hrow => ?_, h.apart, h.low, h.frame.trans ⟨hg.os, hg.tape, hg.output, hz, fun k hk => ?_⟩⟩
  · by_cases hij : i = j
    · subst hij
      rw [hu] at hx
      rw [hr] at hrow
      cases hx
      cases hrow
      exact hy
    · exact other hij hx (h.done i x row (by omega) hx hrow)
  · exact other (by omega) hx (h.todo i x row (by omega) hx hrow)
  · by_cases hkl : k < wr.heap.size
    · exact hg.block k hkl (fun e => by have := h.low j u hu k e.symm; omega)
    · rw [Array.getElem?_eq_none (by omega), Array.getElem?_eq_none (by omega)]
theorem MarkP.all {w wr : World} {B M : Nat} {v : Value} {us : List Value} {rows : List (List Int)} {k0 : Int} {k : Nat} (h : MarkP w wr B M v us rows k0 k) (hk : k = rows.length) : ORows wr B v (marksR k0 rows) ∧ Outside B M w wr := by
  refine ⟨⟨us, by rw [marksR_len]; exact h.own, by rw [marksR_len]; exact h.len, fun j u r hu hr => ?_, h.apart⟩, h.frame⟩
  rw [marksR_at] at hr
  obtain ⟨row, hrow, rfl⟩ := Option.map_eq_some_iff.1 hr
  exact h.done j u row (by rw [hk]; exact (List.getElem?_eq_some_iff.1 hrow).1) hu hrow

theorem markIntSSp_any (v : Value) (B : Nat) (rows : List (List Int)) (k0 : Int) (w0 w : World) (h : ORows w0 B v rows) (hb : Below w0.heap.size w0 w) (hs : rows.length ≤ 1048576) (hs2 : ∀ row ∈ rows, row.length ≤ 1048576) (h0 : 0 ≤ k0) (h1 : k0 ≤ 100000000000000) :
    Calls Try.prog 35 #[v, .int .i64 k0] w fun e w' => e = .returned (.int .i64 (k0 + (tot rows : Int))) ∧ ORows w' B v (marksR k0 rows) ∧ Outside B w0.heap.size w w' := by
  obtain ⟨us, hm0⟩ := MarkP.start k0 h hb
  have HM0 := Lib.hid hm0
  have HS2 := Lib.hid hs2
  obtain ⟨A, c, rfl, -⟩ := own_reads hm0.own
  clear h hb hm0 hs2
  go_enter Try.func35, Try.ntmps35
  go_wp2
  go_loopw [1, 5] (fun l i wr => ∃ k : Nat, k ≤ rows.length ∧ i = .int .i64 k ∧ l = .int .i64 (k0 + (tot (rows.take k) : Int)) ∧ MarkP w wr B w0.heap.size (.slice A rows.length c) us rows k0 k) (fun _ i _ => rows.length - (intOf i).toNat)
  case atStart => exact ⟨0, Nat.zero_le _, rfl, by simp [tot], HM0.out⟩
  case round =>
    obtain ⟨k, hk, rfl, rfl, hm⟩ := hrel
    have HM := Lib.hid hm
    clear hm
    have htt : (tot (rows.take k) : Int) ≤ 1048576 * 1048576 := by
      have := tot_le (rows := rows.take k) (fun row hr => HS2.out row (List.mem_of_mem_take hr))
      rw [List.length_take] at this
      omega
    by_cases hlt : k < rows.length
    · have hul : k < us.length := by rw [HM.out.len]; exact hlt
      have HYO := Lib.hid (HM.out.todo k us[k] rows[k] (Nat.le_refl _) (List.getElem?_eq_getElem hul) (List.getElem?_eq_getElem hlt))
      have hrl := HS2.out _ (List.getElem_mem hlt)
      obtain ⟨A0, c0, e0, -, -, hcells⟩ := own_reads HM.out.own
      cases e0
      obtain ⟨b, o, ea, hcell⟩ := hcells k us[k] (List.getElem?_eq_getElem hul)
      subst ea
      have HU := Lib.hid (List.getElem?_eq_getElem hul)
      have HR := Lib.hid (List.getElem?_eq_getElem hlt)
      have HTT := Lib.hid (tot_take hlt)
      generalize us[k] = u at HYO hcell HU
      generalize rows[k] = row at HYO HR hrl HTT
      obtain ⟨Au, cu, rfl, -⟩ := own_reads HYO.out
      clear hcells hul
      generalize hto : tot (rows.take k) = T at HTT htt
      have HTO := Lib.hid hto
      clear hto
      go_wp2_with fail
      refine (markIntS_any _ B row _ _ HYO.out hrl (by omega) (by omega)).mono ?_
      rintro e w1 ⟨rfl, ho, hg, hz⟩
      have HN := Lib.hid (HM.out.step HU.out HR.out (by rw [HTO.out]; exact ho) hg hz)
      have hyl : (row.length : Int) ≤ 1048576 := by omega
      clear ho hg hz
      go_wp2
      go_roundw
      case rel => exact ⟨k + 1, by omega, by go_num, by rw [HTT.out]; go_num, HN.out⟩
      case measure => simp [intOf]; omega
    · have hkn : k = rows.length := by omega
      have HKN := Lib.hid hkn
      clear hkn
      go_wp2
      go_ret
      obtain ⟨r1, r2⟩ := HM.out.all HKN.out
      refine ⟨?_, r1, r2⟩
      have e := HKN.out
      have e2 : tot (rows.take k) = tot rows := by rw [take_all (by omega)]
      exact ret_int (by rw [e2])

theorem heldIntSS_any (v : Value) (rows : List (List Int)) (k0 : Int) (w : World) (h : RRows w v (marksR k0 rows)) (hs : rows.length ≤ 1048576) (hs2 : ∀ row ∈ rows, row.length ≤ 1048576) (h0 : 0 ≤ k0) (h1 : k0 ≤ 100000000000000) :
    Calls Try.prog 36 #[v, .int .i64 k0] w fun e w' => e = .returned (.int .i64 (k0 + (tot rows : Int))) ∧ Drawn w w' := by
  have H := Lib.hid h
  have HS2 := Lib.hid hs2
  obtain ⟨A, c, e, -⟩ := h.form
  rw [marksR_len] at e
  subst e
  clear h hs2
  go_enter Try.func36, Try.ntmps36
  go_wp2
  go_loopw [1, 5] (fun l i wr => ∃ k : Nat, k ≤ rows.length ∧ i = .int .i64 k ∧ l = .int .i64 (k0 + (tot (rows.take k) : Int)) ∧ Drawn w wr) (fun _ i _ => rows.length - (intOf i).toNat)
  case atStart => exact ⟨0, Nat.zero_le _, rfl, by simp [tot], Drawn.refl _⟩
  case round =>
    obtain ⟨k, hk, rfl, rfl, hd⟩ := hrel
    have HD := Lib.hid hd
    clear hd
    have htt : (tot (rows.take k) : Int) ≤ 1048576 * 1048576 := by
      have := tot_le (rows := rows.take k) (fun row hr => HS2.out row (List.mem_of_mem_take hr))
      rw [List.length_take] at this
      omega
    by_cases hlt : k < rows.length
    · obtain ⟨b, o, c', u, e, hx, hri⟩ := (H.out.keep HD.out.below).at_ (k := k) (by rw [marksR_len]; exact hlt)
      rw [marksR_len] at e
      cases e
      have hrow : (marksR k0 rows)[k]'(by rw [marksR_len]; exact hlt) = marks (k0 + (tot (rows.take k) : Int)) rows[k].length := by
        have := marksR_at rows k0 k
        rw [List.getElem?_eq_getElem (by rw [marksR_len]; exact hlt), List.getElem?_eq_getElem hlt] at this
        simpa using this
      rw [hrow] at hri
      have hrl := HS2.out _ (List.getElem_mem hlt)
      have HTT := Lib.hid (tot_take hlt)
      clear hrow
      generalize rows[k] = row at hri hrl HTT
      obtain ⟨A1, c1, e1, -⟩ := hri.form
      rw [marks_len] at e1
      subst e1
      have HI := Lib.hid hri
      clear hri
      generalize hto : tot (rows.take k) = T at HTT htt HI
      clear hto
      go_wp2_with fail
      refine (heldIntS_any _ row.length _ _ HI.out hrl (by omega) (by omega)).mono ?_
      rintro e w1 ⟨rfl, hd1⟩
      have HD1 := Lib.hid (HD.out.trans hd1)
      have hyl : (row.length : Int) ≤ 1048576 := by omega
      clear hd1
      go_wp2
      go_roundw
      case rel => exact ⟨k + 1, by omega, by go_num, by rw [HTT.out]; go_num, HD1.out⟩
      case measure => simp [intOf]; omega
    · have hkn : k = rows.length := by omega
      have HKN := Lib.hid hkn
      clear hkn
      go_wp2
      go_ret
      have e2 : tot (rows.take k) = tot rows := by have e := HKN.out; rw [take_all (by omega)]
      exact ⟨ret_int (by rw [e2]), HD.out⟩

theorem markSigp_any (v : Value) (B : Nat) (s : MSig) (k0 : Int) (w0 w : World) (h : OSig w0 B v s) (hb : Below w0.heap.size w0 w) (hs : s.ops.length ≤ 1048576) (hs2 : ∀ row ∈ s.ops, row.length ≤ 1048576) (h0 : 0 ≤ k0) (h1 : k0 ≤ 100000000000000) :
    Calls Try.prog 33 #[v, .int .i64 k0] w fun e w' => e = .returned (.int .i64 (k0 + (tot s.ops : Int))) ∧ OSig w' B v ⟨s.sorts, marksR k0 s.ops⟩ ∧ ∃ o, Outside B w0.heap.size (w.alloc o) w' := by
  obtain ⟨u, rfl, ho⟩ := h
  obtain ⟨sorts, ops⟩ := s
  have HO := Lib.hid ho
  have HB := Lib.hid (hb.trans ((below_alloc w (.cells #[.int .i64 sorts, u] 25)).mono hb.size))
  have HS := Lib.hid (And.intro hs hs2)
  obtain ⟨A, c, rfl, -⟩ := ho.reads.form
  clear ho hb hs hs2
  go_enter Try.func33, Try.ntmps33
  go_wp2_with fail
  refine (markIntSSp_any _ B ops _ w0 _ HO.out HB.out HS.out.1 HS.out.2 h0 h1).mono ?_
  rintro e w1 ⟨rfl, hm, hout⟩
  have HOUT := Lib.hid hout
  have HM := Lib.hid hm
  clear hout hm
  go_wp2
  go_ret
  exact ⟨rfl, ⟨_, rfl, HM.out⟩, _, HOUT.out⟩
end
end Go.Proofs.Yticldaddbljleaa
