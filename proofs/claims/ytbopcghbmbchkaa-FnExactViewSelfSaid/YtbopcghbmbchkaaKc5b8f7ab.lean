/- The exact laws' measure, copy and comparison of a theory: szTheory, toTheory, eqTheory. · Steps: how they read, measure, copy, comparison, marks. · Lists of steps: how they read, what a call has made; measure, copy, comparison: szStepS, toStepS, eqStepS. · What the proofs of the exact laws share: steps that came in. · The exact laws' marks: markIntS, heldIntS, markIntSS, markSig. · The marks of a list of rows, to the number: markIntSS, heldIntSS, markSig, heldSig. · The exact laws' marks of a result that lies between others: worlds cut off at a size. No walk. -/
import Derived.Test.YtbopcghbmbchkaaKb784efe8
namespace Go.Proofs.Ytbopcghbmbchkaa
section
open Go.RowKit
set_option linter.unusedVariables false

/-- a theory that a call has made: the rows of its operations lie apart from those of its axioms -/
def OThy (w : World) (B : Nat) (v : Value) (t : MThy) : Prop := ∃ u x, v = .agg #[.int .i64 t.over.sorts, u, x] ∧ ∃ (wc : World) (B0 : Nat), B ≤ B0 ∧ B0 ≤ wc.heap.size ∧ wc.heap.size ≤ w.heap.size ∧ ORows wc B0 u t.over.ops ∧ (∀ k, B0 ≤ k → k < wc.heap.size → w.heap[k]? = wc.heap[k]?) ∧ OEqs w wc.heap.size x t.eqs
theorem orows_same {w w' : World} {B : Nat} {v : Value} {rows : List (List Int)} (h : ORows w B v rows) (hk : ∀ k, B ≤ k → k < w.heap.size → w'.heap[k]? = w.heap[k]?) : ORows w' B v rows := by
  obtain ⟨us, h1, h2, h3, h4⟩ := h
  have same : ∀ {B2 : Nat} {e : TypeId} {size n : Nat} {v : Value} {zs : List Value}, B ≤ B2 → w.ownsRow B2 e size v n zs → w'.ownsRow B2 e size v n zs := fun hB h => by
    refine ⟨h.1, ?_⟩
    rcases h.2 with h2 | ⟨g, cap, cur, rfl, hg, hh, r⟩
    · exact .inl h2
    · exact .inr ⟨g, cap, cur, rfl, hg, (hk g (by omega) (Array.getElem?_eq_some_iff.1 hh).1).trans hh, r⟩
  exact ⟨us, same (Nat.le_refl _) h1, h2, fun j u row a b => same (Nat.le_refl _) (h3 j u row a b), h4⟩
theorem orowsT_same {T : TypeId} {size n : Nat} {w w' : World} {B : Nat} {v : Value} {rows : List (List Int)} (h : ORowsT T size n w B v rows) (hk : ∀ k, B ≤ k → k < w.heap.size → w'.heap[k]? = w.heap[k]?) : ORowsT T size n w' B v rows := by
  obtain ⟨us, h1, h2, h3, h4⟩ := h
  have same : ∀ {B2 : Nat} {e : TypeId} {size n : Nat} {v : Value} {zs : List Value}, B ≤ B2 → w.ownsRow B2 e size v n zs → w'.ownsRow B2 e size v n zs := fun hB h => by
    refine ⟨h.1, ?_⟩
    rcases h.2 with h2 | ⟨g, cap, cur, rfl, hg, hh, r⟩
    · exact .inl h2
    · exact .inr ⟨g, cap, cur, rfl, hg, (hk g (by omega) (Array.getElem?_eq_some_iff.1 hh).1).trans hh, r⟩
  exact ⟨us, same (Nat.le_refl _) h1, h2, fun j u row a b => same (Nat.le_refl _) (h3 j u row a b), h4⟩
section
variable {w w' : World} {B B' : Nat} {v : Value} {t : MThy}
theorem OThy.same (h : OThy w B v t) (hs : w.heap.size ≤ w'.heap.size) (hk : ∀ k, B ≤ k → k < w.heap.size → w'.heap[k]? = w.heap[k]?) : OThy w' B v t := by
  obtain ⟨u, x, rfl, wc, B0, z, a, b, c, d, e⟩ := h
  exact ⟨u, x, rfl, wc, B0, z, a, by omega, c, fun k h1 h2 => (hk k (by omega) (by omega)).trans (d k h1 h2), orowsT_same e fun k h1 h2 => hk k (by omega) h2⟩
theorem OThy.keep (h : OThy w B v t) (hb : Below w.heap.size w w') : OThy w' B v t := h.same hb.size fun k _ hk => hb.block k hk
theorem OThy.base (h : OThy w B v t) (hB : B' ≤ B) : OThy w B' v t := by
  obtain ⟨u, x, rfl, wc, B0, z, r⟩ := h
  exact ⟨u, x, rfl, wc, B0, by omega, r⟩
theorem OThy.rows (h : OThy w B v t) : ∃ u x, v = .agg #[.int .i64 t.over.sorts, u, x] ∧ ORows w B u t.over.ops ∧ OEqs w B x t.eqs := by
  obtain ⟨u, x, rfl, wc, B0, z, a, b, c, d, e⟩ := h
  exact ⟨u, x, rfl, (orows_same c d).base z, e.base (by omega)⟩
theorem OThy.reads (h : OThy w B v t) : RThy w v t := by
  obtain ⟨u, x, rfl, h1, h2⟩ := h.rows
  exact ⟨u, x, rfl, h1.reads, h2.reads⟩
end
def FitsT (t : MThy) : Prop := Fits t.over.ops ∧ FitsEs t.eqs
def sameT (a b : MThy) : Bool := sameS a.over b.over && sameEs a.eqs b.eqs
theorem sameT_self (a : MThy) : sameT a a = true := by unfold sameT; rw [sameS_self, sameEs_self]; rfl

set_option maxRecDepth 100000 in
theorem szTheory_any (v : Value) (t : MThy) (left : Int) (w : World) (h : RThy w v t) (h0 : 0 ≤ left) (h1 : left ≤ 1048576) :
    Calls Try.prog 7 #[v, .int .i64 left] w fun e w' => ∃ r : Int, e = .returned (.int .i64 r) ∧ (r < 0 ∨ (0 ≤ r ∧ r ≤ left ∧ FitsT t)) ∧ Below w.heap.size w w' := by
  obtain ⟨Ata, cta, Atb, ctb, rfl⟩ := h.form
  have hb : Below w.heap.size w (w.alloc (.cells #[.int .i64 t.over.sorts, .slice Ata t.over.ops.length cta, .slice Atb t.eqs.length ctb] 27)) := below_alloc _ _
  have HB := Lib.hid hb
  have hsz : (w.alloc (.cells #[.int .i64 t.over.sorts, .slice Ata t.over.ops.length cta, .slice Atb t.eqs.length ctb] 27)).heap.size = w.heap.size + 1 := by simp
  have Ht := Lib.hid (h.keep hb)
  have t0 := bx_at (w) #[.int .i64 t.over.sorts, .slice Ata t.over.ops.length cta, .slice Atb t.eqs.length ctb] 27 (k := 0) rfl
  have t1 := bx_at (w) #[.int .i64 t.over.sorts, .slice Ata t.over.ops.length cta, .slice Atb t.eqs.length ctb] 27 (k := 1) rfl
  have t2 := bx_at (w) #[.int .i64 t.over.sorts, .slice Ata t.over.ops.length cta, .slice Atb t.eqs.length ctb] 27 (k := 2) rfl
  generalize hW : w.alloc (.cells #[.int .i64 t.over.sorts, .slice Ata t.over.ops.length cta, .slice Atb t.eqs.length ctb] 27) = W at HB hsz Ht t0 t1 t2
  clear hb h
  obtain ⟨-, r1, r2⟩ := Ht.out.of
  have R1 := Lib.hid (show RSig W (.agg #[.int .i64 t.over.sorts, .slice Ata t.over.ops.length cta]) t.over from ⟨_, rfl, r1⟩)
  have R2 := Lib.hid r2
  clear r1 r2
  go_enter Try.func7, Try.ntmps7
  go_wp2_with fail
  clear hW
  refine (szSig_any _ t.over _ _ R1.out h0 h1).mono ?_
  rintro e w1 ⟨r, rfl, hr, hb⟩
  have HB1 := Lib.hid (sz_keep HB.out hb)
  have R21 := Lib.hid (R2.out.keep hb)
  have m1 := cell_keep hb t2
  clear hb t0 t1 t2
  by_cases hneg : r < 0
  · clear hr
    go_wp2
    go_ret
    exact ⟨-1, rfl, .inl (by omega), HB1.out⟩
  obtain ⟨hr2, hr3, hr4⟩ := hr.resolve_left hneg
  have HR := Lib.hid hr4
  have hr5 : r ≤ 1048576 := by omega
  clear hr hr4
  go_wp2_with fail
  refine (szEqS_any _ t.eqs _ _ R21.out hr2 hr5).mono ?_
  rintro e w2 ⟨q, rfl, hr, hb⟩
  have HB2 := Lib.hid (sz_keep HB1.out hb)
  clear hb m1
  by_cases hneg2 : q < 0
  · clear hr
    go_wp2
    go_ret
    exact ⟨-1, rfl, .inl (by omega), HB2.out⟩
  obtain ⟨hr6, hr7, hr8⟩ := hr.resolve_left hneg2
  have HQ := Lib.hid hr8
  clear hr hr8
  go_wp2
  go_ret
  exact ⟨q, rfl, .inr ⟨hr6, by omega, HR.out, HQ.out⟩, HB2.out⟩

theorem ORows.setLowT {w : World} {B b : Nat} {v : Value} {rows : List (List Int)} (h : ORows w B v rows) (hb : b < B) (i : Nat) (x : Value) : ORows (w.setCell ⟨b, i, none⟩ x) B v rows := h.setLow' hb i x

set_option maxRecDepth 100000 in
theorem toTheory_any (v : Value) (t : MThy) (w : World) (h : RThy w v t) (hs : FitsT t) :
    Calls Try.prog 10 #[v] w fun e' w' => ∃ u, e' = .returned u ∧ OThy w' w.heap.size u t ∧ Below w.heap.size w w' := by
  obtain ⟨At, ct, Bt, dt, rfl⟩ := h.form
  obtain ⟨-, h1, h2⟩ := h.of
  obtain ⟨hs1, hs2⟩ := hs
  have hm := Mk.start w 27 40 #[.int .i64 t.over.sorts, .slice At t.over.ops.length ct, .slice Bt t.eqs.length dt] #[.int .i64 0, .slice none 0 0, .slice none 0 0] #[.int .i64 0, .slice none 0 0, .slice none 0 0]
  generalize hW : ((w.alloc (.cells #[.int .i64 t.over.sorts, .slice At t.over.ops.length ct, .slice Bt t.eqs.length dt] 27)).alloc (.cells #[.int .i64 0, .slice none 0 0, .slice none 0 0] 40)).alloc (.cells #[.int .i64 0, .slice none 0 0, .slice none 0 0] 40) = W at hm
  have H1 := Lib.hid (show RSig W (.agg #[.int .i64 t.over.sorts, .slice At t.over.ops.length ct]) t.over from ⟨_, rfl, h1.keep hm.b⟩)
  have H2 := Lib.hid h2
  have HS1 := Lib.hid hs1
  have HS2 := Lib.hid hs2
  have p0 : W.cell? ⟨w.heap.size, 0, none⟩ = some (.int .i64 t.over.sorts) := hm.ca 0
  have p1 : W.cell? ⟨w.heap.size, 1, none⟩ = some (.slice At t.over.ops.length ct) := hm.ca 1
  have HM := Lib.hid hm
  clear h h1 h2 hm hs1 hs2
  go_enter Try.func10, Try.ntmps10
  go_wp2_with fail
  clear hW
  refine (toSig_any _ t.over _ H1.out HS1.out).mono ?_
  rintro e w4 ⟨u0, rfl, ho, hb⟩
  have hz := HM.out.z
  have hm := HM.out.below hb
  obtain ⟨B0, d0, rfl⟩ := ho.reads.form
  obtain ⟨u', eu, ho'⟩ := ho
  injection eu with eu
  simp at eu
  subst eu
  have q0 : w4.cell? ⟨w.heap.size + 2, 0, none⟩ = some (.int .i64 0) := hm.co 0
  have q1 : w4.cell? ⟨w.heap.size + 2, 1, none⟩ = some (.slice none 0 0) := hm.co 1
  have q2 := hm.fo 0
  have q3 := hm.fo 1
  have hm5 := (hm.setO 0 (.int .i64 t.over.sorts)).setO 1 (.slice B0 t.over.ops.length d0)
  have ho5 := (ho'.setLow' (b := w.heap.size + 2) (by omega) 0 (.int .i64 t.over.sorts)).setLow' (b := w.heap.size + 2) (by omega) 1 (.slice B0 t.over.ops.length d0)
  generalize hW5 : (w4.setCell ⟨w.heap.size + 2, 0, none⟩ (.int .i64 t.over.sorts)).setCell ⟨w.heap.size + 2, 1, none⟩ (.slice B0 t.over.ops.length d0) = w5 at hm5 ho5
  have p2 : w5.cell? ⟨w.heap.size, 2, none⟩ = some (.slice Bt t.eqs.length dt) := hm5.ca 2
  have HO5 := Lib.hid ho5
  have HM5 := Lib.hid hm5
  have HM5sz := Lib.hid (show W.heap.size ≤ w5.heap.size by have := hb.size; rw [← hW5]; simpa [World.setCell] using this)
  have H2 := Lib.hid (H2.out.keep hm5.b)
  clear ho' hb hm p0 p1 hm5 ho5 H1
  go_wp2_with fail
  clear hW5 q0 q1 q2 q3
  refine (toEqS_any _ t.eqs _ H2.out HS2.out).mono ?_
  rintro e w8 ⟨u2, rfl, ho, hb⟩
  have hz7 := HM5.out.z
  have hm := HM5.out.below hb
  obtain ⟨B2, d2, rfl, -⟩ := ho.reads.form
  have hm9 := (((hm.setO 2 (.slice B2 t.eqs.length d2)).setR 0 (.int .i64 t.over.sorts)).setR 1 (.slice B0 t.over.ops.length d0)).setR 2 (.slice B2 t.eqs.length d2)
  have o2 := (((ho.setLow (b := w.heap.size + 2) (by omega) 2 (.slice B2 t.eqs.length d2)).setLow (b := w.heap.size + 1) (by omega) 0 (.int .i64 t.over.sorts)).setLow (b := w.heap.size + 1) (by omega) 1 (.slice B0 t.over.ops.length d0)).setLow (b := w.heap.size + 1) (by omega) 2 (.slice B2 t.eqs.length d2)
  have hkk : ∀ k, w.heap.size + 3 ≤ k → k < w5.heap.size → ((((w8.setCell ⟨w.heap.size + 2, 2, none⟩ (.slice B2 t.eqs.length d2)).setCell ⟨w.heap.size + 1, 0, none⟩ (.int .i64 t.over.sorts)).setCell ⟨w.heap.size + 1, 1, none⟩ (.slice B0 t.over.ops.length d0)).setCell ⟨w.heap.size + 1, 2, none⟩ (.slice B2 t.eqs.length d2)).heap[k]? = w5.heap[k]? := fun k h1 h2 => by
    rw [Below.heap_setCell _ ⟨w.heap.size + 1, 2, none⟩ _ k (by show k ≠ w.heap.size + 1; omega), Below.heap_setCell _ ⟨w.heap.size + 1, 1, none⟩ _ k (by show k ≠ w.heap.size + 1; omega), Below.heap_setCell _ ⟨w.heap.size + 1, 0, none⟩ _ k (by show k ≠ w.heap.size + 1; omega), Below.heap_setCell _ ⟨w.heap.size + 2, 2, none⟩ _ k (by show k ≠ w.heap.size + 2; omega)]
    exact hb.block k h2
  have hsz9 : w5.heap.size ≤ ((((w8.setCell ⟨w.heap.size + 2, 2, none⟩ (.slice B2 t.eqs.length d2)).setCell ⟨w.heap.size + 1, 0, none⟩ (.int .i64 t.over.sorts)).setCell ⟨w.heap.size + 1, 1, none⟩ (.slice B0 t.over.ops.length d0)).setCell ⟨w.heap.size + 1, 2, none⟩ (.slice B2 t.eqs.length d2)).heap.size := by have := hb.size; simpa [World.setCell] using this
  have HF := Lib.hid (And.intro o2 (And.intro hkk hsz9))
  have HM9 := Lib.hid hm9
  have q0 : w8.cell? ⟨w.heap.size + 2, 0, none⟩ = some (.int .i64 t.over.sorts) := hm.co 0
  have q1 : w8.cell? ⟨w.heap.size + 2, 1, none⟩ = some (.slice B0 t.over.ops.length d0) := hm.co 1
  have q2 : w8.cell? ⟨w.heap.size + 2, 2, none⟩ = some (.slice none 0 0) := hm.co 2
  have q3 := hm.fo 2
  have q4 : w8.cell? ⟨w.heap.size + 1, 0, none⟩ = some (.int .i64 0) := hm.cr 0
  have q5 : w8.cell? ⟨w.heap.size + 1, 1, none⟩ = some (.slice none 0 0) := hm.cr 1
  have q6 : w8.cell? ⟨w.heap.size + 1, 2, none⟩ = some (.slice none 0 0) := hm.cr 2
  have q7 := hm.fr 0
  have q8 := hm.fr 1
  have q9 := hm.fr 2
  clear ho hb hm hm9 o2 hkk hsz9 H2 p2
  go_wp2
  obtain ⟨o2, hkk, hsz9⟩ := HF.out
  have hm9 := HM9.out
  generalize (((w8.setCell ⟨w.heap.size + 2, 2, none⟩ (.slice B2 t.eqs.length d2)).setCell ⟨w.heap.size + 1, 0, none⟩ (.int .i64 t.over.sorts)).setCell ⟨w.heap.size + 1, 1, none⟩ (.slice B0 t.over.ops.length d0)).setCell ⟨w.heap.size + 1, 2, none⟩ (.slice B2 t.eqs.length d2) = w9 at o2 hkk hsz9 hm9 ⊢
  have k0 : w9.cell? ⟨w.heap.size + 1, 0, none⟩ = some (.int .i64 t.over.sorts) := hm9.cr 0
  have k1 : w9.cell? ⟨w.heap.size + 1, 1, none⟩ = some (.slice B0 t.over.ops.length d0) := hm9.cr 1
  have k2 : w9.cell? ⟨w.heap.size + 1, 2, none⟩ = some (.slice B2 t.eqs.length d2) := hm9.cr 2
  clear q0 q1 q2 q3 q4 q5 q6 q7 q8 q9
  refine bodyPost_ret (v := .agg #[.int .i64 t.over.sorts, .slice B0 t.over.ops.length d0, .slice B2 t.eqs.length d2]) (by simp [results, Try.results10, go_sem, k0, k1, k2]) rfl ?_
  exact ⟨_, rfl, ⟨_, _, rfl, w5, W.heap.size, by omega, HM5sz.out, hsz9, HO5.out, fun k h1 h2 => hkk k (by omega) h2, o2⟩, hm9.b⟩

theorem eqTheory_is (v v' : Value) (a b : MThy) (w : World) (r : Bool) (hr : sameT a b = r) (h : RThy w v a) (h' : RThy w v' b) :
    Calls Try.prog 13 #[v, v'] w fun e w' => e = .returned (.bool r) ∧ Below w.heap.size w w' := by
  subst hr
  obtain ⟨Aaa, caa, Aab, cab, rfl⟩ := h.form
  obtain ⟨Aba, cba, Abb, cbb, rfl⟩ := h'.form
  have hb : Below w.heap.size w ((w.alloc (.cells #[.int .i64 a.over.sorts, .slice Aaa a.over.ops.length caa, .slice Aab a.eqs.length cab] 40)).alloc (.cells #[.int .i64 b.over.sorts, .slice Aba b.over.ops.length cba, .slice Abb b.eqs.length cbb] 40)) := (below_alloc _ _).alloc (by simp) _
  have HB := Lib.hid hb
  have hsz : ((w.alloc (.cells #[.int .i64 a.over.sorts, .slice Aaa a.over.ops.length caa, .slice Aab a.eqs.length cab] 40)).alloc (.cells #[.int .i64 b.over.sorts, .slice Aba b.over.ops.length cba, .slice Abb b.eqs.length cbb] 40)).heap.size = w.heap.size + 2 := by simp
  have Ha := Lib.hid (h.keep hb)
  have a0 := cell_keep (below_alloc (w.alloc (.cells #[.int .i64 a.over.sorts, .slice Aaa a.over.ops.length caa, .slice Aab a.eqs.length cab] 40)) (.cells #[.int .i64 b.over.sorts, .slice Aba b.over.ops.length cba, .slice Abb b.eqs.length cbb] 40)) (bx_at (w) #[.int .i64 a.over.sorts, .slice Aaa a.over.ops.length caa, .slice Aab a.eqs.length cab] 40 (k := 0) rfl)
  have a1 := cell_keep (below_alloc (w.alloc (.cells #[.int .i64 a.over.sorts, .slice Aaa a.over.ops.length caa, .slice Aab a.eqs.length cab] 40)) (.cells #[.int .i64 b.over.sorts, .slice Aba b.over.ops.length cba, .slice Abb b.eqs.length cbb] 40)) (bx_at (w) #[.int .i64 a.over.sorts, .slice Aaa a.over.ops.length caa, .slice Aab a.eqs.length cab] 40 (k := 1) rfl)
  have a2 := cell_keep (below_alloc (w.alloc (.cells #[.int .i64 a.over.sorts, .slice Aaa a.over.ops.length caa, .slice Aab a.eqs.length cab] 40)) (.cells #[.int .i64 b.over.sorts, .slice Aba b.over.ops.length cba, .slice Abb b.eqs.length cbb] 40)) (bx_at (w) #[.int .i64 a.over.sorts, .slice Aaa a.over.ops.length caa, .slice Aab a.eqs.length cab] 40 (k := 2) rfl)
  have Hb := Lib.hid (h'.keep hb)
  have b0 := bx_at (w.alloc (.cells #[.int .i64 a.over.sorts, .slice Aaa a.over.ops.length caa, .slice Aab a.eqs.length cab] 40)) #[.int .i64 b.over.sorts, .slice Aba b.over.ops.length cba, .slice Abb b.eqs.length cbb] 40 (k := 0) rfl
  have b1 := bx_at (w.alloc (.cells #[.int .i64 a.over.sorts, .slice Aaa a.over.ops.length caa, .slice Aab a.eqs.length cab] 40)) #[.int .i64 b.over.sorts, .slice Aba b.over.ops.length cba, .slice Abb b.eqs.length cbb] 40 (k := 1) rfl
  have b2 := bx_at (w.alloc (.cells #[.int .i64 a.over.sorts, .slice Aaa a.over.ops.length caa, .slice Aab a.eqs.length cab] 40)) #[.int .i64 b.over.sorts, .slice Aba b.over.ops.length cba, .slice Abb b.eqs.length cbb] 40 (k := 2) rfl
  simp only [World.size_alloc] at b0 b1 b2
  generalize hW : (w.alloc (.cells #[.int .i64 a.over.sorts, .slice Aaa a.over.ops.length caa, .slice Aab a.eqs.length cab] 40)).alloc (.cells #[.int .i64 b.over.sorts, .slice Aba b.over.ops.length cba, .slice Abb b.eqs.length cbb] 40) = W at HB hsz Ha a0 a1 a2 Hb b0 b1 b2
  clear hb h h'
  obtain ⟨-, r1, r2⟩ := Ha.out.of
  obtain ⟨-, k1, k2⟩ := Hb.out.of
  have R1 := Lib.hid (show RSig W (.agg #[.int .i64 a.over.sorts, .slice Aaa a.over.ops.length caa]) a.over from ⟨_, rfl, r1⟩)
  have K1 := Lib.hid (show RSig W (.agg #[.int .i64 b.over.sorts, .slice Aba b.over.ops.length cba]) b.over from ⟨_, rfl, k1⟩)
  have R2 := Lib.hid r2
  have K2 := Lib.hid k2
  clear r1 r2 k1 k2
  cases x0 : sameS a.over b.over with
  | false =>
    have X0 := Lib.hid x0
    clear x0
    go_enter Try.func13, Try.ntmps13
    go_wp2_with fail
    clear hW
    refine (eqSig_is _ _ _ _ _ _ X0.out R1.out K1.out).mono ?_
    rintro e w1 ⟨rfl, hd⟩
    go_wp2
    go_ret
    exact ⟨ret_bool (by unfold sameT; rw [X0.out]; rfl), sz_keep HB.out hd⟩
  | true =>
    have X0 := Lib.hid x0
    clear x0
    obtain ⟨r, hr⟩ : ∃ r, sameEs a.eqs b.eqs = r := ⟨_, rfl⟩
    have HR := Lib.hid hr
    clear hr
    go_enter Try.func13, Try.ntmps13
    go_wp2_with fail
    clear hW
    refine (eqSig_is _ _ _ _ _ _ X0.out R1.out K1.out).mono ?_
    rintro e w1 ⟨rfl, hb⟩
    have HB1 := Lib.hid (sz_keep HB.out hb)
    have m1 := cell_keep hb a2
    have m2 := cell_keep hb b2
    have R2' := Lib.hid (R2.out.keep hb)
    have K2' := Lib.hid (K2.out.keep hb)
    clear hb a0 a1 a2 b0 b1 b2
    go_wp2_with fail
    refine (eqEqS_any _ _ _ _ _ R2'.out K2'.out).mono ?_
    rw [HR.out]
    rintro e w2 ⟨rfl, hb⟩
    have HB2 := Lib.hid (sz_keep HB1.out hb)
    clear hb m1 m2
    cases r with
    | false =>
      go_wp2
      go_ret
      exact ⟨ret_bool (by unfold sameT; rw [X0.out, HR.out]; rfl), HB2.out⟩
    | true =>
      go_wp2
      go_ret
      exact ⟨ret_bool (by unfold sameT; rw [X0.out, HR.out]; rfl), HB2.out⟩
end

section
open Go.RowKit
set_option linter.unusedVariables false

structure MStep where
  ax : Int
  back : Bool
  at_ : Int
  terms : List (List Int)
def RStep (w : World) (v : Value) (p : MStep) : Prop := ∃ u, v = .agg #[.int .i64 p.ax, .bool p.back, .int .i64 p.at_, u] ∧ RRows w u p.terms
def OStep (w : World) (B : Nat) (v : Value) (p : MStep) : Prop := ∃ u, v = .agg #[.int .i64 p.ax, .bool p.back, .int .i64 p.at_, u] ∧ ORows w B u p.terms
def SmallP (p : MStep) : Prop := ∀ r ∈ p.terms, Small r
def FitsP (p : MStep) : Prop := Fits p.terms
def sameP (a b : MStep) : Bool := ((decide (a.ax = b.ax) && decide (a.back = b.back)) && decide (a.at_ = b.at_)) && sameR a.terms b.terms
theorem sameP_self (a : MStep) : sameP a a = true := by unfold sameP sameR; simp
theorem sameP_eq {a b : MStep} : sameP a b = true ↔ a = b := by
  obtain ⟨a1, a2, a3, a4⟩ := a
  obtain ⟨b1, b2, b3, b4⟩ := b
  unfold sameP sameR
  simp [and_assoc]
section
variable {w w' : World} {B B' : Nat} {v : Value} {p : MStep}
theorem RStep.keep (h : RStep w v p) (hb : Below w.heap.size w w') : RStep w' v p := by obtain ⟨u, rfl, h⟩ := h; exact ⟨u, rfl, h.keep hb⟩
theorem RStep.form (h : RStep w v p) : ∃ A c, v = .agg #[.int .i64 p.ax, .bool p.back, .int .i64 p.at_, .slice A p.terms.length c] := by
  obtain ⟨u, rfl, h⟩ := h
  obtain ⟨A, c, rfl, -⟩ := h.form
  exact ⟨_, _, rfl⟩
theorem RStep.of {a b c u : Value} (h : RStep w (.agg #[a, b, c, u]) p) : RRows w u p.terms := by
  obtain ⟨u', e, h⟩ := h
  injection e with e
  simp at e
  rw [e.2.2.2]; exact h
theorem OStep.keep (h : OStep w B v p) (hb : Below w.heap.size w w') : OStep w' B v p := by obtain ⟨u, rfl, h⟩ := h; exact ⟨u, rfl, h.keep hb⟩
theorem OStep.base (h : OStep w B v p) (hB : B' ≤ B) : OStep w B' v p := by obtain ⟨u, rfl, h⟩ := h; exact ⟨u, rfl, h.base hB⟩
theorem OStep.same (h : OStep w B v p) (hk : ∀ k, B ≤ k → k < w.heap.size → w'.heap[k]? = w.heap[k]?) : OStep w' B v p := by obtain ⟨u, rfl, h⟩ := h; exact ⟨u, rfl, orows_same h hk⟩
theorem OStep.reads (h : OStep w B v p) : RStep w v p := by obtain ⟨u, rfl, h⟩ := h; exact ⟨u, rfl, h.reads⟩
end

set_option maxRecDepth 100000 in
theorem szStep_any (v : Value) (p : MStep) (left : Int) (w : World) (h : RStep w v p) (h0 : 0 ≤ left) (h1 : left ≤ 1048576) :
    Calls Try.prog 72 #[v, .int .i64 left] w fun e w' => ∃ r : Int, e = .returned (.int .i64 r) ∧ (r < 0 ∨ (0 ≤ r ∧ r ≤ left ∧ FitsP p)) ∧ Below w.heap.size w w' := by
  obtain ⟨Apa, cpa, rfl⟩ := h.form
  have hb : Below w.heap.size w (w.alloc (.cells #[.int .i64 p.ax, .bool p.back, .int .i64 p.at_, .slice Apa p.terms.length cpa] 107)) := below_alloc _ _
  have HB := Lib.hid hb
  have hsz : (w.alloc (.cells #[.int .i64 p.ax, .bool p.back, .int .i64 p.at_, .slice Apa p.terms.length cpa] 107)).heap.size = w.heap.size + 1 := by simp
  have Hp := Lib.hid (h.keep hb)
  have p0 := bx_at (w) #[.int .i64 p.ax, .bool p.back, .int .i64 p.at_, .slice Apa p.terms.length cpa] 107 (k := 0) rfl
  have p1 := bx_at (w) #[.int .i64 p.ax, .bool p.back, .int .i64 p.at_, .slice Apa p.terms.length cpa] 107 (k := 1) rfl
  have p2 := bx_at (w) #[.int .i64 p.ax, .bool p.back, .int .i64 p.at_, .slice Apa p.terms.length cpa] 107 (k := 2) rfl
  have p3 := bx_at (w) #[.int .i64 p.ax, .bool p.back, .int .i64 p.at_, .slice Apa p.terms.length cpa] 107 (k := 3) rfl
  generalize hW : w.alloc (.cells #[.int .i64 p.ax, .bool p.back, .int .i64 p.at_, .slice Apa p.terms.length cpa] 107) = W at HB hsz Hp p0 p1 p2 p3
  clear hb h
  have R1 := Lib.hid Hp.out.of
  go_enter Try.func72, Try.ntmps72
  go_wp2_with fail
  clear hW
  refine (szIntSS_any _ p.terms _ _ R1.out h0 h1).mono ?_
  rintro e w1 ⟨r, rfl, hr, rfl⟩
  by_cases hneg : r < 0
  · clear hr
    go_wp2
    go_ret
    exact ⟨-1, rfl, .inl (by omega), HB.out⟩
  have HR := Lib.hid (hr.resolve_left hneg)
  clear hr
  go_wp2
  go_ret
  exact ⟨r, rfl, .inr HR.out, HB.out⟩

set_option maxRecDepth 100000 in
theorem toStep_any (v : Value) (p : MStep) (w : World) (h : RStep w v p) (hs : FitsP p) :
    Calls Try.prog 78 #[v] w fun e' w' => ∃ u, e' = .returned u ∧ OStep w' w.heap.size u p ∧ Below w.heap.size w w' := by
  obtain ⟨At, ct, rfl⟩ := h.form
  have h1 := h.of
  have hm := ((Mk.start w 107 100 #[.int .i64 p.ax, .bool p.back, .int .i64 p.at_, .slice At p.terms.length ct] #[.int .i64 0, .bool false, .int .i64 0, .slice none 0 0] #[.int .i64 p.ax, .bool p.back, .int .i64 p.at_, .slice none 0 0]))
  generalize hW : ((w.alloc (.cells #[.int .i64 p.ax, .bool p.back, .int .i64 p.at_, .slice At p.terms.length ct] 107)).alloc (.cells #[.int .i64 0, .bool false, .int .i64 0, .slice none 0 0] 100)).alloc (.cells #[.int .i64 p.ax, .bool p.back, .int .i64 p.at_, .slice none 0 0] 100) = W at hm
  have H1 := Lib.hid (h1.keep hm.b)
  have HS := Lib.hid hs
  have p3 : W.cell? ⟨w.heap.size, 3, none⟩ = some (.slice At p.terms.length ct) := hm.ca 3
  have HM := Lib.hid hm
  clear h h1 hm hs
  go_enter Try.func78, Try.ntmps78
  go_wp2_with fail
  clear hW
  refine (toIntSS_any _ p.terms _ H1.out HS.out).mono ?_
  rintro e w4 ⟨u0, rfl, ho, hb⟩
  have hz := HM.out.z
  have hm := HM.out.below hb
  obtain ⟨B0, d0, rfl, -⟩ := ho.reads.form
  have hm9 := ((((hm.setO 3 (.slice B0 p.terms.length d0)).setR 0 (.int .i64 p.ax)).setR 1 (.bool p.back)).setR 2 (.int .i64 p.at_)).setR 3 (.slice B0 p.terms.length d0)
  have o2 := ((((ho.setLow' (b := w.heap.size + 2) (by omega) 3 (.slice B0 p.terms.length d0)).setLow' (b := w.heap.size + 1) (by omega) 0 (.int .i64 p.ax)).setLow' (b := w.heap.size + 1) (by omega) 1 (.bool p.back)).setLow' (b := w.heap.size + 1) (by omega) 2 (.int .i64 p.at_)).setLow' (b := w.heap.size + 1) (by omega) 3 (.slice B0 p.terms.length d0)
  have HF := Lib.hid o2
  have HM9 := Lib.hid hm9
  have q0 : w4.cell? ⟨w.heap.size + 2, 0, none⟩ = some (.int .i64 p.ax) := hm.co 0
  have q1 : w4.cell? ⟨w.heap.size + 2, 1, none⟩ = some (.bool p.back) := hm.co 1
  have q2 : w4.cell? ⟨w.heap.size + 2, 2, none⟩ = some (.int .i64 p.at_) := hm.co 2
  have q3 : w4.cell? ⟨w.heap.size + 2, 3, none⟩ = some (.slice none 0 0) := hm.co 3
  have q4 := hm.fo 3
  have q5 : w4.cell? ⟨w.heap.size + 1, 0, none⟩ = some (.int .i64 0) := hm.cr 0
  have q6 : w4.cell? ⟨w.heap.size + 1, 1, none⟩ = some (.bool false) := hm.cr 1
  have q7 : w4.cell? ⟨w.heap.size + 1, 2, none⟩ = some (.int .i64 0) := hm.cr 2
  have q8 : w4.cell? ⟨w.heap.size + 1, 3, none⟩ = some (.slice none 0 0) := hm.cr 3
  have q9 := hm.fr 0
  have q10 := hm.fr 1
  have q11 := hm.fr 2
  have q12 := hm.fr 3
  clear ho hb hm hm9 o2 H1 p3
  go_wp2
  have o2 := HF.out
  have hm9 := HM9.out
  generalize ((((w4.setCell ⟨w.heap.size + 2, 3, none⟩ (.slice B0 p.terms.length d0)).setCell ⟨w.heap.size + 1, 0, none⟩ (.int .i64 p.ax)).setCell ⟨w.heap.size + 1, 1, none⟩ (.bool p.back)).setCell ⟨w.heap.size + 1, 2, none⟩ (.int .i64 p.at_)).setCell ⟨w.heap.size + 1, 3, none⟩ (.slice B0 p.terms.length d0) = w9 at o2 hm9 ⊢
  have k0 : w9.cell? ⟨w.heap.size + 1, 0, none⟩ = some (.int .i64 p.ax) := hm9.cr 0
  have k1 : w9.cell? ⟨w.heap.size + 1, 1, none⟩ = some (.bool p.back) := hm9.cr 1
  have k2 : w9.cell? ⟨w.heap.size + 1, 2, none⟩ = some (.int .i64 p.at_) := hm9.cr 2
  have k3 : w9.cell? ⟨w.heap.size + 1, 3, none⟩ = some (.slice B0 p.terms.length d0) := hm9.cr 3
  clear q0 q1 q2 q3 q4 q5 q6 q7 q8 q9 q10 q11 q12
  refine bodyPost_ret (v := .agg #[.int .i64 p.ax, .bool p.back, .int .i64 p.at_, .slice B0 p.terms.length d0]) (by simp [results, Try.results78, go_sem, k0, k1, k2, k3]) rfl ?_
  exact ⟨_, rfl, ⟨_, rfl, o2.base (by omega)⟩, hm9.b⟩

set_option maxRecDepth 100000 in
theorem eqStep_is (v v' : Value) (a b : MStep) (w : World) (r : Bool) (hr : sameP a b = r) (h : RStep w v a) (h' : RStep w v' b) :
    Calls Try.prog 84 #[v, v'] w fun e w' => e = .returned (.bool r) ∧ Below w.heap.size w w' := by
  subst hr
  obtain ⟨Aaa, caa, rfl⟩ := h.form
  obtain ⟨Aba, cba, rfl⟩ := h'.form
  have hb : Below w.heap.size w ((w.alloc (.cells #[.int .i64 a.ax, .bool a.back, .int .i64 a.at_, .slice Aaa a.terms.length caa] 100)).alloc (.cells #[.int .i64 b.ax, .bool b.back, .int .i64 b.at_, .slice Aba b.terms.length cba] 100)) := (below_alloc _ _).alloc (by simp) _
  have HB := Lib.hid hb
  have hsz : ((w.alloc (.cells #[.int .i64 a.ax, .bool a.back, .int .i64 a.at_, .slice Aaa a.terms.length caa] 100)).alloc (.cells #[.int .i64 b.ax, .bool b.back, .int .i64 b.at_, .slice Aba b.terms.length cba] 100)).heap.size = w.heap.size + 2 := by simp
  have Ha := Lib.hid (h.keep hb)
  have a0 := cell_keep (below_alloc (w.alloc (.cells #[.int .i64 a.ax, .bool a.back, .int .i64 a.at_, .slice Aaa a.terms.length caa] 100)) (.cells #[.int .i64 b.ax, .bool b.back, .int .i64 b.at_, .slice Aba b.terms.length cba] 100)) (bx_at (w) #[.int .i64 a.ax, .bool a.back, .int .i64 a.at_, .slice Aaa a.terms.length caa] 100 (k := 0) rfl)
  have a1 := cell_keep (below_alloc (w.alloc (.cells #[.int .i64 a.ax, .bool a.back, .int .i64 a.at_, .slice Aaa a.terms.length caa] 100)) (.cells #[.int .i64 b.ax, .bool b.back, .int .i64 b.at_, .slice Aba b.terms.length cba] 100)) (bx_at (w) #[.int .i64 a.ax, .bool a.back, .int .i64 a.at_, .slice Aaa a.terms.length caa] 100 (k := 1) rfl)
  have a2 := cell_keep (below_alloc (w.alloc (.cells #[.int .i64 a.ax, .bool a.back, .int .i64 a.at_, .slice Aaa a.terms.length caa] 100)) (.cells #[.int .i64 b.ax, .bool b.back, .int .i64 b.at_, .slice Aba b.terms.length cba] 100)) (bx_at (w) #[.int .i64 a.ax, .bool a.back, .int .i64 a.at_, .slice Aaa a.terms.length caa] 100 (k := 2) rfl)
  have a3 := cell_keep (below_alloc (w.alloc (.cells #[.int .i64 a.ax, .bool a.back, .int .i64 a.at_, .slice Aaa a.terms.length caa] 100)) (.cells #[.int .i64 b.ax, .bool b.back, .int .i64 b.at_, .slice Aba b.terms.length cba] 100)) (bx_at (w) #[.int .i64 a.ax, .bool a.back, .int .i64 a.at_, .slice Aaa a.terms.length caa] 100 (k := 3) rfl)
  have Hb := Lib.hid (h'.keep hb)
  have b0 := bx_at (w.alloc (.cells #[.int .i64 a.ax, .bool a.back, .int .i64 a.at_, .slice Aaa a.terms.length caa] 100)) #[.int .i64 b.ax, .bool b.back, .int .i64 b.at_, .slice Aba b.terms.length cba] 100 (k := 0) rfl
  have b1 := bx_at (w.alloc (.cells #[.int .i64 a.ax, .bool a.back, .int .i64 a.at_, .slice Aaa a.terms.length caa] 100)) #[.int .i64 b.ax, .bool b.back, .int .i64 b.at_, .slice Aba b.terms.length cba] 100 (k := 1) rfl
  have b2 := bx_at (w.alloc (.cells #[.int .i64 a.ax, .bool a.back, .int .i64 a.at_, .slice Aaa a.terms.length caa] 100)) #[.int .i64 b.ax, .bool b.back, .int .i64 b.at_, .slice Aba b.terms.length cba] 100 (k := 2) rfl
  have b3 := bx_at (w.alloc (.cells #[.int .i64 a.ax, .bool a.back, .int .i64 a.at_, .slice Aaa a.terms.length caa] 100)) #[.int .i64 b.ax, .bool b.back, .int .i64 b.at_, .slice Aba b.terms.length cba] 100 (k := 3) rfl
  simp only [World.size_alloc] at b0 b1 b2 b3
  generalize hW : (w.alloc (.cells #[.int .i64 a.ax, .bool a.back, .int .i64 a.at_, .slice Aaa a.terms.length caa] 100)).alloc (.cells #[.int .i64 b.ax, .bool b.back, .int .i64 b.at_, .slice Aba b.terms.length cba] 100) = W at HB hsz Ha a0 a1 a2 a3 Hb b0 b1 b2 b3
  clear hb h h'
  have R1 := Lib.hid Ha.out.of
  have K1 := Lib.hid Hb.out.of
  by_cases x0 : a.ax = b.ax
  · by_cases x1 : a.back = b.back
    · by_cases x2 : a.at_ = b.at_
      · have e0 : (a.ax != b.ax) = false := by simp [x0]
        have e1 : (a.back == b.back) = true := by simp [x1]
        have e2 : (a.at_ != b.at_) = false := by simp [x2]
        have X := Lib.hid (And.intro x0 (And.intro x1 x2))
        obtain ⟨r, hr⟩ : ∃ r, sameR a.terms b.terms = r := ⟨_, rfl⟩
        have HR := Lib.hid hr
        clear hr x0 x1 x2
        go_enter Try.func84, Try.ntmps84
        go_wp2_with fail
        clear hW
        refine (eqIntSS_is _ _ _ _ _ r HR.out R1.out K1.out).mono ?_
        rintro e w1 ⟨rfl, hd⟩
        have HB1 := Lib.hid (sz_keep HB.out hd.below)
        clear hd a0 a1 a2 a3 b0 b1 b2 b3
        cases r with
        | false =>
          go_wp2
          go_ret
          exact ⟨ret_bool (by unfold sameP; rw [HR.out]; simp), HB1.out⟩
        | true =>
          go_wp2
          go_ret
          exact ⟨ret_bool (by unfold sameP; rw [HR.out]; simp [X.out.1, X.out.2.1, X.out.2.2]), HB1.out⟩
      · have e0 : (a.ax != b.ax) = false := by simp [x0]
        have e1 : (a.back == b.back) = true := by simp [x1]
        have e2 : (a.at_ != b.at_) = true := by simpa using x2
        have X := Lib.hid x2
        clear x0 x1 x2
        go_enter Try.func84, Try.ntmps84
        go_wp2
        go_ret
        exact ⟨ret_bool (by unfold sameP; simp [X.out]), HB.out⟩
    · have e0 : (a.ax != b.ax) = false := by simp [x0]
      have e1 : (a.back == b.back) = false := by simpa using x1
      have X := Lib.hid x1
      clear x0 x1
      go_enter Try.func84, Try.ntmps84
      go_wp2
      go_ret
      exact ⟨ret_bool (by unfold sameP; simp [X.out]), HB.out⟩
  · have e0 : (a.ax != b.ax) = true := by simpa using x0
    have X := Lib.hid x0
    clear x0
    go_enter Try.func84, Try.ntmps84
    go_wp2
    go_ret
    exact ⟨ret_bool (by unfold sameP; simp [X.out]), HB.out⟩
end

section
open Go.RowKit
set_option linter.unusedVariables false

def RSteps (w : World) (v : Value) (ps : List MStep) : Prop :=
  ∃ A c, v = .slice A ps.length c ∧ ps.length ≤ c ∧ c ≤ maxLen ∧ ∀ j p, ps[j]? = some p → ∃ b o u, A = some ⟨b, o, none⟩ ∧
    w.cell? ⟨b, o + j * 4, none⟩ = some (.int .i64 p.ax) ∧ w.cell? ⟨b, o + j * 4 + 1, none⟩ = some (.bool p.back) ∧ w.cell? ⟨b, o + j * 4 + 2, none⟩ = some (.int .i64 p.at_) ∧ w.cell? ⟨b, o + j * 4 + 3, none⟩ = some u ∧ RRows w u p.terms
def SmallPs (ps : List MStep) : Prop := ∀ p ∈ ps, SmallP p
def FitsPs (ps : List MStep) : Prop := ps.length ≤ 1048576 ∧ ∀ p ∈ ps, FitsP p
def samePs : List MStep → List MStep → Bool
  | [], [] => true
  | a :: xs, b :: ys => sameP a b && samePs xs ys
  | _, _ => false
theorem samePs_eq {xs ys : List MStep} : samePs xs ys = true ↔ xs = ys := by
  induction xs generalizing ys with
  | nil => cases ys <;> simp [samePs]
  | cons a xs ih => cases ys with
    | nil => simp [samePs]
    | cons b ys => simp [samePs, sameP_eq, ih]
theorem samePs_self (xs : List MStep) : samePs xs xs = true := samePs_eq.2 rfl
section
variable {w w' : World} {v : Value} {ps : List MStep}
theorem RSteps.keep (h : RSteps w v ps) (hb : Below w.heap.size w w') : RSteps w' v ps := by
  obtain ⟨A, c, e, h1, h2, h3⟩ := h
  refine ⟨A, c, e, h1, h2, fun j p hj => ?_⟩
  obtain ⟨b, o, u, e, c0, c1, c2, c3, r⟩ := h3 j p hj
  exact ⟨b, o, u, e, cell_keep hb c0, cell_keep hb c1, cell_keep hb c2, cell_keep hb c3, r.keep hb⟩
theorem RSteps.len (h : RSteps w v ps) : ps.length ≤ 9223372036854775807 := by
  obtain ⟨A, c, e, h1, h2, h3⟩ := h; rw [maxLen_eq] at h2; omega
theorem RSteps.nil (w : World) : RSteps w (.slice none 0 0) [] := ⟨none, 0, rfl, Nat.le_refl _, Nat.zero_le _, fun j x h => by simp at h⟩
theorem RSteps.form (h : RSteps w v ps) : ∃ A c, v = .slice A ps.length c ∧ ps.length ≤ c ∧ c ≤ 9223372036854775807 := by
  obtain ⟨A, c, e, h1, h2, h3⟩ := h; exact ⟨A, c, e, h1, h2⟩
theorem RSteps.at_ (h : RSteps w v ps) {k : Nat} (hk : k < ps.length) : ∃ b o c u, v = .slice (some ⟨b, o, none⟩) ps.length c ∧
    w.cell? ⟨b, o + k * 4, none⟩ = some (.int .i64 ps[k].ax) ∧ w.cell? ⟨b, o + k * 4 + 1, none⟩ = some (.bool ps[k].back) ∧ w.cell? ⟨b, o + k * 4 + 2, none⟩ = some (.int .i64 ps[k].at_) ∧ w.cell? ⟨b, o + k * 4 + 3, none⟩ = some u ∧ RRows w u ps[k].terms := by
  obtain ⟨A, c, e, h1, h2, h3⟩ := h
  obtain ⟨b, o, u, rfl, r⟩ := h3 k ps[k] (List.getElem?_eq_getElem hk)
  exact ⟨b, o, c, u, e, r⟩
end

/-- rows that were made between two sizes, as they were -/
def InR (w : World) (r : Nat × Nat) (u : Value) (rows : List (List Int)) : Prop := ∃ wc : World, wc.heap.size = r.2 ∧ ORows wc r.1 u rows ∧ ∀ k, r.1 ≤ k → k < r.2 → w.heap[k]? = wc.heap[k]?
theorem InR.same {w w' : World} {r : Nat × Nat} {u : Value} {rows : List (List Int)} (h : InR w r u rows) (hk : ∀ k, r.1 ≤ k → k < r.2 → w'.heap[k]? = w.heap[k]?) : InR w' r u rows := by
  obtain ⟨wc, h1, h2, h3⟩ := h
  exact ⟨wc, h1, h2, fun k a b => (hk k a b).trans (h3 k a b)⟩
theorem InR.rows {w : World} {r : Nat × Nat} {u : Value} {rows : List (List Int)} (h : InR w r u rows) : ORows w r.1 u rows := by
  obtain ⟨wc, h1, h2, h3⟩ := h
  exact orows_same h2 fun k a b => h3 k a (by omega)

/-- a list of steps that a call has made: block g with its cells; each step's rows in a range of their own -/
def OSteps (w : World) (B : Nat) (v : Value) (ps : List MStep) : Prop :=
  ∃ (g c : Nat) (cur : Array Value) (rg : Nat → Nat × Nat), v = .slice (some ⟨g, 0, none⟩) ps.length c ∧ B ≤ g ∧ w.heap[g]? = some (.cells cur 100 (0, 0)) ∧ ps.length ≤ c ∧ c ≤ 9223372036854775807 ∧ cur.size = c * 4 ∧
    (∀ j p, ps[j]? = some p → ∃ u, cur[j * 4]? = some (.int .i64 p.ax) ∧ cur[j * 4 + 1]? = some (.bool p.back) ∧ cur[j * 4 + 2]? = some (.int .i64 p.at_) ∧ cur[j * 4 + 3]? = some u ∧ InR w (rg j) u p.terms ∧ B ≤ (rg j).1 ∧ (rg j).2 ≤ w.heap.size ∧ (g < (rg j).1 ∨ (rg j).2 ≤ g)) ∧
    (∀ i j, i < j → j < ps.length → (rg i).2 ≤ (rg j).1 ∨ (rg j).2 ≤ (rg i).1)
section
variable {w w' : World} {B B' : Nat} {v : Value} {ps : List MStep}
theorem OSteps.same (h : OSteps w B v ps) (hs : w.heap.size ≤ w'.heap.size) (hk : ∀ k, B ≤ k → k < w.heap.size → w'.heap[k]? = w.heap[k]?) : OSteps w' B v ps := by
  obtain ⟨g, c, cur, rg, e, h1, h2, h3, h4, h5, h6, h7⟩ := h
  refine ⟨g, c, cur, rg, e, h1, (hk g h1 (Array.getElem?_eq_some_iff.1 h2).1).trans h2, h3, h4, h5, fun j p hj => ?_, h7⟩
  obtain ⟨u, c0, c1, c2, c3, r, a, b, d⟩ := h6 j p hj
  exact ⟨u, c0, c1, c2, c3, r.same fun k k1 k2 => hk k (by omega) (by omega), a, by omega, d⟩
theorem OSteps.keep (h : OSteps w B v ps) (hb : Below w.heap.size w w') : OSteps w' B v ps := h.same hb.size fun k _ hk => hb.block k hk
theorem OSteps.reads (h : OSteps w B v ps) : RSteps w v ps := by
  obtain ⟨g, c, cur, rg, e, h1, h2, h3, h4, h5, h6, h7⟩ := h
  refine ⟨_, c, e, h3, by rw [maxLen_eq]; exact h4, fun j p hj => ?_⟩
  obtain ⟨u, c0, c1, c2, c3, r, a, b, d⟩ := h6 j p hj
  exact ⟨g, 0, u, rfl, (blk_cell h2 _).trans (by rw [Nat.zero_add]; exact c0), (blk_cell h2 _).trans (by rw [Nat.zero_add]; exact c1), (blk_cell h2 _).trans (by rw [Nat.zero_add]; exact c2), (blk_cell h2 _).trans (by rw [Nat.zero_add]; exact c3), r.rows.reads⟩
end
theorem Try.tinfo_Step : (Try.prog.info? 100).map (fun i => (i.zero, i.size, i.bytes)) = some (some (.agg #[.int .i64 0, .bool false, .int .i64 0, .slice none 0 0]), 4, 48) := by kernel_rfl

theorem set4_old {cur : Array Value} {m i : Nat} {a b c d : Value} (hi : i < m ∨ m + 3 < i) : ((((cur.setIfInBounds m a).setIfInBounds (m + 1) b).setIfInBounds (m + 2) c).setIfInBounds (m + 3) d)[i]? = cur[i]? := by
  rw [Array.getElem?_setIfInBounds, if_neg (by omega), Array.getElem?_setIfInBounds, if_neg (by omega), Array.getElem?_setIfInBounds, if_neg (by omega), Array.getElem?_setIfInBounds, if_neg (by omega)]
theorem set4_new {cur : Array Value} {m : Nat} {a b c d : Value} (h : m + 3 < cur.size) :
    ((((cur.setIfInBounds m a).setIfInBounds (m + 1) b).setIfInBounds (m + 2) c).setIfInBounds (m + 3) d)[m]? = some a ∧ ((((cur.setIfInBounds m a).setIfInBounds (m + 1) b).setIfInBounds (m + 2) c).setIfInBounds (m + 3) d)[m + 1]? = some b ∧
    ((((cur.setIfInBounds m a).setIfInBounds (m + 1) b).setIfInBounds (m + 2) c).setIfInBounds (m + 3) d)[m + 2]? = some c ∧ ((((cur.setIfInBounds m a).setIfInBounds (m + 1) b).setIfInBounds (m + 2) c).setIfInBounds (m + 3) d)[m + 3]? = some d := by
  refine ⟨?_, ?_, ?_, ?_⟩
  · rw [Array.getElem?_setIfInBounds, if_neg (by omega), Array.getElem?_setIfInBounds, if_neg (by omega), Array.getElem?_setIfInBounds, if_neg (by omega), Array.getElem?_setIfInBounds, if_pos rfl, if_pos (by omega)]
  · rw [Array.getElem?_setIfInBounds, if_neg (by omega), Array.getElem?_setIfInBounds, if_neg (by omega), Array.getElem?_setIfInBounds, if_pos rfl, if_pos (by simp; omega)]
  · rw [Array.getElem?_setIfInBounds, if_neg (by omega), Array.getElem?_setIfInBounds, if_pos rfl, if_pos (by simp; omega)]
  · rw [Array.getElem?_setIfInBounds, if_pos rfl, if_pos (by simp; omega)]

/-- a list of steps that is being filled: k of them are done -/
def FillS (w wr : World) (ps : List MStep) (k : Nat) : Prop :=
  ∃ (cur : Array Value) (rg : Nat → Nat × Nat), wr.heap[w.heap.size]? = some (.cells cur 100 (0, 0)) ∧ cur.size = ps.length * 4 ∧
    (∀ j p, j < k → ps[j]? = some p → ∃ u, cur[j * 4]? = some (.int .i64 p.ax) ∧ cur[j * 4 + 1]? = some (.bool p.back) ∧ cur[j * 4 + 2]? = some (.int .i64 p.at_) ∧ cur[j * 4 + 3]? = some u ∧ InR wr (rg j) u p.terms ∧ w.heap.size < (rg j).1 ∧ (rg j).2 ≤ wr.heap.size) ∧
    (∀ i j, i < j → j < k → (rg i).2 ≤ (rg j).1) ∧ Below w.heap.size w wr
section
variable {w wr w1 : World} {ps : List MStep} {k : Nat}
theorem FillS.start (w : World) (ps : List MStep) (cur : Array Value) (h : cur.size = ps.length * 4) : FillS w (w.alloc (.cells cur 100)) ps 0 :=
  ⟨cur, fun _ => (0, 0), heap_alloc_new w _, h, fun j p hj => by omega, fun i j _ hj => by omega, below_alloc _ _⟩
theorem FillS.bel (h : FillS w wr ps k) : Below w.heap.size w wr := by obtain ⟨_, _, _, _, _, _, hb⟩ := h; exact hb
theorem FillS.cell (h : FillS w wr ps k) (hb : Below wr.heap.size wr w1) {j : Nat} (hj : j < ps.length * 4) : ∃ u, w1.cell? ⟨w.heap.size, j, none⟩ = some u ∧ w1.frozen? ⟨w.heap.size, j, none⟩ = false := by
  obtain ⟨cur, rg, h1, h2, h3, h4, h5⟩ := h
  have h1' := (hb.block _ (Array.getElem?_eq_some_iff.1 h1).1).trans h1
  exact ⟨cur[j]'(by omega), (blk_cell h1' j).trans (Array.getElem?_eq_getElem (by omega)), blk_free h1' j⟩
theorem FillS.put (h : FillS w wr ps k) (hk : k < ps.length) (hb : Below wr.heap.size wr w1) {u : Value} (hp : ORows w1 wr.heap.size u ps[k].terms) :
    FillS w ((((w1.setCell ⟨w.heap.size, k * 4, none⟩ (.int .i64 ps[k].ax)).setCell ⟨w.heap.size, k * 4 + 1, none⟩ (.bool ps[k].back)).setCell ⟨w.heap.size, k * 4 + 2, none⟩ (.int .i64 ps[k].at_)).setCell ⟨w.heap.size, k * 4 + 3, none⟩ u) ps (k + 1) := by
  obtain ⟨cur, rg, h1, h2, h3, h4, h5⟩ := h
  have hl := (Array.getElem?_eq_some_iff.1 h1).1
  have h1' := (hb.block _ hl).trans h1
  have hs := hb.size
  have oth : ∀ b' : Nat, b' ≠ w.heap.size → ((((w1.setCell ⟨w.heap.size, k * 4, none⟩ (.int .i64 ps[k].ax)).setCell ⟨w.heap.size, k * 4 + 1, none⟩ (.bool ps[k].back)).setCell ⟨w.heap.size, k * 4 + 2, none⟩ (.int .i64 ps[k].at_)).setCell ⟨w.heap.size, k * 4 + 3, none⟩ u).heap[b']? = w1.heap[b']? := fun b' hb' => by
    rw [Below.heap_setCell _ ⟨w.heap.size, k * 4 + 3, none⟩ _ b' hb', Below.heap_setCell _ ⟨w.heap.size, k * 4 + 2, none⟩ _ b' hb', Below.heap_setCell _ ⟨w.heap.size, k * 4 + 1, none⟩ _ b' hb', Below.heap_setCell _ ⟨w.heap.size, k * 4, none⟩ _ b' hb']
  have hsz : ((((w1.setCell ⟨w.heap.size, k * 4, none⟩ (.int .i64 ps[k].ax)).setCell ⟨w.heap.size, k * 4 + 1, none⟩ (.bool ps[k].back)).setCell ⟨w.heap.size, k * 4 + 2, none⟩ (.int .i64 ps[k].at_)).setCell ⟨w.heap.size, k * 4 + 3, none⟩ u).heap.size = w1.heap.size := by simp [World.setCell]
  refine ⟨_, fun j => if j = k then (wr.heap.size, w1.heap.size) else rg j, blk_set (blk_set (blk_set (blk_set h1' _ _) _ _) _ _) _ _, by simpa using h2, fun j p hj hpj => ?_, fun i j hij hj => ?_, ((((h5.trans (hb.mono (by omega))).setCell (p := ⟨w.heap.size, k * 4, none⟩) (Nat.le_refl _) _).setCell (p := ⟨w.heap.size, k * 4 + 1, none⟩) (Nat.le_refl _) _).setCell (p := ⟨w.heap.size, k * 4 + 2, none⟩) (Nat.le_refl _) _).setCell (p := ⟨w.heap.size, k * 4 + 3, none⟩) (Nat.le_refl _) _⟩
  · by_cases hjk : j = k
    · subst hjk
      rw [List.getElem?_eq_getElem hk] at hpj
      cases hpj
      obtain ⟨a, b, c, d⟩ := set4_new (cur := cur) (m := j * 4) (a := .int .i64 ps[j].ax) (b := .bool ps[j].back) (c := .int .i64 ps[j].at_) (d := u) (by omega)
      refine ⟨u, a, b, c, d, ?_, by simp; omega, by rw [hsz]; simp⟩
      simp only [if_true]
      exact ⟨w1, rfl, hp, fun n n1 n2 => oth n (by simp only at n1; omega)⟩
    · obtain ⟨x, a, b, c, d, r, lo, hi⟩ := h3 j p (by omega) hpj
      refine ⟨x, by rw [set4_old (by omega)]; exact a, by rw [set4_old (by omega)]; exact b, by rw [set4_old (by omega)]; exact c, by rw [set4_old (by omega)]; exact d, ?_, by simp only [if_neg hjk]; exact lo, by rw [hsz]; simp only [if_neg hjk]; omega⟩
      simp only [if_neg hjk]
      exact r.same fun n n1 n2 => (oth n (by omega)).trans (hb.block n (by omega))
  · have hik : ¬ i = k := by omega
    by_cases hjk : j = k
    · subst hjk
      simp only [if_neg hik, if_true]
      obtain ⟨x, a, b, c, d, r, lo, hi⟩ := h3 i ps[i] hij (List.getElem?_eq_getElem (by omega))
      exact hi
    · simp only [if_neg hik, if_neg hjk]
      exact h4 i j hij (by omega)
theorem FillS.done (h : FillS w wr ps k) (hk : k = ps.length) (hm : ps.length ≤ 9223372036854775807) : OSteps wr w.heap.size (.slice (some ⟨w.heap.size, 0, none⟩) ps.length ps.length) ps ∧ Below w.heap.size w wr := by
  obtain ⟨cur, rg, h1, h2, h3, h4, h5⟩ := h
  subst hk
  refine ⟨⟨w.heap.size, ps.length, cur, rg, rfl, Nat.le_refl _, h1, Nat.le_refl _, hm, h2, fun j p hj => ?_, fun i j hij hj => .inl (h4 i j hij hj)⟩, h5⟩
  obtain ⟨u, a, b, c, d, r, lo, hi⟩ := h3 j p (List.getElem?_eq_some_iff.1 hj).1 hj
  exact ⟨u, a, b, c, d, r, by omega, hi, .inl lo⟩
end

set_option maxRecDepth 100000 in
theorem szStepS_any (v : Value) (ps : List MStep) (left : Int) (w : World) (h : RSteps w v ps) (h0 : 0 ≤ left) (h1 : left ≤ 1048576) :
    Calls Try.prog 21 #[v, .int .i64 left] w fun e w' => ∃ r : Int, e = .returned (.int .i64 r) ∧ (r < 0 ∨ (0 ≤ r ∧ r ≤ left ∧ FitsPs ps)) ∧ Below w.heap.size w w' := by
  have H := Lib.hid h
  have hn := h.len
  obtain ⟨A, c, rfl, -⟩ := h.form
  clear h
  by_cases hl : left - (ps.length : Int) < 0
  · go_enter Try.func21, Try.ntmps21
    go_wp2
    go_ret
    exact ⟨-1, rfl, .inl (by omega), Below.refl _ _⟩
  · go_enter Try.func21, Try.ntmps21
    go_wp2
    go_loopw [1, 5] (fun l i wr => ∃ k : Nat, ∃ r : Int, k ≤ ps.length ∧ i = .int .i64 k ∧ l = .int .i64 r ∧ 0 ≤ r ∧ r ≤ left ∧ (∀ p ∈ ps.take k, FitsP p) ∧ Below w.heap.size w wr) (fun _ i _ => ps.length - (intOf i).toNat)
    case atStart => exact ⟨0, _, Nat.zero_le _, rfl, rfl, by omega, by omega, by simp, Below.refl _ _⟩
    case round =>
      obtain ⟨k, r, hk, rfl, rfl, hr0, hr1, hb0, hbw⟩ := hrel
      have hb := Lib.hid hb0
      have HBW := Lib.hid hbw
      clear hb0 hbw
      by_cases hlt : k < ps.length
      · obtain ⟨b, o, c', x, e, c0, c1, c2, c3, q0⟩ := (H.out.keep HBW.out).at_ hlt
        cases e
        have HT := Lib.hid (List.take_succ_eq_append_getElem hlt)
        generalize ps[k] = p at q0 c0 c1 c2 HT
        have HI := Lib.hid (show RStep wr (.agg #[.int .i64 p.ax, .bool p.back, .int .i64 p.at_, x]) p from ⟨x, rfl, q0⟩)
        obtain ⟨A0, d0, rfl, -⟩ := q0.form
        clear q0
        go_wp2_with fail
        refine (szStep_any _ p _ _ HI.out hr0 (by omega)).mono ?_
        rintro e' w1 ⟨r', rfl, hr', hb1⟩
        have HB1 := Lib.hid (sz_keep HBW.out hb1)
        clear hb1 c0 c1 c2 c3
        by_cases hneg : r' < 0
        · clear hr'
          go_wp2
          go_ret
          exact ⟨-1, rfl, .inl (by omega), HB1.out⟩
        · obtain ⟨h2, h3, h4⟩ := hr'.resolve_left hneg
          have HR := Lib.hid (And.intro h3 h4)
          clear h3 h4 hr'
          go_wp2
          go_roundw
          case rel =>
            refine ⟨k + 1, r', by omega, by go_num, rfl, h2, by have := HR.out.1; omega, ?_, HB1.out⟩
            rw [HT.out]
            intro x hx
            rcases List.mem_append.1 hx with hx | hx
            · exact hb.out x hx
            · simp at hx; subst hx; exact HR.out.2
          case measure => simp [intOf]; omega
      · go_wp2
        go_ret
        have h := hb.out
        rw [take_all (by omega)] at h
        exact ⟨r, rfl, .inr ⟨hr0, hr1, by omega, h⟩, HBW.out⟩

set_option maxRecDepth 100000 in
theorem toStepS_any (v : Value) (ps : List MStep) (w : World) (h : RSteps w v ps) (hs : FitsPs ps) :
    Calls Try.prog 25 #[v] w fun e w' => ∃ u, e = .returned u ∧ OSteps w' w.heap.size u ps ∧ Below w.heap.size w w' := by
  have H := Lib.hid h
  have HS := Lib.hid hs
  obtain ⟨A, c, rfl, -⟩ := h.form
  have hlen := hs.1
  clear h hs
  have hmk := run_make_wide 60 100 _ 4 48 Try.underlying60 Try.tinfo_Step .i64 .i64 ps.length (by omega) (by omega)
  go_enter Try.func25, Try.ntmps25
  go_wp2
  go_loopw [4] (fun i wr => ∃ k : Nat, k ≤ ps.length ∧ i = .int .i64 k ∧ FillS w wr ps k) (fun i _ => ps.length - (intOf i).toNat)
  case atStart => exact ⟨0, Nat.zero_le _, rfl, FillS.start w _ _ (by simp [madeCells])⟩
  case round =>
    obtain ⟨k, hk, rfl, hf⟩ := hrel
    have HF := Lib.hid hf
    clear hf hmk
    by_cases hlt : k < ps.length
    · obtain ⟨b, o, c', x, e, c0, c1, c2, c3, q0⟩ := (H.out.keep HF.out.bel).at_ hlt
      cases e
      have HFP := Lib.hid (HS.out.2 _ (List.getElem_mem hlt))
      have HPUT := Lib.hid (fun (w1 : World) (hb : Below wr.heap.size wr w1) (u : Value) (hp : ORows w1 wr.heap.size u ps[k].terms) => HF.out.put hlt hb hp)
      generalize ps[k] = p at q0 c0 c1 c2 HFP HPUT
      have HI := Lib.hid (show RStep wr (.agg #[.int .i64 p.ax, .bool p.back, .int .i64 p.at_, x]) p from ⟨x, rfl, q0⟩)
      obtain ⟨A0, d0, rfl, -⟩ := q0.form
      clear q0
      go_wp2_with fail
      refine (toStep_any _ p _ HI.out HFP.out).mono ?_
      rintro e' w1 ⟨u, rfl, ho, hb⟩
      obtain ⟨u', rfl, ho'⟩ := ho
      obtain ⟨B0, g0, rfl, -⟩ := ho'.reads.form
      obtain ⟨z0, m0, n0⟩ := HF.out.cell hb (j := k * 4) (by omega)
      obtain ⟨z1, m1, n1⟩ := HF.out.cell hb (j := k * 4 + 1) (by omega)
      obtain ⟨z2, m2, n2⟩ := HF.out.cell hb (j := k * 4 + 2) (by omega)
      obtain ⟨z3, m3, n3⟩ := HF.out.cell hb (j := k * 4 + 3) (by omega)
      have HN := Lib.hid (HPUT.out _ hb _ ho')
      clear ho' hb c0 c1 c2 c3
      go_wp2
      go_roundw
      case rel => exact ⟨k + 1, by omega, by go_num, HN.out⟩
      case measure => simp [intOf]; omega
    · have hkn : k = ps.length := by omega
      go_wp2
      go_ret
      obtain ⟨r1, r2⟩ := HF.out.done hkn (by omega)
      exact ⟨_, rfl, r1, r2⟩

theorem takeP_bad {xs ys : List MStep} {k : Nat} (hx : k < xs.length) (hy : k < ys.length) (he : sameP xs[k] ys[k] = false) : samePs xs ys = false := by
  cases h : samePs xs ys with
  | false => rfl
  | true =>
    have := samePs_eq.1 h
    subst this
    rw [sameP_self] at he
    cases he
theorem eqStepS_any (v v' : Value) (xs ys : List MStep) (w : World) (h : RSteps w v xs) (h' : RSteps w v' ys) :
    Calls Try.prog 29 #[v, v'] w fun e w' => e = .returned (.bool (samePs xs ys)) ∧ Below w.heap.size w w' := by
  have H := Lib.hid h
  have H' := Lib.hid h'
  have hn := h.len
  have hn' := h'.len
  obtain ⟨A, c, rfl, -⟩ := h.form
  obtain ⟨A', c', rfl, -⟩ := h'.form
  clear h h'
  by_cases hl : xs.length = ys.length
  · have hl' : ((xs.length : Int) != (ys.length : Int)) = false := by simp [hl]
    have HL := Lib.hid hl
    have hle : xs.length ≤ ys.length := by omega
    have hge : ys.length ≤ xs.length := by omega
    clear hl
    go_enter Try.func29, Try.ntmps29
    go_wp2
    go_loopw [5] (fun i wr => ∃ k : Nat, k ≤ xs.length ∧ i = .int .i64 k ∧ xs.take k = ys.take k ∧ Below w.heap.size w wr) (fun i _ => xs.length - (intOf i).toNat)
    case atStart => exact ⟨0, Nat.zero_le _, rfl, rfl, Below.refl _ _⟩
    case round =>
      obtain ⟨k, hk, rfl, hb0, hd⟩ := hrel
      have hb := Lib.hid hb0
      have HD := Lib.hid hd
      clear hb0 hd
      by_cases hlt : k < xs.length
      · obtain ⟨b, o, c3, xv, e, c00, c01, c02, c03, q0⟩ := (H.out.keep HD.out).at_ hlt
        cases e
        obtain ⟨b', o', c4, yv, e, d00, d01, d02, d03, p0⟩ := (H'.out.keep HD.out).at_ (show k < ys.length by omega)
        cases e
        have hs1 : (k : Int) < (xs.length : Int) := by omega
        have hs2 : (k : Int) < (ys.length : Int) := by omega
        have HT := Lib.hid (take_succ_eq hlt (show k < ys.length by omega) hb.out)
        have HN := Lib.hid (takeP_bad hlt (show k < ys.length by omega))
        generalize xs[k] = x at q0 c00 c01 c02 HT HN
        generalize ys[k]'(by omega) = y at p0 d00 d01 d02 HT HN
        have HX := Lib.hid (show RStep wr (.agg #[.int .i64 x.ax, .bool x.back, .int .i64 x.at_, xv]) x from ⟨xv, rfl, q0⟩)
        have HY := Lib.hid (show RStep wr (.agg #[.int .i64 y.ax, .bool y.back, .int .i64 y.at_, yv]) y from ⟨yv, rfl, p0⟩)
        obtain ⟨A0, g0, rfl, -⟩ := q0.form
        obtain ⟨B0, h0, rfl, -⟩ := p0.form
        clear q0 p0
        have ea := World.new_ne wr _ c00
        have eb := World.new_ne wr _ d00
        cases hxy : sameP x y with
        | true =>
          have HXY := Lib.hid hxy
          clear hxy
          go_wp2_with fail
          go_region_held3 (fun w' => w'.cell? ⟨b, o + k * 4, none⟩ = some (.int .i64 x.ax) ∧ w'.cell? ⟨b, o + k * 4 + 1, none⟩ = some (.bool x.back) ∧ w'.cell? ⟨b, o + k * 4 + 2, none⟩ = some (.int .i64 x.at_) ∧ w'.cell? ⟨b, o + k * 4 + 3, none⟩ = some (.slice A0 x.terms.length g0) ∧ w'.cell? ⟨b', o' + k * 4, none⟩ = some (.int .i64 y.ax) ∧ w'.cell? ⟨b', o' + k * 4 + 1, none⟩ = some (.bool y.back) ∧ w'.cell? ⟨b', o' + k * 4 + 2, none⟩ = some (.int .i64 y.at_) ∧ w'.cell? ⟨b', o' + k * 4 + 3, none⟩ = some (.slice B0 y.terms.length h0)) (first | go_keep)
            (first
              | (go_at_call 84; refine (eqStep_is _ _ _ _ wr.drew _ HXY.out (HX.out.keep (eq_drew _)) (HY.out.keep (eq_drew _))).mono ?_; rintro e w2 ⟨rfl, hb2⟩; have HB2 := Lib.hid (eq_undrew hb2); have j0 := cell_keep HB2.out c00; have j1 := cell_keep HB2.out c01; have j2 := cell_keep HB2.out c02; have j3 := cell_keep HB2.out c03; have j4 := cell_keep HB2.out d00; have j5 := cell_keep HB2.out d01; have j6 := cell_keep HB2.out d02; have j7 := cell_keep HB2.out d03; clear hb2))
          have HBN := Lib.hid (sz_keep HD.out HB2.out)
          clear c00 c01 c02 c03 d00 d01 d02 d03 j0 j1 j2 j3 j4 j5 j6 j7 ea eb
          go_wp2
          go_roundw
          case rel => exact ⟨k + 1, by omega, by go_num, HT.out (sameP_eq.1 HXY.out), HBN.out⟩
          case measure => simp [intOf]; omega
        | false =>
          have HXY := Lib.hid hxy
          clear hxy
          go_wp2_with fail
          go_region_held3 (fun w' => w'.cell? ⟨b, o + k * 4, none⟩ = some (.int .i64 x.ax) ∧ w'.cell? ⟨b, o + k * 4 + 1, none⟩ = some (.bool x.back) ∧ w'.cell? ⟨b, o + k * 4 + 2, none⟩ = some (.int .i64 x.at_) ∧ w'.cell? ⟨b, o + k * 4 + 3, none⟩ = some (.slice A0 x.terms.length g0) ∧ w'.cell? ⟨b', o' + k * 4, none⟩ = some (.int .i64 y.ax) ∧ w'.cell? ⟨b', o' + k * 4 + 1, none⟩ = some (.bool y.back) ∧ w'.cell? ⟨b', o' + k * 4 + 2, none⟩ = some (.int .i64 y.at_) ∧ w'.cell? ⟨b', o' + k * 4 + 3, none⟩ = some (.slice B0 y.terms.length h0)) (first | go_keep)
            (first
              | (go_at_call 84; refine (eqStep_is _ _ _ _ wr.drew _ HXY.out (HX.out.keep (eq_drew _)) (HY.out.keep (eq_drew _))).mono ?_; rintro e w2 ⟨rfl, hb2⟩; have HB2 := Lib.hid (eq_undrew hb2); have j0 := cell_keep HB2.out c00; have j1 := cell_keep HB2.out c01; have j2 := cell_keep HB2.out c02; have j3 := cell_keep HB2.out c03; have j4 := cell_keep HB2.out d00; have j5 := cell_keep HB2.out d01; have j6 := cell_keep HB2.out d02; have j7 := cell_keep HB2.out d03; clear hb2))
          have HBN := Lib.hid (sz_keep HD.out HB2.out)
          clear c00 c01 c02 c03 d00 d01 d02 d03 j0 j1 j2 j3 j4 j5 j6 j7 ea eb
          go_wp2
          go_ret
          exact ⟨ret_bool (HN.out HXY.out).symm, HBN.out⟩
      · go_wp2
        go_ret
        have h := hb.out
        rw [take_all (by omega), take_all (by omega)] at h
        exact ⟨ret_bool (by rw [h, samePs_self]), HD.out⟩
  · have hl' : ((xs.length : Int) != (ys.length : Int)) = true := by simp; omega
    have HL := Lib.hid hl
    clear hl
    go_enter Try.func29, Try.ntmps29
    go_wp2
    go_ret
    refine ⟨ret_bool ?_, Below.refl _ _⟩
    cases h : samePs xs ys with
    | false => rfl
    | true => have := samePs_eq.1 h; subst this; exact absurd rfl HL.out
theorem eqStepS_is (v v' : Value) (xs ys : List MStep) (w : World) (r : Bool) (hr : samePs xs ys = r) (h : RSteps w v xs) (h' : RSteps w v' ys) :
    Calls Try.prog 29 #[v, v'] w fun e w' => e = .returned (.bool r) ∧ Below w.heap.size w w' := by
  subst hr; exact eqStepS_any v v' xs ys w h h'
end

section
open Go.ChangeShapes Go.WideShapes Go.ChangeAt Go.RowKit Go.Deep Go.Joins
set_option linter.unusedVariables false

set_option maxRecDepth 100000 in
theorem step_of {H : Type} {enc : TypeId × Value → H} {W : World} {base : Nat} {v : Value} {d : DataW H} {p : List MemPlace} (hv : Value.okWide Try.prog W .any base 107 v)
    (h : DataW.Trod enc Try.prog W 0 (fun _ => true) true 107 v d p) : ∃ s, RStep W v s ∧ SmallP s := by
  obtain ⟨v0, v1, v2, v3, y0, y1, y2, y3, n, rfl, -, -, h0, h1, h2, h3⟩ := open_agg4 Try.underlying107 (by kernel_rfl) (by kernel_rfl) hv h
  obtain ⟨a, e0, -, -⟩ := DataW.trod_int Try.underlying3 h0
  simp at e0
  subst e0
  obtain ⟨c, e2, -, -⟩ := DataW.trod_int Try.underlying3 h2
  simp at e2
  subst e2
  obtain ⟨b, rfl⟩ : ∃ b, v1 = .bool b := by
    obtain ⟨b, hb, -⟩ := DataW.trod_bool Try.underlying4 h1
    simp at hb
    exact ⟨b, hb⟩
  obtain ⟨rows, r, s⟩ := rows_cell h3
  exact ⟨⟨a, b, c, rows⟩, ⟨_, rfl, r⟩, s⟩

instance : Inhabited MStep := ⟨⟨0, false, 0, []⟩⟩
set_option maxRecDepth 100000 in
theorem cells_Step : Try.prog.cellsOf 107 = 4 := by kernel_rfl
set_option maxRecDepth 100000 in
theorem steps_cell {H : Type} {enc : TypeId × Value → H} {W : World} {fuel : Nat} {u : Value} {x : DataW H × List MemPlace} (hf : DataW.trod enc Try.prog W 0 (fun _ => true) true fuel 56 [u] = some x) : ∃ es, RSteps W u es ∧ SmallPs es := by
  rcases open_slice Try.underlying56 hf with ⟨hcs, -⟩ | ⟨a, len, cap, m, n, D, Pl, hcs, hb, hl, hm, hmm, -, hx⟩
  · simp at hcs
    subst hcs
    exact ⟨[], RSteps.nil _, fun e he => by simp at he⟩
  · simp at hcs
    subst hcs
    have hlm : len ≤ m := by rw [hmm]; split <;> omega
    have each : ∀ i, i < len → ∃ q : MStep, (∃ b o u, a = ⟨b, o, none⟩ ∧ W.cell? ⟨b, o + i * 4, none⟩ = some (.int .i64 q.ax) ∧ W.cell? ⟨b, o + i * 4 + 1, none⟩ = some (.bool q.back) ∧ W.cell? ⟨b, o + i * 4 + 2, none⟩ = some (.int .i64 q.at_) ∧ W.cell? ⟨b, o + i * 4 + 3, none⟩ = some u ∧ RRows W u q.terms) ∧ SmallP q := by
      intro i hi
      obtain ⟨cs', h1, h2⟩ := hx i (by omega)
      rw [cells_Step] at h1
      obtain ⟨-, hlen, hcell⟩ := World.cells?_some h1
      obtain ⟨y0, y1, y2, y3, n', -, -, g0, g1, g2, g3⟩ := trod_struct4 Try.underlying107 h2
      match cs', hlen with
      | [v0, v1, v2, v3], _ =>
        have c0 := hcell 0 (by omega)
        have c1 := hcell 1 (by omega)
        have c2 := hcell 2 (by omega)
        have c3 := hcell 3 (by omega)
        have hsp0 : a.spot = none := by
          obtain ⟨cs0, k1, -⟩ := hx 0 (by omega)
          rw [cells_Step] at k1
          obtain ⟨-, hl0, hc0⟩ := World.cells?_some k1
          have c := hc0 0 (by omega)
          rw [List.getElem?_eq_getElem (by omega)] at c
          have := spot_none c
          simpa [Addr.add] using this
        obtain ⟨b, o, sp⟩ := a
        simp only at hsp0
        subst hsp0
        rw [add_add, add_plain] at c0 c1 c2 c3
        have k1 : Try.prog.cellsOf 3 = 1 := by kernel_rfl
        have k2 : Try.prog.cellsOf 4 = 1 := by kernel_rfl
        have k3 : Try.prog.cellsOf 22 = 1 := by kernel_rfl
        simp [k1, k2, k3] at g0 g1 g2 g3
        obtain ⟨p, e0, -, -⟩ := DataW.trod_int Try.underlying3 g0
        simp at e0
        subst e0
        obtain ⟨r, e2, -, -⟩ := DataW.trod_int Try.underlying3 g2
        simp at e2
        subst e2
        obtain ⟨q, e1, -⟩ := DataW.trod_bool Try.underlying4 g1
        simp at e1
        subst e1
        obtain ⟨rows, r1, s1⟩ := rows_cell g3
        exact ⟨⟨p, q, r, rows⟩, ⟨b, o, v3, rfl, by simpa using c0, by simpa [Nat.add_assoc] using c1, by simpa [Nat.add_assoc] using c2, by simpa [Nat.add_assoc] using c3, r1⟩, s1⟩
    obtain ⟨q, hq⟩ := choose_lt each
    refine ⟨(List.range len).map q, ⟨some a, cap, by simp, by simpa using hl, hm, fun j e hj => ?_⟩, fun e he => ?_⟩
    · simp only [List.getElem?_map] at hj
      obtain ⟨r, hr', rfl⟩ := Option.map_eq_some_iff.1 hj
      obtain ⟨hjl, hrj⟩ := List.getElem?_eq_some_iff.1 hr'
      simp at hjl hrj
      subst hrj
      obtain ⟨⟨b, o, u, rfl, r⟩, -⟩ := hq j hjl
      exact ⟨b, o, u, rfl, r⟩
    · obtain ⟨r, hr', rfl⟩ := List.mem_map.1 he
      simp at hr'
      exact (hq r hr').2
set_option maxRecDepth 100000 in
theorem steps_of {H : Type} {enc : TypeId × Value → H} {W : World} {base : Nat} {v : Value} {d : DataW H} {p : List MemPlace} (hv : Value.okWide Try.prog W .any base 56 v)
    (h : DataW.Trod enc Try.prog W 0 (fun _ => true) true 56 v d p) : ∃ es, RSteps W v es ∧ SmallPs es := by
  obtain ⟨a0, len0, cap0, rfl⟩ := okWide_slice Try.underlying56 hv
  obtain ⟨fuel, hf⟩ := h
  exact steps_cell (by simpa [Value.cells] using hf)
end

section
open Go.RowKit
set_option linter.unusedVariables false

def marks (k : Int) (n : Nat) : List Int := (List.range n).map fun (i : Nat) => k + (i : Int)
theorem marks_len (k : Int) (n : Nat) : (marks k n).length = n := by simp [marks]
theorem marks_at {k : Int} {n j : Nat} (h : j < (marks k n).length) : (marks k n)[j] = k + (j : Int) := by simp [marks]

/-- of w's blocks only those from B on and below M may have turned, and none is new -/
structure Outside (B M : Nat) (w w' : World) : Prop where
  os : w'.os = w.os
  tape : w'.tape = w.tape
  output : w'.output = w.output
  size : w'.heap.size = w.heap.size
  block : ∀ k, k < B ∨ M ≤ k → w'.heap[k]? = w.heap[k]?
theorem Outside.refl (B M : Nat) (w : World) : Outside B M w w := ⟨rfl, rfl, rfl, rfl, fun _ _ => rfl⟩
theorem Outside.trans {B M : Nat} {a b c : World} (h : Outside B M a b) (k : Outside B M b c) : Outside B M a c :=
  ⟨k.os.trans h.os, k.tape.trans h.tape, k.output.trans h.output, k.size.trans h.size, fun i hi => (k.block i hi).trans (h.block i hi)⟩
theorem Outside.below {B M : Nat} {w w' : World} (h : Outside B M w w') : Below B w w' := ⟨h.os, h.tape, h.output, Nat.le_of_eq h.size.symm, fun k hk => h.block k (.inl hk)⟩
theorem Outside.mono {B M B' M' : Nat} {w w' : World} (h : Outside B M w w') (hB : B' ≤ B) (hM : M ≤ M') : Outside B' M' w w' := ⟨h.os, h.tape, h.output, h.size, fun k hk => h.block k (by omega)⟩
theorem own_outside {w w' : World} {B M C : Nat} {e : TypeId} {size n : Nat} {v : Value} {zs : List Value} (h : w.ownsRow C e size v n zs) (ho : Outside B M w w') (hC : ∀ k, v.ownBlock = some k → k < B ∨ M ≤ k) : w'.ownsRow C e size v n zs := by
  refine ⟨h.1, ?_⟩
  rcases h.2 with h2 | ⟨g, cap, cur, rfl, hg, hh, r⟩
  · exact .inl h2
  · exact .inr ⟨g, cap, cur, rfl, hg, (ho.block g (hC g rfl)).trans hh, r⟩

/-- a row of the call's own whose first k places bear marks -/
def Marking (w wr : World) (B : Nat) (v : Value) (xs : List Int) (k0 : Int) (k : Nat) : Prop :=
  (∃ ys : List Int, ys.length = xs.length ∧ OInts wr B v ys ∧ ∀ j, j < k → ys[j]? = some (k0 + (j : Int))) ∧ w.grownBy wr v.ownBlock ∧ wr.heap.size = w.heap.size

theorem Marking.start {w : World} {B : Nat} {v : Value} {xs : List Int} (k0 : Int) (h : OInts w B v xs) : Marking w w B v xs k0 0 := ⟨⟨xs, rfl, h, fun j hj => by omega⟩, ⟨rfl, rfl, rfl, Nat.le_refl _, fun _ _ _ => rfl⟩, rfl⟩
theorem Marking.cell {w wr : World} {B g c : Nat} {n : Nat} {xs : List Int} {k0 : Int} {k : Nat} (h : Marking w wr B (.slice (some ⟨g, 0, none⟩) n c) xs k0 k) (hk : k < xs.length) : ∃ u, wr.cell? ⟨g, k, none⟩ = some u ∧ wr.frozen? ⟨g, k, none⟩ = false := by
  obtain ⟨⟨ys, h1, h2, h3⟩, h4⟩ := h
  rcases h2.2 with ⟨e, _⟩ | ⟨g', cap, cur, e, hg, hh, a1, a2, a3, a4⟩
  · cases e
  · injection e with e1 e2
    injection e1 with e1
    injection e1 with e1
    subst e1
    exact ⟨cur[k]'(by omega), (blk_cell hh k).trans (Array.getElem?_eq_getElem (by omega)), blk_free hh k⟩
theorem Marking.step {w wr : World} {B g c : Nat} {n : Nat} {xs : List Int} {k0 : Int} {k : Nat} (h : Marking w wr B (.slice (some ⟨g, 0, none⟩) n c) xs k0 k) (hk : k < xs.length) :
    Marking w (wr.setCell ⟨g, k, none⟩ (.int .i64 (k0 + (k : Int)))) B (.slice (some ⟨g, 0, none⟩) n c) xs k0 (k + 1) := by
  obtain ⟨⟨ys, h1, h2, h3⟩, h4⟩ := h
  have hgl := own_lt h2 g rfl
  have hn : n = ys.length := by
    obtain ⟨A, c', e, _⟩ := own_reads h2
    injection e
  subst hn
  have hst := h2.stored k (.int .i64 (k0 + (k : Int)))
  refine ⟨⟨ys.set k (k0 + (k : Int)), by simpa using h1, ?_, fun j hj => ?_⟩, ⟨h4.1.os, h4.1.tape, h4.1.output, by simpa [World.setCell] using h4.1.size, fun i hi hne => (hst.2.block i (by rw [h4.2]; exact hi) hne).trans (h4.1.block i hi hne)⟩, by simpa [World.setCell] using h4.2⟩
  · unfold OInts
    rw [List.length_set, List.map_set]
    exact hst.1
  · by_cases hjk : k = j
    · subst hjk
      rw [List.getElem?_set_self (by omega)]
    · rw [List.getElem?_set_ne hjk]
      exact h3 j (by omega)
theorem Marking.done {w wr : World} {B : Nat} {v : Value} {xs : List Int} {k0 : Int} {k : Nat} (h : Marking w wr B v xs k0 k) (hk : k = xs.length) : OInts wr B v (marks k0 xs.length) ∧ w.grownBy wr v.ownBlock ∧ wr.heap.size = w.heap.size := by
  obtain ⟨⟨ys, h1, h2, h3⟩, h4⟩ := h
  have e : ys = marks k0 xs.length := by
    apply List.ext_getElem?
    intro j
    by_cases hj : j < xs.length
    · rw [h3 j (by omega), List.getElem?_eq_getElem (by rw [marks_len]; exact hj), marks_at]
    · rw [List.getElem?_eq_none (by omega), List.getElem?_eq_none (by rw [marks_len]; omega)]
  rw [← e]; exact ⟨h2, h4⟩

theorem markIntS_any (v : Value) (B : Nat) (xs : List Int) (k0 : Int) (w : World) (h : OInts w B v xs) (hs : xs.length ≤ 1048576) (h0 : 0 ≤ k0) (h1 : k0 ≤ 1000000000000000) :
    Calls Try.prog 35 #[v, .int .i64 k0] w fun e w' => e = .returned (.int .i64 (k0 + (xs.length : Int))) ∧ OInts w' B v (marks k0 xs.length) ∧ w.grownBy w' v.ownBlock ∧ w'.heap.size = w.heap.size := by
  have H := Lib.hid (Marking.start k0 h)
  obtain ⟨A, c, rfl, hc, -⟩ := h.reads.form
  have hA : xs.length ≠ 0 → ∃ g, A = some ⟨g, 0, none⟩ := fun hne => by
    rcases h.2 with ⟨e, e2⟩ | ⟨g, cap, cur, e, -⟩
    · exact absurd e2 hne
    · injection e with e; exact ⟨g, e⟩
  have HA := Lib.hid hA
  clear h hA
  go_enter Try.func35, Try.ntmps35
  go_wp2
  go_loopw [1, 5] (fun l i wr => ∃ k : Nat, k ≤ xs.length ∧ i = .int .i64 k ∧ l = .int .i64 (k0 + (k : Int)) ∧ Marking w wr B (.slice A xs.length c) xs k0 k) (fun _ i _ => xs.length - (intOf i).toNat)
  case atStart => exact ⟨0, Nat.zero_le _, rfl, by simp, H.out⟩
  case round =>
    obtain ⟨k, hk, rfl, rfl, hm⟩ := hrel
    have HM := Lib.hid hm
    clear hm
    by_cases hlt : k < xs.length
    · obtain ⟨g, rfl⟩ := HA.out (by omega)
      obtain ⟨u, g1, g2⟩ := HM.out.cell hlt
      go_wp2
      go_roundw
      case rel => exact ⟨k + 1, by omega, by go_num, by go_num, HM.out.step hlt⟩
      case measure => simp [intOf]; omega
    · go_wp2
      go_ret
      obtain ⟨r1, r2⟩ := HM.out.done (by omega)
      have hkn : k = xs.length := by omega
      subst hkn
      exact ⟨rfl, r1, r2⟩

theorem heldIntS_any (v : Value) (n : Nat) (k0 : Int) (w : World) (h : RInts w v (marks k0 n)) (hs : n ≤ 1048576) (h0 : 0 ≤ k0) (h1 : k0 ≤ 1000000000000000) :
    Calls Try.prog 104 #[v, .int .i64 k0] w fun e w' => e = .returned (.int .i64 (k0 + (n : Int))) ∧ Drawn w w' := by
  have H := Lib.hid h
  obtain ⟨A, c, e, -⟩ := h.form
  rw [marks_len] at e
  subst e
  clear h
  go_enter Try.func104, Try.ntmps104
  go_wp2
  go_loopw [1, 5] (fun l i wr => ∃ k : Nat, k ≤ n ∧ i = .int .i64 k ∧ l = .int .i64 (k0 + (k : Int)) ∧ Drawn w wr) (fun _ i _ => n - (intOf i).toNat)
  case atStart => exact ⟨0, Nat.zero_le _, rfl, by simp, Drawn.refl _⟩
  case round =>
    obtain ⟨k, hk, rfl, rfl, hd⟩ := hrel
    have HD := Lib.hid hd
    clear hd
    by_cases hlt : k < n
    · obtain ⟨b, o, c', e, hx⟩ := (H.out.keep HD.out.below).at_ (k := k) (by rw [marks_len]; exact hlt)
      rw [marks_len] at e
      cases e
      rw [marks_at] at hx
      have e1 : (k0 + (k : Int) != k0 + (k : Int)) = false := by simp
      go_wp2
      go_roundw
      case rel => exact ⟨k + 1, by omega, by go_num, by go_num, HD.out⟩
      case measure => simp [intOf]; omega
    · go_wp2
      go_ret
      have hkn : k = n := by omega
      subst hkn
      exact ⟨rfl, HD.out⟩

/-- a list of rows of the call's own, whose rows bear whatever numbers; us: where they lie -/
structure MarkR (w wr : World) (B M : Nat) (v : Value) (us : List Value) (rows : List (List Int)) : Prop where
  own : wr.ownsRow B 28 1 v rows.length us
  len : us.length = rows.length
  row : ∀ (j : Nat) (u : Value) (row : List Int), us[j]? = some u → rows[j]? = some row → ∃ ys : List Int, ys.length = row.length ∧ OInts wr B u ys
  apart : ∀ (i j : Nat) (u u' : Value), i < j → us[i]? = some u → us[j]? = some u' → u.ownBlock = none ∨ u.ownBlock ≠ u'.ownBlock
  low : ∀ (j : Nat) (u : Value), us[j]? = some u → ∀ k, u.ownBlock = some k → B ≤ k ∧ k < M
  frame : Outside B M w wr
theorem MarkR.start {w0 w : World} {B : Nat} {v : Value} {rows : List (List Int)} (h : ORows w0 B v rows) (hb : Below w0.heap.size w0 w) : ∃ us, MarkR w w B w0.heap.size v us rows := by
  obtain ⟨us, h1, h2, h3, h4⟩ := h
  refine ⟨us, own_keep h1 hb, h2, fun j u row hu hr => ⟨row, rfl, (h3 j u row hu hr).keep hb⟩, h4, fun j u hu k hk => ?_, Outside.refl _ _ _⟩
  have hj : j < rows.length := by rw [← h2]; exact (List.getElem?_eq_some_iff.1 hu).1
  exact own_lt (h3 j u _ hu (List.getElem?_eq_getElem hj)) k hk
theorem MarkR.step {w wr w1 : World} {B M : Nat} {v u : Value} {us : List Value} {rows : List (List Int)} {j : Nat} {ys : List Int} (h : MarkR w wr B M v us rows) (hu : us[j]? = some u) (hy : OInts w1 B u ys) (hyl : ∀ row, rows[j]? = some row → ys.length = row.length)
    (hxs : ∃ xs, OInts wr B u xs) (hg : wr.grownBy w1 u.ownBlock) (hz : w1.heap.size = wr.heap.size) : MarkR w w1 B M v us rows := by
  obtain ⟨xs, hxs⟩ := hxs
  refine ⟨own_grown h.own hg (own_ne h.own hxs (by decide)), h.len, fun i x row hx hr => ?_, h.apart, h.low, h.frame.trans ⟨hg.os, hg.tape, hg.output, hz, fun k hk => ?_⟩⟩
  · by_cases hij : i = j
    · subst hij
      rw [hu] at hx
      cases hx
      exact ⟨ys, hyl row hr, hy⟩
    · obtain ⟨zs, z1, z2⟩ := h.row i x row hx hr
      refine ⟨zs, z1, own_grown z2 hg ?_⟩
      rcases Nat.lt_or_gt_of_ne hij with hlt | hgt
      · exact h.apart i j x u hlt hx hu
      · rcases h.apart j i u x hgt hu hx with e | e
        · rw [e]
          cases x.ownBlock with
          | none => exact .inl rfl
          | some k => right; simp
        · exact .inr (fun e' => e e'.symm)
  · by_cases hkl : k < wr.heap.size
    · exact hg.block k hkl (fun e => by have := h.low j u hu k e.symm; omega)
    · rw [Array.getElem?_eq_none (by omega), Array.getElem?_eq_none (by omega)]

theorem markIntSS_any (v : Value) (B : Nat) (rows : List (List Int)) (k0 : Int) (w0 w : World) (h : ORows w0 B v rows) (hb : Below w0.heap.size w0 w) (hs : rows.length ≤ 1048576) (hs2 : ∀ row ∈ rows, row.length ≤ 1048576) (h0 : 0 ≤ k0) (h1 : k0 ≤ 100) :
    Calls Try.prog 36 #[v, .int .i64 k0] w fun e w' => ∃ k : Int, e = .returned (.int .i64 k) ∧ 0 ≤ k ∧ k ≤ 10000000000000 ∧ Outside B w0.heap.size w w' := by
  obtain ⟨us, hm0⟩ := MarkR.start h hb
  have HM0 := Lib.hid hm0
  have HS2 := Lib.hid hs2
  obtain ⟨A, c, rfl, -⟩ := own_reads hm0.own
  clear h hb hm0 hs2
  go_enter Try.func36, Try.ntmps36
  go_wp2
  go_loopw [1, 5] (fun l i wr => ∃ k : Nat, ∃ x : Int, k ≤ rows.length ∧ i = .int .i64 k ∧ l = .int .i64 x ∧ 0 ≤ x ∧ x ≤ 100 + 1048576 * (k : Int) ∧ MarkR w wr B w0.heap.size (.slice A rows.length c) us rows) (fun _ i _ => rows.length - (intOf i).toNat)
  case atStart => exact ⟨0, k0, Nat.zero_le _, rfl, rfl, h0, by omega, HM0.out⟩
  case round =>
    obtain ⟨k, x, hk, rfl, rfl, hx0, hx1, hm⟩ := hrel
    have HM := Lib.hid hm
    clear hm
    by_cases hlt : k < rows.length
    · have hul : k < us.length := by rw [HM.out.len]; exact hlt
      obtain ⟨ys, hyl, hyo⟩ := HM.out.row k us[k] rows[k] (List.getElem?_eq_getElem hul) (List.getElem?_eq_getElem hlt)
      have hrl := HS2.out _ (List.getElem_mem hlt)
      obtain ⟨A0, c0, e0, -, -, hcells⟩ := own_reads HM.out.own
      cases e0
      obtain ⟨b, o, ea, hcell⟩ := hcells k us[k] (List.getElem?_eq_getElem hul)
      subst ea
      have HU := Lib.hid (List.getElem?_eq_getElem hul)
      have HYL := Lib.hid (And.intro hyl hrl)
      have HR := Lib.hid (List.getElem?_eq_getElem hlt)
      generalize us[k] = u at hyo hcell HU
      have HYO := Lib.hid hyo
      obtain ⟨Au, cu, rfl, -⟩ := own_reads hyo
      clear hyo hyl hrl hcells hul
      go_wp2_with fail
      refine (markIntS_any _ B ys _ _ HYO.out (by have := HYL.out; omega) hx0 (by omega)).mono ?_
      rintro e w1 ⟨rfl, ho, hg, hz⟩
      have HN := Lib.hid (HM.out.step HU.out ho (fun row hr => by rw [marks_len]; have h := HR.out; rw [h] at hr; cases hr; exact HYL.out.1) ⟨ys, HYO.out⟩ hg hz)
      have hyl : (ys.length : Int) ≤ 1048576 := by have := HYL.out; omega
      clear ho hg hz
      go_wp2
      go_roundw
      case rel => exact ⟨k + 1, _, by omega, by go_num, rfl, by omega, by omega, HN.out⟩
      case measure => simp [intOf]; omega
    · go_wp2
      go_ret
      exact ⟨x, rfl, hx0, by omega, HM.out.frame⟩

theorem markSig_any (v : Value) (B : Nat) (s : MSig) (k0 : Int) (w0 w : World) (h : OSig w0 B v s) (hb : Below w0.heap.size w0 w) (hs : s.ops.length ≤ 1048576) (hs2 : ∀ row ∈ s.ops, row.length ≤ 1048576) (h0 : 0 ≤ k0) (h1 : k0 ≤ 100) :
    Calls Try.prog 65 #[v, .int .i64 k0] w fun e w' => ∃ k : Int, e = .returned (.int .i64 k) ∧ 0 ≤ k ∧ k ≤ 10000000000000 ∧ ∃ o, Outside B w0.heap.size (w.alloc o) w' := by
  obtain ⟨u, rfl, ho⟩ := h
  obtain ⟨sorts, ops⟩ := s
  have HO := Lib.hid ho
  have HB := Lib.hid (hb.trans ((below_alloc w (.cells #[.int .i64 sorts, u] 37)).mono hb.size))
  have HS := Lib.hid (And.intro hs hs2)
  obtain ⟨A, c, rfl, -⟩ := ho.reads.form
  clear ho hb hs hs2
  go_enter Try.func65, Try.ntmps65
  go_wp2_with fail
  refine (markIntSS_any _ B ops _ w0 _ HO.out HB.out HS.out.1 HS.out.2 h0 h1).mono ?_
  rintro e w1 ⟨k, rfl, hk0, hk1, hout⟩
  have HOUT := Lib.hid hout
  clear hout
  go_wp2
  go_ret
  exact ⟨k, rfl, hk0, hk1, _, HOUT.out⟩
end

section
open Go.RowKit
set_option linter.unusedVariables false

def tot (rows : List (List Int)) : Nat := (rows.map List.length).sum
theorem tot_take {rows : List (List Int)} {k : Nat} (hk : k < rows.length) : tot (rows.take (k + 1)) = tot (rows.take k) + rows[k].length := by
  unfold tot; rw [List.take_succ_eq_append_getElem hk, List.map_append, List.sum_append]; simp
def marksR (k : Int) : List (List Int) → List (List Int)
  | [] => []
  | r :: rs => marks k r.length :: marksR (k + (r.length : Int)) rs
theorem marksR_at (rows : List (List Int)) : ∀ (k : Int) (j : Nat), (marksR k rows)[j]? = (rows[j]?).map fun r => marks (k + (tot (rows.take j) : Int)) r.length := by
  induction rows with
  | nil => intro k j; simp [marksR]
  | cons r rs ih =>
    intro k j
    cases j with
    | zero => simp [marksR, tot]
    | succ j =>
      simp only [marksR, List.getElem?_cons_succ, ih, List.take_succ_cons]
      congr 1
      funext x
      congr 1
      simp [tot]
      omega
theorem marksR_len (rows : List (List Int)) : ∀ k, (marksR k rows).length = rows.length := by
  induction rows with
  | nil => intro k; rfl
  | cons r rs ih => intro k; simp [marksR, ih]
theorem tot_le {rows : List (List Int)} (h : ∀ row ∈ rows, row.length ≤ 1048576) : tot rows ≤ 1048576 * rows.length := by
  unfold tot
  induction rows with
  | nil => simp
  | cons r rs ih =>
    have h1 := h r (List.mem_cons_self ..)
    have h2 := ih (fun row hr => h row (List.mem_cons_of_mem _ hr))
    simp only [List.map_cons, List.sum_cons, List.length_cons]
    omega

structure MarkP (w wr : World) (B M : Nat) (v : Value) (us : List Value) (rows : List (List Int)) (k0 : Int) (k : Nat) : Prop where
  own : wr.ownsRow B 28 1 v rows.length us
  len : us.length = rows.length
  done : ∀ (j : Nat) (u : Value) (row : List Int), j < k → us[j]? = some u → rows[j]? = some row → OInts wr B u (marks (k0 + (tot (rows.take j) : Int)) row.length)
  todo : ∀ (j : Nat) (u : Value) (row : List Int), k ≤ j → us[j]? = some u → rows[j]? = some row → OInts wr B u row
  apart : ∀ (i j : Nat) (u u' : Value), i < j → us[i]? = some u → us[j]? = some u' → u.ownBlock = none ∨ u.ownBlock ≠ u'.ownBlock
  low : ∀ (j : Nat) (u : Value), us[j]? = some u → ∀ k, u.ownBlock = some k → B ≤ k ∧ k < M
  frame : Outside B M w wr
theorem MarkP.start {w0 w : World} {B : Nat} {v : Value} {rows : List (List Int)} (k0 : Int) (h : ORows w0 B v rows) (hb : Below w0.heap.size w0 w) : ∃ us, MarkP w w B w0.heap.size v us rows k0 0 := by
  obtain ⟨us, h1, h2, h3, h4⟩ := h
  refine ⟨us, own_keep h1 hb, h2, fun j u row hj => by omega, fun j u row _ hu hr => (h3 j u row hu hr).keep hb, h4, fun j u hu k hk => ?_, Outside.refl _ _ _⟩
  have hj : j < rows.length := by rw [← h2]; exact (List.getElem?_eq_some_iff.1 hu).1
  exact own_lt (h3 j u _ hu (List.getElem?_eq_getElem hj)) k hk
theorem MarkP.step {w wr w1 : World} {B M : Nat} {v u : Value} {us : List Value} {rows : List (List Int)} {k0 : Int} {j : Nat} {row0 : List Int} (h : MarkP w wr B M v us rows k0 j) (hu : us[j]? = some u) (hr : rows[j]? = some row0)
    (hy : OInts w1 B u (marks (k0 + (tot (rows.take j) : Int)) row0.length)) (hg : wr.grownBy w1 u.ownBlock) (hz : w1.heap.size = wr.heap.size) : MarkP w w1 B M v us rows k0 (j + 1) := by
  have hxs := h.todo j u row0 (Nat.le_refl _) hu hr
  have other : ∀ {i : Nat} {x : Value} {zs : List Int}, i ≠ j → us[i]? = some x → OInts wr B x zs → OInts w1 B x zs := fun {i x zs} hij hx hz => by
    refine own_grown hz hg ?_
    rcases Nat.lt_or_gt_of_ne hij with hlt | hgt
    · exact h.apart i j x u hlt hx hu
    · rcases h.apart j i u x hgt hu hx with e | e
      · rw [e]
        cases x.ownBlock with
        | none => exact .inl rfl
        | some k => right; simp
      · exact .inr (fun e' => e e'.symm)
  refine ⟨own_grown h.own hg (own_ne h.own hxs (by decide)), h.len, fun i x row hi hx hrow => ?_, fun i x row hi hx hrow => ?_, h.apart, h.low, h.frame.trans ⟨hg.os, hg.tape, hg.output, hz, fun k hk => ?_⟩⟩
  · by_cases hij : i = j
    · subst hij
      rw [hu] at hx
      rw [hr] at hrow
      cases hx
      cases hrow
      exact hy
    · exact other hij hx (h.done i x row (by omega) hx hrow)
  · exact other (by omega) hx (h.todo i x row (by omega) hx hrow)
  · by_cases hkl : k < wr.heap.size
    · exact hg.block k hkl (fun e => by have := h.low j u hu k e.symm; omega)
    · rw [Array.getElem?_eq_none (by omega), Array.getElem?_eq_none (by omega)]
theorem MarkP.all {w wr : World} {B M : Nat} {v : Value} {us : List Value} {rows : List (List Int)} {k0 : Int} {k : Nat} (h : MarkP w wr B M v us rows k0 k) (hk : k = rows.length) : ORows wr B v (marksR k0 rows) ∧ Outside B M w wr := by
  refine ⟨⟨us, by rw [marksR_len]; exact h.own, by rw [marksR_len]; exact h.len, fun j u r hu hr => ?_, h.apart⟩, h.frame⟩
  rw [marksR_at] at hr
  obtain ⟨row, hrow, rfl⟩ := Option.map_eq_some_iff.1 hr
  exact h.done j u row (by rw [hk]; exact (List.getElem?_eq_some_iff.1 hrow).1) hu hrow

theorem markIntSSp_any (v : Value) (B : Nat) (rows : List (List Int)) (k0 : Int) (w0 w : World) (h : ORows w0 B v rows) (hb : Below w0.heap.size w0 w) (hs : rows.length ≤ 1048576) (hs2 : ∀ row ∈ rows, row.length ≤ 1048576) (h0 : 0 ≤ k0) (h1 : k0 ≤ 100000000000000) :
    Calls Try.prog 36 #[v, .int .i64 k0] w fun e w' => e = .returned (.int .i64 (k0 + (tot rows : Int))) ∧ ORows w' B v (marksR k0 rows) ∧ Outside B w0.heap.size w w' := by
  obtain ⟨us, hm0⟩ := MarkP.start k0 h hb
  have HM0 := Lib.hid hm0
  have HS2 := Lib.hid hs2
  obtain ⟨A, c, rfl, -⟩ := own_reads hm0.own
  clear h hb hm0 hs2
  go_enter Try.func36, Try.ntmps36
  go_wp2
  go_loopw [1, 5] (fun l i wr => ∃ k : Nat, k ≤ rows.length ∧ i = .int .i64 k ∧ l = .int .i64 (k0 + (tot (rows.take k) : Int)) ∧ MarkP w wr B w0.heap.size (.slice A rows.length c) us rows k0 k) (fun _ i _ => rows.length - (intOf i).toNat)
  case atStart => exact ⟨0, Nat.zero_le _, rfl, by simp [tot], HM0.out⟩
  case round =>
    obtain ⟨k, hk, rfl, rfl, hm⟩ := hrel
    have HM := Lib.hid hm
    clear hm
    have htt : (tot (rows.take k) : Int) ≤ 1048576 * 1048576 := by
      have := tot_le (rows := rows.take k) (fun row hr => HS2.out row (List.mem_of_mem_take hr))
      rw [List.length_take] at this
      omega
    by_cases hlt : k < rows.length
    · have hul : k < us.length := by rw [HM.out.len]; exact hlt
      have HYO := Lib.hid (HM.out.todo k us[k] rows[k] (Nat.le_refl _) (List.getElem?_eq_getElem hul) (List.getElem?_eq_getElem hlt))
      have hrl := HS2.out _ (List.getElem_mem hlt)
      obtain ⟨A0, c0, e0, -, -, hcells⟩ := own_reads HM.out.own
      cases e0
      obtain ⟨b, o, ea, hcell⟩ := hcells k us[k] (List.getElem?_eq_getElem hul)
      subst ea
      have HU := Lib.hid (List.getElem?_eq_getElem hul)
      have HR := Lib.hid (List.getElem?_eq_getElem hlt)
      have HTT := Lib.hid (tot_take hlt)
      generalize us[k] = u at HYO hcell HU
      generalize rows[k] = row at HYO HR hrl HTT
      obtain ⟨Au, cu, rfl, -⟩ := own_reads HYO.out
      clear hcells hul
      generalize hto : tot (rows.take k) = T at HTT htt
      have HTO := Lib.hid hto
      clear hto
      go_wp2_with fail
      refine (markIntS_any _ B row _ _ HYO.out hrl (by omega) (by omega)).mono ?_
      rintro e w1 ⟨rfl, ho, hg, hz⟩
      have HN := Lib.hid (HM.out.step HU.out HR.out (by rw [HTO.out]; exact ho) hg hz)
      have hyl : (row.length : Int) ≤ 1048576 := by omega
      clear ho hg hz
      go_wp2
      go_roundw
      case rel => exact ⟨k + 1, by omega, by go_num, by rw [HTT.out]; go_num, HN.out⟩
      case measure => simp [intOf]; omega
    · have hkn : k = rows.length := by omega
      have HKN := Lib.hid hkn
      clear hkn
      go_wp2
      go_ret
      obtain ⟨r1, r2⟩ := HM.out.all HKN.out
      refine ⟨?_, r1, r2⟩
      have e := HKN.out
      have e2 : tot (rows.take k) = tot rows := by rw [take_all (by omega)]
      exact ret_int (by rw [e2])

theorem heldIntSS_any (v : Value) (rows : List (List Int)) (k0 : Int) (w : World) (h : RRows w v (marksR k0 rows)) (hs : rows.length ≤ 1048576) (hs2 : ∀ row ∈ rows, row.length ≤ 1048576) (h0 : 0 ≤ k0) (h1 : k0 ≤ 100000000000000) :
    Calls Try.prog 85 #[v, .int .i64 k0] w fun e w' => e = .returned (.int .i64 (k0 + (tot rows : Int))) ∧ Drawn w w' := by
  have H := Lib.hid h
  have HS2 := Lib.hid hs2
  obtain ⟨A, c, e, -⟩ := h.form
  rw [marksR_len] at e
  subst e
  clear h hs2
  go_enter Try.func85, Try.ntmps85
  go_wp2
  go_loopw [1, 5] (fun l i wr => ∃ k : Nat, k ≤ rows.length ∧ i = .int .i64 k ∧ l = .int .i64 (k0 + (tot (rows.take k) : Int)) ∧ Drawn w wr) (fun _ i _ => rows.length - (intOf i).toNat)
  case atStart => exact ⟨0, Nat.zero_le _, rfl, by simp [tot], Drawn.refl _⟩
  case round =>
    obtain ⟨k, hk, rfl, rfl, hd⟩ := hrel
    have HD := Lib.hid hd
    clear hd
    have htt : (tot (rows.take k) : Int) ≤ 1048576 * 1048576 := by
      have := tot_le (rows := rows.take k) (fun row hr => HS2.out row (List.mem_of_mem_take hr))
      rw [List.length_take] at this
      omega
    by_cases hlt : k < rows.length
    · obtain ⟨b, o, c', u, e, hx, hri⟩ := (H.out.keep HD.out.below).at_ (k := k) (by rw [marksR_len]; exact hlt)
      rw [marksR_len] at e
      cases e
      have hrow : (marksR k0 rows)[k]'(by rw [marksR_len]; exact hlt) = marks (k0 + (tot (rows.take k) : Int)) rows[k].length := by
        have := marksR_at rows k0 k
        rw [List.getElem?_eq_getElem (by rw [marksR_len]; exact hlt), List.getElem?_eq_getElem hlt] at this
        simpa using this
      rw [hrow] at hri
      have hrl := HS2.out _ (List.getElem_mem hlt)
      have HTT := Lib.hid (tot_take hlt)
      clear hrow
      generalize rows[k] = row at hri hrl HTT
      obtain ⟨A1, c1, e1, -⟩ := hri.form
      rw [marks_len] at e1
      subst e1
      have HI := Lib.hid hri
      clear hri
      generalize hto : tot (rows.take k) = T at HTT htt HI
      clear hto
      go_wp2_with fail
      refine (heldIntS_any _ row.length _ _ HI.out hrl (by omega) (by omega)).mono ?_
      rintro e w1 ⟨rfl, hd1⟩
      have HD1 := Lib.hid (HD.out.trans hd1)
      have hyl : (row.length : Int) ≤ 1048576 := by omega
      clear hd1
      go_wp2
      go_roundw
      case rel => exact ⟨k + 1, by omega, by go_num, by rw [HTT.out]; go_num, HD1.out⟩
      case measure => simp [intOf]; omega
    · have hkn : k = rows.length := by omega
      have HKN := Lib.hid hkn
      clear hkn
      go_wp2
      go_ret
      have e2 : tot (rows.take k) = tot rows := by have e := HKN.out; rw [take_all (by omega)]
      exact ⟨ret_int (by rw [e2]), HD.out⟩

theorem markSigp_any (v : Value) (B : Nat) (s : MSig) (k0 : Int) (w0 w : World) (h : OSig w0 B v s) (hb : Below w0.heap.size w0 w) (hs : s.ops.length ≤ 1048576) (hs2 : ∀ row ∈ s.ops, row.length ≤ 1048576) (h0 : 0 ≤ k0) (h1 : k0 ≤ 100000000000000) :
    Calls Try.prog 65 #[v, .int .i64 k0] w fun e w' => e = .returned (.int .i64 (k0 + (tot s.ops : Int))) ∧ OSig w' B v ⟨s.sorts, marksR k0 s.ops⟩ ∧ ∃ o, Outside B w0.heap.size (w.alloc o) w' := by
  obtain ⟨u, rfl, ho⟩ := h
  obtain ⟨sorts, ops⟩ := s
  have HO := Lib.hid ho
  have HB := Lib.hid (hb.trans ((below_alloc w (.cells #[.int .i64 sorts, u] 37)).mono hb.size))
  have HS := Lib.hid (And.intro hs hs2)
  obtain ⟨A, c, rfl, -⟩ := ho.reads.form
  clear ho hb hs hs2
  go_enter Try.func65, Try.ntmps65
  go_wp2_with fail
  refine (markIntSSp_any _ B ops _ w0 _ HO.out HB.out HS.out.1 HS.out.2 h0 h1).mono ?_
  rintro e w1 ⟨rfl, hm, hout⟩
  have HOUT := Lib.hid hout
  have HM := Lib.hid hm
  clear hout hm
  go_wp2
  go_ret
  exact ⟨rfl, ⟨_, rfl, HM.out⟩, _, HOUT.out⟩
end

section
open Go.RowKit
set_option linter.unusedVariables false

def cutTo (w : World) (M : Nat) : World := { w with heap := w.heap.extract 0 M }
theorem cut_size {w : World} {M : Nat} (h : M ≤ w.heap.size) : (cutTo w M).heap.size = M := by
  show (w.heap.extract 0 M).size = M
  rw [Array.size_extract]; omega
theorem cut_block {w : World} {M k : Nat} (hk : k < M) : (cutTo w M).heap[k]? = w.heap[k]? := by
  show (w.heap.extract 0 M)[k]? = w.heap[k]?
  rw [Array.getElem?_extract]
  by_cases h : k < w.heap.size
  · rw [if_pos (by omega)]; congr 1; omega
  · rw [if_neg (by omega), Array.getElem?_eq_none (by omega)]
theorem cut_below {w : World} {M : Nat} (h : M ≤ w.heap.size) : Below (cutTo w M).heap.size (cutTo w M) w := by
  rw [cut_size h]
  exact ⟨rfl, rfl, rfl, by rw [cut_size h]; exact h, fun k hk => (cut_block hk).symm⟩

section
variable {w w' : World} {B B' M : Nat} {v u : Value} {xs : List Int} {rows : List (List Int)} {s : MSig}
theorem own_same {e : TypeId} {size n : Nat} {zs : List Value} (h : w.ownsRow B e size v n zs) (hk : ∀ k, B ≤ k → k < w.heap.size → w'.heap[k]? = w.heap[k]?) : w'.ownsRow B e size v n zs := by
  refine ⟨h.1, ?_⟩
  rcases h.2 with h2 | ⟨g, cap, cur, rfl, hg, hh, r⟩
  · exact .inl h2
  · exact .inr ⟨g, cap, cur, rfl, hg, (hk g hg (Array.getElem?_eq_some_iff.1 hh).1).trans hh, r⟩
theorem OInts.same (h : OInts w B v xs) (hk : ∀ k, B ≤ k → k < w.heap.size → w'.heap[k]? = w.heap[k]?) : OInts w' B v xs := own_same h hk
theorem ORows.same (h : ORows w B v rows) (hk : ∀ k, B ≤ k → k < w.heap.size → w'.heap[k]? = w.heap[k]?) : ORows w' B v rows := by
  obtain ⟨us, h1, h2, h3, h4⟩ := h
  exact ⟨us, own_same h1 hk, h2, fun j u row a b => (h3 j u row a b).same hk, h4⟩
theorem OSig.same (h : OSig w B v s) (hk : ∀ k, B ≤ k → k < w.heap.size → w'.heap[k]? = w.heap[k]?) : OSig w' B v s := by
  obtain ⟨u, e, h⟩ := h; exact ⟨u, e, h.same hk⟩
end
/-- of w's blocks those from A on and below its size lie in w' as they were -/
def Keeps (A : Nat) (w w' : World) : Prop := ∀ k, A ≤ k → k < w.heap.size → w'.heap[k]? = w.heap[k]?
theorem Keeps.refl (A : Nat) (w : World) : Keeps A w w := fun _ _ _ => rfl
theorem Keeps.below {A : Nat} {w w1 w2 : World} (h : Keeps A w w1) (hs : w.heap.size ≤ w1.heap.size) (hb : Below w1.heap.size w1 w2) : Keeps A w w2 := fun k h1 h2 => (hb.block k (by omega)).trans (h k h1 h2)
theorem Keeps.outside {A B M : Nat} {w w1 w2 : World} (h : Keeps A w w1) (ho : Outside B M w1 w2) (hM : M ≤ A) : Keeps A w w2 := fun k h1 h2 => (ho.block k (.inr (by omega))).trans (h k h1 h2)
theorem Keeps.cell {A : Nat} {w w' : World} (h : Keeps A w w') {b o : Nat} {u : Value} (hA : A ≤ b) (hc : w.cell? ⟨b, o, none⟩ = some u) : w'.cell? ⟨b, o, none⟩ = some u :=
  (World.cell?_of_block (h b hA (World.block_lt_of_cell? w _ hc))).trans hc
end
end Go.Proofs.Ytbopcghbmbchkaa
