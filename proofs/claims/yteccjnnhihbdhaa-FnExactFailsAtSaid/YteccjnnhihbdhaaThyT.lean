/- The exact laws' measure, copy and comparison of a theory: szTheory, toTheory, eqTheory. -/
import Derived.Test.YteccjnnhihbdhaaEqS
import Derived.Test.YteccjnnhihbdhaaEq
namespace Go.Proofs.Yteccjnnhihbdhaa
open Go.RowKit
set_option linter.unusedVariables false

/-- a theory that a call has made: the rows of its operations lie apart from those of its axioms -/
def OThy (w : World) (B : Nat) (v : Value) (t : MThy) : Prop := ∃ u x, v = .agg #[.int .i64 t.over.sorts, u, x] ∧ ∃ (wc : World) (B0 : Nat), B ≤ B0 ∧ B0 ≤ wc.heap.size ∧ wc.heap.size ≤ w.heap.size ∧ ORows wc B0 u t.over.ops ∧ (∀ k, B0 ≤ k → k < wc.heap.size → w.heap[k]? = wc.heap[k]?) ∧ OEqs w wc.heap.size x t.eqs
theorem orows_same {w w' : World} {B : Nat} {v : Value} {rows : List (List Int)} (h : ORows w B v rows) (hk : ∀ k, B ≤ k → k < w.heap.size → w'.heap[k]? = w.heap[k]?) : ORows w' B v rows := by
  obtain ⟨us, h1, h2, h3, h4⟩ := h
  have same : ∀ {B2 : Nat} {e : TypeId} {size n : Nat} {v : Value} {zs : List Value}, B ≤ B2 → w.ownsRow B2 e size v n zs → w'.ownsRow B2 e size v n zs := fun hB h => by
    refine ⟨h.1, ?_⟩
    rcases h.2 with h2 | ⟨g, cap, cur, rfl, hg, hh, r⟩
    · exact .inl h2
    · exact .inr ⟨g, cap, cur, rfl, hg, (hk g (by omega) (Array.getElem?_eq_some_iff.1 hh).1).trans hh, r⟩
  exact ⟨us, same (Nat.le_refl _) h1, h2, fun j u row a b => same (Nat.le_refl _) (h3 j u row a b), h4⟩
theorem orowsT_same {T : TypeId} {size n : Nat} {w w' : World} {B : Nat} {v : Value} {rows : List (List Int)} (h : ORowsT T size n w B v rows) (hk : ∀ k, B ≤ k → k < w.heap.size → w'.heap[k]? = w.heap[k]?) : ORowsT T size n w' B v rows := by
  obtain ⟨us, h1, h2, h3, h4⟩ := h
  have same : ∀ {B2 : Nat} {e : TypeId} {size n : Nat} {v : Value} {zs : List Value}, B ≤ B2 → w.ownsRow B2 e size v n zs → w'.ownsRow B2 e size v n zs := fun hB h => by
    refine ⟨h.1, ?_⟩
    rcases h.2 with h2 | ⟨g, cap, cur, rfl, hg, hh, r⟩
    · exact .inl h2
    · exact .inr ⟨g, cap, cur, rfl, hg, (hk g (by omega) (Array.getElem?_eq_some_iff.1 hh).1).trans hh, r⟩
  exact ⟨us, same (Nat.le_refl _) h1, h2, fun j u row a b => same (Nat.le_refl _) (h3 j u row a b), h4⟩
section
variable {w w' : World} {B B' : Nat} {v : Value} {t : MThy}
theorem OThy.same (h : OThy w B v t) (hs : w.heap.size ≤ w'.heap.size) (hk : ∀ k, B ≤ k → k < w.heap.size → w'.heap[k]? = w.heap[k]?) : OThy w' B v t := by
  obtain ⟨u, x, rfl, wc, B0, z, a, b, c, d, e⟩ := h
  exact ⟨u, x, rfl, wc, B0, z, a, by omega, c, fun k h1 h2 => (hk k (by omega) (by omega)).trans (d k h1 h2), orowsT_same e fun k h1 h2 => hk k (by omega) h2⟩
theorem OThy.keep (h : OThy w B v t) (hb : Below w.heap.size w w') : OThy w' B v t := h.same hb.size fun k _ hk => hb.block k hk
theorem OThy.base (h : OThy w B v t) (hB : B' ≤ B) : OThy w B' v t := by
  obtain ⟨u, x, rfl, wc, B0, z, r⟩ := h
  exact ⟨u, x, rfl, wc, B0, by omega, r⟩
theorem OThy.rows (h : OThy w B v t) : ∃ u x, v = .agg #[.int .i64 t.over.sorts, u, x] ∧ ORows w B u t.over.ops ∧ OEqs w B x t.eqs := by
  obtain ⟨u, x, rfl, wc, B0, z, a, b, c, d, e⟩ := h
  exact ⟨u, x, rfl, (orows_same c d).base z, e.base (by omega)⟩
theorem OThy.reads (h : OThy w B v t) : RThy w v t := by
  obtain ⟨u, x, rfl, h1, h2⟩ := h.rows
  exact ⟨u, x, rfl, h1.reads, h2.reads⟩
end
def FitsT (t : MThy) : Prop := Fits t.over.ops ∧ FitsEs t.eqs
def sameT (a b : MThy) : Bool := sameS a.over b.over && sameEs a.eqs b.eqs
theorem sameT_self (a : MThy) : sameT a a = true := by unfold sameT; rw [sameS_self, sameEs_self]; rfl

set_option maxRecDepth 100000 in
theorem szTheory_any (v : Value) (t : MThy) (left : Int) (w : World) (h : RThy w v t) (h0 : 0 ≤ left) (h1 : left ≤ 1048576) :
    Calls Try.prog 35 #[v, .int .i64 left] w fun e w' => ∃ r : Int, e = .returned (.int .i64 r) ∧ (r < 0 ∨ (0 ≤ r ∧ r ≤ left ∧ FitsT t)) ∧ Below w.heap.size w w' := by
  obtain ⟨Ata, cta, Atb, ctb, rfl⟩ := h.form
  have hb : Below w.heap.size w (w.alloc (.cells #[.int .i64 t.over.sorts, .slice Ata t.over.ops.length cta, .slice Atb t.eqs.length ctb] 60)) := below_alloc _ _
  have HB := Lib.hid hb
  have hsz : (w.alloc (.cells #[.int .i64 t.over.sorts, .slice Ata t.over.ops.length cta, .slice Atb t.eqs.length ctb] 60)).heap.size = w.heap.size + 1 := by simp
  have Ht := Lib.hid (h.keep hb)
  have t0 := bx_at (w) #[.int .i64 t.over.sorts, .slice Ata t.over.ops.length cta, .slice Atb t.eqs.length ctb] 60 (k := 0) rfl
  have t1 := bx_at (w) #[.int .i64 t.over.sorts, .slice Ata t.over.ops.length cta, .slice Atb t.eqs.length ctb] 60 (k := 1) rfl
  have t2 := bx_at (w) #[.int .i64 t.over.sorts, .slice Ata t.over.ops.length cta, .slice Atb t.eqs.length ctb] 60 (k := 2) rfl
  generalize hW : w.alloc (.cells #[.int .i64 t.over.sorts, .slice Ata t.over.ops.length cta, .slice Atb t.eqs.length ctb] 60) = W at HB hsz Ht t0 t1 t2
  clear hb h
  obtain ⟨-, r1, r2⟩ := Ht.out.of
  have R1 := Lib.hid (show RSig W (.agg #[.int .i64 t.over.sorts, .slice Ata t.over.ops.length cta]) t.over from ⟨_, rfl, r1⟩)
  have R2 := Lib.hid r2
  clear r1 r2
  go_enter Try.func35, Try.ntmps35
  go_wp2_with fail
  clear hW
  refine (szSig_any _ t.over _ _ R1.out h0 h1).mono ?_
  rintro e w1 ⟨r, rfl, hr, hb⟩
  have HB1 := Lib.hid (sz_keep HB.out hb)
  have R21 := Lib.hid (R2.out.keep hb)
  have m1 := cell_keep hb t2
  clear hb t0 t1 t2
  by_cases hneg : r < 0
  · clear hr
    go_wp2
    go_ret
    exact ⟨-1, rfl, .inl (by omega), HB1.out⟩
  obtain ⟨hr2, hr3, hr4⟩ := hr.resolve_left hneg
  have HR := Lib.hid hr4
  have hr5 : r ≤ 1048576 := by omega
  clear hr hr4
  go_wp2_with fail
  refine (szEqS_any _ t.eqs _ _ R21.out hr2 hr5).mono ?_
  rintro e w2 ⟨q, rfl, hr, hb⟩
  have HB2 := Lib.hid (sz_keep HB1.out hb)
  clear hb m1
  by_cases hneg2 : q < 0
  · clear hr
    go_wp2
    go_ret
    exact ⟨-1, rfl, .inl (by omega), HB2.out⟩
  obtain ⟨hr6, hr7, hr8⟩ := hr.resolve_left hneg2
  have HQ := Lib.hid hr8
  clear hr hr8
  go_wp2
  go_ret
  exact ⟨q, rfl, .inr ⟨hr6, by omega, HR.out, HQ.out⟩, HB2.out⟩

theorem ORows.setLowT {w : World} {B b : Nat} {v : Value} {rows : List (List Int)} (h : ORows w B v rows) (hb : b < B) (i : Nat) (x : Value) : ORows (w.setCell ⟨b, i, none⟩ x) B v rows := h.setLow' hb i x

set_option maxRecDepth 100000 in
theorem toTheory_any (v : Value) (t : MThy) (w : World) (h : RThy w v t) (hs : FitsT t) :
    Calls Try.prog 37 #[v] w fun e' w' => ∃ u, e' = .returned u ∧ OThy w' w.heap.size u t ∧ Below w.heap.size w w' := by
  obtain ⟨At, ct, Bt, dt, rfl⟩ := h.form
  obtain ⟨-, h1, h2⟩ := h.of
  obtain ⟨hs1, hs2⟩ := hs
  have hm := Mk.start w 60 65 #[.int .i64 t.over.sorts, .slice At t.over.ops.length ct, .slice Bt t.eqs.length dt] #[.int .i64 0, .slice none 0 0, .slice none 0 0] #[.int .i64 0, .slice none 0 0, .slice none 0 0]
  generalize hW : ((w.alloc (.cells #[.int .i64 t.over.sorts, .slice At t.over.ops.length ct, .slice Bt t.eqs.length dt] 60)).alloc (.cells #[.int .i64 0, .slice none 0 0, .slice none 0 0] 65)).alloc (.cells #[.int .i64 0, .slice none 0 0, .slice none 0 0] 65) = W at hm
  have H1 := Lib.hid (show RSig W (.agg #[.int .i64 t.over.sorts, .slice At t.over.ops.length ct]) t.over from ⟨_, rfl, h1.keep hm.b⟩)
  have H2 := Lib.hid h2
  have HS1 := Lib.hid hs1
  have HS2 := Lib.hid hs2
  have p0 : W.cell? ⟨w.heap.size, 0, none⟩ = some (.int .i64 t.over.sorts) := hm.ca 0
  have p1 : W.cell? ⟨w.heap.size, 1, none⟩ = some (.slice At t.over.ops.length ct) := hm.ca 1
  have HM := Lib.hid hm
  clear h h1 h2 hm hs1 hs2
  go_enter Try.func37, Try.ntmps37
  go_wp2_with fail
  clear hW
  refine (toSig_any _ t.over _ H1.out HS1.out).mono ?_
  rintro e w4 ⟨u0, rfl, ho, hb⟩
  have hz := HM.out.z
  have hm := HM.out.below hb
  obtain ⟨B0, d0, rfl⟩ := ho.reads.form
  obtain ⟨u', eu, ho'⟩ := ho
  injection eu with eu
  simp at eu
  subst eu
  have q0 : w4.cell? ⟨w.heap.size + 2, 0, none⟩ = some (.int .i64 0) := hm.co 0
  have q1 : w4.cell? ⟨w.heap.size + 2, 1, none⟩ = some (.slice none 0 0) := hm.co 1
  have q2 := hm.fo 0
  have q3 := hm.fo 1
  have hm5 := (hm.setO 0 (.int .i64 t.over.sorts)).setO 1 (.slice B0 t.over.ops.length d0)
  have ho5 := (ho'.setLow' (b := w.heap.size + 2) (by omega) 0 (.int .i64 t.over.sorts)).setLow' (b := w.heap.size + 2) (by omega) 1 (.slice B0 t.over.ops.length d0)
  generalize hW5 : (w4.setCell ⟨w.heap.size + 2, 0, none⟩ (.int .i64 t.over.sorts)).setCell ⟨w.heap.size + 2, 1, none⟩ (.slice B0 t.over.ops.length d0) = w5 at hm5 ho5
  have p2 : w5.cell? ⟨w.heap.size, 2, none⟩ = some (.slice Bt t.eqs.length dt) := hm5.ca 2
  have HO5 := Lib.hid ho5
  have HM5 := Lib.hid hm5
  have HM5sz := Lib.hid (show W.heap.size ≤ w5.heap.size by have := hb.size; rw [← hW5]; simpa [World.setCell] using this)
  have H2 := Lib.hid (H2.out.keep hm5.b)
  clear ho' hb hm p0 p1 hm5 ho5 H1
  go_wp2_with fail
  clear hW5 q0 q1 q2 q3
  refine (toEqS_any _ t.eqs _ H2.out HS2.out).mono ?_
  rintro e w8 ⟨u2, rfl, ho, hb⟩
  have hz7 := HM5.out.z
  have hm := HM5.out.below hb
  obtain ⟨B2, d2, rfl, -⟩ := ho.reads.form
  have hm9 := (((hm.setO 2 (.slice B2 t.eqs.length d2)).setR 0 (.int .i64 t.over.sorts)).setR 1 (.slice B0 t.over.ops.length d0)).setR 2 (.slice B2 t.eqs.length d2)
  have o2 := (((ho.setLow (b := w.heap.size + 2) (by omega) 2 (.slice B2 t.eqs.length d2)).setLow (b := w.heap.size + 1) (by omega) 0 (.int .i64 t.over.sorts)).setLow (b := w.heap.size + 1) (by omega) 1 (.slice B0 t.over.ops.length d0)).setLow (b := w.heap.size + 1) (by omega) 2 (.slice B2 t.eqs.length d2)
  have hkk : ∀ k, w.heap.size + 3 ≤ k → k < w5.heap.size → ((((w8.setCell ⟨w.heap.size + 2, 2, none⟩ (.slice B2 t.eqs.length d2)).setCell ⟨w.heap.size + 1, 0, none⟩ (.int .i64 t.over.sorts)).setCell ⟨w.heap.size + 1, 1, none⟩ (.slice B0 t.over.ops.length d0)).setCell ⟨w.heap.size + 1, 2, none⟩ (.slice B2 t.eqs.length d2)).heap[k]? = w5.heap[k]? := fun k h1 h2 => by
    rw [Below.heap_setCell _ ⟨w.heap.size + 1, 2, none⟩ _ k (by show k ≠ w.heap.size + 1; omega), Below.heap_setCell _ ⟨w.heap.size + 1, 1, none⟩ _ k (by show k ≠ w.heap.size + 1; omega), Below.heap_setCell _ ⟨w.heap.size + 1, 0, none⟩ _ k (by show k ≠ w.heap.size + 1; omega), Below.heap_setCell _ ⟨w.heap.size + 2, 2, none⟩ _ k (by show k ≠ w.heap.size + 2; omega)]
    exact hb.block k h2
  have hsz9 : w5.heap.size ≤ ((((w8.setCell ⟨w.heap.size + 2, 2, none⟩ (.slice B2 t.eqs.length d2)).setCell ⟨w.heap.size + 1, 0, none⟩ (.int .i64 t.over.sorts)).setCell ⟨w.heap.size + 1, 1, none⟩ (.slice B0 t.over.ops.length d0)).setCell ⟨w.heap.size + 1, 2, none⟩ (.slice B2 t.eqs.length d2)).heap.size := by have := hb.size; simpa [World.setCell] using this
  have HF := Lib.hid (And.intro o2 (And.intro hkk hsz9))
  have HM9 := Lib.hid hm9
  have q0 : w8.cell? ⟨w.heap.size + 2, 0, none⟩ = some (.int .i64 t.over.sorts) := hm.co 0
  have q1 : w8.cell? ⟨w.heap.size + 2, 1, none⟩ = some (.slice B0 t.over.ops.length d0) := hm.co 1
  have q2 : w8.cell? ⟨w.heap.size + 2, 2, none⟩ = some (.slice none 0 0) := hm.co 2
  have q3 := hm.fo 2
  have q4 : w8.cell? ⟨w.heap.size + 1, 0, none⟩ = some (.int .i64 0) := hm.cr 0
  have q5 : w8.cell? ⟨w.heap.size + 1, 1, none⟩ = some (.slice none 0 0) := hm.cr 1
  have q6 : w8.cell? ⟨w.heap.size + 1, 2, none⟩ = some (.slice none 0 0) := hm.cr 2
  have q7 := hm.fr 0
  have q8 := hm.fr 1
  have q9 := hm.fr 2
  clear ho hb hm hm9 o2 hkk hsz9 H2 p2
  go_wp2
  obtain ⟨o2, hkk, hsz9⟩ := HF.out
  have hm9 := HM9.out
  generalize (((w8.setCell ⟨w.heap.size + 2, 2, none⟩ (.slice B2 t.eqs.length d2)).setCell ⟨w.heap.size + 1, 0, none⟩ (.int .i64 t.over.sorts)).setCell ⟨w.heap.size + 1, 1, none⟩ (.slice B0 t.over.ops.length d0)).setCell ⟨w.heap.size + 1, 2, none⟩ (.slice B2 t.eqs.length d2) = w9 at o2 hkk hsz9 hm9 ⊢
  have k0 : w9.cell? ⟨w.heap.size + 1, 0, none⟩ = some (.int .i64 t.over.sorts) := hm9.cr 0
  have k1 : w9.cell? ⟨w.heap.size + 1, 1, none⟩ = some (.slice B0 t.over.ops.length d0) := hm9.cr 1
  have k2 : w9.cell? ⟨w.heap.size + 1, 2, none⟩ = some (.slice B2 t.eqs.length d2) := hm9.cr 2
  clear q0 q1 q2 q3 q4 q5 q6 q7 q8 q9
  refine bodyPost_ret (v := .agg #[.int .i64 t.over.sorts, .slice B0 t.over.ops.length d0, .slice B2 t.eqs.length d2]) (by simp [results, Try.results37, go_sem, k0, k1, k2]) rfl ?_
  exact ⟨_, rfl, ⟨_, _, rfl, w5, W.heap.size, by omega, HM5sz.out, hsz9, HO5.out, fun k h1 h2 => hkk k (by omega) h2, o2⟩, hm9.b⟩

theorem eqTheory_is (v v' : Value) (a b : MThy) (w : World) (r : Bool) (hr : sameT a b = r) (h : RThy w v a) (h' : RThy w v' b) :
    Calls Try.prog 39 #[v, v'] w fun e w' => e = .returned (.bool r) ∧ Below w.heap.size w w' := by
  subst hr
  obtain ⟨Aaa, caa, Aab, cab, rfl⟩ := h.form
  obtain ⟨Aba, cba, Abb, cbb, rfl⟩ := h'.form
  have hb : Below w.heap.size w ((w.alloc (.cells #[.int .i64 a.over.sorts, .slice Aaa a.over.ops.length caa, .slice Aab a.eqs.length cab] 65)).alloc (.cells #[.int .i64 b.over.sorts, .slice Aba b.over.ops.length cba, .slice Abb b.eqs.length cbb] 65)) := (below_alloc _ _).alloc (by simp) _
  have HB := Lib.hid hb
  have hsz : ((w.alloc (.cells #[.int .i64 a.over.sorts, .slice Aaa a.over.ops.length caa, .slice Aab a.eqs.length cab] 65)).alloc (.cells #[.int .i64 b.over.sorts, .slice Aba b.over.ops.length cba, .slice Abb b.eqs.length cbb] 65)).heap.size = w.heap.size + 2 := by simp
  have Ha := Lib.hid (h.keep hb)
  have a0 := cell_keep (below_alloc (w.alloc (.cells #[.int .i64 a.over.sorts, .slice Aaa a.over.ops.length caa, .slice Aab a.eqs.length cab] 65)) (.cells #[.int .i64 b.over.sorts, .slice Aba b.over.ops.length cba, .slice Abb b.eqs.length cbb] 65)) (bx_at (w) #[.int .i64 a.over.sorts, .slice Aaa a.over.ops.length caa, .slice Aab a.eqs.length cab] 65 (k := 0) rfl)
  have a1 := cell_keep (below_alloc (w.alloc (.cells #[.int .i64 a.over.sorts, .slice Aaa a.over.ops.length caa, .slice Aab a.eqs.length cab] 65)) (.cells #[.int .i64 b.over.sorts, .slice Aba b.over.ops.length cba, .slice Abb b.eqs.length cbb] 65)) (bx_at (w) #[.int .i64 a.over.sorts, .slice Aaa a.over.ops.length caa, .slice Aab a.eqs.length cab] 65 (k := 1) rfl)
  have a2 := cell_keep (below_alloc (w.alloc (.cells #[.int .i64 a.over.sorts, .slice Aaa a.over.ops.length caa, .slice Aab a.eqs.length cab] 65)) (.cells #[.int .i64 b.over.sorts, .slice Aba b.over.ops.length cba, .slice Abb b.eqs.length cbb] 65)) (bx_at (w) #[.int .i64 a.over.sorts, .slice Aaa a.over.ops.length caa, .slice Aab a.eqs.length cab] 65 (k := 2) rfl)
  have Hb := Lib.hid (h'.keep hb)
  have b0 := bx_at (w.alloc (.cells #[.int .i64 a.over.sorts, .slice Aaa a.over.ops.length caa, .slice Aab a.eqs.length cab] 65)) #[.int .i64 b.over.sorts, .slice Aba b.over.ops.length cba, .slice Abb b.eqs.length cbb] 65 (k := 0) rfl
  have b1 := bx_at (w.alloc (.cells #[.int .i64 a.over.sorts, .slice Aaa a.over.ops.length caa, .slice Aab a.eqs.length cab] 65)) #[.int .i64 b.over.sorts, .slice Aba b.over.ops.length cba, .slice Abb b.eqs.length cbb] 65 (k := 1) rfl
  have b2 := bx_at (w.alloc (.cells #[.int .i64 a.over.sorts, .slice Aaa a.over.ops.length caa, .slice Aab a.eqs.length cab] 65)) #[.int .i64 b.over.sorts, .slice Aba b.over.ops.length cba, .slice Abb b.eqs.length cbb] 65 (k := 2) rfl
  simp only [World.size_alloc] at b0 b1 b2
  generalize hW : (w.alloc (.cells #[.int .i64 a.over.sorts, .slice Aaa a.over.ops.length caa, .slice Aab a.eqs.length cab] 65)).alloc (.cells #[.int .i64 b.over.sorts, .slice Aba b.over.ops.length cba, .slice Abb b.eqs.length cbb] 65) = W at HB hsz Ha a0 a1 a2 Hb b0 b1 b2
  clear hb h h'
  obtain ⟨-, r1, r2⟩ := Ha.out.of
  obtain ⟨-, k1, k2⟩ := Hb.out.of
  have R1 := Lib.hid (show RSig W (.agg #[.int .i64 a.over.sorts, .slice Aaa a.over.ops.length caa]) a.over from ⟨_, rfl, r1⟩)
  have K1 := Lib.hid (show RSig W (.agg #[.int .i64 b.over.sorts, .slice Aba b.over.ops.length cba]) b.over from ⟨_, rfl, k1⟩)
  have R2 := Lib.hid r2
  have K2 := Lib.hid k2
  clear r1 r2 k1 k2
  cases x0 : sameS a.over b.over with
  | false =>
    have X0 := Lib.hid x0
    clear x0
    go_enter Try.func39, Try.ntmps39
    go_wp2_with fail
    clear hW
    refine (eqSig_is _ _ _ _ _ _ X0.out R1.out K1.out).mono ?_
    rintro e w1 ⟨rfl, hd⟩
    go_wp2
    go_ret
    exact ⟨ret_bool (by unfold sameT; rw [X0.out]; rfl), sz_keep HB.out hd⟩
  | true =>
    have X0 := Lib.hid x0
    clear x0
    obtain ⟨r, hr⟩ : ∃ r, sameEs a.eqs b.eqs = r := ⟨_, rfl⟩
    have HR := Lib.hid hr
    clear hr
    go_enter Try.func39, Try.ntmps39
    go_wp2_with fail
    clear hW
    refine (eqSig_is _ _ _ _ _ _ X0.out R1.out K1.out).mono ?_
    rintro e w1 ⟨rfl, hb⟩
    have HB1 := Lib.hid (sz_keep HB.out hb)
    have m1 := cell_keep hb a2
    have m2 := cell_keep hb b2
    have R2' := Lib.hid (R2.out.keep hb)
    have K2' := Lib.hid (K2.out.keep hb)
    clear hb a0 a1 a2 b0 b1 b2
    go_wp2_with fail
    refine (eqEqS_any _ _ _ _ _ R2'.out K2'.out).mono ?_
    rw [HR.out]
    rintro e w2 ⟨rfl, hb⟩
    have HB2 := Lib.hid (sz_keep HB1.out hb)
    clear hb m1 m2
    cases r with
    | false =>
      go_wp2
      go_ret
      exact ⟨ret_bool (by unfold sameT; rw [X0.out, HR.out]; rfl), HB2.out⟩
    | true =>
      go_wp2
      go_ret
      exact ⟨ret_bool (by unfold sameT; rw [X0.out, HR.out]; rfl), HB2.out⟩
end Go.Proofs.Yteccjnnhihbdhaa
