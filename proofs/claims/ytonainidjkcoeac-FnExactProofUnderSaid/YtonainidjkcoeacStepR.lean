/- Steps: how they read, measure, copy, comparison, marks. -/
import Derived.Test.YtonainidjkcoeacThyT
namespace Go.Proofs.Ytonainidjkcoeac
open Go.RowKit
set_option linter.unusedVariables false

structure MStep where
  ax : Int
  back : Bool
  at_ : Int
  terms : List (List Int)
def RStep (w : World) (v : Value) (p : MStep) : Prop := ∃ u, v = .agg #[.int .i64 p.ax, .bool p.back, .int .i64 p.at_, u] ∧ RRows w u p.terms
def OStep (w : World) (B : Nat) (v : Value) (p : MStep) : Prop := ∃ u, v = .agg #[.int .i64 p.ax, .bool p.back, .int .i64 p.at_, u] ∧ ORows w B u p.terms
def SmallP (p : MStep) : Prop := ∀ r ∈ p.terms, Small r
def FitsP (p : MStep) : Prop := Fits p.terms
def sameP (a b : MStep) : Bool := ((decide (a.ax = b.ax) && decide (a.back = b.back)) && decide (a.at_ = b.at_)) && sameR a.terms b.terms
theorem sameP_self (a : MStep) : sameP a a = true := by unfold sameP sameR; simp
theorem sameP_eq {a b : MStep} : sameP a b = true ↔ a = b := by
  obtain ⟨a1, a2, a3, a4⟩ := a
  obtain ⟨b1, b2, b3, b4⟩ := b
  unfold sameP sameR
  simp [and_assoc]
section
variable {w w' : World} {B B' : Nat} {v : Value} {p : MStep}
theorem RStep.keep (h : RStep w v p) (hb : Below w.heap.size w w') : RStep w' v p := by obtain ⟨u, rfl, h⟩ := h; exact ⟨u, rfl, h.keep hb⟩
theorem RStep.form (h : RStep w v p) : ∃ A c, v = .agg #[.int .i64 p.ax, .bool p.back, .int .i64 p.at_, .slice A p.terms.length c] := by
  obtain ⟨u, rfl, h⟩ := h
  obtain ⟨A, c, rfl, -⟩ := h.form
  exact ⟨_, _, rfl⟩
theorem RStep.of {a b c u : Value} (h : RStep w (.agg #[a, b, c, u]) p) : RRows w u p.terms := by
  obtain ⟨u', e, h⟩ := h
  injection e with e
  simp at e
  rw [e.2.2.2]; exact h
theorem OStep.keep (h : OStep w B v p) (hb : Below w.heap.size w w') : OStep w' B v p := by obtain ⟨u, rfl, h⟩ := h; exact ⟨u, rfl, h.keep hb⟩
theorem OStep.base (h : OStep w B v p) (hB : B' ≤ B) : OStep w B' v p := by obtain ⟨u, rfl, h⟩ := h; exact ⟨u, rfl, h.base hB⟩
theorem OStep.same (h : OStep w B v p) (hk : ∀ k, B ≤ k → k < w.heap.size → w'.heap[k]? = w.heap[k]?) : OStep w' B v p := by obtain ⟨u, rfl, h⟩ := h; exact ⟨u, rfl, orows_same h hk⟩
theorem OStep.reads (h : OStep w B v p) : RStep w v p := by obtain ⟨u, rfl, h⟩ := h; exact ⟨u, rfl, h.reads⟩
end

set_option maxRecDepth 100000 in
theorem szStep_any (v : Value) (p : MStep) (left : Int) (w : World) (h : RStep w v p) (h0 : 0 ≤ left) (h1 : left ≤ 1048576) :
    Calls Try.prog 48 #[v, .int .i64 left] w fun e w' => ∃ r : Int, e = .returned (.int .i64 r) ∧ (r < 0 ∨ (0 ≤ r ∧ r ≤ left ∧ FitsP p)) ∧ Below w.heap.size w w' := by
  obtain ⟨Apa, cpa, rfl⟩ := h.form
  have hb : Below w.heap.size w (w.alloc (.cells #[.int .i64 p.ax, .bool p.back, .int .i64 p.at_, .slice Apa p.terms.length cpa] 81)) := below_alloc _ _
  have HB := Lib.hid hb
  have hsz : (w.alloc (.cells #[.int .i64 p.ax, .bool p.back, .int .i64 p.at_, .slice Apa p.terms.length cpa] 81)).heap.size = w.heap.size + 1 := by simp
  have Hp := Lib.hid (h.keep hb)
  have p0 := bx_at (w) #[.int .i64 p.ax, .bool p.back, .int .i64 p.at_, .slice Apa p.terms.length cpa] 81 (k := 0) rfl
  have p1 := bx_at (w) #[.int .i64 p.ax, .bool p.back, .int .i64 p.at_, .slice Apa p.terms.length cpa] 81 (k := 1) rfl
  have p2 := bx_at (w) #[.int .i64 p.ax, .bool p.back, .int .i64 p.at_, .slice Apa p.terms.length cpa] 81 (k := 2) rfl
  have p3 := bx_at (w) #[.int .i64 p.ax, .bool p.back, .int .i64 p.at_, .slice Apa p.terms.length cpa] 81 (k := 3) rfl
  generalize hW : w.alloc (.cells #[.int .i64 p.ax, .bool p.back, .int .i64 p.at_, .slice Apa p.terms.length cpa] 81) = W at HB hsz Hp p0 p1 p2 p3
  clear hb h
  have R1 := Lib.hid Hp.out.of
  go_enter Try.func48, Try.ntmps48
  go_wp2_with fail
  clear hW
  refine (szIntSS_any _ p.terms _ _ R1.out h0 h1).mono ?_
  rintro e w1 ⟨r, rfl, hr, rfl⟩
  by_cases hneg : r < 0
  · clear hr
    go_wp2
    go_ret
    exact ⟨-1, rfl, .inl (by omega), HB.out⟩
  have HR := Lib.hid (hr.resolve_left hneg)
  clear hr
  go_wp2
  go_ret
  exact ⟨r, rfl, .inr HR.out, HB.out⟩

set_option maxRecDepth 100000 in
theorem toStep_any (v : Value) (p : MStep) (w : World) (h : RStep w v p) (hs : FitsP p) :
    Calls Try.prog 50 #[v] w fun e' w' => ∃ u, e' = .returned u ∧ OStep w' w.heap.size u p ∧ Below w.heap.size w w' := by
  obtain ⟨At, ct, rfl⟩ := h.form
  have h1 := h.of
  have hm := ((Mk.start w 81 82 #[.int .i64 p.ax, .bool p.back, .int .i64 p.at_, .slice At p.terms.length ct] #[.int .i64 0, .bool false, .int .i64 0, .slice none 0 0] #[.int .i64 p.ax, .bool p.back, .int .i64 p.at_, .slice none 0 0]))
  generalize hW : ((w.alloc (.cells #[.int .i64 p.ax, .bool p.back, .int .i64 p.at_, .slice At p.terms.length ct] 81)).alloc (.cells #[.int .i64 0, .bool false, .int .i64 0, .slice none 0 0] 82)).alloc (.cells #[.int .i64 p.ax, .bool p.back, .int .i64 p.at_, .slice none 0 0] 82) = W at hm
  have H1 := Lib.hid (h1.keep hm.b)
  have HS := Lib.hid hs
  have p3 : W.cell? ⟨w.heap.size, 3, none⟩ = some (.slice At p.terms.length ct) := hm.ca 3
  have HM := Lib.hid hm
  clear h h1 hm hs
  go_enter Try.func50, Try.ntmps50
  go_wp2_with fail
  clear hW
  refine (toIntSS_any _ p.terms _ H1.out HS.out).mono ?_
  rintro e w4 ⟨u0, rfl, ho, hb⟩
  have hz := HM.out.z
  have hm := HM.out.below hb
  obtain ⟨B0, d0, rfl, -⟩ := ho.reads.form
  have hm9 := ((((hm.setO 3 (.slice B0 p.terms.length d0)).setR 0 (.int .i64 p.ax)).setR 1 (.bool p.back)).setR 2 (.int .i64 p.at_)).setR 3 (.slice B0 p.terms.length d0)
  have o2 := ((((ho.setLow' (b := w.heap.size + 2) (by omega) 3 (.slice B0 p.terms.length d0)).setLow' (b := w.heap.size + 1) (by omega) 0 (.int .i64 p.ax)).setLow' (b := w.heap.size + 1) (by omega) 1 (.bool p.back)).setLow' (b := w.heap.size + 1) (by omega) 2 (.int .i64 p.at_)).setLow' (b := w.heap.size + 1) (by omega) 3 (.slice B0 p.terms.length d0)
  have HF := Lib.hid o2
  have HM9 := Lib.hid hm9
  have q0 : w4.cell? ⟨w.heap.size + 2, 0, none⟩ = some (.int .i64 p.ax) := hm.co 0
  have q1 : w4.cell? ⟨w.heap.size + 2, 1, none⟩ = some (.bool p.back) := hm.co 1
  have q2 : w4.cell? ⟨w.heap.size + 2, 2, none⟩ = some (.int .i64 p.at_) := hm.co 2
  have q3 : w4.cell? ⟨w.heap.size + 2, 3, none⟩ = some (.slice none 0 0) := hm.co 3
  have q4 := hm.fo 3
  have q5 : w4.cell? ⟨w.heap.size + 1, 0, none⟩ = some (.int .i64 0) := hm.cr 0
  have q6 : w4.cell? ⟨w.heap.size + 1, 1, none⟩ = some (.bool false) := hm.cr 1
  have q7 : w4.cell? ⟨w.heap.size + 1, 2, none⟩ = some (.int .i64 0) := hm.cr 2
  have q8 : w4.cell? ⟨w.heap.size + 1, 3, none⟩ = some (.slice none 0 0) := hm.cr 3
  have q9 := hm.fr 0
  have q10 := hm.fr 1
  have q11 := hm.fr 2
  have q12 := hm.fr 3
  clear ho hb hm hm9 o2 H1 p3
  go_wp2
  have o2 := HF.out
  have hm9 := HM9.out
  generalize ((((w4.setCell ⟨w.heap.size + 2, 3, none⟩ (.slice B0 p.terms.length d0)).setCell ⟨w.heap.size + 1, 0, none⟩ (.int .i64 p.ax)).setCell ⟨w.heap.size + 1, 1, none⟩ (.bool p.back)).setCell ⟨w.heap.size + 1, 2, none⟩ (.int .i64 p.at_)).setCell ⟨w.heap.size + 1, 3, none⟩ (.slice B0 p.terms.length d0) = w9 at o2 hm9 ⊢
  have k0 : w9.cell? ⟨w.heap.size + 1, 0, none⟩ = some (.int .i64 p.ax) := hm9.cr 0
  have k1 : w9.cell? ⟨w.heap.size + 1, 1, none⟩ = some (.bool p.back) := hm9.cr 1
  have k2 : w9.cell? ⟨w.heap.size + 1, 2, none⟩ = some (.int .i64 p.at_) := hm9.cr 2
  have k3 : w9.cell? ⟨w.heap.size + 1, 3, none⟩ = some (.slice B0 p.terms.length d0) := hm9.cr 3
  clear q0 q1 q2 q3 q4 q5 q6 q7 q8 q9 q10 q11 q12
  refine bodyPost_ret (v := .agg #[.int .i64 p.ax, .bool p.back, .int .i64 p.at_, .slice B0 p.terms.length d0]) (by simp [results, Try.results50, go_sem, k0, k1, k2, k3]) rfl ?_
  exact ⟨_, rfl, ⟨_, rfl, o2.base (by omega)⟩, hm9.b⟩

set_option maxRecDepth 100000 in
theorem eqStep_is (v v' : Value) (a b : MStep) (w : World) (r : Bool) (hr : sameP a b = r) (h : RStep w v a) (h' : RStep w v' b) :
    Calls Try.prog 52 #[v, v'] w fun e w' => e = .returned (.bool r) ∧ Below w.heap.size w w' := by
  subst hr
  obtain ⟨Aaa, caa, rfl⟩ := h.form
  obtain ⟨Aba, cba, rfl⟩ := h'.form
  have hb : Below w.heap.size w ((w.alloc (.cells #[.int .i64 a.ax, .bool a.back, .int .i64 a.at_, .slice Aaa a.terms.length caa] 82)).alloc (.cells #[.int .i64 b.ax, .bool b.back, .int .i64 b.at_, .slice Aba b.terms.length cba] 82)) := (below_alloc _ _).alloc (by simp) _
  have HB := Lib.hid hb
  have hsz : ((w.alloc (.cells #[.int .i64 a.ax, .bool a.back, .int .i64 a.at_, .slice Aaa a.terms.length caa] 82)).alloc (.cells #[.int .i64 b.ax, .bool b.back, .int .i64 b.at_, .slice Aba b.terms.length cba] 82)).heap.size = w.heap.size + 2 := by simp
  have Ha := Lib.hid (h.keep hb)
  have a0 := cell_keep (below_alloc (w.alloc (.cells #[.int .i64 a.ax, .bool a.back, .int .i64 a.at_, .slice Aaa a.terms.length caa] 82)) (.cells #[.int .i64 b.ax, .bool b.back, .int .i64 b.at_, .slice Aba b.terms.length cba] 82)) (bx_at (w) #[.int .i64 a.ax, .bool a.back, .int .i64 a.at_, .slice Aaa a.terms.length caa] 82 (k := 0) rfl)
  have a1 := cell_keep (below_alloc (w.alloc (.cells #[.int .i64 a.ax, .bool a.back, .int .i64 a.at_, .slice Aaa a.terms.length caa] 82)) (.cells #[.int .i64 b.ax, .bool b.back, .int .i64 b.at_, .slice Aba b.terms.length cba] 82)) (bx_at (w) #[.int .i64 a.ax, .bool a.back, .int .i64 a.at_, .slice Aaa a.terms.length caa] 82 (k := 1) rfl)
  have a2 := cell_keep (below_alloc (w.alloc (.cells #[.int .i64 a.ax, .bool a.back, .int .i64 a.at_, .slice Aaa a.terms.length caa] 82)) (.cells #[.int .i64 b.ax, .bool b.back, .int .i64 b.at_, .slice Aba b.terms.length cba] 82)) (bx_at (w) #[.int .i64 a.ax, .bool a.back, .int .i64 a.at_, .slice Aaa a.terms.length caa] 82 (k := 2) rfl)
  have a3 := cell_keep (below_alloc (w.alloc (.cells #[.int .i64 a.ax, .bool a.back, .int .i64 a.at_, .slice Aaa a.terms.length caa] 82)) (.cells #[.int .i64 b.ax, .bool b.back, .int .i64 b.at_, .slice Aba b.terms.length cba] 82)) (bx_at (w) #[.int .i64 a.ax, .bool a.back, .int .i64 a.at_, .slice Aaa a.terms.length caa] 82 (k := 3) rfl)
  have Hb := Lib.hid (h'.keep hb)
  have b0 := bx_at (w.alloc (.cells #[.int .i64 a.ax, .bool a.back, .int .i64 a.at_, .slice Aaa a.terms.length caa] 82)) #[.int .i64 b.ax, .bool b.back, .int .i64 b.at_, .slice Aba b.terms.length cba] 82 (k := 0) rfl
  have b1 := bx_at (w.alloc (.cells #[.int .i64 a.ax, .bool a.back, .int .i64 a.at_, .slice Aaa a.terms.length caa] 82)) #[.int .i64 b.ax, .bool b.back, .int .i64 b.at_, .slice Aba b.terms.length cba] 82 (k := 1) rfl
  have b2 := bx_at (w.alloc (.cells #[.int .i64 a.ax, .bool a.back, .int .i64 a.at_, .slice Aaa a.terms.length caa] 82)) #[.int .i64 b.ax, .bool b.back, .int .i64 b.at_, .slice Aba b.terms.length cba] 82 (k := 2) rfl
  have b3 := bx_at (w.alloc (.cells #[.int .i64 a.ax, .bool a.back, .int .i64 a.at_, .slice Aaa a.terms.length caa] 82)) #[.int .i64 b.ax, .bool b.back, .int .i64 b.at_, .slice Aba b.terms.length cba] 82 (k := 3) rfl
  simp only [World.size_alloc] at b0 b1 b2 b3
  generalize hW : (w.alloc (.cells #[.int .i64 a.ax, .bool a.back, .int .i64 a.at_, .slice Aaa a.terms.length caa] 82)).alloc (.cells #[.int .i64 b.ax, .bool b.back, .int .i64 b.at_, .slice Aba b.terms.length cba] 82) = W at HB hsz Ha a0 a1 a2 a3 Hb b0 b1 b2 b3
  clear hb h h'
  have R1 := Lib.hid Ha.out.of
  have K1 := Lib.hid Hb.out.of
  by_cases x0 : a.ax = b.ax
  · by_cases x1 : a.back = b.back
    · by_cases x2 : a.at_ = b.at_
      · have e0 : (a.ax != b.ax) = false := by simp [x0]
        have e1 : (a.back == b.back) = true := by simp [x1]
        have e2 : (a.at_ != b.at_) = false := by simp [x2]
        have X := Lib.hid (And.intro x0 (And.intro x1 x2))
        obtain ⟨r, hr⟩ : ∃ r, sameR a.terms b.terms = r := ⟨_, rfl⟩
        have HR := Lib.hid hr
        clear hr x0 x1 x2
        go_enter Try.func52, Try.ntmps52
        go_wp2_with fail
        clear hW
        refine (eqIntSS_is _ _ _ _ _ r HR.out R1.out K1.out).mono ?_
        rintro e w1 ⟨rfl, hd⟩
        have HB1 := Lib.hid (sz_keep HB.out hd.below)
        clear hd a0 a1 a2 a3 b0 b1 b2 b3
        cases r with
        | false =>
          go_wp2
          go_ret
          exact ⟨ret_bool (by unfold sameP; rw [HR.out]; simp), HB1.out⟩
        | true =>
          go_wp2
          go_ret
          exact ⟨ret_bool (by unfold sameP; rw [HR.out]; simp [X.out.1, X.out.2.1, X.out.2.2]), HB1.out⟩
      · have e0 : (a.ax != b.ax) = false := by simp [x0]
        have e1 : (a.back == b.back) = true := by simp [x1]
        have e2 : (a.at_ != b.at_) = true := by simpa using x2
        have X := Lib.hid x2
        clear x0 x1 x2
        go_enter Try.func52, Try.ntmps52
        go_wp2
        go_ret
        exact ⟨ret_bool (by unfold sameP; simp [X.out]), HB.out⟩
    · have e0 : (a.ax != b.ax) = false := by simp [x0]
      have e1 : (a.back == b.back) = false := by simpa using x1
      have X := Lib.hid x1
      clear x0 x1
      go_enter Try.func52, Try.ntmps52
      go_wp2
      go_ret
      exact ⟨ret_bool (by unfold sameP; simp [X.out]), HB.out⟩
  · have e0 : (a.ax != b.ax) = true := by simpa using x0
    have X := Lib.hid x0
    clear x0
    go_enter Try.func52, Try.ntmps52
    go_wp2
    go_ret
    exact ⟨ret_bool (by unfold sameP; simp [X.out]), HB.out⟩
end Go.Proofs.Ytonainidjkcoeac
