/- Lists of steps: how they read, what a call has made; measure, copy, comparison: szStepS, toStepS, eqStepS. -/
import Derived.Test.YtonainidjkcoeacStepR
namespace Go.Proofs.Ytonainidjkcoeac
open Go.RowKit
set_option linter.unusedVariables false

def RSteps (w : World) (v : Value) (ps : List MStep) : Prop :=
  ∃ A c, v = .slice A ps.length c ∧ ps.length ≤ c ∧ c ≤ maxLen ∧ ∀ j p, ps[j]? = some p → ∃ b o u, A = some ⟨b, o, none⟩ ∧
    w.cell? ⟨b, o + j * 4, none⟩ = some (.int .i64 p.ax) ∧ w.cell? ⟨b, o + j * 4 + 1, none⟩ = some (.bool p.back) ∧ w.cell? ⟨b, o + j * 4 + 2, none⟩ = some (.int .i64 p.at_) ∧ w.cell? ⟨b, o + j * 4 + 3, none⟩ = some u ∧ RRows w u p.terms
def SmallPs (ps : List MStep) : Prop := ∀ p ∈ ps, SmallP p
def FitsPs (ps : List MStep) : Prop := ps.length ≤ 1048576 ∧ ∀ p ∈ ps, FitsP p
def samePs : List MStep → List MStep → Bool
  | [], [] => true
  | a :: xs, b :: ys => sameP a b && samePs xs ys
  | _, _ => false
theorem samePs_eq {xs ys : List MStep} : samePs xs ys = true ↔ xs = ys := by
  induction xs generalizing ys with
  | nil => cases ys <;> simp [samePs]
  | cons a xs ih => cases ys with
    | nil => simp [samePs]
    | cons b ys => simp [samePs, sameP_eq, ih]
theorem samePs_self (xs : List MStep) : samePs xs xs = true := samePs_eq.2 rfl
section
variable {w w' : World} {v : Value} {ps : List MStep}
theorem RSteps.keep (h : RSteps w v ps) (hb : Below w.heap.size w w') : RSteps w' v ps := by
  obtain ⟨A, c, e, h1, h2, h3⟩ := h
  refine ⟨A, c, e, h1, h2, fun j p hj => ?_⟩
  obtain ⟨b, o, u, e, c0, c1, c2, c3, r⟩ := h3 j p hj
  exact ⟨b, o, u, e, cell_keep hb c0, cell_keep hb c1, cell_keep hb c2, cell_keep hb c3, r.keep hb⟩
theorem RSteps.len (h : RSteps w v ps) : ps.length ≤ 9223372036854775807 := by
  obtain ⟨A, c, e, h1, h2, h3⟩ := h; rw [maxLen_eq] at h2; omega
theorem RSteps.nil (w : World) : RSteps w (.slice none 0 0) [] := ⟨none, 0, rfl, Nat.le_refl _, Nat.zero_le _, fun j x h => by simp at h⟩
theorem RSteps.form (h : RSteps w v ps) : ∃ A c, v = .slice A ps.length c ∧ ps.length ≤ c ∧ c ≤ 9223372036854775807 := by
  obtain ⟨A, c, e, h1, h2, h3⟩ := h; exact ⟨A, c, e, h1, h2⟩
theorem RSteps.at_ (h : RSteps w v ps) {k : Nat} (hk : k < ps.length) : ∃ b o c u, v = .slice (some ⟨b, o, none⟩) ps.length c ∧
    w.cell? ⟨b, o + k * 4, none⟩ = some (.int .i64 ps[k].ax) ∧ w.cell? ⟨b, o + k * 4 + 1, none⟩ = some (.bool ps[k].back) ∧ w.cell? ⟨b, o + k * 4 + 2, none⟩ = some (.int .i64 ps[k].at_) ∧ w.cell? ⟨b, o + k * 4 + 3, none⟩ = some u ∧ RRows w u ps[k].terms := by
  obtain ⟨A, c, e, h1, h2, h3⟩ := h
  obtain ⟨b, o, u, rfl, r⟩ := h3 k ps[k] (List.getElem?_eq_getElem hk)
  exact ⟨b, o, c, u, e, r⟩
end

/-- rows that were made between two sizes, as they were -/
def InR (w : World) (r : Nat × Nat) (u : Value) (rows : List (List Int)) : Prop := ∃ wc : World, wc.heap.size = r.2 ∧ ORows wc r.1 u rows ∧ ∀ k, r.1 ≤ k → k < r.2 → w.heap[k]? = wc.heap[k]?
theorem InR.same {w w' : World} {r : Nat × Nat} {u : Value} {rows : List (List Int)} (h : InR w r u rows) (hk : ∀ k, r.1 ≤ k → k < r.2 → w'.heap[k]? = w.heap[k]?) : InR w' r u rows := by
  obtain ⟨wc, h1, h2, h3⟩ := h
  exact ⟨wc, h1, h2, fun k a b => (hk k a b).trans (h3 k a b)⟩
theorem InR.rows {w : World} {r : Nat × Nat} {u : Value} {rows : List (List Int)} (h : InR w r u rows) : ORows w r.1 u rows := by
  obtain ⟨wc, h1, h2, h3⟩ := h
  exact orows_same h2 fun k a b => h3 k a (by omega)

/-- a list of steps that a call has made: block g with its cells; each step's rows in a range of their own -/
def OSteps (w : World) (B : Nat) (v : Value) (ps : List MStep) : Prop :=
  ∃ (g c : Nat) (cur : Array Value) (rg : Nat → Nat × Nat), v = .slice (some ⟨g, 0, none⟩) ps.length c ∧ B ≤ g ∧ w.heap[g]? = some (.cells cur 82 (0, 0)) ∧ ps.length ≤ c ∧ c ≤ 9223372036854775807 ∧ cur.size = c * 4 ∧
    (∀ j p, ps[j]? = some p → ∃ u, cur[j * 4]? = some (.int .i64 p.ax) ∧ cur[j * 4 + 1]? = some (.bool p.back) ∧ cur[j * 4 + 2]? = some (.int .i64 p.at_) ∧ cur[j * 4 + 3]? = some u ∧ InR w (rg j) u p.terms ∧ B ≤ (rg j).1 ∧ (rg j).2 ≤ w.heap.size ∧ (g < (rg j).1 ∨ (rg j).2 ≤ g)) ∧
    (∀ i j, i < j → j < ps.length → (rg i).2 ≤ (rg j).1 ∨ (rg j).2 ≤ (rg i).1)
section
variable {w w' : World} {B B' : Nat} {v : Value} {ps : List MStep}
theorem OSteps.same (h : OSteps w B v ps) (hs : w.heap.size ≤ w'.heap.size) (hk : ∀ k, B ≤ k → k < w.heap.size → w'.heap[k]? = w.heap[k]?) : OSteps w' B v ps := by
  obtain ⟨g, c, cur, rg, e, h1, h2, h3, h4, h5, h6, h7⟩ := h
  refine ⟨g, c, cur, rg, e, h1, (hk g h1 (Array.getElem?_eq_some_iff.1 h2).1).trans h2, h3, h4, h5, fun j p hj => ?_, h7⟩
  obtain ⟨u, c0, c1, c2, c3, r, a, b, d⟩ := h6 j p hj
  exact ⟨u, c0, c1, c2, c3, r.same fun k k1 k2 => hk k (by omega) (by omega), a, by omega, d⟩
theorem OSteps.keep (h : OSteps w B v ps) (hb : Below w.heap.size w w') : OSteps w' B v ps := h.same hb.size fun k _ hk => hb.block k hk
theorem OSteps.reads (h : OSteps w B v ps) : RSteps w v ps := by
  obtain ⟨g, c, cur, rg, e, h1, h2, h3, h4, h5, h6, h7⟩ := h
  refine ⟨_, c, e, h3, by rw [maxLen_eq]; exact h4, fun j p hj => ?_⟩
  obtain ⟨u, c0, c1, c2, c3, r, a, b, d⟩ := h6 j p hj
  exact ⟨g, 0, u, rfl, (blk_cell h2 _).trans (by rw [Nat.zero_add]; exact c0), (blk_cell h2 _).trans (by rw [Nat.zero_add]; exact c1), (blk_cell h2 _).trans (by rw [Nat.zero_add]; exact c2), (blk_cell h2 _).trans (by rw [Nat.zero_add]; exact c3), r.rows.reads⟩
end
theorem Try.tinfo_Step : (Try.prog.info? 82).map (fun i => (i.zero, i.size, i.bytes)) = some (some (.agg #[.int .i64 0, .bool false, .int .i64 0, .slice none 0 0]), 4, 48) := by kernel_rfl

theorem set4_old {cur : Array Value} {m i : Nat} {a b c d : Value} (hi : i < m ∨ m + 3 < i) : ((((cur.setIfInBounds m a).setIfInBounds (m + 1) b).setIfInBounds (m + 2) c).setIfInBounds (m + 3) d)[i]? = cur[i]? := by
  rw [Array.getElem?_setIfInBounds, if_neg (by omega), Array.getElem?_setIfInBounds, if_neg (by omega), Array.getElem?_setIfInBounds, if_neg (by omega), Array.getElem?_setIfInBounds, if_neg (by omega)]
theorem set4_new {cur : Array Value} {m : Nat} {a b c d : Value} (h : m + 3 < cur.size) :
    ((((cur.setIfInBounds m a).setIfInBounds (m + 1) b).setIfInBounds (m + 2) c).setIfInBounds (m + 3) d)[m]? = some a ∧ ((((cur.setIfInBounds m a).setIfInBounds (m + 1) b).setIfInBounds (m + 2) c).setIfInBounds (m + 3) d)[m + 1]? = some b ∧
    ((((cur.setIfInBounds m a).setIfInBounds (m + 1) b).setIfInBounds (m + 2) c).setIfInBounds (m + 3) d)[m + 2]? = some c ∧ ((((cur.setIfInBounds m a).setIfInBounds (m + 1) b).setIfInBounds (m + 2) c).setIfInBounds (m + 3) d)[m + 3]? = some d := by
  refine ⟨?_, ?_, ?_, ?_⟩
  · rw [Array.getElem?_setIfInBounds, if_neg (by omega), Array.getElem?_setIfInBounds, if_neg (by omega), Array.getElem?_setIfInBounds, if_neg (by omega), Array.getElem?_setIfInBounds, if_pos rfl, if_pos (by omega)]
  · rw [Array.getElem?_setIfInBounds, if_neg (by omega), Array.getElem?_setIfInBounds, if_neg (by omega), Array.getElem?_setIfInBounds, if_pos rfl, if_pos (by simp; omega)]
  · rw [Array.getElem?_setIfInBounds, if_neg (by omega), Array.getElem?_setIfInBounds, if_pos rfl, if_pos (by simp; omega)]
  · rw [Array.getElem?_setIfInBounds, if_pos rfl, if_pos (by simp; omega)]

/-- a list of steps that is being filled: k of them are done -/
def FillS (w wr : World) (ps : List MStep) (k : Nat) : Prop :=
  ∃ (cur : Array Value) (rg : Nat → Nat × Nat), wr.heap[w.heap.size]? = some (.cells cur 82 (0, 0)) ∧ cur.size = ps.length * 4 ∧
    (∀ j p, j < k → ps[j]? = some p → ∃ u, cur[j * 4]? = some (.int .i64 p.ax) ∧ cur[j * 4 + 1]? = some (.bool p.back) ∧ cur[j * 4 + 2]? = some (.int .i64 p.at_) ∧ cur[j * 4 + 3]? = some u ∧ InR wr (rg j) u p.terms ∧ w.heap.size < (rg j).1 ∧ (rg j).2 ≤ wr.heap.size) ∧
    (∀ i j, i < j → j < k → (rg i).2 ≤ (rg j).1) ∧ Below w.heap.size w wr
section
variable {w wr w1 : World} {ps : List MStep} {k : Nat}
theorem FillS.start (w : World) (ps : List MStep) (cur : Array Value) (h : cur.size = ps.length * 4) : FillS w (w.alloc (.cells cur 82)) ps 0 :=
  ⟨cur, fun _ => (0, 0), heap_alloc_new w _, h, fun j p hj => by omega, fun i j _ hj => by omega, below_alloc _ _⟩
theorem FillS.bel (h : FillS w wr ps k) : Below w.heap.size w wr := by obtain ⟨_, _, _, _, _, _, hb⟩ := h; exact hb
theorem FillS.cell (h : FillS w wr ps k) (hb : Below wr.heap.size wr w1) {j : Nat} (hj : j < ps.length * 4) : ∃ u, w1.cell? ⟨w.heap.size, j, none⟩ = some u ∧ w1.frozen? ⟨w.heap.size, j, none⟩ = false := by
  obtain ⟨cur, rg, h1, h2, h3, h4, h5⟩ := h
  have h1' := (hb.block _ (Array.getElem?_eq_some_iff.1 h1).1).trans h1
  exact ⟨cur[j]'(by omega), (blk_cell h1' j).trans (Array.getElem?_eq_getElem (by omega)), blk_free h1' j⟩
theorem FillS.put (h : FillS w wr ps k) (hk : k < ps.length) (hb : Below wr.heap.size wr w1) {u : Value} (hp : ORows w1 wr.heap.size u ps[k].terms) :
    FillS w ((((w1.setCell ⟨w.heap.size, k * 4, none⟩ (.int .i64 ps[k].ax)).setCell ⟨w.heap.size, k * 4 + 1, none⟩ (.bool ps[k].back)).setCell ⟨w.heap.size, k * 4 + 2, none⟩ (.int .i64 ps[k].at_)).setCell ⟨w.heap.size, k * 4 + 3, none⟩ u) ps (k + 1) := by
  obtain ⟨cur, rg, h1, h2, h3, h4, h5⟩ := h
  have hl := (Array.getElem?_eq_some_iff.1 h1).1
  have h1' := (hb.block _ hl).trans h1
  have hs := hb.size
  have oth : ∀ b' : Nat, b' ≠ w.heap.size → ((((w1.setCell ⟨w.heap.size, k * 4, none⟩ (.int .i64 ps[k].ax)).setCell ⟨w.heap.size, k * 4 + 1, none⟩ (.bool ps[k].back)).setCell ⟨w.heap.size, k * 4 + 2, none⟩ (.int .i64 ps[k].at_)).setCell ⟨w.heap.size, k * 4 + 3, none⟩ u).heap[b']? = w1.heap[b']? := fun b' hb' => by
    rw [Below.heap_setCell _ ⟨w.heap.size, k * 4 + 3, none⟩ _ b' hb', Below.heap_setCell _ ⟨w.heap.size, k * 4 + 2, none⟩ _ b' hb', Below.heap_setCell _ ⟨w.heap.size, k * 4 + 1, none⟩ _ b' hb', Below.heap_setCell _ ⟨w.heap.size, k * 4, none⟩ _ b' hb']
  have hsz : ((((w1.setCell ⟨w.heap.size, k * 4, none⟩ (.int .i64 ps[k].ax)).setCell ⟨w.heap.size, k * 4 + 1, none⟩ (.bool ps[k].back)).setCell ⟨w.heap.size, k * 4 + 2, none⟩ (.int .i64 ps[k].at_)).setCell ⟨w.heap.size, k * 4 + 3, none⟩ u).heap.size = w1.heap.size := by simp [World.setCell]
  refine ⟨_, fun j => if j = k then (wr.heap.size, w1.heap.size) else rg j, blk_set (blk_set (blk_set (blk_set h1' _ _) _ _) _ _) _ _, by simpa using h2, fun j p hj hpj => ?_, fun i j hij hj => ?_, ((((h5.trans (hb.mono (by omega))).setCell (p := ⟨w.heap.size, k * 4, none⟩) (Nat.le_refl _) _).setCell (p := ⟨w.heap.size, k * 4 + 1, none⟩) (Nat.le_refl _) _).setCell (p := ⟨w.heap.size, k * 4 + 2, none⟩) (Nat.le_refl _) _).setCell (p := ⟨w.heap.size, k * 4 + 3, none⟩) (Nat.le_refl _) _⟩
  · by_cases hjk : j = k
    · subst hjk
      rw [List.getElem?_eq_getElem hk] at hpj
      cases hpj
      obtain ⟨a, b, c, d⟩ := set4_new (cur := cur) (m := j * 4) (a := .int .i64 ps[j].ax) (b := .bool ps[j].back) (c := .int .i64 ps[j].at_) (d := u) (by omega)
      refine ⟨u, a, b, c, d, ?_, by simp; omega, by rw [hsz]; simp⟩
      simp only [if_true]
      exact ⟨w1, rfl, hp, fun n n1 n2 => oth n (by simp only at n1; omega)⟩
    · obtain ⟨x, a, b, c, d, r, lo, hi⟩ := h3 j p (by omega) hpj
      refine ⟨x, by rw [set4_old (by omega)]; exact a, by rw [set4_old (by omega)]; exact b, by rw [set4_old (by omega)]; exact c, by rw [set4_old (by omega)]; exact d, ?_, by simp only [if_neg hjk]; exact lo, by rw [hsz]; simp only [if_neg hjk]; omega⟩
      simp only [if_neg hjk]
      exact r.same fun n n1 n2 => (oth n (by omega)).trans (hb.block n (by omega))
  · have hik : ¬ i = k := by omega
    by_cases hjk : j = k
    · subst hjk
      simp only [if_neg hik, if_true]
      obtain ⟨x, a, b, c, d, r, lo, hi⟩ := h3 i ps[i] hij (List.getElem?_eq_getElem (by omega))
      exact hi
    · simp only [if_neg hik, if_neg hjk]
      exact h4 i j hij (by omega)
theorem FillS.done (h : FillS w wr ps k) (hk : k = ps.length) (hm : ps.length ≤ 9223372036854775807) : OSteps wr w.heap.size (.slice (some ⟨w.heap.size, 0, none⟩) ps.length ps.length) ps ∧ Below w.heap.size w wr := by
  obtain ⟨cur, rg, h1, h2, h3, h4, h5⟩ := h
  subst hk
  refine ⟨⟨w.heap.size, ps.length, cur, rg, rfl, Nat.le_refl _, h1, Nat.le_refl _, hm, h2, fun j p hj => ?_, fun i j hij hj => .inl (h4 i j hij hj)⟩, h5⟩
  obtain ⟨u, a, b, c, d, r, lo, hi⟩ := h3 j p (List.getElem?_eq_some_iff.1 hj).1 hj
  exact ⟨u, a, b, c, d, r, by omega, hi, .inl lo⟩
end

set_option maxRecDepth 100000 in
theorem szStepS_any (v : Value) (ps : List MStep) (left : Int) (w : World) (h : RSteps w v ps) (h0 : 0 ≤ left) (h1 : left ≤ 1048576) :
    Calls Try.prog 8 #[v, .int .i64 left] w fun e w' => ∃ r : Int, e = .returned (.int .i64 r) ∧ (r < 0 ∨ (0 ≤ r ∧ r ≤ left ∧ FitsPs ps)) ∧ Below w.heap.size w w' := by
  have H := Lib.hid h
  have hn := h.len
  obtain ⟨A, c, rfl, -⟩ := h.form
  clear h
  by_cases hl : left - (ps.length : Int) < 0
  · go_enter Try.func8, Try.ntmps8
    go_wp2
    go_ret
    exact ⟨-1, rfl, .inl (by omega), Below.refl _ _⟩
  · go_enter Try.func8, Try.ntmps8
    go_wp2
    go_loopw [1, 5] (fun l i wr => ∃ k : Nat, ∃ r : Int, k ≤ ps.length ∧ i = .int .i64 k ∧ l = .int .i64 r ∧ 0 ≤ r ∧ r ≤ left ∧ (∀ p ∈ ps.take k, FitsP p) ∧ Below w.heap.size w wr) (fun _ i _ => ps.length - (intOf i).toNat)
    case atStart => exact ⟨0, _, Nat.zero_le _, rfl, rfl, by omega, by omega, by simp, Below.refl _ _⟩
    case round =>
      obtain ⟨k, r, hk, rfl, rfl, hr0, hr1, hb0, hbw⟩ := hrel
      have hb := Lib.hid hb0
      have HBW := Lib.hid hbw
      clear hb0 hbw
      by_cases hlt : k < ps.length
      · obtain ⟨b, o, c', x, e, c0, c1, c2, c3, q0⟩ := (H.out.keep HBW.out).at_ hlt
        cases e
        have HT := Lib.hid (List.take_succ_eq_append_getElem hlt)
        generalize ps[k] = p at q0 c0 c1 c2 HT
        have HI := Lib.hid (show RStep wr (.agg #[.int .i64 p.ax, .bool p.back, .int .i64 p.at_, x]) p from ⟨x, rfl, q0⟩)
        obtain ⟨A0, d0, rfl, -⟩ := q0.form
        clear q0
        go_wp2_with fail
        refine (szStep_any _ p _ _ HI.out hr0 (by omega)).mono ?_
        rintro e' w1 ⟨r', rfl, hr', hb1⟩
        have HB1 := Lib.hid (sz_keep HBW.out hb1)
        clear hb1 c0 c1 c2 c3
        by_cases hneg : r' < 0
        · clear hr'
          go_wp2
          go_ret
          exact ⟨-1, rfl, .inl (by omega), HB1.out⟩
        · obtain ⟨h2, h3, h4⟩ := hr'.resolve_left hneg
          have HR := Lib.hid (And.intro h3 h4)
          clear h3 h4 hr'
          go_wp2
          go_roundw
          case rel =>
            refine ⟨k + 1, r', by omega, by go_num, rfl, h2, by have := HR.out.1; omega, ?_, HB1.out⟩
            rw [HT.out]
            intro x hx
            rcases List.mem_append.1 hx with hx | hx
            · exact hb.out x hx
            · simp at hx; subst hx; exact HR.out.2
          case measure => simp [intOf]; omega
      · go_wp2
        go_ret
        have h := hb.out
        rw [take_all (by omega)] at h
        exact ⟨r, rfl, .inr ⟨hr0, hr1, by omega, h⟩, HBW.out⟩

set_option maxRecDepth 100000 in
theorem toStepS_any (v : Value) (ps : List MStep) (w : World) (h : RSteps w v ps) (hs : FitsPs ps) :
    Calls Try.prog 10 #[v] w fun e w' => ∃ u, e = .returned u ∧ OSteps w' w.heap.size u ps ∧ Below w.heap.size w w' := by
  have H := Lib.hid h
  have HS := Lib.hid hs
  obtain ⟨A, c, rfl, -⟩ := h.form
  have hlen := hs.1
  clear h hs
  have hmk := run_make_wide 24 82 _ 4 48 Try.underlying24 Try.tinfo_Step .i64 .i64 ps.length (by omega) (by omega)
  go_enter Try.func10, Try.ntmps10
  go_wp2
  go_loopw [4] (fun i wr => ∃ k : Nat, k ≤ ps.length ∧ i = .int .i64 k ∧ FillS w wr ps k) (fun i _ => ps.length - (intOf i).toNat)
  case atStart => exact ⟨0, Nat.zero_le _, rfl, FillS.start w _ _ (by simp [madeCells])⟩
  case round =>
    obtain ⟨k, hk, rfl, hf⟩ := hrel
    have HF := Lib.hid hf
    clear hf hmk
    by_cases hlt : k < ps.length
    · obtain ⟨b, o, c', x, e, c0, c1, c2, c3, q0⟩ := (H.out.keep HF.out.bel).at_ hlt
      cases e
      have HFP := Lib.hid (HS.out.2 _ (List.getElem_mem hlt))
      have HPUT := Lib.hid (fun (w1 : World) (hb : Below wr.heap.size wr w1) (u : Value) (hp : ORows w1 wr.heap.size u ps[k].terms) => HF.out.put hlt hb hp)
      generalize ps[k] = p at q0 c0 c1 c2 HFP HPUT
      have HI := Lib.hid (show RStep wr (.agg #[.int .i64 p.ax, .bool p.back, .int .i64 p.at_, x]) p from ⟨x, rfl, q0⟩)
      obtain ⟨A0, d0, rfl, -⟩ := q0.form
      clear q0
      go_wp2_with fail
      refine (toStep_any _ p _ HI.out HFP.out).mono ?_
      rintro e' w1 ⟨u, rfl, ho, hb⟩
      obtain ⟨u', rfl, ho'⟩ := ho
      obtain ⟨B0, g0, rfl, -⟩ := ho'.reads.form
      obtain ⟨z0, m0, n0⟩ := HF.out.cell hb (j := k * 4) (by omega)
      obtain ⟨z1, m1, n1⟩ := HF.out.cell hb (j := k * 4 + 1) (by omega)
      obtain ⟨z2, m2, n2⟩ := HF.out.cell hb (j := k * 4 + 2) (by omega)
      obtain ⟨z3, m3, n3⟩ := HF.out.cell hb (j := k * 4 + 3) (by omega)
      have HN := Lib.hid (HPUT.out _ hb _ ho')
      clear ho' hb c0 c1 c2 c3
      go_wp2
      go_roundw
      case rel => exact ⟨k + 1, by omega, by go_num, HN.out⟩
      case measure => simp [intOf]; omega
    · have hkn : k = ps.length := by omega
      go_wp2
      go_ret
      obtain ⟨r1, r2⟩ := HF.out.done hkn (by omega)
      exact ⟨_, rfl, r1, r2⟩

theorem takeP_bad {xs ys : List MStep} {k : Nat} (hx : k < xs.length) (hy : k < ys.length) (he : sameP xs[k] ys[k] = false) : samePs xs ys = false := by
  cases h : samePs xs ys with
  | false => rfl
  | true =>
    have := samePs_eq.1 h
    subst this
    rw [sameP_self] at he
    cases he
theorem eqStepS_any (v v' : Value) (xs ys : List MStep) (w : World) (h : RSteps w v xs) (h' : RSteps w v' ys) :
    Calls Try.prog 12 #[v, v'] w fun e w' => e = .returned (.bool (samePs xs ys)) ∧ Below w.heap.size w w' := by
  have H := Lib.hid h
  have H' := Lib.hid h'
  have hn := h.len
  have hn' := h'.len
  obtain ⟨A, c, rfl, -⟩ := h.form
  obtain ⟨A', c', rfl, -⟩ := h'.form
  clear h h'
  by_cases hl : xs.length = ys.length
  · have hl' : ((xs.length : Int) != (ys.length : Int)) = false := by simp [hl]
    have HL := Lib.hid hl
    have hle : xs.length ≤ ys.length := by omega
    have hge : ys.length ≤ xs.length := by omega
    clear hl
    go_enter Try.func12, Try.ntmps12
    go_wp2
    go_loopw [5] (fun i wr => ∃ k : Nat, k ≤ xs.length ∧ i = .int .i64 k ∧ xs.take k = ys.take k ∧ Below w.heap.size w wr) (fun i _ => xs.length - (intOf i).toNat)
    case atStart => exact ⟨0, Nat.zero_le _, rfl, rfl, Below.refl _ _⟩
    case round =>
      obtain ⟨k, hk, rfl, hb0, hd⟩ := hrel
      have hb := Lib.hid hb0
      have HD := Lib.hid hd
      clear hb0 hd
      by_cases hlt : k < xs.length
      · obtain ⟨b, o, c3, xv, e, c00, c01, c02, c03, q0⟩ := (H.out.keep HD.out).at_ hlt
        cases e
        obtain ⟨b', o', c4, yv, e, d00, d01, d02, d03, p0⟩ := (H'.out.keep HD.out).at_ (show k < ys.length by omega)
        cases e
        have hs1 : (k : Int) < (xs.length : Int) := by omega
        have hs2 : (k : Int) < (ys.length : Int) := by omega
        have HT := Lib.hid (take_succ_eq hlt (show k < ys.length by omega) hb.out)
        have HN := Lib.hid (takeP_bad hlt (show k < ys.length by omega))
        generalize xs[k] = x at q0 c00 c01 c02 HT HN
        generalize ys[k]'(by omega) = y at p0 d00 d01 d02 HT HN
        have HX := Lib.hid (show RStep wr (.agg #[.int .i64 x.ax, .bool x.back, .int .i64 x.at_, xv]) x from ⟨xv, rfl, q0⟩)
        have HY := Lib.hid (show RStep wr (.agg #[.int .i64 y.ax, .bool y.back, .int .i64 y.at_, yv]) y from ⟨yv, rfl, p0⟩)
        obtain ⟨A0, g0, rfl, -⟩ := q0.form
        obtain ⟨B0, h0, rfl, -⟩ := p0.form
        clear q0 p0
        have ea := World.new_ne wr _ c00
        have eb := World.new_ne wr _ d00
        cases hxy : sameP x y with
        | true =>
          have HXY := Lib.hid hxy
          clear hxy
          go_wp2_with fail
          go_region_held3 (fun w' => w'.cell? ⟨b, o + k * 4, none⟩ = some (.int .i64 x.ax) ∧ w'.cell? ⟨b, o + k * 4 + 1, none⟩ = some (.bool x.back) ∧ w'.cell? ⟨b, o + k * 4 + 2, none⟩ = some (.int .i64 x.at_) ∧ w'.cell? ⟨b, o + k * 4 + 3, none⟩ = some (.slice A0 x.terms.length g0) ∧ w'.cell? ⟨b', o' + k * 4, none⟩ = some (.int .i64 y.ax) ∧ w'.cell? ⟨b', o' + k * 4 + 1, none⟩ = some (.bool y.back) ∧ w'.cell? ⟨b', o' + k * 4 + 2, none⟩ = some (.int .i64 y.at_) ∧ w'.cell? ⟨b', o' + k * 4 + 3, none⟩ = some (.slice B0 y.terms.length h0)) (first | go_keep)
            (first
              | (go_at_call 52; refine (eqStep_is _ _ _ _ wr.drew _ HXY.out (HX.out.keep (eq_drew _)) (HY.out.keep (eq_drew _))).mono ?_; rintro e w2 ⟨rfl, hb2⟩; have HB2 := Lib.hid (eq_undrew hb2); have j0 := cell_keep HB2.out c00; have j1 := cell_keep HB2.out c01; have j2 := cell_keep HB2.out c02; have j3 := cell_keep HB2.out c03; have j4 := cell_keep HB2.out d00; have j5 := cell_keep HB2.out d01; have j6 := cell_keep HB2.out d02; have j7 := cell_keep HB2.out d03; clear hb2))
          have HBN := Lib.hid (sz_keep HD.out HB2.out)
          clear c00 c01 c02 c03 d00 d01 d02 d03 j0 j1 j2 j3 j4 j5 j6 j7 ea eb
          go_wp2
          go_roundw
          case rel => exact ⟨k + 1, by omega, by go_num, HT.out (sameP_eq.1 HXY.out), HBN.out⟩
          case measure => simp [intOf]; omega
        | false =>
          have HXY := Lib.hid hxy
          clear hxy
          go_wp2_with fail
          go_region_held3 (fun w' => w'.cell? ⟨b, o + k * 4, none⟩ = some (.int .i64 x.ax) ∧ w'.cell? ⟨b, o + k * 4 + 1, none⟩ = some (.bool x.back) ∧ w'.cell? ⟨b, o + k * 4 + 2, none⟩ = some (.int .i64 x.at_) ∧ w'.cell? ⟨b, o + k * 4 + 3, none⟩ = some (.slice A0 x.terms.length g0) ∧ w'.cell? ⟨b', o' + k * 4, none⟩ = some (.int .i64 y.ax) ∧ w'.cell? ⟨b', o' + k * 4 + 1, none⟩ = some (.bool y.back) ∧ w'.cell? ⟨b', o' + k * 4 + 2, none⟩ = some (.int .i64 y.at_) ∧ w'.cell? ⟨b', o' + k * 4 + 3, none⟩ = some (.slice B0 y.terms.length h0)) (first | go_keep)
            (first
              | (go_at_call 52; refine (eqStep_is _ _ _ _ wr.drew _ HXY.out (HX.out.keep (eq_drew _)) (HY.out.keep (eq_drew _))).mono ?_; rintro e w2 ⟨rfl, hb2⟩; have HB2 := Lib.hid (eq_undrew hb2); have j0 := cell_keep HB2.out c00; have j1 := cell_keep HB2.out c01; have j2 := cell_keep HB2.out c02; have j3 := cell_keep HB2.out c03; have j4 := cell_keep HB2.out d00; have j5 := cell_keep HB2.out d01; have j6 := cell_keep HB2.out d02; have j7 := cell_keep HB2.out d03; clear hb2))
          have HBN := Lib.hid (sz_keep HD.out HB2.out)
          clear c00 c01 c02 c03 d00 d01 d02 d03 j0 j1 j2 j3 j4 j5 j6 j7 ea eb
          go_wp2
          go_ret
          exact ⟨ret_bool (HN.out HXY.out).symm, HBN.out⟩
      · go_wp2
        go_ret
        have h := hb.out
        rw [take_all (by omega), take_all (by omega)] at h
        exact ⟨ret_bool (by rw [h, samePs_self]), HD.out⟩
  · have hl' : ((xs.length : Int) != (ys.length : Int)) = true := by simp; omega
    have HL := Lib.hid hl
    clear hl
    go_enter Try.func12, Try.ntmps12
    go_wp2
    go_ret
    refine ⟨ret_bool ?_, Below.refl _ _⟩
    cases h : samePs xs ys with
    | false => rfl
    | true => have := samePs_eq.1 h; subst this; exact absurd rfl HL.out
theorem eqStepS_is (v v' : Value) (xs ys : List MStep) (w : World) (r : Bool) (hr : samePs xs ys = r) (h : RSteps w v xs) (h' : RSteps w v' ys) :
    Calls Try.prog 12 #[v, v'] w fun e w' => e = .returned (.bool r) ∧ Below w.heap.size w w' := by
  subst hr; exact eqStepS_any v v' xs ys w h h'
end Go.Proofs.Ytonainidjkcoeac
