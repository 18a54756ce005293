/- The spec's SigValid: two loops, a region that draws in the inner one. · Operations of a signature; equality of rows and signatures. · Equality of rows, of lists of rows, of signatures (the exact laws' own). · The exact laws' measure and copy: szSig, toSig. · A row that is being filled, place by place. No walk. · The exact laws' copies: toIntS, toIntSS, toSig. · toSig. · How equations, lists of them and theories read in memory. No walk. · Terms as trees, and how rows of numbers read as terms. No walk. · The plain functions on rows that read as terms: sorts, parts, what is put there; and what holds of them. No walk. · The plain functions of equations, theories and steps; small numbers. No walk. · The exact laws' measure, copy and comparison of an equation: szEq, toEq, eqEq. · The exact laws' marks: markIntS, heldIntS, markIntSS, markSig. -/
import Derived.Test.YtbopcghbmbchkabKde5d7d20
import Derived.Deep.RegionHeld3
import Derived.Deep.OwnRows
namespace Go.Proofs.Ytbopcghbmbchkab
section
open Go.RowKit
set_option linter.unusedVariables false

theorem l1In_is (a lo hi : Int) (w : World) (b : Bool) (hb : inB a lo hi = b) :
    Calls Try.prog 88 #[.int .i64 a, .int .i64 lo, .int .i64 hi] w fun e w' => e = .returned (.bool b) ∧ w = w' := by
  subst hb
  unfold inB
  by_cases h : lo ≤ a
  · go_enter Try.func88, Try.ntmps88
    go_wp2
    go_ret
    exact ⟨ret_bool (by simp; omega), rfl⟩
  · go_enter Try.func88, Try.ntmps88
    go_wp2
    go_ret
    exact ⟨ret_bool (by simp; omega), rfl⟩

theorem inB_row (x sorts : Int) (q : Int) (hq : 1 ≤ sorts → sorts ≤ 3 → q = sorts - 1) (h1 : 1 ≤ sorts) (h3 : sorts ≤ 3) : inB x 0 q = (decide (0 ≤ x) && decide (x < sorts)) := by
  rw [hq h1 h3]; unfold inB; congr 1; rw [decide_eq_decide]; omega
def inRow (q : Int) (row : List Int) : Bool := inB row.length 1 3 && row.all fun x => inB x 0 q
theorem inRow_rowB {sorts q : Int} (hq : 1 ≤ sorts → sorts ≤ 3 → q = sorts - 1) (h1 : 1 ≤ sorts) (h3 : sorts ≤ 3) : inRow q = rowB sorts := by
  funext row
  unfold inRow rowB belowB
  congr 1
  · unfold inB; congr 1 <;> (rw [decide_eq_decide]; omega)
  · congr 1; funext x; exact inB_row x sorts q hq h1 h3
theorem validB_in {sorts q : Int} {ops : List (List Int)} (hq : 1 ≤ sorts → sorts ≤ 3 → q = sorts - 1) : validB ⟨sorts, ops⟩ = (ops.all (inRow q) && (inB sorts 1 3 && decide (ops.length ≤ 6))) := by
  unfold validB
  by_cases h1 : 1 ≤ sorts
  · by_cases h3 : sorts ≤ 3
    · rw [inRow_rowB hq h1 h3]; simp [inB, h1, h3, Bool.and_comm]
    · simp [inB, h3]
  · simp [inB, h1]

theorem specSigValid_any (v : Value) (s : MSig) (w : World) (h : RSig w v s) :
    Calls Try.prog 51 #[v] w fun e w' => e = .returned (.bool (validB s)) ∧ Below w.heap.size w w' := by
  obtain ⟨u, rfl, hr⟩ := h
  obtain ⟨sorts, ops⟩ := s
  have hn := hr.len
  obtain ⟨A, c, rfl, -⟩ := hr.form
  have H := Lib.hid (hr.keep (below_alloc w (.cells #[.int .i64 sorts, .slice A ops.length c] 25)))
  have hc0 : (w.alloc (.cells #[.int .i64 sorts, .slice A ops.length c] 25)).cell? ⟨w.heap.size, 0, none⟩ = some (.int .i64 sorts) := by
    rw [World.cell?_alloc_at _ _ _ _ rfl]; rfl
  have hc1 : (w.alloc (.cells #[.int .i64 sorts, .slice A ops.length c] 25)).cell? ⟨w.heap.size, 1, none⟩ = some (.slice A ops.length c) := by
    rw [World.cell?_alloc_at _ _ _ _ rfl]; rfl
  have hbW : Below w.heap.size w (w.alloc (.cells #[.int .i64 sorts, .slice A ops.length c] 25)) := below_alloc _ _
  clear hr
  have HV : Hid (validB ⟨sorts, ops⟩ = (ops.all (inRow (IntKind.i64.wrap (sorts - 1))) && (inB sorts 1 3 && decide (ops.length ≤ 6)))) :=
    validB_in (fun h1 h3 => by rw [IntKind.wrap_i64]; omega)
  have HC0 := Lib.hid hc0
  have HC1 := Lib.hid hc1
  have HBW := Lib.hid hbW
  clear hc0 hc1 hbW
  go_enter Try.func51, Try.ntmps51
  go_wp2
  go_loopw [3] (fun i wr => ∃ k : Nat, k ≤ ops.length ∧ i = .int .i64 k ∧ (ops.take k).all (inRow (IntKind.i64.wrap (sorts - 1))) = true ∧ Drawn (w.alloc (.cells #[.int .i64 sorts, .slice A ops.length c] 25)) wr) (fun i _ => ops.length - (intOf i).toNat)
  case atStart => exact ⟨0, Nat.zero_le _, rfl, rfl, Drawn.refl _⟩
  case round =>
    obtain ⟨k, hk, rfl, hb0, hd⟩ := hrel
    have hb := Lib.hid hb0
    have HD := Lib.hid hd
    clear hb0 hd
    have f0 := (HD.out.cell _).trans HC0.out
    have f1 := (HD.out.cell _).trans HC1.out
    by_cases hlt : k < ops.length
    · obtain ⟨b, o, c', u, e, hcell, hri⟩ := (H.out.keep HD.out.below).at_ hlt
      cases e
      have HB := Lib.hid (all_take (p := inRow (IntKind.i64.wrap (sorts - 1))) hlt)
      have HN := Lib.hid (all_bad (p := inRow (IntKind.i64.wrap (sorts - 1))) hlt)
      generalize ops[k] = row at hri HB HN
      have HR : Hid (inRow (IntKind.i64.wrap (sorts - 1)) row = (inB row.length 1 3 && row.all fun x => inB x 0 (IntKind.i64.wrap (sorts - 1)))) := rfl
      have hrn := hri.len
      obtain ⟨A', c'', rfl, -⟩ := hri.form
      have HI := Lib.hid hri
      clear hri
      cases hbb : inB row.length 1 3 with
      | false =>
        have Hbb := Lib.hid hbb
        clear hbb
        go_wp2_with (go_at_call 88; refine (l1In_is _ _ _ _ _ Hbb.out).mono ?_; rintro e w' ⟨rfl, rfl⟩)
        go_ret
        refine ⟨ret_bool ?_, HBW.out.trans (HD.out.below.mono (by simp))⟩
        rw [HV.out, HN.out (by rw [HR.out, Hbb.out]; simp)]; simp
      | true =>
        have Hbb := Lib.hid hbb
        clear hbb
        go_wp2_with (go_at_call 88; refine (l1In_is _ _ _ _ _ Hbb.out).mono ?_; rintro e w' ⟨rfl, rfl⟩)
        have hlt' : (k : Int) < (ops.length : Int) := by omega
        obtain ⟨wo, rfl⟩ : ∃ wo : World, wo = wr := ⟨_, rfl⟩
        go_loopw [4] (fun j wj => ∃ l : Nat, l ≤ row.length ∧ j = .int .i64 l ∧ (row.take l).all (fun x => inB x 0 (IntKind.i64.wrap (sorts - 1))) = true ∧ Drawn wo wj) (fun j _ => row.length - (intOf j).toNat)
        case atStart => exact ⟨0, Nat.zero_le _, rfl, rfl, Drawn.refl _⟩
        case round =>
          obtain ⟨l, hl, rfl, hbl0, hdj⟩ := hrel
          have hbl := Lib.hid hbl0
          have HDJ := Lib.hid hdj
          clear hbl0 hdj
          have g0 := (HDJ.out.cell _).trans f0
          have g1 := (HDJ.out.cell _).trans f1
          have g2 := (HDJ.out.cell _).trans hcell
          by_cases hll : l < row.length
          · obtain ⟨b', o', c3, e, hx⟩ := (HI.out.keep HDJ.out.below).at_ hll
            cases e
            have HBL := Lib.hid (all_take (p := fun x => inB x 0 (IntKind.i64.wrap (sorts - 1))) hll)
            have HNL := Lib.hid (all_bad (p := fun x => inB x 0 (IntKind.i64.wrap (sorts - 1))) hll)
            generalize row[l] = x at hx HBL HNL
            have hll' : (l : Int) < (row.length : Int) := by omega
            go_wp2_with fail
            cases hbx : inB x 0 (IntKind.i64.wrap (sorts - 1)) with
            | false =>
              have Hbx := Lib.hid hbx
              clear hbx
              go_quiet ((go_at_call 88; exact quiet_left (l1In_is _ _ _ _ _ Hbx.out)))
              go_wp2
              go_ret
              refine ⟨ret_bool ?_, ?_⟩
              · rw [HV.out, HN.out (by rw [HR.out, HNL.out Hbx.out]; simp)]; simp
              · exact below_drewN (HBW.out.trans ((HD.out.below.mono (by simp)).trans (HDJ.out.below.mono (by have := HD.out.below.size; simp at this; omega)))) _
            | true =>
              have Hbx := Lib.hid hbx
              clear hbx
              go_quiet ((go_at_call 88; exact quiet_left (l1In_is _ _ _ _ _ Hbx.out)))
              go_wp2
              go_roundw
              case rel => exact ⟨l + 1, by omega, by go_num, by rw [HBL.out, hbl.out, Hbx.out]; rfl, HDJ.out.more _⟩
              case measure => simp [intOf]; omega
          · go_wp2
            have hbl' := hbl.out
            rw [take_all (by omega)] at hbl'
            go_roundw
            case rel => exact ⟨k + 1, by omega, by go_num, by rw [HB.out, hb.out, HR.out, Hbb.out, hbl']; rfl, by obtain ⟨m, hm⟩ := HD.out; obtain ⟨m', hm'⟩ := HDJ.out; exact ⟨m + m', by rw [hm', hm, World.drewN_drewN]⟩⟩
            case measure => simp [intOf]; omega
    · have HE0 := hb.out
      rw [take_all (by omega)] at HE0
      have HE := Lib.hid HE0
      clear HE0
      cases hbs : inB sorts 1 3 with
      | false =>
        have Hbs := Lib.hid hbs
        clear hbs
        go_wp2_with (go_at_call 88; refine (l1In_is _ _ _ _ _ Hbs.out).mono ?_; rintro e w' ⟨rfl, rfl⟩)
        go_ret
        refine ⟨ret_bool ?_, HBW.out.trans (HD.out.below.mono (by simp))⟩
        rw [HV.out, Hbs.out]; simp
      | true =>
        have Hbs := Lib.hid hbs
        clear hbs
        go_wp2_with (go_at_call 88; refine (l1In_is _ _ _ _ _ Hbs.out).mono ?_; rintro e w' ⟨rfl, rfl⟩)
        go_ret
        refine ⟨ret_bool ?_, HBW.out.trans (HD.out.below.mono (by simp))⟩
        rw [HV.out, HE.out, Hbs.out]; simp; omega
end

section
open Go.RowKit
set_option linter.unusedVariables false

theorem box_cells (w : World) (a b : Value) (t : TypeId) : (w.alloc (.cells #[a, b] t)).cell? ⟨w.heap.size, 0, none⟩ = some a ∧ (w.alloc (.cells #[a, b] t)).cell? ⟨w.heap.size, 1, none⟩ = some b := by
  constructor <;> (rw [World.cell?_alloc_at _ _ _ _ rfl]; rfl)

theorem alive_any (w : World) : Calls Try.prog 13 #[] w fun e w' => e = .returned (.bool true) ∧ Below w.heap.size w w' := by
  go_enter Try.func13, Try.ntmps13
  go_wp2_with fail
  refine (sigValid_any _ ⟨1, []⟩ _ ⟨_, rfl, RRows.nil _⟩).mono ?_
  rw [show validB ⟨1, []⟩ = true from rfl]
  rintro e w1 ⟨rfl, hb1⟩
  go_wp2_with fail
  refine (sigValid_any _ ⟨0, []⟩ _ ⟨_, rfl, RRows.nil _⟩).mono ?_
  rw [show validB ⟨0, []⟩ = false from rfl]
  rintro e w2 ⟨rfl, hb2⟩
  go_wp2
  go_ret
  exact ⟨rfl, hb1.trans (hb2.mono hb1.size)⟩
end

section
open Go.RowKit
set_option linter.unusedVariables false

def sameS (a b : MSig) : Bool := decide (a.sorts = b.sorts) && sameR a.ops b.ops
end

section
open Go.RowKit
set_option linter.unusedVariables false

/-- rows that are not too many and not too long -/
def Fits (rows : List (List Int)) : Prop := rows.length ≤ 1048576 ∧ ∀ row ∈ rows, row.length ≤ 1048576

end

section
open Go.RowKit
set_option linter.unusedVariables false

theorem Try.tinfo_int : (Try.prog.info? 3).map (fun i => (i.zero, i.size, i.bytes)) = some (some (.int .i64 0), 1, 8) := by kernel_rfl

theorem blk_cell {w : World} {b : Nat} {cs : Array Value} {t : TypeId} (h : w.heap[b]? = some (.cells cs t (0, 0))) (i : Nat) : w.cell? ⟨b, i, none⟩ = cs[i]? := by simp [World.cell?, h]
theorem blk_free {w : World} {b : Nat} {cs : Array Value} {t : TypeId} (h : w.heap[b]? = some (.cells cs t (0, 0))) (i : Nat) : w.frozen? ⟨b, i, none⟩ = false := by simp [World.frozen?, h]
theorem blk_set {w : World} {b : Nat} {cs : Array Value} {t : TypeId} (h : w.heap[b]? = some (.cells cs t (0, 0))) (i : Nat) (u : Value) : (w.setCell ⟨b, i, none⟩ u).heap[b]? = some (.cells (cs.setIfInBounds i u) t (0, 0)) := by
  simp [World.setCell, Array.getElem?_modify, h]

theorem ORows.setLow' {w : World} {B b : Nat} {v : Value} {rows : List (List Int)} (h : ORows w B v rows) (hb : b < B) (i : Nat) (x : Value) : ORows (w.setCell ⟨b, i, none⟩ x) B v rows := by
  obtain ⟨us, a1, a2, a3, a4⟩ := h
  exact ⟨us, ownsRow_setCell_below a1 hb _, a2, fun j u r a b => ownsRow_setCell_below (a3 j u r a b) hb _, a4⟩

/-- a row that is being filled: k of its places are done -/
def Filling (w wr : World) (zs : List Int) (k : Nat) : Prop :=
  ∃ cur : Array Value, wr.heap[w.heap.size]? = some (.cells cur 3 (0, 0)) ∧ cur.size = zs.length ∧ (∀ j, j < k → cur[j]? = (zs[j]?).map (Value.int .i64)) ∧ Below w.heap.size w wr

theorem Filling.start (w : World) (zs : List Int) (cur : Array Value) (h : cur.size = zs.length) : Filling w (w.alloc (.cells cur 3)) zs 0 :=
  ⟨cur, heap_alloc_new w _, h, fun j hj => by omega, below_alloc _ _⟩
theorem Filling.step {w wr : World} {zs : List Int} {k : Nat} (h : Filling w wr zs k) (hk : k < zs.length) {x : Int} (hx : zs[k] = x) : Filling w (wr.setCell ⟨w.heap.size, k, none⟩ (.int .i64 x)) zs (k + 1) := by
  obtain ⟨cur, h1, h2, h3, h4⟩ := h
  refine ⟨_, blk_set h1 k _, by simpa using h2, fun j hj => ?_, h4.setCell (Nat.le_refl _) _⟩
  rw [Array.getElem?_setIfInBounds]
  by_cases hjk : k = j
  · subst hjk
    rw [if_pos rfl, if_pos (by omega), List.getElem?_eq_getElem hk, hx]
    rfl
  · rw [if_neg hjk]
    exact h3 j (by omega)
theorem Filling.cell {w wr : World} {zs : List Int} {k : Nat} (h : Filling w wr zs k) (hk : k < zs.length) : ∃ u, wr.cell? ⟨w.heap.size, k, none⟩ = some u ∧ wr.frozen? ⟨w.heap.size, k, none⟩ = false := by
  obtain ⟨cur, h1, h2, h3, h4⟩ := h
  exact ⟨cur[k]'(by omega), (blk_cell h1 k).trans (Array.getElem?_eq_getElem (by omega)), blk_free h1 k⟩
theorem Filling.done {w wr : World} {zs : List Int} {n : Nat} (h : Filling w wr zs n) (hn : n = zs.length) (hm : n ≤ 9223372036854775807) : OInts wr w.heap.size (.slice (some ⟨w.heap.size, 0, none⟩) n n) zs ∧ Below w.heap.size w wr := by
  obtain ⟨cur, h1, h2, h3, h4⟩ := h
  subst hn
  refine ⟨⟨by simp, .inr ⟨w.heap.size, _, cur, rfl, Nat.le_refl _, h1, Nat.le_refl _, by rw [maxLen_eq]; exact hm, by simpa using h2, ?_⟩⟩, h4⟩
  apply List.ext_getElem?
  intro j
  rw [List.getElem?_take, List.getElem?_map]
  split
  · rw [Array.getElem?_toList]
    exact h3 j (by omega)
  · rw [List.getElem?_eq_none (by omega)]
    rfl

theorem Try.tinfo_ints : (Try.prog.info? 26).map (fun i => (i.zero, i.size, i.bytes)) = some (some (.slice none 0 0), 1, 24) := by kernel_rfl

/-- a list of rows that is being filled: k of its rows are done -/
def FillingR (w wr : World) (rows : List (List Int)) (k : Nat) : Prop :=
  ∃ cur : Array Value, wr.heap[w.heap.size]? = some (.cells cur 26 (0, 0)) ∧ cur.size = rows.length ∧ (∀ (j : Nat) (row : List Int), j < k → rows[j]? = some row → ∃ u, cur[j]? = some u ∧ OInts wr (w.heap.size + 1) u row) ∧
    (∀ (i j : Nat) (u u' : Value), i < j → j < k → cur[i]? = some u → cur[j]? = some u' → u.ownBlock = none ∨ u.ownBlock ≠ u'.ownBlock) ∧ Below w.heap.size w wr
theorem FillingR.start (w : World) (rows : List (List Int)) (cur : Array Value) (h : cur.size = rows.length) : FillingR w (w.alloc (.cells cur 26)) rows 0 :=
  ⟨cur, heap_alloc_new w _, h, fun j row hj => by omega, fun i j u u' _ hj => by omega, below_alloc _ _⟩
theorem FillingR.cell {w wr : World} {rows : List (List Int)} {k : Nat} (h : FillingR w wr rows k) (hk : k < rows.length) {w1 : World} (hb : Below wr.heap.size wr w1) : ∃ u, w1.cell? ⟨w.heap.size, k, none⟩ = some u ∧ w1.frozen? ⟨w.heap.size, k, none⟩ = false := by
  obtain ⟨cur, h1, h2, h3, h4, h5⟩ := h
  have h1' := (hb.block _ (Array.getElem?_eq_some_iff.1 h1).1).trans h1
  exact ⟨cur[k]'(by omega), (blk_cell h1' k).trans (Array.getElem?_eq_getElem (by omega)), blk_free h1' k⟩
theorem FillingR.step {w wr w1 : World} {rows : List (List Int)} {k : Nat} {u : Value} (h : FillingR w wr rows k) (hk : k < rows.length) (hb : Below wr.heap.size wr w1) (hu : OInts w1 wr.heap.size u rows[k]) : FillingR w (w1.setCell ⟨w.heap.size, k, none⟩ u) rows (k + 1) := by
  obtain ⟨cur, h1, h2, h3, h4, h5⟩ := h
  have hlt := (Array.getElem?_eq_some_iff.1 h1).1
  have h1' := (hb.block _ hlt).trans h1
  refine ⟨_, blk_set h1' k _, by simpa using h2, fun j row hj hrow => ?_, fun i j x x' hij hjk hi hj => ?_, ((h5.trans (hb.mono (by omega))).setCell (Nat.le_refl _) _)⟩
  · by_cases hjk : k = j
    · subst hjk
      rw [List.getElem?_eq_getElem hk] at hrow
      cases hrow
      exact ⟨u, by rw [Array.getElem?_setIfInBounds, if_pos rfl, if_pos (by omega)], ownsRow_setCell_below (hu.base (by omega)) (by show w.heap.size < w.heap.size + 1; omega) _⟩
    · obtain ⟨x, hx, hxo⟩ := h3 j row (by omega) hrow
      exact ⟨x, by rw [Array.getElem?_setIfInBounds, if_neg hjk]; exact hx, ownsRow_setCell_below (hxo.keep hb) (by show w.heap.size < w.heap.size + 1; omega) _⟩
  · rw [Array.getElem?_setIfInBounds, if_neg (by omega)] at hi
    by_cases hjk' : k = j
    · subst hjk'
      rw [Array.getElem?_setIfInBounds, if_pos rfl, if_pos (by omega)] at hj
      cases hj
      obtain ⟨y, hy, hyo⟩ := h3 i _ hij (List.getElem?_eq_getElem (show i < rows.length by omega))
      rw [hy] at hi
      cases hi
      cases hbx : x.ownBlock with
      | none => exact .inl rfl
      | some b =>
        right
        intro e
        have a := (own_lt hyo b hbx).2
        have c := (own_lt hu b e.symm).1
        omega
    · rw [Array.getElem?_setIfInBounds, if_neg hjk'] at hj
      exact h4 i j x x' hij (by omega) hi hj
theorem FillingR.done {w wr : World} {rows : List (List Int)} {n : Nat} (h : FillingR w wr rows n) (hn : n = rows.length) (hm : n ≤ 9223372036854775807) : ORows wr w.heap.size (.slice (some ⟨w.heap.size, 0, none⟩) n n) rows ∧ Below w.heap.size w wr := by
  obtain ⟨cur, h1, h2, h3, h4, h5⟩ := h
  subst hn
  refine ⟨⟨cur.toList, ?_, by simpa using h2, fun j u row hu hrow => ?_, fun i j u u' hij hi hj => ?_⟩, h5⟩
  · refine ⟨by simp [h2], .inr ⟨w.heap.size, _, cur, rfl, Nat.le_refl _, h1, Nat.le_refl _, by rw [maxLen_eq]; exact hm, by simpa using h2, List.take_of_length_le (by simp [h2])⟩⟩
  · obtain ⟨x, hx, hxo⟩ := h3 j row (List.getElem?_eq_some_iff.1 hrow).1 hrow
    rw [Array.getElem?_toList, hx] at hu
    cases hu
    exact hxo.base (by omega)
  · rw [Array.getElem?_toList] at hi hj
    exact h4 i j u u' hij (by have := (Array.getElem?_eq_some_iff.1 hj).1; omega) hi hj
end

section
open Go.RowKit
set_option linter.unusedVariables false

end

section
open Go.RowKit
set_option linter.unusedVariables false

end

section
open Go.RowKit
set_option linter.unusedVariables false

structure MEq where
  vars : List Int
  left : List Int
  right : List Int
structure MThy where
  over : MSig
  eqs : List MEq

def REq (w : World) (v : Value) (e : MEq) : Prop := ∃ a b c, v = .agg #[a, b, c] ∧ RInts w a e.vars ∧ RInts w b e.left ∧ RInts w c e.right
/-- a list of equations: three cells an element -/
def REqs (w : World) (v : Value) (es : List MEq) : Prop :=
  ∃ A c, v = .slice A es.length c ∧ es.length ≤ c ∧ c ≤ maxLen ∧ ∀ j e, es[j]? = some e → ∃ b o x y z, A = some ⟨b, o, none⟩ ∧
    w.cell? ⟨b, o + j * 3, none⟩ = some x ∧ w.cell? ⟨b, o + j * 3 + 1, none⟩ = some y ∧ w.cell? ⟨b, o + j * 3 + 2, none⟩ = some z ∧ RInts w x e.vars ∧ RInts w y e.left ∧ RInts w z e.right
def RThy (w : World) (v : Value) (t : MThy) : Prop := ∃ u x, v = .agg #[.int .i64 t.over.sorts, u, x] ∧ RRows w u t.over.ops ∧ REqs w x t.eqs

section
variable {w w' : World} {v : Value} {e : MEq} {es : List MEq} {t : MThy}
theorem REq.keep (h : REq w v e) (hb : Below w.heap.size w w') : REq w' v e := by
  obtain ⟨a, b, c, rfl, h1, h2, h3⟩ := h; exact ⟨a, b, c, rfl, h1.keep hb, h2.keep hb, h3.keep hb⟩
theorem REqs.keep (h : REqs w v es) (hb : Below w.heap.size w w') : REqs w' v es := by
  obtain ⟨A, c, e, h1, h2, h3⟩ := h
  refine ⟨A, c, e, h1, h2, fun j x hj => ?_⟩
  obtain ⟨b, o, x, y, z, e, c1, c2, c3, r1, r2, r3⟩ := h3 j x hj
  exact ⟨b, o, x, y, z, e, cell_keep hb c1, cell_keep hb c2, cell_keep hb c3, r1.keep hb, r2.keep hb, r3.keep hb⟩
theorem RThy.keep (h : RThy w v t) (hb : Below w.heap.size w w') : RThy w' v t := by
  obtain ⟨u, x, rfl, h1, h2⟩ := h; exact ⟨u, x, rfl, h1.keep hb, h2.keep hb⟩
theorem REqs.len (h : REqs w v es) : es.length ≤ 9223372036854775807 := by
  obtain ⟨A, c, e, h1, h2, h3⟩ := h; rw [maxLen_eq] at h2; omega
theorem REqs.nil (w : World) : REqs w (.slice none 0 0) [] := ⟨none, 0, rfl, Nat.le_refl _, Nat.zero_le _, fun j x h => by simp at h⟩
theorem REqs.form (h : REqs w v es) : ∃ A c, v = .slice A es.length c ∧ es.length ≤ c ∧ c ≤ 9223372036854775807 := by
  obtain ⟨A, c, e, h1, h2, h3⟩ := h; exact ⟨A, c, e, h1, h2⟩
theorem REqs.at_ (h : REqs w v es) {k : Nat} (hk : k < es.length) : ∃ b o c x y z, v = .slice (some ⟨b, o, none⟩) es.length c ∧
    w.cell? ⟨b, o + k * 3, none⟩ = some x ∧ w.cell? ⟨b, o + k * 3 + 1, none⟩ = some y ∧ w.cell? ⟨b, o + k * 3 + 2, none⟩ = some z ∧ RInts w x es[k].vars ∧ RInts w y es[k].left ∧ RInts w z es[k].right := by
  obtain ⟨A, c, e, h1, h2, h3⟩ := h
  obtain ⟨b, o, x, y, z, rfl, r⟩ := h3 k es[k] (List.getElem?_eq_getElem hk)
  exact ⟨b, o, c, x, y, z, e, r⟩
theorem REq.form (h : REq w v e) : ∃ A a B b C c, v = .agg #[.slice A e.vars.length a, .slice B e.left.length b, .slice C e.right.length c] := by
  obtain ⟨a, b, c, rfl, h1, h2, h3⟩ := h
  obtain ⟨A, a, rfl, -⟩ := h1.form
  obtain ⟨B, b, rfl, -⟩ := h2.form
  obtain ⟨C, c, rfl, -⟩ := h3.form
  exact ⟨_, _, _, _, _, _, rfl⟩
theorem RThy.form (h : RThy w v t) : ∃ A a B b, v = .agg #[.int .i64 t.over.sorts, .slice A t.over.ops.length a, .slice B t.eqs.length b] := by
  obtain ⟨a, b, rfl, h1, h2⟩ := h
  obtain ⟨A, a, rfl, -⟩ := h1.form
  obtain ⟨B, b, rfl, -⟩ := h2.form
  exact ⟨_, _, _, _, rfl⟩
theorem RSig.form {s : MSig} (h : RSig w v s) : ∃ A a, v = .agg #[.int .i64 s.sorts, .slice A s.ops.length a] := by
  obtain ⟨a, rfl, h1⟩ := h
  obtain ⟨A, a, rfl, -⟩ := h1.form
  exact ⟨_, _, rfl⟩
theorem REq.of {a b c : Value} (h : REq w (.agg #[a, b, c]) e) : RInts w a e.vars ∧ RInts w b e.left ∧ RInts w c e.right := by
  obtain ⟨a', b', c', he, h1, h2, h3⟩ := h
  injection he with he
  simp at he
  obtain ⟨rfl, rfl, rfl⟩ := he
  exact ⟨h1, h2, h3⟩
theorem RThy.of {n a b : Value} (h : RThy w (.agg #[n, a, b]) t) : n = .int .i64 t.over.sorts ∧ RRows w a t.over.ops ∧ REqs w b t.eqs := by
  obtain ⟨a', b', he, h1, h2⟩ := h
  injection he with he
  simp at he
  obtain ⟨rfl, rfl, rfl⟩ := he
  exact ⟨rfl, h1, h2⟩
theorem RSig.of {n a : Value} {s : MSig} (h : RSig w (.agg #[n, a]) s) : n = .int .i64 s.sorts ∧ RRows w a s.ops := by
  obtain ⟨a', he, h1⟩ := h
  injection he with he
  simp at he
  obtain ⟨rfl, rfl⟩ := he
  exact ⟨rfl, h1⟩
end

/-- an operation that its guard leaves out -/
theorem ite_off {c : Bool} {A B : Prop} (h : c = false) (hb : B) : if c = true then A else B := by rw [h]; simpa using hb
/-- the cells of a box, the newest block -/
theorem bx_at (w : World) (cs : Array Value) (t : TypeId) {k : Nat} {u : Value} (h : cs[k]? = some u) : (w.alloc (.cells cs t)).cell? ⟨w.heap.size, k, none⟩ = some u := by
  rw [World.cell?_alloc_at _ _ _ _ rfl]; exact h
/-- lists of rows that a call has made, in whatever cells of a block -/
def ORowsT (T : TypeId) (size n : Nat) (w : World) (B : Nat) (v : Value) (rows : List (List Int)) : Prop :=
  ∃ us : List Value, w.ownsRow B T size v n us ∧ us.length = rows.length ∧
    (∀ (j : Nat) (u : Value) (row : List Int), us[j]? = some u → rows[j]? = some row → OInts w B u row) ∧
    (∀ (i j : Nat) (u u' : Value), i < j → us[i]? = some u → us[j]? = some u' → u.ownBlock = none ∨ u.ownBlock ≠ u'.ownBlock)
end

section
open Go.RowKit
set_option linter.unusedVariables false

inductive Tm where
  | leaf (k : Nat) (of : Int)
  | node (op : Nat) (lv : Int) (ts : List Tm)

def Tm.sort : Tm → Int
  | .leaf _ of => of
  | .node _ lv _ => lv

mutual
def Tm.row : Tm → List Int
  | .leaf k _ => [100 + (k : Int)]
  | .node op _ ts => (op : Int) :: rowsOf ts
def rowsOf : List Tm → List Int
  | [] => []
  | t :: ts => t.row ++ rowsOf ts
end

def opRow (s : MSig) (n : Nat) : List Int := s.ops.getD n []

mutual
def wfT (s : MSig) (vars : List Int) : Tm → Prop
  | .leaf k of => k < vars.length ∧ of = vars.getD k 0
  | .node op lv ts => op < s.ops.length ∧ lv = (opRow s op).getLastD (-1) ∧ wfTs s vars (opRow s op).dropLast ts
def wfTs (s : MSig) (vars : List Int) : List Int → List Tm → Prop
  | ss, [] => ss = []
  | ss, t :: ts => ∃ x ss', ss = x :: ss' ∧ t.sort = x ∧ wfT s vars t ∧ wfTs s vars ss' ts
end

def argsM (p : List Int → Option (Tm × List Int)) : List Int → List Int → Option (List Tm × List Int)
  | [], r => some ([], r)
  | x :: ss, r =>
    match p r with
    | none => none
    | some (t, b) =>
      if t.sort = x then
        match argsM p ss b with
        | none => none
        | some (ts, b') => some (t :: ts, b')
      else none

def firstM (s : MSig) (vars : List Int) : Nat → List Int → Option (Tm × List Int)
  | 0, _ => none
  | _ + 1, [] => none
  | f + 1, n :: rest =>
    if 0 ≤ n ∧ n < s.ops.length then
      match argsM (firstM s vars f) (opRow s n.toNat).dropLast rest with
      | none => none
      | some (ts, b) => some (.node n.toNat ((opRow s n.toNat).getLastD (-1)) ts, b)
    else if 100 ≤ n ∧ n < 100 + vars.length then some (.leaf (n - 100).toNat (vars.getD (n - 100).toNat 0), rest)
    else none

/-- one more argument, at the end -/
theorem argsM_snoc (p : List Int → Option (Tm × List Int)) (ss : List Int) (x : Int) (r : List Int) :
    argsM p (ss ++ [x]) r = match argsM p ss r with
      | none => none
      | some (ts, b) => match p b with
        | none => none
        | some (t, b') => if t.sort = x then some (ts ++ [t], b') else none := by
  induction ss generalizing r with
  | nil =>
    simp only [List.nil_append, argsM]
  | cons y ss ih =>
    simp only [List.cons_append, argsM]
    cases hp : p r with
    | none => rfl
    | some q =>
      obtain ⟨t, b⟩ := q
      simp only
      by_cases h : t.sort = y
      · rw [if_pos h, if_pos h, ih]
        cases ha : argsM p ss b with
        | none => rfl
        | some q =>
          obtain ⟨ts, b1⟩ := q
          simp only
          cases hq : p b1 with
          | none => rfl
          | some q =>
            obtain ⟨t', b2⟩ := q
            simp only
            by_cases h' : t'.sort = x
            · rw [if_pos h', if_pos h']; rfl
            · rw [if_neg h', if_neg h']
      · rw [if_neg h, if_neg h]
theorem argsM_none (p : List Int → Option (Tm × List Int)) (ss ss' : List Int) (r : List Int) (h : argsM p ss r = none) : argsM p (ss ++ ss') r = none := by
  induction ss generalizing r with
  | nil => cases h
  | cons y ss ih =>
    simp only [List.cons_append, argsM] at h ⊢
    cases hp : p r with
    | none => rfl
    | some q =>
      obtain ⟨t, b⟩ := q
      rw [hp] at h
      simp only at h ⊢
      by_cases ht : t.sort = y
      · rw [if_pos ht] at h ⊢
        cases ha : argsM p ss b with
        | none => rw [ih b ha]
        | some q => obtain ⟨ts, b'⟩ := q; rw [ha] at h; cases h
      · rw [if_neg ht]
theorem argsM_take_none {p : List Int → Option (Tm × List Int)} {ss r : List Int} {k : Nat} (h : argsM p (ss.take k) r = none) : argsM p ss r = none := by
  have := argsM_none p (ss.take k) (ss.drop k) r h
  rwa [List.take_append_drop] at this
theorem argsM_step {p : List Int → Option (Tm × List Int)} {ss r : List Int} {k : Nat} (hk : k < ss.length) {ts : List Tm} {b : List Int} (h : argsM p (ss.take k) r = some (ts, b)) :
    argsM p (ss.take (k + 1)) r = match p b with
        | none => none
        | some (t, b') => if t.sort = ss[k] then some (ts ++ [t], b') else none := by
  rw [List.take_succ_eq_append_getElem hk, argsM_snoc, h]

/-! what is read is the row of the tree, and the tree is one of the signature -/
theorem argsM_sound {s : MSig} {vars : List Int} {p : List Int → Option (Tm × List Int)} (hp : ∀ r tm b, p r = some (tm, b) → r = tm.row ++ b ∧ wfT s vars tm) :
    ∀ (ss r : List Int) (ts : List Tm) (b : List Int), argsM p ss r = some (ts, b) → r = rowsOf ts ++ b ∧ wfTs s vars ss ts := by
  intro ss
  induction ss with
  | nil =>
    intro r ts b h
    simp only [argsM] at h
    cases h
    exact ⟨by simp [rowsOf], by unfold wfTs; rfl⟩
  | cons x ss ih =>
    intro r ts b h
    simp only [argsM] at h
    cases hpr : p r with
    | none => rw [hpr] at h; cases h
    | some q =>
      obtain ⟨t, b1⟩ := q
      rw [hpr] at h
      simp only at h
      by_cases ht : t.sort = x
      · rw [if_pos ht] at h
        cases ha : argsM p ss b1 with
        | none => rw [ha] at h; cases h
        | some q =>
          obtain ⟨ts1, b2⟩ := q
          rw [ha] at h
          simp only at h
          cases h
          obtain ⟨h1, h2⟩ := hp r t b1 hpr
          obtain ⟨h3, h4⟩ := ih b1 ts1 _ ha
          refine ⟨by rw [h1, h3]; simp [rowsOf], ?_⟩
          unfold wfTs
          exact ⟨x, ss, rfl, ht, h2, h4⟩
      · rw [if_neg ht] at h; cases h
theorem firstM_sound {s : MSig} {vars : List Int} : ∀ (f : Nat) (r : List Int) (tm : Tm) (b : List Int), firstM s vars f r = some (tm, b) → r = tm.row ++ b ∧ wfT s vars tm := by
  intro f
  induction f with
  | zero => intro r tm b h; simp [firstM] at h
  | succ f ih =>
    intro r tm b h
    cases r with
    | nil => simp [firstM] at h
    | cons n rest =>
      simp only [firstM] at h
      by_cases h1 : 0 ≤ n ∧ n < s.ops.length
      · rw [if_pos h1] at h
        cases ha : argsM (firstM s vars f) (opRow s n.toNat).dropLast rest with
        | none => rw [ha] at h; cases h
        | some q =>
          obtain ⟨ts, b1⟩ := q
          rw [ha] at h
          simp only at h
          cases h
          obtain ⟨h3, h4⟩ := argsM_sound ih _ _ _ _ ha
          refine ⟨?_, ?_⟩
          · unfold Tm.row
            rw [h3, Int.toNat_of_nonneg h1.1]; rfl
          · unfold wfT
            exact ⟨by omega, rfl, h4⟩
      · rw [if_neg h1] at h
        by_cases h2 : 100 ≤ n ∧ n < 100 + vars.length
        · rw [if_pos h2] at h
          cases h
          refine ⟨?_, ?_⟩
          · unfold Tm.row
            rw [show (100 : Int) + ((n - 100).toNat : Int) = n by omega]; rfl
          · unfold wfT
            exact ⟨by omega, rfl⟩
        · rw [if_neg h2] at h; cases h

mutual
theorem firstM_full {s : MSig} {vars : List Int} (hs : s.ops.length ≤ 100) : ∀ (tm : Tm) (f : Nat) (b : List Int), wfT s vars tm → tm.row.length ≤ f → firstM s vars f (tm.row ++ b) = some (tm, b)
  | .leaf k of, f, b, hw, hf => by
    unfold wfT at hw
    obtain ⟨f, rfl⟩ : ∃ g, f = g + 1 := ⟨f - 1, by simp [Tm.row] at hf; omega⟩
    simp only [Tm.row, List.cons_append, List.nil_append, firstM]
    rw [if_neg (by omega), if_pos (by omega), show ((100 : Int) + (k : Int) - 100).toNat = k by omega, hw.2]
  | .node op lv ts, f, b, hw, hf => by
    unfold wfT at hw
    obtain ⟨f, rfl⟩ : ∃ g, f = g + 1 := ⟨f - 1, by simp [Tm.row] at hf; omega⟩
    simp only [Tm.row, List.length_cons] at hf
    simp only [Tm.row, List.cons_append, firstM]
    rw [if_pos (by omega), Int.toNat_natCast, argsM_full hs ts f b _ hw.2.2 (by omega)]
    rw [hw.2.1]
theorem argsM_full {s : MSig} {vars : List Int} (hs : s.ops.length ≤ 100) : ∀ (ts : List Tm) (f : Nat) (b ss : List Int), wfTs s vars ss ts → (rowsOf ts).length ≤ f → argsM (firstM s vars f) ss (rowsOf ts ++ b) = some (ts, b)
  | [], f, b, ss, hw, hf => by
    unfold wfTs at hw
    subst hw
    simp [argsM, rowsOf]
  | t :: ts, f, b, ss, hw, hf => by
    unfold wfTs at hw
    obtain ⟨x, ss', rfl, h1, h2, h3⟩ := hw
    simp only [rowsOf, List.length_append] at hf
    simp only [rowsOf, List.append_assoc, argsM]
    rw [firstM_full hs t f _ h2 (by omega)]
    simp only
    rw [if_pos h1, argsM_full hs ts f b ss' h3 (by omega)]
end
end

section
open Go.RowKit
set_option linter.unusedVariables false

/-- numbers that an int holds -/
def Small (r : List Int) : Prop := ∀ x ∈ r, x ≤ 9223372036854775807
def varsB (s : MSig) (vars : List Int) : Bool := validB s && decide (vars.length ≤ 4) && belowB vars s.sorts
def termM (s : MSig) (vars t : List Int) : Option Tm :=
  if varsB s vars = true ∧ t.length ≤ 30 then
    match firstM s vars 30 t with
    | some (tm, []) => some tm
    | _ => none
  else none
def sortM (s : MSig) (vars t : List Int) : Int :=
  match termM s vars t with
  | some tm => tm.sort
  | none => -1
def fitM (s : MSig) (vars : List Int) (terms : List (List Int)) (sorts : List Int) : Bool :=
  decide (terms.length = sorts.length) && (terms.zip sorts).all fun q => decide (0 ≤ q.2) && decide (sortM s vars q.1 = q.2)
def fitsB (s : MSig) (vars : List Int) (terms : List (List Int)) (sorts : List Int) : Bool := varsB s vars && fitM s vars terms sorts
def putRow (terms : List (List Int)) (t : List Int) : List Int := t.flatMap fun n => if 100 ≤ n then terms.getD (n - 100).toNat [] else [n]
def partM (s : MSig) (vars t : List Int) (k : Nat) : List Int :=
  match firstM s vars 30 (t.drop k) with
  | some (tm, _) => tm.row
  | none => []
def atM (s : MSig) (vars t : List Int) (at_ : Int) : List Int :=
  if 0 ≤ sortM s vars t ∧ 0 ≤ at_ ∧ at_ < t.length then partM s vars t at_.toNat else []

theorem vars_valid {s : MSig} {vars : List Int} (h : varsB s vars = true) : validB s = true ∧ vars.length ≤ 4 ∧ ∀ k (hk : k < vars.length), 0 ≤ vars[k] ∧ vars[k] < s.sorts := by
  unfold varsB belowB at h
  simp only [Bool.and_eq_true, decide_eq_true_eq, List.all_eq_true] at h
  exact ⟨h.1.1, h.1.2, fun k hk => h.2 _ (List.getElem_mem hk)⟩
theorem opRow_at {s : MSig} {k : Nat} (hk : k < s.ops.length) : opRow s k = s.ops[k] := getD_at _ hk
theorem opRow_valid {s : MSig} (h : validB s = true) {k : Nat} (hk : k < s.ops.length) : 1 ≤ (opRow s k).length ∧ (opRow s k).length ≤ 3 ∧ ∀ x ∈ opRow s k, 0 ≤ x ∧ x < s.sorts := by
  rw [opRow_at hk]; exact valid_row h hk
theorem ops_few {s : MSig} (h : validB s = true) : s.ops.length ≤ 100 := by have := valid_sorts h; omega
/-- the sort of a tree is one of the signature -/
theorem sort_ok {s : MSig} {vars : List Int} (h : varsB s vars = true) {tm : Tm} (hw : wfT s vars tm) : 0 ≤ tm.sort ∧ tm.sort < s.sorts := by
  obtain ⟨h1, h2, h3⟩ := vars_valid h
  cases tm with
  | leaf k of =>
    unfold wfT at hw
    obtain ⟨hk, rfl⟩ := hw
    simp only [Tm.sort]
    rw [getD_at _ hk]; exact h3 k hk
  | node op lv ts =>
    unfold wfT at hw
    obtain ⟨hk, rfl, -⟩ := hw
    simp only [Tm.sort]
    obtain ⟨a, b, c⟩ := opRow_valid h1 hk
    rw [last_at (by omega)]
    exact c _ (List.getElem_mem _)

theorem termM_to {s : MSig} {vars t : List Int} {tm : Tm} (h : termM s vars t = some tm) : varsB s vars = true ∧ t.length ≤ 30 ∧ wfT s vars tm ∧ tm.row = t := by
  unfold termM at h
  by_cases h1 : varsB s vars = true ∧ t.length ≤ 30
  · rw [if_pos h1] at h
    cases hf : firstM s vars 30 t with
    | none => rw [hf] at h; cases h
    | some q =>
      obtain ⟨tm', b⟩ := q
      rw [hf] at h
      cases b with
      | nil =>
        simp only at h
        cases h
        obtain ⟨h2, h3⟩ := firstM_sound _ _ _ _ hf
        exact ⟨h1.1, h1.2, h3, by rw [h2]; simp⟩
      | cons a b => cases h
  · rw [if_neg h1] at h; cases h
theorem termM_of {s : MSig} {vars : List Int} {tm : Tm} (h1 : varsB s vars = true) (h2 : tm.row.length ≤ 30) (h3 : wfT s vars tm) : termM s vars tm.row = some tm := by
  unfold termM
  rw [if_pos ⟨h1, h2⟩]
  have := firstM_full (ops_few (vars_valid h1).1) tm 30 [] h3 h2
  rw [List.append_nil] at this
  rw [this]
theorem sortM_to {s : MSig} {vars t : List Int} (h : 0 ≤ sortM s vars t) : ∃ tm, varsB s vars = true ∧ t.length ≤ 30 ∧ wfT s vars tm ∧ tm.row = t ∧ sortM s vars t = tm.sort := by
  unfold sortM at h ⊢
  cases ht : termM s vars t with
  | none => rw [ht] at h; simp at h
  | some tm =>
    obtain ⟨a, b, c, d⟩ := termM_to ht
    exact ⟨tm, a, b, c, d, rfl⟩
theorem sortM_of {s : MSig} {vars : List Int} {tm : Tm} (h1 : varsB s vars = true) (h2 : tm.row.length ≤ 30) (h3 : wfT s vars tm) : sortM s vars tm.row = tm.sort := by
  unfold sortM; rw [termM_of h1 h2 h3]
theorem sortM_lt {s : MSig} {vars t : List Int} (h : validB s = true) : sortM s vars t < s.sorts ∧ -1 ≤ sortM s vars t := by
  have hv := valid_sorts h
  unfold sortM
  cases ht : termM s vars t with
  | none => simp only; omega
  | some tm =>
    obtain ⟨a, b, c, d⟩ := termM_to ht
    have := sort_ok a c
    simp only
    omega

/-! a part, and what is put there -/

/-! letters replaced -/

/-! the numbers of a term: operations, and letters that there are -/
mutual
theorem nums_t {s : MSig} {vars : List Int} (hop : s.ops.length ≤ 100) : ∀ tm : Tm, wfT s vars tm → ∀ n ∈ tm.row, (0 ≤ n ∧ n < s.ops.length) ∨ (100 ≤ n ∧ n < 100 + vars.length)
  | .leaf k of, hw, n, hn => by
    unfold wfT at hw
    simp only [Tm.row, List.mem_singleton] at hn
    omega
  | .node op lv ts, hw, n, hn => by
    unfold wfT at hw
    simp only [Tm.row, List.mem_cons] at hn
    rcases hn with rfl | hn
    · omega
    · exact nums_ts hop ts _ hw.2.2 n hn
theorem nums_ts {s : MSig} {vars : List Int} (hop : s.ops.length ≤ 100) : ∀ (ts : List Tm) (ss : List Int), wfTs s vars ss ts → ∀ n ∈ rowsOf ts, (0 ≤ n ∧ n < s.ops.length) ∨ (100 ≤ n ∧ n < 100 + vars.length)
  | [], ss, hw, n, hn => by simp [rowsOf] at hn
  | t :: ts, ss, hw, n, hn => by
    unfold wfTs at hw
    obtain ⟨x, ss', rfl, h1, h2, h3⟩ := hw
    simp only [rowsOf, List.mem_append] at hn
    rcases hn with hn | hn
    · exact nums_t hop t h2 n hn
    · exact nums_ts hop ts ss' h3 n hn
end
end

section
open Go.RowKit
set_option linter.unusedVariables false

def eqOkB (s : MSig) (e : MEq) : Bool := decide (0 ≤ sortM s e.vars e.left) && decide (sortM s e.vars e.right = sortM s e.vars e.left)
def thyB (t : MThy) : Bool := (validB t.over && decide (t.eqs.length ≤ 6)) && t.eqs.all (eqOkB t.over)
def SmallE (e : MEq) : Prop := Small e.left ∧ Small e.right
def SmallT (t : MThy) : Prop := ∀ e ∈ t.eqs, SmallE e
/-- rows of an equation that are not too long -/
def FitsE (e : MEq) : Prop := e.vars.length ≤ 1048576 ∧ e.left.length ≤ 1048576 ∧ e.right.length ≤ 1048576
def FitsEs (es : List MEq) : Prop := es.length ≤ 1048576 ∧ ∀ e ∈ es, FitsE e
def sameE (a b : MEq) : Bool := (sameI a.vars b.vars && sameI a.left b.left) && sameI a.right b.right
def sameEs : List MEq → List MEq → Bool
  | [], [] => true
  | a :: xs, b :: ys => sameE a b && sameEs xs ys
  | _, _ => false
end

section
open Go.RowKit
set_option linter.unusedVariables false

def Apart (a b : Value) : Prop := a.ownBlock = none ∨ a.ownBlock ≠ b.ownBlock
def OEq (w : World) (B : Nat) (v : Value) (e : MEq) : Prop := ∃ a b c, v = .agg #[a, b, c] ∧ OInts w B a e.vars ∧ OInts w B b e.left ∧ OInts w B c e.right ∧ Apart a b ∧ Apart a c ∧ Apart b c
theorem OEq.keep {w w' : World} {B : Nat} {v : Value} {e : MEq} (h : OEq w B v e) (hb : Below w.heap.size w w') : OEq w' B v e := by
  obtain ⟨a, b, c, rfl, h1, h2, h3, h4⟩ := h; exact ⟨a, b, c, rfl, h1.keep hb, h2.keep hb, h3.keep hb, h4⟩
theorem OEq.base {w : World} {B B' : Nat} {v : Value} {e : MEq} (h : OEq w B v e) (hB : B' ≤ B) : OEq w B' v e := by
  obtain ⟨a, b, c, rfl, h1, h2, h3, h4⟩ := h; exact ⟨a, b, c, rfl, h1.base hB, h2.base hB, h3.base hB, h4⟩
theorem OEq.reads {w : World} {B : Nat} {v : Value} {e : MEq} (h : OEq w B v e) : REq w v e := by
  obtain ⟨a, b, c, rfl, h1, h2, h3, h4⟩ := h; exact ⟨a, b, c, rfl, h1.reads, h2.reads, h3.reads⟩
/-- what was made later lies in another block -/
theorem apart_later {w w' : World} {B : Nat} {a b : Value} {xs ys : List Int} (h : OInts w B a xs) (k : OInts w' w.heap.size b ys) : Apart a b := by
  unfold Apart
  cases ha : a.ownBlock with
  | none => exact .inl rfl
  | some x =>
    right
    intro e
    have p := (own_lt h x ha).2
    have q := (own_lt k x e.symm).1
    omega
theorem sz_keep {w w1 w2 : World} (h : Below w.heap.size w w1) (k : Below w1.heap.size w1 w2) : Below w.heap.size w w2 := h.trans (k.mono h.size)

/-- a copy under way: the argument's box (a), the result's (r), and 'out' (cur), the first three new blocks -/
structure Mk (w wr : World) (Ta T : TypeId) (a r cur : Array Value) : Prop where
  ba : wr.heap[w.heap.size]? = some (.cells a Ta (0, 0))
  br : wr.heap[w.heap.size + 1]? = some (.cells r T (0, 0))
  bo : wr.heap[w.heap.size + 2]? = some (.cells cur T (0, 0))
  b : Below w.heap.size w wr
  z : w.heap.size + 3 ≤ wr.heap.size
theorem Mk.start (w : World) (Ta T : TypeId) (a r cur : Array Value) : Mk w (((w.alloc (.cells a Ta)).alloc (.cells r T)).alloc (.cells cur T)) Ta T a r cur := by
  refine ⟨?_, ?_, ?_, ((below_alloc _ _).alloc (by simp) _).alloc (by simp; omega) _, by simp⟩
  · rw [heap_alloc_old _ _ (by simp; omega), heap_alloc_old _ _ (by simp)]
    exact heap_alloc_new w _
  · rw [heap_alloc_old _ _ (by simp)]
    exact (congrArg (fun i => ((w.alloc (.cells a Ta)).alloc (.cells r T)).heap[i]?) (by simp)).trans (heap_alloc_new (w.alloc (.cells a Ta)) _)
  · exact (congrArg (fun i => (((w.alloc (.cells a Ta)).alloc (.cells r T)).alloc (.cells cur T)).heap[i]?) (by simp)).trans (heap_alloc_new ((w.alloc (.cells a Ta)).alloc (.cells r T)) _)
section
variable {w wr w2 : World} {Ta T : TypeId} {a r cur : Array Value}
theorem Mk.below (h : Mk w wr Ta T a r cur) (hb : Below wr.heap.size wr w2) : Mk w w2 Ta T a r cur :=
  ⟨(hb.block _ (by have := h.z; omega)).trans h.ba, (hb.block _ (by have := h.z; omega)).trans h.br, (hb.block _ (by have := h.z; omega)).trans h.bo, h.b.trans (hb.mono (by have := h.z; omega)), Nat.le_trans h.z hb.size⟩
theorem Mk.ca (h : Mk w wr Ta T a r cur) (i : Nat) : wr.cell? ⟨w.heap.size, i, none⟩ = a[i]? := blk_cell h.ba i
theorem Mk.co (h : Mk w wr Ta T a r cur) (i : Nat) : wr.cell? ⟨w.heap.size + 2, i, none⟩ = cur[i]? := blk_cell h.bo i
theorem Mk.cr (h : Mk w wr Ta T a r cur) (i : Nat) : wr.cell? ⟨w.heap.size + 1, i, none⟩ = r[i]? := blk_cell h.br i
theorem OInts.setLow {B b : Nat} {v : Value} {xs : List Int} (h : OInts wr B v xs) (hb : b < B) (i : Nat) (x : Value) : OInts (wr.setCell ⟨b, i, none⟩ x) B v xs := ownsRow_setCell_below h hb _
end
end

section
open Go.RowKit
set_option linter.unusedVariables false

def marks (k : Int) (n : Nat) : List Int := (List.range n).map fun (i : Nat) => k + (i : Int)
theorem marks_len (k : Int) (n : Nat) : (marks k n).length = n := by simp [marks]
theorem marks_at {k : Int} {n j : Nat} (h : j < (marks k n).length) : (marks k n)[j] = k + (j : Int) := by simp [marks]

/-- of w's blocks only those from B on and below M may have turned, and none is new -/
structure Outside (B M : Nat) (w w' : World) : Prop where
  os : w'.os = w.os
  tape : w'.tape = w.tape
  output : w'.output = w.output
  size : w'.heap.size = w.heap.size
  block : ∀ k, k < B ∨ M ≤ k → w'.heap[k]? = w.heap[k]?
theorem Outside.refl (B M : Nat) (w : World) : Outside B M w w := ⟨rfl, rfl, rfl, rfl, fun _ _ => rfl⟩
theorem Outside.trans {B M : Nat} {a b c : World} (h : Outside B M a b) (k : Outside B M b c) : Outside B M a c :=
  ⟨k.os.trans h.os, k.tape.trans h.tape, k.output.trans h.output, k.size.trans h.size, fun i hi => (k.block i hi).trans (h.block i hi)⟩
theorem Outside.below {B M : Nat} {w w' : World} (h : Outside B M w w') : Below B w w' := ⟨h.os, h.tape, h.output, Nat.le_of_eq h.size.symm, fun k hk => h.block k (.inl hk)⟩
theorem Outside.mono {B M B' M' : Nat} {w w' : World} (h : Outside B M w w') (hB : B' ≤ B) (hM : M ≤ M') : Outside B' M' w w' := ⟨h.os, h.tape, h.output, h.size, fun k hk => h.block k (by omega)⟩
/-- a row of the call's own whose first k places bear marks -/
def Marking (w wr : World) (B : Nat) (v : Value) (xs : List Int) (k0 : Int) (k : Nat) : Prop :=
  (∃ ys : List Int, ys.length = xs.length ∧ OInts wr B v ys ∧ ∀ j, j < k → ys[j]? = some (k0 + (j : Int))) ∧ w.grownBy wr v.ownBlock ∧ wr.heap.size = w.heap.size

theorem Marking.start {w : World} {B : Nat} {v : Value} {xs : List Int} (k0 : Int) (h : OInts w B v xs) : Marking w w B v xs k0 0 := ⟨⟨xs, rfl, h, fun j hj => by omega⟩, ⟨rfl, rfl, rfl, Nat.le_refl _, fun _ _ _ => rfl⟩, rfl⟩
theorem Marking.cell {w wr : World} {B g c : Nat} {n : Nat} {xs : List Int} {k0 : Int} {k : Nat} (h : Marking w wr B (.slice (some ⟨g, 0, none⟩) n c) xs k0 k) (hk : k < xs.length) : ∃ u, wr.cell? ⟨g, k, none⟩ = some u ∧ wr.frozen? ⟨g, k, none⟩ = false := by
  obtain ⟨⟨ys, h1, h2, h3⟩, h4⟩ := h
  rcases h2.2 with ⟨e, _⟩ | ⟨g', cap, cur, e, hg, hh, a1, a2, a3, a4⟩
  · cases e
  · injection e with e1 e2
    injection e1 with e1
    injection e1 with e1
    subst e1
    exact ⟨cur[k]'(by omega), (blk_cell hh k).trans (Array.getElem?_eq_getElem (by omega)), blk_free hh k⟩
theorem Marking.step {w wr : World} {B g c : Nat} {n : Nat} {xs : List Int} {k0 : Int} {k : Nat} (h : Marking w wr B (.slice (some ⟨g, 0, none⟩) n c) xs k0 k) (hk : k < xs.length) :
    Marking w (wr.setCell ⟨g, k, none⟩ (.int .i64 (k0 + (k : Int)))) B (.slice (some ⟨g, 0, none⟩) n c) xs k0 (k + 1) := by
  obtain ⟨⟨ys, h1, h2, h3⟩, h4⟩ := h
  have hgl := own_lt h2 g rfl
  have hn : n = ys.length := by
    obtain ⟨A, c', e, _⟩ := own_reads h2
    injection e
  subst hn
  have hst := h2.stored k (.int .i64 (k0 + (k : Int)))
  refine ⟨⟨ys.set k (k0 + (k : Int)), by simpa using h1, ?_, fun j hj => ?_⟩, ⟨h4.1.os, h4.1.tape, h4.1.output, by simpa [World.setCell] using h4.1.size, fun i hi hne => (hst.2.block i (by rw [h4.2]; exact hi) hne).trans (h4.1.block i hi hne)⟩, by simpa [World.setCell] using h4.2⟩
  · unfold OInts
    rw [List.length_set, List.map_set]
    exact hst.1
  · by_cases hjk : k = j
    · subst hjk
      rw [List.getElem?_set_self (by omega)]
    · rw [List.getElem?_set_ne hjk]
      exact h3 j (by omega)
theorem Marking.done {w wr : World} {B : Nat} {v : Value} {xs : List Int} {k0 : Int} {k : Nat} (h : Marking w wr B v xs k0 k) (hk : k = xs.length) : OInts wr B v (marks k0 xs.length) ∧ w.grownBy wr v.ownBlock ∧ wr.heap.size = w.heap.size := by
  obtain ⟨⟨ys, h1, h2, h3⟩, h4⟩ := h
  have e : ys = marks k0 xs.length := by
    apply List.ext_getElem?
    intro j
    by_cases hj : j < xs.length
    · rw [h3 j (by omega), List.getElem?_eq_getElem (by rw [marks_len]; exact hj), marks_at]
    · rw [List.getElem?_eq_none (by omega), List.getElem?_eq_none (by rw [marks_len]; omega)]
  rw [← e]; exact ⟨h2, h4⟩

/-- a list of rows of the call's own, whose rows bear whatever numbers; us: where they lie -/
structure MarkR (w wr : World) (B M : Nat) (v : Value) (us : List Value) (rows : List (List Int)) : Prop where
  own : wr.ownsRow B 26 1 v rows.length us
  len : us.length = rows.length
  row : ∀ (j : Nat) (u : Value) (row : List Int), us[j]? = some u → rows[j]? = some row → ∃ ys : List Int, ys.length = row.length ∧ OInts wr B u ys
  apart : ∀ (i j : Nat) (u u' : Value), i < j → us[i]? = some u → us[j]? = some u' → u.ownBlock = none ∨ u.ownBlock ≠ u'.ownBlock
  low : ∀ (j : Nat) (u : Value), us[j]? = some u → ∀ k, u.ownBlock = some k → B ≤ k ∧ k < M
  frame : Outside B M w wr
theorem MarkR.start {w0 w : World} {B : Nat} {v : Value} {rows : List (List Int)} (h : ORows w0 B v rows) (hb : Below w0.heap.size w0 w) : ∃ us, MarkR w w B w0.heap.size v us rows := by
  obtain ⟨us, h1, h2, h3, h4⟩ := h
  refine ⟨us, own_keep h1 hb, h2, fun j u row hu hr => ⟨row, rfl, (h3 j u row hu hr).keep hb⟩, h4, fun j u hu k hk => ?_, Outside.refl _ _ _⟩
  have hj : j < rows.length := by rw [← h2]; exact (List.getElem?_eq_some_iff.1 hu).1
  exact own_lt (h3 j u _ hu (List.getElem?_eq_getElem hj)) k hk
theorem MarkR.step {w wr w1 : World} {B M : Nat} {v u : Value} {us : List Value} {rows : List (List Int)} {j : Nat} {ys : List Int} (h : MarkR w wr B M v us rows) (hu : us[j]? = some u) (hy : OInts w1 B u ys) (hyl : ∀ row, rows[j]? = some row → ys.length = row.length)
    (hxs : ∃ xs, OInts wr B u xs) (hg : wr.grownBy w1 u.ownBlock) (hz : w1.heap.size = wr.heap.size) : MarkR w w1 B M v us rows := by
  obtain ⟨xs, hxs⟩ := hxs
  refine ⟨own_grown h.own hg (own_ne h.own hxs (by decide)), h.len, fun i x row hx hr => ?_, h.apart, h.low, h.frame.trans ⟨hg.os, hg.tape, hg.output, hz, fun k hk => ?_⟩⟩
  · by_cases hij : i = j
    · subst hij
      rw [hu] at hx
      cases hx
      exact ⟨ys, hyl row hr, hy⟩
    · obtain ⟨zs, z1, z2⟩ := h.row i x row hx hr
      refine ⟨zs, z1, own_grown z2 hg ?_⟩
      rcases Nat.lt_or_gt_of_ne hij with hlt | hgt
      · exact h.apart i j x u hlt hx hu
      · rcases h.apart j i u x hgt hu hx with e | e
        · rw [e]
          cases x.ownBlock with
          | none => exact .inl rfl
          | some k => right; simp
        · exact .inr (fun e' => e e'.symm)
  · by_cases hkl : k < wr.heap.size
    · exact hg.block k hkl (fun e => by have := h.low j u hu k e.symm; omega)
    · rw [Array.getElem?_eq_none (by omega), Array.getElem?_eq_none (by omega)]

end
end Go.Proofs.Ytbopcghbmbchkab
