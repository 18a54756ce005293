/- How the rows and signatures of the program read in memory, and what keeps them readable. No walk. · What the proofs of the exact laws share: a signature that came in. · Contracts of the functions on signatures that only read. · The spec's SigValid: two loops, a region that draws in the inner one. · Operations of a signature; equality of rows and signatures. · Terms as trees, and how rows of numbers read as terms. No walk. · The plain functions on rows that read as terms: sorts, parts, what is put there; and what holds of them. No walk. · VarsOk of both packages. · What the proofs of the exact laws share: rows and lists of rows that came in. · Rows, lists of rows and signatures that a call itself has made: where they lie, and what keeps them. No walk. · How equations, lists of them and theories read in memory. No walk. · The plain functions of equations, theories and steps; small numbers. No walk. · What the proofs of the exact laws share: equations, lists of them and theories that came in. -/
import Derived.Test.YtbopcghbmbchkaaRows
import Derived.WalkKit
import Derived.Lib.Hide
import Derived.Deep.Draws
import Derived.Deep.QuietTactic
import Derived.BigQuiet
import Derived.ProofKit
import Derived.OpenShut
import Derived.ShutString
import Derived.ChangeOld
import Derived.Lib.SmallJoins
import Derived.Deep.Matrix
import Derived.Deep.Slices
import Derived.Deep.Strs
namespace Go.Proofs.Ytbopcghbmbchkaa
section
open Go.RowKit
set_option linter.unusedVariables false

def RInts (w : World) (v : Value) (xs : List Int) : Prop :=
  ∃ A c, v = .slice A xs.length c ∧ xs.length ≤ c ∧ c ≤ maxLen ∧ ∀ j x, xs[j]? = some x → ∃ b o, A = some ⟨b, o, none⟩ ∧ w.cell? ⟨b, o + j, none⟩ = some (.int .i64 x)

def RRows (w : World) (v : Value) (rows : List (List Int)) : Prop :=
  ∃ A c, v = .slice A rows.length c ∧ rows.length ≤ c ∧ c ≤ maxLen ∧ ∀ j row, rows[j]? = some row → ∃ b o u, A = some ⟨b, o, none⟩ ∧ w.cell? ⟨b, o + j, none⟩ = some u ∧ RInts w u row

structure MSig where
  sorts : Int
  ops : List (List Int)

def RSig (w : World) (v : Value) (s : MSig) : Prop := ∃ u, v = .agg #[.int .i64 s.sorts, u] ∧ RRows w u s.ops

theorem maxLen_eq : maxLen = 9223372036854775807 := rfl

section
variable {w w' : World} {xs : List Int} {rows : List (List Int)} {v : Value} {s : MSig}
theorem cell_keep (hb : Below w.heap.size w w') {a : Addr} {u : Value} (h : w.cell? a = some u) : w'.cell? a = some u :=
  (hb.cell (World.block_lt_of_cell? w a h)).trans h
theorem RInts.keep (h : RInts w v xs) (hb : Below w.heap.size w w') : RInts w' v xs := by
  obtain ⟨A, c, e, h1, h2, h3⟩ := h
  exact ⟨A, c, e, h1, h2, fun j x hj => by obtain ⟨b, o, e, hc⟩ := h3 j x hj; exact ⟨b, o, e, cell_keep hb hc⟩⟩
theorem RRows.keep (h : RRows w v rows) (hb : Below w.heap.size w w') : RRows w' v rows := by
  obtain ⟨A, c, e, h1, h2, h3⟩ := h
  exact ⟨A, c, e, h1, h2, fun j x hj => by obtain ⟨b, o, u, e, hc, hr⟩ := h3 j x hj; exact ⟨b, o, u, e, cell_keep hb hc, hr.keep hb⟩⟩
theorem RSig.keep (h : RSig w v s) (hb : Below w.heap.size w w') : RSig w' v s := by
  obtain ⟨u, e, hr⟩ := h; exact ⟨u, e, hr.keep hb⟩
theorem RInts.len (h : RInts w v xs) : xs.length ≤ 9223372036854775807 := by
  obtain ⟨A, c, e, h1, h2, h3⟩ := h; rw [maxLen_eq] at h2; omega
theorem RRows.len (h : RRows w v rows) : rows.length ≤ 9223372036854775807 := by
  obtain ⟨A, c, e, h1, h2, h3⟩ := h; rw [maxLen_eq] at h2; omega
theorem RInts.nil (w : World) : RInts w (.slice none 0 0) [] := ⟨none, 0, rfl, Nat.le_refl _, Nat.zero_le _, fun j x h => by simp at h⟩
theorem RRows.nil (w : World) : RRows w (.slice none 0 0) [] := ⟨none, 0, rfl, Nat.le_refl _, Nat.zero_le _, fun j x h => by simp at h⟩
/-- the element at k -/
theorem RInts.at_ (h : RInts w v xs) {k : Nat} (hk : k < xs.length) : ∃ b o c, v = .slice (some ⟨b, o, none⟩) xs.length c ∧ w.cell? ⟨b, o + k, none⟩ = some (.int .i64 xs[k]) := by
  obtain ⟨A, c, e, h1, h2, h3⟩ := h
  obtain ⟨b, o, rfl, hc⟩ := h3 k xs[k] (List.getElem?_eq_getElem hk)
  exact ⟨b, o, c, e, hc⟩
theorem RRows.at_ (h : RRows w v rows) {k : Nat} (hk : k < rows.length) : ∃ b o c u, v = .slice (some ⟨b, o, none⟩) rows.length c ∧ w.cell? ⟨b, o + k, none⟩ = some u ∧ RInts w u rows[k] := by
  obtain ⟨A, c, e, h1, h2, h3⟩ := h
  obtain ⟨b, o, u, rfl, hc, hr⟩ := h3 k rows[k] (List.getElem?_eq_getElem hk)
  exact ⟨b, o, c, u, e, hc, hr⟩
theorem RInts.form (h : RInts w v xs) : ∃ A c, v = .slice A xs.length c ∧ xs.length ≤ c ∧ c ≤ 9223372036854775807 := by
  obtain ⟨A, c, e, h1, h2, h3⟩ := h; exact ⟨A, c, e, h1, h2⟩
theorem RRows.form (h : RRows w v rows) : ∃ A c, v = .slice A rows.length c ∧ rows.length ≤ c ∧ c ≤ 9223372036854775807 := by
  obtain ⟨A, c, e, h1, h2, h3⟩ := h; exact ⟨A, c, e, h1, h2⟩
end
theorem below_alloc (w : World) (o : Obj) : Below w.heap.size w (w.alloc o) := (Below.refl _ _).alloc (Nat.le_refl _) o
theorem below_drewN {B : Nat} {a w : World} (h : Below B a w) (n : Nat) : Below B a (w.drewN n) := ⟨h.os, h.tape, h.output, h.size, h.block⟩
theorem ret_bool {a b : Bool} (h : a = b) : Ending.returned (.bool a) = .returned (.bool b) := by rw [h]
theorem ret_int {k : IntKind} {a b : Int} (h : a = b) : Ending.returned (.int k a) = .returned (.int k b) := by rw [h]
theorem take_all {α : Type} {l : List α} {k : Nat} (h : l.length ≤ k) : l.take k = l := List.take_of_length_le h

/-! quiet regions -/
theorem quiet_left {P : Program} {f : FuncId} {args : Array Value} {w : World} {n : Nat} {v : Value}
    (h : Calls P f args (w.drewN n) fun e w' => e = .returned v ∧ w.drewN n = w') : Calls P f args (w.drewN n) fun e w'' => e = .returned v ∧ ∃ m, w'' = w.drewN m :=
  h.mono fun _ _ ⟨he, hm⟩ => ⟨he, n, hm.symm⟩
/-- wr is w but for draws -/
def Drawn (w wr : World) : Prop := ∃ m, wr = w.drewN m
theorem Drawn.refl (w : World) : Drawn w w := ⟨0, rfl⟩
theorem Drawn.more {w wr : World} (h : Drawn w wr) (n : Nat) : Drawn w (wr.drewN n) := by
  obtain ⟨m, rfl⟩ := h; exact ⟨m + n, by rw [World.drewN_drewN]⟩
theorem Drawn.cell {w wr : World} (h : Drawn w wr) (a : Addr) : wr.cell? a = w.cell? a := by
  obtain ⟨m, rfl⟩ := h; rfl
theorem Drawn.below {w wr : World} (h : Drawn w wr) : Below w.heap.size w wr := by
  obtain ⟨m, rfl⟩ := h; exact below_drewN (Below.refl _ _) m

theorem quiet_drawn {P : Program} {f : FuncId} {args : Array Value} {w : World} {n : Nat} {v : Value}
    (h : Calls P f args (w.drewN n) fun e w' => e = .returned v ∧ Drawn (w.drewN n) w') : Calls P f args (w.drewN n) fun e w'' => e = .returned v ∧ ∃ m, w'' = w.drewN m :=
  h.mono fun _ _ ⟨he, m, hm⟩ => ⟨he, n + m, by rw [hm, World.drewN_drewN]⟩
theorem Drawn.trans {a b c : World} (h : Drawn a b) (k : Drawn b c) : Drawn a c := by
  obtain ⟨m, rfl⟩ := h; obtain ⟨n, rfl⟩ := k; exact ⟨m + n, by rw [World.drewN_drewN]⟩

/-! the plain functions -/
def inB (a lo hi : Int) : Bool := decide (lo ≤ a) && decide (a ≤ hi)
def belowB (xs : List Int) (m : Int) : Bool := xs.all fun x => decide (0 ≤ x) && decide (x < m)
theorem belowB_take {xs : List Int} {m : Int} {k : Nat} (hk : k < xs.length) : belowB (xs.take (k+1)) m = (belowB (xs.take k) m && (decide (0 ≤ xs[k]) && decide (xs[k] < m))) := by
  unfold belowB; rw [List.take_succ_eq_append_getElem hk, List.all_append]; simp
theorem belowB_bad {xs : List Int} {m : Int} {k : Nat} (hk : k < xs.length) (h : ¬ (0 ≤ xs[k] ∧ xs[k] < m)) : belowB xs m = false := by
  rw [belowB, List.all_eq_false]
  exact ⟨xs[k], List.getElem_mem hk, by simpa using h⟩
theorem sigOf_eta (s : MSig) : (⟨s.sorts, s.ops⟩ : MSig) = s := rfl
def rowB (sorts : Int) (row : List Int) : Bool := (decide (1 ≤ row.length) && decide (row.length ≤ 3)) && belowB row sorts
theorem all_take {α : Type} {p : α → Bool} {xs : List α} {k : Nat} (hk : k < xs.length) : (xs.take (k+1)).all p = ((xs.take k).all p && p xs[k]) := by
  rw [List.take_succ_eq_append_getElem hk, List.all_append]; simp
theorem all_bad {α : Type} {p : α → Bool} {xs : List α} {k : Nat} (hk : k < xs.length) (h : p xs[k] = false) : xs.all p = false := by
  rw [List.all_eq_false]; exact ⟨xs[k], List.getElem_mem hk, by simpa using h⟩
def sameI (xs ys : List Int) : Bool := decide (xs = ys)
def sameR (xs ys : List (List Int)) : Bool := decide (xs = ys)
theorem take_succ_eq {α : Type} {xs ys : List α} {k : Nat} (hx : k < xs.length) (hy : k < ys.length) (h : xs.take k = ys.take k) (he : xs[k] = ys[k]) : xs.take (k + 1) = ys.take (k + 1) := by
  rw [List.take_succ_eq_append_getElem hx, List.take_succ_eq_append_getElem hy, h, he]
theorem ne_of_at {α : Type} {xs ys : List α} {k : Nat} (hx : k < xs.length) (hy : k < ys.length) (he : xs[k] ≠ ys[k]) : xs ≠ ys := by
  rintro rfl; exact he rfl
theorem last_at {row : List Int} (h : 0 < row.length) : row.getLastD (-1) = row[row.length - 1] := by
  cases row with
  | nil => simp at h
  | cons a l => simp [List.getLast?_eq_getElem?]
theorem getD_at {α : Type} {l : List α} {k : Nat} (d : α) (hk : k < l.length) : l.getD k d = l[k] := by
  rw [List.getD_eq_getElem?_getD, List.getElem?_eq_getElem hk]; rfl
def validB (s : MSig) : Bool := (decide (1 ≤ s.sorts) && decide (s.sorts ≤ 3)) && decide (s.ops.length ≤ 6) && s.ops.all (rowB s.sorts)
def hasOpB (s : MSig) (op : Int) : Bool := validB s && (decide (0 ≤ op) && decide (op < s.ops.length))
def leavesM (s : MSig) (op : Int) : Int := if hasOpB s op then (s.ops.getD op.toNat []).getLastD (-1) else -1
def takesM (s : MSig) (op : Int) : List Int := if hasOpB s op then (s.ops.getD op.toNat []).dropLast else []
theorem valid_row {s : MSig} (h : validB s = true) {k : Nat} (hk : k < s.ops.length) : 1 ≤ s.ops[k].length ∧ s.ops[k].length ≤ 3 ∧ ∀ x ∈ s.ops[k], 0 ≤ x ∧ x < s.sorts := by
  unfold validB at h
  simp only [Bool.and_eq_true, List.all_eq_true] at h
  have := h.2 _ (List.getElem_mem hk)
  simp [rowB, belowB] at this
  exact ⟨this.1.1, this.1.2, this.2⟩
theorem valid_sorts {s : MSig} (h : validB s = true) : 1 ≤ s.sorts ∧ s.sorts ≤ 3 ∧ s.ops.length ≤ 6 := by
  unfold validB at h
  simp only [Bool.and_eq_true, decide_eq_true_eq] at h
  exact ⟨h.1.1.1, h.1.1.2, h.1.2⟩
theorem hasOp_nat {s : MSig} {op : Int} (h : hasOpB s op = true) : ∃ k : Nat, op = k ∧ k < s.ops.length ∧ validB s = true := by
  unfold hasOpB at h
  simp only [Bool.and_eq_true, decide_eq_true_eq] at h
  obtain ⟨k, rfl⟩ := Int.eq_ofNat_of_zero_le h.2.1
  exact ⟨k, rfl, by omega, h.1⟩
theorem leaves_nat {s : MSig} {k : Nat} (h : hasOpB s k = true) (hk : k < s.ops.length) : leavesM s k = s.ops[k].getLastD (-1) := by
  unfold leavesM
  rw [if_pos h, Int.toNat_natCast, getD_at _ hk]
theorem takes_nat {s : MSig} {k : Nat} (h : hasOpB s k = true) (hk : k < s.ops.length) : takesM s k = s.ops[k].dropLast := by
  unfold takesM
  rw [if_pos h, Int.toNat_natCast, getD_at _ hk]
end

section
open Go.ChangeShapes Go.WideShapes Go.ChangeAt Go.RowKit Go.Deep Go.Joins
set_option linter.unusedVariables false

theorem own : ownKnob Try.prog.godebug = none := by kernel_rfl
theorem laidOut : laidOutB Try.prog = true := by kernel_rfl

theorem spot_none {w : World} {a : Addr} {v : Value} (h : w.cell? a = some v) : a.spot = none := World.cell?_spot h
theorem add_plain (b o j : Nat) : (⟨b, o, none⟩ : Addr).add j = ⟨b, o + j, none⟩ := by
  unfold Addr.add
  split
  · rename_i h; subst h; rfl
  · rfl

set_option maxRecDepth 100000 in
theorem cells_sig : Try.prog.cellsOf 24 = 2 := by kernel_rfl
set_option maxRecDepth 100000 in
theorem sig_of {H : Type} {enc : TypeId × Value → H} {W : World} {base : Nat} {v : Value} {d : DataW H} {p : List MemPlace} (hv : Value.okWide Try.prog W .any base 24 v)
    (h : DataW.Trod enc Try.prog W 0 (fun _ => true) true 24 v d p) : ∃ s, RSig W v s := by
  obtain ⟨c0, c1, y0, y1, m, rfl, -, -, hy0, hy1⟩ := open_agg2 Try.underlying24 (by kernel_rfl) cells_sig hv h
  obtain ⟨a, e0, -, wa⟩ := DataW.trod_int Try.underlying3 hy0
  simp at e0
  subst e0
  rcases open_int_rows Try.underlying22 Try.underlying28 Try.underlying3 (by kernel_rfl) (by kernel_rfl) hy1 with ⟨hcs, -⟩ | ⟨ad, len, cap, A, L, C, Z, hcs, -, hl, hm, -, hr⟩
  · simp at hcs
    subst hcs
    exact ⟨⟨a, []⟩, _, rfl, RRows.nil _⟩
  · simp at hcs
    subst hcs
    refine ⟨⟨a, (List.range len).map fun r => (Z r).take (L r)⟩, _, rfl, ?_⟩
    refine ⟨some ad, cap, by simp, by simpa using hl, hm, fun j row hj => ?_⟩
    simp only [List.getElem?_map] at hj
    obtain ⟨r, hr', rfl⟩ := Option.map_eq_some_iff.1 hj
    obtain ⟨hjl, hrj⟩ := List.getElem?_eq_some_iff.1 hr'
    simp at hjl hrj
    subst hrj
    obtain ⟨hc, h1, h2, h3, h4, h5, h6⟩ := hr j (by omega)
    obtain ⟨b, o, sp⟩ := ad
    have hsp : sp = none := by
      have := spot_none (hr 0 (by omega)).1
      simpa [Addr.add] using this
    subst hsp
    rw [add_plain] at hc
    refine ⟨b, o, _, rfl, hc, A j, C j, by rw [List.length_take]; congr 1; omega, by rw [List.length_take]; omega, h2, fun i x hx => ?_⟩
    rw [List.getElem?_take] at hx
    split at hx
    · rename_i hil
      obtain ⟨hiz, rfl⟩ := List.getElem?_eq_some_iff.1 hx
      cases hA : A j with
      | none => have := h5 hA; omega
      | some a' =>
        obtain ⟨-, hcell⟩ := h6 a' hA
        obtain ⟨b', o', sp'⟩ := a'
        have hsp' : sp' = none := by
          have := spot_none (hcell 0 (by omega))
          simpa [Addr.add] using this
        subst hsp'
        have := hcell i (by omega)
        rw [add_plain, getD_at _ hiz] at this
        exact ⟨b', o', rfl, this⟩
    · cases hx
end

section
open Go.RowKit
set_option linter.unusedVariables false

theorem sortsBelow_any (v : Value) (xs : List Int) (m : Int) (w : World) (h : RInts w v xs) :
    Calls Try.prog 100 #[v, .int .i64 m] w fun e w' => e = .returned (.bool (belowB xs m)) ∧ w = w' := by
  have H := Lib.hid h
  have hn := h.len
  obtain ⟨A, c, rfl, -⟩ := h.form
  clear h
  go_enter Try.func100, Try.ntmps100
  go_wp2
  go_loop [4, 6, 9] (fun r s i => ∃ k : Nat, k ≤ xs.length ∧ i = .int .i64 k ∧ belowB (xs.take k) m = true) (fun _ _ i => xs.length - (intOf i).toNat)
  case atStart => exact ⟨0, Nat.zero_le _, rfl, rfl⟩
  case round =>
    obtain ⟨k, hk, rfl, hb0⟩ := hrel
    have hb := Lib.hid hb0
    clear hb0
    by_cases hlt : k < xs.length
    · obtain ⟨b, o, c', e, hcell⟩ := H.out.at_ hlt
      cases e
      have HB := Lib.hid (belowB_take (m := m) hlt)
      have HN := Lib.hid (belowB_bad (m := m) hlt)
      generalize xs[k] = x at hcell HB HN
      by_cases h0 : x < 0
      · go_wp2
        go_ret
        exact ⟨ret_bool (HN.out (by omega)).symm, rfl⟩
      · by_cases h1 : x < m
        · go_wp2
          go_round
          case rel => exact ⟨k + 1, by omega, by go_num, by rw [HB.out, hb.out]; simp; omega⟩
          case measure => simp [intOf]; omega
        · go_wp2
          go_ret
          exact ⟨ret_bool (HN.out (by omega)).symm, rfl⟩
    · go_wp2
      go_ret
      refine ⟨ret_bool ?_, rfl⟩
      have h := hb.out
      rwa [take_all (by omega), eq_comm] at h

theorem sigValid_any (v : Value) (s : MSig) (w : World) (h : RSig w v s) :
    Calls Try.prog 91 #[v] w fun e w' => e = .returned (.bool (validB s)) ∧ Below w.heap.size w w' := by
  obtain ⟨u, rfl, hr⟩ := h
  obtain ⟨sorts, ops⟩ := s
  have hn := hr.len
  obtain ⟨A, c, rfl, -⟩ := hr.form
  have H := Lib.hid (hr.keep (below_alloc w (.cells #[.int .i64 sorts, .slice A ops.length c] 37)))
  clear hr
  have HV : Hid (validB ⟨sorts, ops⟩ = ((decide (1 ≤ sorts) && decide (sorts ≤ 3)) && decide (ops.length ≤ 6) && ops.all (rowB sorts))) := rfl
  by_cases c1 : sorts < 1
  · go_enter Try.func91, Try.ntmps91
    go_wp2
    go_ret
    refine ⟨ret_bool ?_, below_alloc _ _⟩
    rw [HV.out]; simp; omega
  by_cases c2 : 3 < sorts
  · go_enter Try.func91, Try.ntmps91
    go_wp2
    go_ret
    refine ⟨ret_bool ?_, below_alloc _ _⟩
    rw [HV.out]; simp; omega
  by_cases c3 : 6 < ops.length
  · go_enter Try.func91, Try.ntmps91
    go_wp2
    go_ret
    refine ⟨ret_bool ?_, below_alloc _ _⟩
    rw [HV.out]; simp; omega
  go_enter Try.func91, Try.ntmps91
  go_wp2
  go_loop [4, 22] (fun s i => ∃ k : Nat, k ≤ ops.length ∧ i = .int .i64 k ∧ (ops.take k).all (rowB sorts) = true) (fun _ i => ops.length - (intOf i).toNat)
  case atStart => exact ⟨0, Nat.zero_le _, rfl, rfl⟩
  case round =>
    obtain ⟨k, hk, rfl, hb0⟩ := hrel
    have hb := Lib.hid hb0
    clear hb0
    by_cases hlt : k < ops.length
    · obtain ⟨b, o, c', u, e, hcell, hri⟩ := H.out.at_ hlt
      cases e
      have HB := Lib.hid (all_take (p := rowB sorts) hlt)
      have HN := Lib.hid (all_bad (p := rowB sorts) hlt)
      generalize ops[k] = row at hri HB HN
      have HR : Hid (rowB sorts row = ((decide (1 ≤ row.length) && decide (row.length ≤ 3)) && belowB row sorts)) := rfl
      have hrn := hri.len
      obtain ⟨A', c'', rfl, -⟩ := hri.form
      have HI := Lib.hid hri
      clear hri
      by_cases d1 : row.length < 1
      · go_wp2
        go_ret
        refine ⟨ret_bool ?_, below_alloc _ _⟩
        rw [HV.out, HN.out (by rw [HR.out]; simp; omega)]; simp
      by_cases d2 : 3 < row.length
      · go_wp2
        go_ret
        refine ⟨ret_bool ?_, below_alloc _ _⟩
        rw [HV.out, HN.out (by rw [HR.out]; simp; omega)]; simp
      cases hbb : belowB row sorts with
      | true =>
        have Hbb := Lib.hid hbb
        clear hbb
        go_wp2_with (go_at_call 100; refine (sortsBelow_any _ _ _ _ HI.out).mono ?_; rw [Hbb.out]; rintro e w' ⟨rfl, rfl⟩)
        go_round
        case rel => exact ⟨k + 1, by omega, by go_num, by rw [HB.out, hb.out, HR.out, Hbb.out]; simp; omega⟩
        case measure => simp [intOf]; omega
      | false =>
        have Hbb := Lib.hid hbb
        clear hbb
        go_wp2_with (go_at_call 100; refine (sortsBelow_any _ _ _ _ HI.out).mono ?_; rw [Hbb.out]; rintro e w' ⟨rfl, rfl⟩)
        go_ret
        refine ⟨ret_bool ?_, below_alloc _ _⟩
        rw [HV.out, HN.out (by rw [HR.out, Hbb.out]; simp)]; simp
    · go_wp2
      go_ret
      refine ⟨ret_bool ?_, below_alloc _ _⟩
      have h := hb.out
      rw [take_all (by omega)] at h
      rw [HV.out, h]; simp; omega
end

section
open Go.RowKit
set_option linter.unusedVariables false

theorem l1In_is (a lo hi : Int) (w : World) (b : Bool) (hb : inB a lo hi = b) :
    Calls Try.prog 94 #[.int .i64 a, .int .i64 lo, .int .i64 hi] w fun e w' => e = .returned (.bool b) ∧ w = w' := by
  subst hb
  unfold inB
  by_cases h : lo ≤ a
  · go_enter Try.func94, Try.ntmps94
    go_wp2
    go_ret
    exact ⟨ret_bool (by simp; omega), rfl⟩
  · go_enter Try.func94, Try.ntmps94
    go_wp2
    go_ret
    exact ⟨ret_bool (by simp; omega), rfl⟩

theorem inB_row (x sorts : Int) (q : Int) (hq : 1 ≤ sorts → sorts ≤ 3 → q = sorts - 1) (h1 : 1 ≤ sorts) (h3 : sorts ≤ 3) : inB x 0 q = (decide (0 ≤ x) && decide (x < sorts)) := by
  rw [hq h1 h3]; unfold inB; congr 1; rw [decide_eq_decide]; omega
def inRow (q : Int) (row : List Int) : Bool := inB row.length 1 3 && row.all fun x => inB x 0 q
theorem inRow_rowB {sorts q : Int} (hq : 1 ≤ sorts → sorts ≤ 3 → q = sorts - 1) (h1 : 1 ≤ sorts) (h3 : sorts ≤ 3) : inRow q = rowB sorts := by
  funext row
  unfold inRow rowB belowB
  congr 1
  · unfold inB; congr 1 <;> (rw [decide_eq_decide]; omega)
  · congr 1; funext x; exact inB_row x sorts q hq h1 h3
theorem validB_in {sorts q : Int} {ops : List (List Int)} (hq : 1 ≤ sorts → sorts ≤ 3 → q = sorts - 1) : validB ⟨sorts, ops⟩ = (ops.all (inRow q) && (inB sorts 1 3 && decide (ops.length ≤ 6))) := by
  unfold validB
  by_cases h1 : 1 ≤ sorts
  · by_cases h3 : sorts ≤ 3
    · rw [inRow_rowB hq h1 h3]; simp [inB, h1, h3, Bool.and_comm]
    · simp [inB, h3]
  · simp [inB, h1]

theorem specSigValid_any (v : Value) (s : MSig) (w : World) (h : RSig w v s) :
    Calls Try.prog 90 #[v] w fun e w' => e = .returned (.bool (validB s)) ∧ Below w.heap.size w w' := by
  obtain ⟨u, rfl, hr⟩ := h
  obtain ⟨sorts, ops⟩ := s
  have hn := hr.len
  obtain ⟨A, c, rfl, -⟩ := hr.form
  have H := Lib.hid (hr.keep (below_alloc w (.cells #[.int .i64 sorts, .slice A ops.length c] 37)))
  have hc0 : (w.alloc (.cells #[.int .i64 sorts, .slice A ops.length c] 37)).cell? ⟨w.heap.size, 0, none⟩ = some (.int .i64 sorts) := by
    rw [World.cell?_alloc_at _ _ _ _ rfl]; rfl
  have hc1 : (w.alloc (.cells #[.int .i64 sorts, .slice A ops.length c] 37)).cell? ⟨w.heap.size, 1, none⟩ = some (.slice A ops.length c) := by
    rw [World.cell?_alloc_at _ _ _ _ rfl]; rfl
  have hbW : Below w.heap.size w (w.alloc (.cells #[.int .i64 sorts, .slice A ops.length c] 37)) := below_alloc _ _
  clear hr
  have HV : Hid (validB ⟨sorts, ops⟩ = (ops.all (inRow (IntKind.i64.wrap (sorts - 1))) && (inB sorts 1 3 && decide (ops.length ≤ 6)))) :=
    validB_in (fun h1 h3 => by rw [IntKind.wrap_i64]; omega)
  have HC0 := Lib.hid hc0
  have HC1 := Lib.hid hc1
  have HBW := Lib.hid hbW
  clear hc0 hc1 hbW
  go_enter Try.func90, Try.ntmps90
  go_wp2
  go_loopw [3] (fun i wr => ∃ k : Nat, k ≤ ops.length ∧ i = .int .i64 k ∧ (ops.take k).all (inRow (IntKind.i64.wrap (sorts - 1))) = true ∧ Drawn (w.alloc (.cells #[.int .i64 sorts, .slice A ops.length c] 37)) wr) (fun i _ => ops.length - (intOf i).toNat)
  case atStart => exact ⟨0, Nat.zero_le _, rfl, rfl, Drawn.refl _⟩
  case round =>
    obtain ⟨k, hk, rfl, hb0, hd⟩ := hrel
    have hb := Lib.hid hb0
    have HD := Lib.hid hd
    clear hb0 hd
    have f0 := (HD.out.cell _).trans HC0.out
    have f1 := (HD.out.cell _).trans HC1.out
    by_cases hlt : k < ops.length
    · obtain ⟨b, o, c', u, e, hcell, hri⟩ := (H.out.keep HD.out.below).at_ hlt
      cases e
      have HB := Lib.hid (all_take (p := inRow (IntKind.i64.wrap (sorts - 1))) hlt)
      have HN := Lib.hid (all_bad (p := inRow (IntKind.i64.wrap (sorts - 1))) hlt)
      generalize ops[k] = row at hri HB HN
      have HR : Hid (inRow (IntKind.i64.wrap (sorts - 1)) row = (inB row.length 1 3 && row.all fun x => inB x 0 (IntKind.i64.wrap (sorts - 1)))) := rfl
      have hrn := hri.len
      obtain ⟨A', c'', rfl, -⟩ := hri.form
      have HI := Lib.hid hri
      clear hri
      cases hbb : inB row.length 1 3 with
      | false =>
        have Hbb := Lib.hid hbb
        clear hbb
        go_wp2_with (go_at_call 94; refine (l1In_is _ _ _ _ _ Hbb.out).mono ?_; rintro e w' ⟨rfl, rfl⟩)
        go_ret
        refine ⟨ret_bool ?_, HBW.out.trans (HD.out.below.mono (by simp))⟩
        rw [HV.out, HN.out (by rw [HR.out, Hbb.out]; simp)]; simp
      | true =>
        have Hbb := Lib.hid hbb
        clear hbb
        go_wp2_with (go_at_call 94; refine (l1In_is _ _ _ _ _ Hbb.out).mono ?_; rintro e w' ⟨rfl, rfl⟩)
        have hlt' : (k : Int) < (ops.length : Int) := by omega
        obtain ⟨wo, rfl⟩ : ∃ wo : World, wo = wr := ⟨_, rfl⟩
        go_loopw [4] (fun j wj => ∃ l : Nat, l ≤ row.length ∧ j = .int .i64 l ∧ (row.take l).all (fun x => inB x 0 (IntKind.i64.wrap (sorts - 1))) = true ∧ Drawn wo wj) (fun j _ => row.length - (intOf j).toNat)
        case atStart => exact ⟨0, Nat.zero_le _, rfl, rfl, Drawn.refl _⟩
        case round =>
          obtain ⟨l, hl, rfl, hbl0, hdj⟩ := hrel
          have hbl := Lib.hid hbl0
          have HDJ := Lib.hid hdj
          clear hbl0 hdj
          have g0 := (HDJ.out.cell _).trans f0
          have g1 := (HDJ.out.cell _).trans f1
          have g2 := (HDJ.out.cell _).trans hcell
          by_cases hll : l < row.length
          · obtain ⟨b', o', c3, e, hx⟩ := (HI.out.keep HDJ.out.below).at_ hll
            cases e
            have HBL := Lib.hid (all_take (p := fun x => inB x 0 (IntKind.i64.wrap (sorts - 1))) hll)
            have HNL := Lib.hid (all_bad (p := fun x => inB x 0 (IntKind.i64.wrap (sorts - 1))) hll)
            generalize row[l] = x at hx HBL HNL
            have hll' : (l : Int) < (row.length : Int) := by omega
            go_wp2_with fail
            cases hbx : inB x 0 (IntKind.i64.wrap (sorts - 1)) with
            | false =>
              have Hbx := Lib.hid hbx
              clear hbx
              go_quiet ((go_at_call 94; exact quiet_left (l1In_is _ _ _ _ _ Hbx.out)))
              go_wp2
              go_ret
              refine ⟨ret_bool ?_, ?_⟩
              · rw [HV.out, HN.out (by rw [HR.out, HNL.out Hbx.out]; simp)]; simp
              · exact below_drewN (HBW.out.trans ((HD.out.below.mono (by simp)).trans (HDJ.out.below.mono (by have := HD.out.below.size; simp at this; omega)))) _
            | true =>
              have Hbx := Lib.hid hbx
              clear hbx
              go_quiet ((go_at_call 94; exact quiet_left (l1In_is _ _ _ _ _ Hbx.out)))
              go_wp2
              go_roundw
              case rel => exact ⟨l + 1, by omega, by go_num, by rw [HBL.out, hbl.out, Hbx.out]; rfl, HDJ.out.more _⟩
              case measure => simp [intOf]; omega
          · go_wp2
            have hbl' := hbl.out
            rw [take_all (by omega)] at hbl'
            go_roundw
            case rel => exact ⟨k + 1, by omega, by go_num, by rw [HB.out, hb.out, HR.out, Hbb.out, hbl']; rfl, by obtain ⟨m, hm⟩ := HD.out; obtain ⟨m', hm'⟩ := HDJ.out; exact ⟨m + m', by rw [hm', hm, World.drewN_drewN]⟩⟩
            case measure => simp [intOf]; omega
    · have HE0 := hb.out
      rw [take_all (by omega)] at HE0
      have HE := Lib.hid HE0
      clear HE0
      cases hbs : inB sorts 1 3 with
      | false =>
        have Hbs := Lib.hid hbs
        clear hbs
        go_wp2_with (go_at_call 94; refine (l1In_is _ _ _ _ _ Hbs.out).mono ?_; rintro e w' ⟨rfl, rfl⟩)
        go_ret
        refine ⟨ret_bool ?_, HBW.out.trans (HD.out.below.mono (by simp))⟩
        rw [HV.out, Hbs.out]; simp
      | true =>
        have Hbs := Lib.hid hbs
        clear hbs
        go_wp2_with (go_at_call 94; refine (l1In_is _ _ _ _ _ Hbs.out).mono ?_; rintro e w' ⟨rfl, rfl⟩)
        go_ret
        refine ⟨ret_bool ?_, HBW.out.trans (HD.out.below.mono (by simp))⟩
        rw [HV.out, HE.out, Hbs.out]; simp; omega
end

section
open Go.RowKit
set_option linter.unusedVariables false

theorem box_cells (w : World) (a b : Value) (t : TypeId) : (w.alloc (.cells #[a, b] t)).cell? ⟨w.heap.size, 0, none⟩ = some a ∧ (w.alloc (.cells #[a, b] t)).cell? ⟨w.heap.size, 1, none⟩ = some b := by
  constructor <;> (rw [World.cell?_alloc_at _ _ _ _ rfl]; rfl)

theorem alive_any (w : World) : Calls Try.prog 41 #[] w fun e w' => e = .returned (.bool true) ∧ Below w.heap.size w w' := by
  go_enter Try.func41, Try.ntmps41
  go_wp2_with fail
  refine (sigValid_any _ ⟨1, []⟩ _ ⟨_, rfl, RRows.nil _⟩).mono ?_
  rw [show validB ⟨1, []⟩ = true from rfl]
  rintro e w1 ⟨rfl, hb1⟩
  go_wp2_with fail
  refine (sigValid_any _ ⟨0, []⟩ _ ⟨_, rfl, RRows.nil _⟩).mono ?_
  rw [show validB ⟨0, []⟩ = false from rfl]
  rintro e w2 ⟨rfl, hb2⟩
  go_wp2
  go_ret
  exact ⟨rfl, hb1.trans (hb2.mono hb1.size)⟩
end

section
open Go.RowKit
set_option linter.unusedVariables false

inductive Tm where
  | leaf (k : Nat) (of : Int)
  | node (op : Nat) (lv : Int) (ts : List Tm)

def Tm.sort : Tm → Int
  | .leaf _ of => of
  | .node _ lv _ => lv

mutual
def Tm.row : Tm → List Int
  | .leaf k _ => [100 + (k : Int)]
  | .node op _ ts => (op : Int) :: rowsOf ts
def rowsOf : List Tm → List Int
  | [] => []
  | t :: ts => t.row ++ rowsOf ts
end

def opRow (s : MSig) (n : Nat) : List Int := s.ops.getD n []

mutual
def wfT (s : MSig) (vars : List Int) : Tm → Prop
  | .leaf k of => k < vars.length ∧ of = vars.getD k 0
  | .node op lv ts => op < s.ops.length ∧ lv = (opRow s op).getLastD (-1) ∧ wfTs s vars (opRow s op).dropLast ts
def wfTs (s : MSig) (vars : List Int) : List Int → List Tm → Prop
  | ss, [] => ss = []
  | ss, t :: ts => ∃ x ss', ss = x :: ss' ∧ t.sort = x ∧ wfT s vars t ∧ wfTs s vars ss' ts
end

def argsM (p : List Int → Option (Tm × List Int)) : List Int → List Int → Option (List Tm × List Int)
  | [], r => some ([], r)
  | x :: ss, r =>
    match p r with
    | none => none
    | some (t, b) =>
      if t.sort = x then
        match argsM p ss b with
        | none => none
        | some (ts, b') => some (t :: ts, b')
      else none

def firstM (s : MSig) (vars : List Int) : Nat → List Int → Option (Tm × List Int)
  | 0, _ => none
  | _ + 1, [] => none
  | f + 1, n :: rest =>
    if 0 ≤ n ∧ n < s.ops.length then
      match argsM (firstM s vars f) (opRow s n.toNat).dropLast rest with
      | none => none
      | some (ts, b) => some (.node n.toNat ((opRow s n.toNat).getLastD (-1)) ts, b)
    else if 100 ≤ n ∧ n < 100 + vars.length then some (.leaf (n - 100).toNat (vars.getD (n - 100).toNat 0), rest)
    else none

/-- one more argument, at the end -/
theorem argsM_snoc (p : List Int → Option (Tm × List Int)) (ss : List Int) (x : Int) (r : List Int) :
    argsM p (ss ++ [x]) r = match argsM p ss r with
      | none => none
      | some (ts, b) => match p b with
        | none => none
        | some (t, b') => if t.sort = x then some (ts ++ [t], b') else none := by
  induction ss generalizing r with
  | nil =>
    simp only [List.nil_append, argsM]
  | cons y ss ih =>
    simp only [List.cons_append, argsM]
    cases hp : p r with
    | none => rfl
    | some q =>
      obtain ⟨t, b⟩ := q
      simp only
      by_cases h : t.sort = y
      · rw [if_pos h, if_pos h, ih]
        cases ha : argsM p ss b with
        | none => rfl
        | some q =>
          obtain ⟨ts, b1⟩ := q
          simp only
          cases hq : p b1 with
          | none => rfl
          | some q =>
            obtain ⟨t', b2⟩ := q
            simp only
            by_cases h' : t'.sort = x
            · rw [if_pos h', if_pos h']; rfl
            · rw [if_neg h', if_neg h']
      · rw [if_neg h, if_neg h]
theorem argsM_none (p : List Int → Option (Tm × List Int)) (ss ss' : List Int) (r : List Int) (h : argsM p ss r = none) : argsM p (ss ++ ss') r = none := by
  induction ss generalizing r with
  | nil => cases h
  | cons y ss ih =>
    simp only [List.cons_append, argsM] at h ⊢
    cases hp : p r with
    | none => rfl
    | some q =>
      obtain ⟨t, b⟩ := q
      rw [hp] at h
      simp only at h ⊢
      by_cases ht : t.sort = y
      · rw [if_pos ht] at h ⊢
        cases ha : argsM p ss b with
        | none => rw [ih b ha]
        | some q => obtain ⟨ts, b'⟩ := q; rw [ha] at h; cases h
      · rw [if_neg ht]
theorem argsM_take_none {p : List Int → Option (Tm × List Int)} {ss r : List Int} {k : Nat} (h : argsM p (ss.take k) r = none) : argsM p ss r = none := by
  have := argsM_none p (ss.take k) (ss.drop k) r h
  rwa [List.take_append_drop] at this
theorem argsM_step {p : List Int → Option (Tm × List Int)} {ss r : List Int} {k : Nat} (hk : k < ss.length) {ts : List Tm} {b : List Int} (h : argsM p (ss.take k) r = some (ts, b)) :
    argsM p (ss.take (k + 1)) r = match p b with
        | none => none
        | some (t, b') => if t.sort = ss[k] then some (ts ++ [t], b') else none := by
  rw [List.take_succ_eq_append_getElem hk, argsM_snoc, h]

/-! what is read is the row of the tree, and the tree is one of the signature -/
theorem argsM_sound {s : MSig} {vars : List Int} {p : List Int → Option (Tm × List Int)} (hp : ∀ r tm b, p r = some (tm, b) → r = tm.row ++ b ∧ wfT s vars tm) :
    ∀ (ss r : List Int) (ts : List Tm) (b : List Int), argsM p ss r = some (ts, b) → r = rowsOf ts ++ b ∧ wfTs s vars ss ts := by
  intro ss
  induction ss with
  | nil =>
    intro r ts b h
    simp only [argsM] at h
    cases h
    exact ⟨by simp [rowsOf], by unfold wfTs; rfl⟩
  | cons x ss ih =>
    intro r ts b h
    simp only [argsM] at h
    cases hpr : p r with
    | none => rw [hpr] at h; cases h
    | some q =>
      obtain ⟨t, b1⟩ := q
      rw [hpr] at h
      simp only at h
      by_cases ht : t.sort = x
      · rw [if_pos ht] at h
        cases ha : argsM p ss b1 with
        | none => rw [ha] at h; cases h
        | some q =>
          obtain ⟨ts1, b2⟩ := q
          rw [ha] at h
          simp only at h
          cases h
          obtain ⟨h1, h2⟩ := hp r t b1 hpr
          obtain ⟨h3, h4⟩ := ih b1 ts1 _ ha
          refine ⟨by rw [h1, h3]; simp [rowsOf], ?_⟩
          unfold wfTs
          exact ⟨x, ss, rfl, ht, h2, h4⟩
      · rw [if_neg ht] at h; cases h
theorem firstM_sound {s : MSig} {vars : List Int} : ∀ (f : Nat) (r : List Int) (tm : Tm) (b : List Int), firstM s vars f r = some (tm, b) → r = tm.row ++ b ∧ wfT s vars tm := by
  intro f
  induction f with
  | zero => intro r tm b h; simp [firstM] at h
  | succ f ih =>
    intro r tm b h
    cases r with
    | nil => simp [firstM] at h
    | cons n rest =>
      simp only [firstM] at h
      by_cases h1 : 0 ≤ n ∧ n < s.ops.length
      · rw [if_pos h1] at h
        cases ha : argsM (firstM s vars f) (opRow s n.toNat).dropLast rest with
        | none => rw [ha] at h; cases h
        | some q =>
          obtain ⟨ts, b1⟩ := q
          rw [ha] at h
          simp only at h
          cases h
          obtain ⟨h3, h4⟩ := argsM_sound ih _ _ _ _ ha
          refine ⟨?_, ?_⟩
          · unfold Tm.row
            rw [h3, Int.toNat_of_nonneg h1.1]; rfl
          · unfold wfT
            exact ⟨by omega, rfl, h4⟩
      · rw [if_neg h1] at h
        by_cases h2 : 100 ≤ n ∧ n < 100 + vars.length
        · rw [if_pos h2] at h
          cases h
          refine ⟨?_, ?_⟩
          · unfold Tm.row
            rw [show (100 : Int) + ((n - 100).toNat : Int) = n by omega]; rfl
          · unfold wfT
            exact ⟨by omega, rfl⟩
        · rw [if_neg h2] at h; cases h

theorem row_pos : ∀ t : Tm, 1 ≤ t.row.length
  | .leaf k of => by simp [Tm.row]
  | .node op lv ts => by simp [Tm.row]

mutual
theorem firstM_full {s : MSig} {vars : List Int} (hs : s.ops.length ≤ 100) : ∀ (tm : Tm) (f : Nat) (b : List Int), wfT s vars tm → tm.row.length ≤ f → firstM s vars f (tm.row ++ b) = some (tm, b)
  | .leaf k of, f, b, hw, hf => by
    unfold wfT at hw
    obtain ⟨f, rfl⟩ : ∃ g, f = g + 1 := ⟨f - 1, by simp [Tm.row] at hf; omega⟩
    simp only [Tm.row, List.cons_append, List.nil_append, firstM]
    rw [if_neg (by omega), if_pos (by omega), show ((100 : Int) + (k : Int) - 100).toNat = k by omega, hw.2]
  | .node op lv ts, f, b, hw, hf => by
    unfold wfT at hw
    obtain ⟨f, rfl⟩ : ∃ g, f = g + 1 := ⟨f - 1, by simp [Tm.row] at hf; omega⟩
    simp only [Tm.row, List.length_cons] at hf
    simp only [Tm.row, List.cons_append, firstM]
    rw [if_pos (by omega), Int.toNat_natCast, argsM_full hs ts f b _ hw.2.2 (by omega)]
    rw [hw.2.1]
theorem argsM_full {s : MSig} {vars : List Int} (hs : s.ops.length ≤ 100) : ∀ (ts : List Tm) (f : Nat) (b ss : List Int), wfTs s vars ss ts → (rowsOf ts).length ≤ f → argsM (firstM s vars f) ss (rowsOf ts ++ b) = some (ts, b)
  | [], f, b, ss, hw, hf => by
    unfold wfTs at hw
    subst hw
    simp [argsM, rowsOf]
  | t :: ts, f, b, ss, hw, hf => by
    unfold wfTs at hw
    obtain ⟨x, ss', rfl, h1, h2, h3⟩ := hw
    simp only [rowsOf, List.length_append] at hf
    simp only [rowsOf, List.append_assoc, argsM]
    rw [firstM_full hs t f _ h2 (by omega)]
    simp only
    rw [if_pos h1, argsM_full hs ts f b ss' h3 (by omega)]
end
end

section
open Go.RowKit
set_option linter.unusedVariables false

/-- numbers that an int holds -/
def Small (r : List Int) : Prop := ∀ x ∈ r, x ≤ 9223372036854775807
def varsB (s : MSig) (vars : List Int) : Bool := validB s && decide (vars.length ≤ 4) && belowB vars s.sorts
def termM (s : MSig) (vars t : List Int) : Option Tm :=
  if varsB s vars = true ∧ t.length ≤ 30 then
    match firstM s vars 30 t with
    | some (tm, []) => some tm
    | _ => none
  else none
def sortM (s : MSig) (vars t : List Int) : Int :=
  match termM s vars t with
  | some tm => tm.sort
  | none => -1
def fitM (s : MSig) (vars : List Int) (terms : List (List Int)) (sorts : List Int) : Bool :=
  decide (terms.length = sorts.length) && (terms.zip sorts).all fun q => decide (0 ≤ q.2) && decide (sortM s vars q.1 = q.2)
def fitsB (s : MSig) (vars : List Int) (terms : List (List Int)) (sorts : List Int) : Bool := varsB s vars && fitM s vars terms sorts
def putRow (terms : List (List Int)) (t : List Int) : List Int := t.flatMap fun n => if 100 ≤ n then terms.getD (n - 100).toNat [] else [n]
def partM (s : MSig) (vars t : List Int) (k : Nat) : List Int :=
  match firstM s vars 30 (t.drop k) with
  | some (tm, _) => tm.row
  | none => []
def atM (s : MSig) (vars t : List Int) (at_ : Int) : List Int :=
  if 0 ≤ sortM s vars t ∧ 0 ≤ at_ ∧ at_ < t.length then partM s vars t at_.toNat else []

theorem vars_valid {s : MSig} {vars : List Int} (h : varsB s vars = true) : validB s = true ∧ vars.length ≤ 4 ∧ ∀ k (hk : k < vars.length), 0 ≤ vars[k] ∧ vars[k] < s.sorts := by
  unfold varsB belowB at h
  simp only [Bool.and_eq_true, decide_eq_true_eq, List.all_eq_true] at h
  exact ⟨h.1.1, h.1.2, fun k hk => h.2 _ (List.getElem_mem hk)⟩
theorem opRow_at {s : MSig} {k : Nat} (hk : k < s.ops.length) : opRow s k = s.ops[k] := getD_at _ hk
theorem opRow_valid {s : MSig} (h : validB s = true) {k : Nat} (hk : k < s.ops.length) : 1 ≤ (opRow s k).length ∧ (opRow s k).length ≤ 3 ∧ ∀ x ∈ opRow s k, 0 ≤ x ∧ x < s.sorts := by
  rw [opRow_at hk]; exact valid_row h hk
theorem ops_few {s : MSig} (h : validB s = true) : s.ops.length ≤ 100 := by have := valid_sorts h; omega
/-- the sort of a tree is one of the signature -/
theorem sort_ok {s : MSig} {vars : List Int} (h : varsB s vars = true) {tm : Tm} (hw : wfT s vars tm) : 0 ≤ tm.sort ∧ tm.sort < s.sorts := by
  obtain ⟨h1, h2, h3⟩ := vars_valid h
  cases tm with
  | leaf k of =>
    unfold wfT at hw
    obtain ⟨hk, rfl⟩ := hw
    simp only [Tm.sort]
    rw [getD_at _ hk]; exact h3 k hk
  | node op lv ts =>
    unfold wfT at hw
    obtain ⟨hk, rfl, -⟩ := hw
    simp only [Tm.sort]
    obtain ⟨a, b, c⟩ := opRow_valid h1 hk
    rw [last_at (by omega)]
    exact c _ (List.getElem_mem _)

theorem termM_to {s : MSig} {vars t : List Int} {tm : Tm} (h : termM s vars t = some tm) : varsB s vars = true ∧ t.length ≤ 30 ∧ wfT s vars tm ∧ tm.row = t := by
  unfold termM at h
  by_cases h1 : varsB s vars = true ∧ t.length ≤ 30
  · rw [if_pos h1] at h
    cases hf : firstM s vars 30 t with
    | none => rw [hf] at h; cases h
    | some q =>
      obtain ⟨tm', b⟩ := q
      rw [hf] at h
      cases b with
      | nil =>
        simp only at h
        cases h
        obtain ⟨h2, h3⟩ := firstM_sound _ _ _ _ hf
        exact ⟨h1.1, h1.2, h3, by rw [h2]; simp⟩
      | cons a b => cases h
  · rw [if_neg h1] at h; cases h
theorem termM_of {s : MSig} {vars : List Int} {tm : Tm} (h1 : varsB s vars = true) (h2 : tm.row.length ≤ 30) (h3 : wfT s vars tm) : termM s vars tm.row = some tm := by
  unfold termM
  rw [if_pos ⟨h1, h2⟩]
  have := firstM_full (ops_few (vars_valid h1).1) tm 30 [] h3 h2
  rw [List.append_nil] at this
  rw [this]
theorem sortM_to {s : MSig} {vars t : List Int} (h : 0 ≤ sortM s vars t) : ∃ tm, varsB s vars = true ∧ t.length ≤ 30 ∧ wfT s vars tm ∧ tm.row = t ∧ sortM s vars t = tm.sort := by
  unfold sortM at h ⊢
  cases ht : termM s vars t with
  | none => rw [ht] at h; simp at h
  | some tm =>
    obtain ⟨a, b, c, d⟩ := termM_to ht
    exact ⟨tm, a, b, c, d, rfl⟩
theorem sortM_of {s : MSig} {vars : List Int} {tm : Tm} (h1 : varsB s vars = true) (h2 : tm.row.length ≤ 30) (h3 : wfT s vars tm) : sortM s vars tm.row = tm.sort := by
  unfold sortM; rw [termM_of h1 h2 h3]
theorem sortM_neg {s : MSig} {vars t : List Int} (h : sortM s vars t < 0) : sortM s vars t = -1 := by
  unfold sortM at h ⊢
  cases ht : termM s vars t with
  | none => rfl
  | some tm =>
    obtain ⟨a, b, c, d⟩ := termM_to ht
    rw [ht] at h
    have := sort_ok a c
    simp only at h
    omega
theorem sortM_lt {s : MSig} {vars t : List Int} (h : validB s = true) : sortM s vars t < s.sorts ∧ -1 ≤ sortM s vars t := by
  have hv := valid_sorts h
  unfold sortM
  cases ht : termM s vars t with
  | none => simp only; omega
  | some tm =>
    obtain ⟨a, b, c, d⟩ := termM_to ht
    have := sort_ok a c
    simp only
    omega

/-! a part, and what is put there -/
mutual
theorem hole_t {s : MSig} {vars : List Int} : ∀ (tm : Tm) (at_ : Nat), wfT s vars tm → at_ < tm.row.length →
    ∃ (pre : List Int) (sub : Tm) (post : List Int), tm.row = pre ++ sub.row ++ post ∧ pre.length = at_ ∧ wfT s vars sub ∧ ∀ u : Tm, wfT s vars u → u.sort = sub.sort → ∃ tm' : Tm, wfT s vars tm' ∧ tm'.sort = tm.sort ∧ tm'.row = pre ++ u.row ++ post
  | .leaf k of, at_, hw, ha => by
    simp only [Tm.row, List.length_singleton] at ha
    refine ⟨[], .leaf k of, [], by simp, by simp; omega, hw, fun u hu hs => ⟨u, hu, hs, by simp⟩⟩
  | .node op lv ts, 0, hw, ha => ⟨[], .node op lv ts, [], by simp, rfl, hw, fun u hu hs => ⟨u, hu, hs, by simp⟩⟩
  | .node op lv ts, n + 1, hw, ha => by
    unfold wfT at hw
    simp only [Tm.row, List.length_cons] at ha
    obtain ⟨pre, sub, post, h1, h2, h3, h4⟩ := hole_ts ts n _ hw.2.2 (by omega)
    refine ⟨(op : Int) :: pre, sub, post, by simp only [Tm.row]; rw [h1]; simp, by simp [h2], h3, fun u hu hs => ?_⟩
    obtain ⟨ts', a, b⟩ := h4 u hu hs
    refine ⟨.node op lv ts', ?_, rfl, by simp only [Tm.row]; rw [b]; simp⟩
    unfold wfT
    exact ⟨hw.1, hw.2.1, a⟩
theorem hole_ts {s : MSig} {vars : List Int} : ∀ (ts : List Tm) (at_ : Nat) (ss : List Int), wfTs s vars ss ts → at_ < (rowsOf ts).length →
    ∃ (pre : List Int) (sub : Tm) (post : List Int), rowsOf ts = pre ++ sub.row ++ post ∧ pre.length = at_ ∧ wfT s vars sub ∧ ∀ u : Tm, wfT s vars u → u.sort = sub.sort → ∃ ts' : List Tm, wfTs s vars ss ts' ∧ rowsOf ts' = pre ++ u.row ++ post
  | [], at_, ss, hw, ha => by simp [rowsOf] at ha
  | t :: ts, at_, ss, hw, ha => by
    unfold wfTs at hw
    obtain ⟨x, ss', rfl, h1, h2, h3⟩ := hw
    by_cases hlt : at_ < t.row.length
    · obtain ⟨pre, sub, post, a, b, c, d⟩ := hole_t t at_ h2 hlt
      refine ⟨pre, sub, post ++ rowsOf ts, by simp only [rowsOf]; rw [a]; simp, b, c, fun u hu hs => ?_⟩
      obtain ⟨t', e1, e2, e3⟩ := d u hu hs
      refine ⟨t' :: ts, ?_, by simp only [rowsOf]; rw [e3]; simp⟩
      unfold wfTs
      exact ⟨x, ss', rfl, by rw [e2, h1], e1, h3⟩
    · simp only [rowsOf, List.length_append] at ha
      obtain ⟨pre, sub, post, a, b, c, d⟩ := hole_ts ts (at_ - t.row.length) ss' h3 (by omega)
      refine ⟨t.row ++ pre, sub, post, by simp only [rowsOf]; rw [a]; simp, by simp [b]; omega, c, fun u hu hs => ?_⟩
      obtain ⟨ts', e1, e2⟩ := d u hu hs
      refine ⟨t :: ts', ?_, by simp only [rowsOf]; rw [e2]; simp⟩
      unfold wfTs
      exact ⟨x, ss', rfl, h1, h2, e1⟩
end

/-- of a term: the part at k, what lies ahead of it and behind, and what comes of another part -/
theorem part_of {s : MSig} {vars t : List Int} {k : Nat} (h : 0 ≤ sortM s vars t) (hk : k < t.length) :
    ∃ (pre : List Int) (sub : Tm) (post : List Int), t = pre ++ sub.row ++ post ∧ pre.length = k ∧ wfT s vars sub ∧ firstM s vars 30 (t.drop k) = some (sub, post) ∧ partM s vars t k = sub.row ∧ sortM s vars sub.row = sub.sort ∧ 0 ≤ sub.sort ∧
      ∀ u : Tm, wfT s vars u → u.sort = sub.sort → (pre ++ u.row ++ post).length ≤ 30 → sortM s vars (pre ++ u.row ++ post) = sortM s vars t := by
  obtain ⟨tm, h1, h2, h3, h4, h5⟩ := sortM_to h
  subst h4
  obtain ⟨pre, sub, post, a, b, c, d⟩ := hole_t tm k h3 hk
  have hl : pre.length + sub.row.length + post.length = tm.row.length := by rw [a]; simp; omega
  have hd : tm.row.drop k = sub.row ++ post := by rw [a, List.append_assoc, ← b]; simp
  have hf : firstM s vars 30 (tm.row.drop k) = some (sub, post) := by
    rw [hd]; exact firstM_full (ops_few (vars_valid h1).1) sub 30 post c (by omega)
  refine ⟨pre, sub, post, a, b, c, hf, by unfold partM; rw [hf], sortM_of h1 (by omega) c, (sort_ok h1 c).1, fun u hu hs hlen => ?_⟩
  obtain ⟨tm', e1, e2, e3⟩ := d u hu hs
  rw [← e3, sortM_of h1 (by rw [e3]; exact hlen) e1, h5, e2]

/-! letters replaced -/
mutual
theorem put_t {s : MSig} {vars others : List Int} {terms : List (List Int)} (hop : s.ops.length ≤ 100)
    (hσ : ∀ k, k < vars.length → ∃ u : Tm, wfT s others u ∧ u.sort = vars.getD k 0 ∧ u.row = terms.getD k []) : ∀ tm : Tm, wfT s vars tm → ∃ tm' : Tm, wfT s others tm' ∧ tm'.sort = tm.sort ∧ tm'.row = putRow terms tm.row
  | .leaf k of, hw => by
    unfold wfT at hw
    obtain ⟨u, a, b, c⟩ := hσ k hw.1
    refine ⟨u, a, by rw [b]; exact hw.2.symm, ?_⟩
    rw [c]
    simp only [Tm.row, putRow, List.flatMap_cons, List.flatMap_nil, List.append_nil]
    rw [if_pos (by omega), show ((100 : Int) + (k : Int) - 100).toNat = k by omega]
  | .node op lv ts, hw => by
    unfold wfT at hw
    obtain ⟨ts', a, b⟩ := put_ts hop hσ ts _ hw.2.2
    refine ⟨.node op lv ts', ?_, rfl, ?_⟩
    · unfold wfT; exact ⟨hw.1, hw.2.1, a⟩
    · simp only [Tm.row]
      rw [b]
      simp only [putRow, List.flatMap_cons]
      rw [if_neg (by omega)]
      rfl
theorem put_ts {s : MSig} {vars others : List Int} {terms : List (List Int)} (hop : s.ops.length ≤ 100)
    (hσ : ∀ k, k < vars.length → ∃ u : Tm, wfT s others u ∧ u.sort = vars.getD k 0 ∧ u.row = terms.getD k []) : ∀ (ts : List Tm) (ss : List Int), wfTs s vars ss ts → ∃ ts' : List Tm, wfTs s others ss ts' ∧ rowsOf ts' = putRow terms (rowsOf ts)
  | [], ss, hw => by
    unfold wfTs at hw
    subst hw
    exact ⟨[], by unfold wfTs; rfl, by simp [rowsOf, putRow]⟩
  | t :: ts, ss, hw => by
    unfold wfTs at hw
    obtain ⟨x, ss', rfl, h1, h2, h3⟩ := hw
    obtain ⟨t', a, b, c⟩ := put_t hop hσ t h2
    obtain ⟨ts', d, e⟩ := put_ts hop hσ ts ss' h3
    refine ⟨t' :: ts', ?_, by simp only [rowsOf]; rw [c, e]; simp [putRow]⟩
    unfold wfTs
    exact ⟨x, ss', rfl, by rw [b, h1], a, d⟩
end

/-! the numbers of a term: operations, and letters that there are -/
mutual
theorem nums_t {s : MSig} {vars : List Int} (hop : s.ops.length ≤ 100) : ∀ tm : Tm, wfT s vars tm → ∀ n ∈ tm.row, (0 ≤ n ∧ n < s.ops.length) ∨ (100 ≤ n ∧ n < 100 + vars.length)
  | .leaf k of, hw, n, hn => by
    unfold wfT at hw
    simp only [Tm.row, List.mem_singleton] at hn
    omega
  | .node op lv ts, hw, n, hn => by
    unfold wfT at hw
    simp only [Tm.row, List.mem_cons] at hn
    rcases hn with rfl | hn
    · omega
    · exact nums_ts hop ts _ hw.2.2 n hn
theorem nums_ts {s : MSig} {vars : List Int} (hop : s.ops.length ≤ 100) : ∀ (ts : List Tm) (ss : List Int), wfTs s vars ss ts → ∀ n ∈ rowsOf ts, (0 ≤ n ∧ n < s.ops.length) ∨ (100 ≤ n ∧ n < 100 + vars.length)
  | [], ss, hw, n, hn => by simp [rowsOf] at hn
  | t :: ts, ss, hw, n, hn => by
    unfold wfTs at hw
    obtain ⟨x, ss', rfl, h1, h2, h3⟩ := hw
    simp only [rowsOf, List.mem_append] at hn
    rcases hn with hn | hn
    · exact nums_t hop t h2 n hn
    · exact nums_ts hop ts ss' h3 n hn
end
end

section
open Go.RowKit
set_option linter.unusedVariables false

theorem varsB_parts (s : MSig) (vars : List Int) : varsB s vars = (validB s && decide (vars.length ≤ 4) && belowB vars s.sorts) := rfl

set_option maxRecDepth 100000 in
theorem varsOk_any (v vv : Value) (s : MSig) (vars : List Int) (w : World) (h : RSig w v s) (hv : RInts w vv vars) :
    Calls Try.prog 111 #[v, vv] w fun e w' => e = .returned (.bool (varsB s vars)) ∧ Below w.heap.size w w' := by
  obtain ⟨u, rfl, hr⟩ := h
  obtain ⟨sorts, ops⟩ := s
  have hn := hr.len
  obtain ⟨A, c, rfl, -⟩ := hr.form
  have HB := Lib.hid (below_alloc w (.cells #[.int .i64 sorts, .slice A ops.length c] 37))
  have H := Lib.hid (hr.keep HB.out)
  have HVV := Lib.hid (hv.keep HB.out)
  have hbx := Lib.hid (box_cells w (.int .i64 sorts) (.slice A ops.length c) 37)
  have hvn := hv.len
  obtain ⟨A1, c1, rfl, -⟩ := hv.form
  have HP := Lib.hid (varsB_parts ⟨sorts, ops⟩ vars)
  clear hr hv
  cases hvb : validB ⟨sorts, ops⟩ with
  | false =>
    have Hv := Lib.hid hvb
    clear hvb
    go_enter Try.func111, Try.ntmps111
    go_wp2_with (go_at_call 91; refine (sigValid_any _ ⟨sorts, ops⟩ _ ⟨_, rfl, H.out⟩).mono ?_; rw [Hv.out]; rintro e w1 ⟨rfl, hb⟩)
    go_ret
    exact ⟨ret_bool (by rw [HP.out, Hv.out]; rfl), HB.out.trans (hb.mono (by simp))⟩
  | true =>
    have Hv := Lib.hid hvb
    clear hvb
    by_cases h4 : (vars.length : Int) ≤ 4
    · go_enter Try.func111, Try.ntmps111
      go_wp2_with (first
        | (go_at_call 91; refine (sigValid_any _ ⟨sorts, ops⟩ _ ⟨_, rfl, H.out⟩).mono ?_; rw [Hv.out]; rintro e w1 ⟨rfl, hb⟩; have f0 := cell_keep hb hbx.out.1; have HV1 := Lib.hid (HVV.out.keep hb))
        | (go_at_call 100; refine (sortsBelow_any _ _ _ _ HV1.out).mono ?_; rintro e w2 ⟨rfl, rfl⟩))
      go_ret
      exact ⟨ret_bool (by rw [HP.out, Hv.out]; simp; omega), HB.out.trans (hb.mono (by simp))⟩
    · go_enter Try.func111, Try.ntmps111
      go_wp2_with (first
        | (go_at_call 91; refine (sigValid_any _ ⟨sorts, ops⟩ _ ⟨_, rfl, H.out⟩).mono ?_; rw [Hv.out]; rintro e w1 ⟨rfl, hb⟩; have f0 := cell_keep hb hbx.out.1; have HV1 := Lib.hid (HVV.out.keep hb)))
      go_ret
      exact ⟨ret_bool (by rw [HP.out, Hv.out]; simp; omega), HB.out.trans (hb.mono (by simp))⟩

theorem vars_in {sorts q : Int} {ops : List (List Int)} {vars : List Int} (hq : 1 ≤ sorts → sorts ≤ 3 → q = sorts - 1) : varsB ⟨sorts, ops⟩ vars = ((vars.all fun x => inB x 0 q) && (validB ⟨sorts, ops⟩ && decide (vars.length ≤ 4))) := by
  rw [varsB_parts]
  cases hv : validB ⟨sorts, ops⟩ with
  | false => simp
  | true =>
    have hs := valid_sorts hv
    simp only at hs
    rw [show belowB vars sorts = vars.all fun x => inB x 0 q from by unfold belowB; congr 1; funext x; exact (inB_row x sorts q hq hs.1 hs.2.1).symm]
    simp [Bool.and_comm]

set_option maxRecDepth 100000 in
theorem specVarsOk_any (v vv : Value) (s : MSig) (vars : List Int) (w : World) (h : RSig w v s) (hv : RInts w vv vars) :
    Calls Try.prog 106 #[v, vv] w fun e w' => e = .returned (.bool (varsB s vars)) ∧ Below w.heap.size w w' := by
  obtain ⟨u, rfl, hr⟩ := h
  obtain ⟨sorts, ops⟩ := s
  have hn := hr.len
  obtain ⟨A, c, rfl, -⟩ := hr.form
  have HB := Lib.hid (below_alloc w (.cells #[.int .i64 sorts, .slice A ops.length c] 37))
  have H := Lib.hid (hr.keep HB.out)
  have HVV := Lib.hid (hv.keep HB.out)
  have hbx := Lib.hid (box_cells w (.int .i64 sorts) (.slice A ops.length c) 37)
  have hvn := hv.len
  obtain ⟨A1, c1, rfl, -⟩ := hv.form
  have HP : Hid (varsB ⟨sorts, ops⟩ vars = ((vars.all fun x => inB x 0 (IntKind.i64.wrap (sorts - 1))) && (validB ⟨sorts, ops⟩ && decide (vars.length ≤ 4)))) := vars_in (fun h1 h3 => by rw [IntKind.wrap_i64]; omega)
  clear hr hv
  go_enter Try.func106, Try.ntmps106
  go_wp2
  go_loopw [5] (fun i wr => ∃ k : Nat, k ≤ vars.length ∧ i = .int .i64 k ∧ (vars.take k).all (fun x => inB x 0 (IntKind.i64.wrap (sorts - 1))) = true ∧ Drawn (w.alloc (.cells #[.int .i64 sorts, .slice A ops.length c] 37)) wr) (fun i _ => vars.length - (intOf i).toNat)
  case atStart => exact ⟨0, Nat.zero_le _, rfl, rfl, Drawn.refl _⟩
  case round =>
    obtain ⟨k, hk, rfl, hb0, hd⟩ := hrel
    have hb := Lib.hid hb0
    have HD := Lib.hid hd
    clear hb0 hd
    have f0 := (HD.out.cell _).trans hbx.out.1
    have f1 := (HD.out.cell _).trans hbx.out.2
    by_cases hlt : k < vars.length
    · obtain ⟨b, o, c', e, hx⟩ := (HVV.out.keep HD.out.below).at_ hlt
      cases e
      have HA := Lib.hid (all_take (p := fun x => inB x 0 (IntKind.i64.wrap (sorts - 1))) hlt)
      have HN := Lib.hid (all_bad (p := fun x => inB x 0 (IntKind.i64.wrap (sorts - 1))) hlt)
      generalize vars[k] = x at hx HA HN
      have hlt' : (k : Int) < (vars.length : Int) := by omega
      go_wp2_with fail
      cases hbx' : inB x 0 (IntKind.i64.wrap (sorts - 1)) with
      | false =>
        have Hbx := Lib.hid hbx'
        clear hbx'
        go_quiet ((go_at_call 94; exact quiet_left (l1In_is _ _ _ _ _ Hbx.out)))
        go_wp2
        go_ret
        refine ⟨ret_bool ?_, below_drewN (HB.out.trans (HD.out.below.mono (by simp))) _⟩
        rw [HP.out, HN.out Hbx.out]; simp
      | true =>
        have Hbx := Lib.hid hbx'
        clear hbx'
        go_quiet ((go_at_call 94; exact quiet_left (l1In_is _ _ _ _ _ Hbx.out)))
        go_wp2
        go_roundw
        case rel => exact ⟨k + 1, by omega, by go_num, by rw [HA.out, hb.out, Hbx.out]; rfl, HD.out.more _⟩
        case measure => simp [intOf]; omega
    · have HE0 := hb.out
      rw [take_all (by omega)] at HE0
      have HE := Lib.hid HE0
      clear HE0
      cases hvb : validB ⟨sorts, ops⟩ with
      | false =>
        have Hv := Lib.hid hvb
        clear hvb
        go_wp2_with (go_at_call 90; refine (specSigValid_any _ ⟨sorts, ops⟩ _ ⟨_, rfl, H.out.keep HD.out.below⟩).mono ?_; rw [Hv.out]; rintro e w1 ⟨rfl, hb⟩)
        go_ret
        have s1 := HD.out.below.size
        exact ⟨ret_bool (by rw [HP.out, Hv.out]; simp), (HB.out.trans (HD.out.below.mono (by simp))).trans (hb.mono (by simp at s1; omega))⟩
      | true =>
        have Hv := Lib.hid hvb
        clear hvb
        go_wp2_with (go_at_call 90; refine (specSigValid_any _ ⟨sorts, ops⟩ _ ⟨_, rfl, H.out.keep HD.out.below⟩).mono ?_; rw [Hv.out]; rintro e w1 ⟨rfl, hb⟩)
        go_ret
        have s1 := HD.out.below.size
        exact ⟨ret_bool (by rw [HP.out, Hv.out, HE.out]; simp; omega), (HB.out.trans (HD.out.below.mono (by simp))).trans (hb.mono (by simp at s1; omega))⟩
end

section
open Go.ChangeShapes Go.WideShapes Go.ChangeAt Go.RowKit Go.Deep Go.Joins
set_option linter.unusedVariables false

def SmallR (rows : List (List Int)) : Prop := ∀ row ∈ rows, Small row
theorem small_nil : Small [] := fun x hx => by simp at hx
theorem small_wf {zs : List Int} (h : ∀ n ∈ zs, (Lit.int .i64 n).wf = true) : Small zs := fun x hx => by
  have hw := h x hx
  have : -9223372036854775808 ≤ x ∧ x ≤ 9223372036854775807 := by simpa [Lit.wf, IntKind.min, IntKind.max, IntKind.signed, IntKind.bits] using hw
  exact this.2
theorem small_take {zs : List Int} (h : Small zs) (n : Nat) : Small (zs.take n) := fun x hx => h x (List.mem_of_mem_take hx)
theorem plain_cell {w : World} {x : Addr} {zs : List Int} {i : Nat} (hcell : ∀ i, i < zs.length → w.cell? (x.add i) = some (.int .i64 (zs.getD i 0))) (hi : i < zs.length) : ∃ b o, x = ⟨b, o, none⟩ ∧ w.cell? ⟨b, o + i, none⟩ = some (.int .i64 zs[i]) := by
  have hc := hcell i hi
  rw [getD_at _ hi] at hc
  obtain ⟨b, off, spot⟩ := x
  have h0 := hcell 0 (by omega)
  have hspot : spot = none := by simpa [Addr.add] using World.cell?_spot h0
  subst hspot
  rw [add_plain] at hc
  exact ⟨b, off, rfl, hc⟩
set_option maxRecDepth 100000 in
theorem ints_of {H : Type} {enc : TypeId × Value → H} {W : World} {base : Nat} {v : Value} {d : DataW H} {p : List MemPlace} (hv : Value.okWide Try.prog W .any base 28 v)
    (h : DataW.Trod enc Try.prog W 0 (fun _ => true) true 28 v d p) : ∃ xs, RInts W v xs ∧ Small xs := by
  obtain ⟨a0, len0, cap0, rfl⟩ := okWide_slice Try.underlying28 hv
  obtain ⟨fuel, hf⟩ := h
  rcases open_ints Try.underlying28 Try.underlying3 (by kernel_rfl) hf with ⟨hcs, _⟩ | ⟨x, l, c, zs, hcs, _, hl, hm, hz, _, hcell, hwz⟩
  · simp [Value.cells] at hcs
    obtain ⟨rfl, rfl, rfl⟩ := hcs
    exact ⟨[], RInts.nil _, small_nil⟩
  · simp [Value.cells] at hcs
    obtain ⟨rfl, rfl, rfl⟩ := hcs
    simp only [if_true] at hz
    have ht : (zs.take len0).length = len0 := by rw [List.length_take]; omega
    refine ⟨zs.take len0, ⟨some x, cap0, by rw [ht], by rw [ht]; exact hl, hm, fun j y hj => ?_⟩, small_take (small_wf hwz) _⟩
    rw [List.getElem?_take] at hj
    split at hj
    · obtain ⟨hjl, rfl⟩ := List.getElem?_eq_some_iff.1 hj
      obtain ⟨b, o, rfl, hc⟩ := plain_cell hcell hjl
      exact ⟨b, o, rfl, hc⟩
    · cases hj
set_option maxRecDepth 100000 in
theorem rows_of {H : Type} {enc : TypeId × Value → H} {W : World} {base : Nat} {v : Value} {d : DataW H} {p : List MemPlace} (hv : Value.okWide Try.prog W .any base 22 v)
    (h : DataW.Trod enc Try.prog W 0 (fun _ => true) true 22 v d p) : ∃ xs, RRows W v xs ∧ SmallR xs := by
  obtain ⟨a0, len0, cap0, rfl⟩ := okWide_slice Try.underlying22 hv
  obtain ⟨fuel, hf⟩ := h
  rcases open_int_rows Try.underlying22 Try.underlying28 Try.underlying3 (by kernel_rfl) (by kernel_rfl) hf with ⟨hcs, -⟩ | ⟨ad, len, cap, A, L, C, Z, hcs, -, hl, hm, -, hr⟩
  · simp [Value.cells] at hcs
    obtain ⟨rfl, rfl, rfl⟩ := hcs
    exact ⟨[], RRows.nil _, fun row hr => by simp at hr⟩
  · simp [Value.cells] at hcs
    obtain ⟨rfl, rfl, rfl⟩ := hcs
    refine ⟨(List.range len0).map fun r => (Z r).take (L r), ?_, fun row hrow => ?_⟩
    · refine ⟨some ad, cap0, by simp, by simpa using hl, hm, fun j row hj => ?_⟩
      simp only [List.getElem?_map] at hj
      obtain ⟨r, hr', rfl⟩ := Option.map_eq_some_iff.1 hj
      obtain ⟨hjl, hrj⟩ := List.getElem?_eq_some_iff.1 hr'
      simp at hjl hrj
      subst hrj
      obtain ⟨hc, h1, h2, h3, h4, h5, h6⟩ := hr j (by omega)
      obtain ⟨b, o, sp⟩ := ad
      have hsp : sp = none := by
        have := spot_none (hr 0 (by omega)).1
        simpa [Addr.add] using this
      subst hsp
      rw [add_plain] at hc
      refine ⟨b, o, _, rfl, hc, A j, C j, by rw [List.length_take]; congr 1; omega, by rw [List.length_take]; omega, h2, fun i x hx => ?_⟩
      rw [List.getElem?_take] at hx
      split at hx
      · obtain ⟨hil, rfl⟩ := List.getElem?_eq_some_iff.1 hx
        cases hA : A j with
        | none => have := h5 hA; omega
        | some a' =>
          obtain ⟨-, hcell⟩ := h6 a' hA
          obtain ⟨b', o', rfl, hc'⟩ := plain_cell (by rw [h3]; exact hcell) hil
          exact ⟨b', o', rfl, hc'⟩
      · cases hx
    · obtain ⟨r, hr', rfl⟩ := List.mem_map.1 hrow
      simp at hr'
      obtain ⟨hc, h1, h2, h3, h4, h5, h6⟩ := hr r (by omega)
      exact small_take (small_wf h4) _
end

section
open Go.RowKit
set_option linter.unusedVariables false

def OInts (w : World) (B : Nat) (v : Value) (xs : List Int) : Prop := w.ownsRow B 3 1 v xs.length (xs.map (Value.int .i64))

def ORows (w : World) (B : Nat) (v : Value) (rows : List (List Int)) : Prop :=
  ∃ us : List Value, w.ownsRow B 28 1 v rows.length us ∧ us.length = rows.length ∧
    (∀ (j : Nat) (u : Value) (row : List Int), us[j]? = some u → rows[j]? = some row → OInts w B u row) ∧
    (∀ (i j : Nat) (u u' : Value), i < j → us[i]? = some u → us[j]? = some u' → u.ownBlock = none ∨ u.ownBlock ≠ u'.ownBlock)

def OSig (w : World) (B : Nat) (v : Value) (s : MSig) : Prop := ∃ u, v = .agg #[.int .i64 s.sorts, u] ∧ ORows w B u s.ops

section
variable {w w' : World} {B B' : Nat} {v u : Value} {xs : List Int} {rows : List (List Int)} {s : MSig}

theorem own_keep {e : TypeId} {size n : Nat} {zs : List Value} (h : w.ownsRow B e size v n zs) (hb : Below w.heap.size w w') : w'.ownsRow B e size v n zs := by
  refine ⟨h.1, ?_⟩
  rcases h.2 with h2 | ⟨g, cap, cur, hv, hg, hh, r⟩
  · exact .inl h2
  · exact .inr ⟨g, cap, cur, hv, hg, by rw [hb.block g (Array.getElem?_eq_some_iff.1 hh).1]; exact hh, r⟩
theorem own_base {e : TypeId} {size n : Nat} {zs : List Value} (h : w.ownsRow B e size v n zs) (hB : B' ≤ B) : w.ownsRow B' e size v n zs := by
  refine ⟨h.1, ?_⟩
  rcases h.2 with h2 | ⟨g, cap, cur, hv, hg, hh, r⟩
  · exact .inl h2
  · exact .inr ⟨g, cap, cur, hv, by omega, hh, r⟩
/-- from a higher base: the row's block lies there -/
theorem own_raise {e : TypeId} {size n : Nat} {zs : List Value} (h : w.ownsRow B e size v n zs) (hB : ∀ k, v.ownBlock = some k → B' ≤ k) : w.ownsRow B' e size v n zs := by
  refine ⟨h.1, ?_⟩
  rcases h.2 with h2 | ⟨g, cap, cur, rfl, hg, hh, r⟩
  · exact .inl h2
  · exact .inr ⟨g, cap, cur, rfl, hB g rfl, hh, r⟩
theorem own_grown {e : TypeId} {size n : Nat} {zs : List Value} {row : Option Nat} (h : w.ownsRow B e size v n zs) (hg : w.grownBy w' row) (hne : v.ownBlock = none ∨ v.ownBlock ≠ row) : w'.ownsRow B e size v n zs := h.kept hg hne
/-- rows of different element types lie in different blocks -/
theorem own_ne {e e' : TypeId} {size size' n n' B2 : Nat} {zs zs' : List Value} (h : w.ownsRow B e size v n zs) (h' : w.ownsRow B2 e' size' u n' zs') (hne : e ≠ e') : v.ownBlock = none ∨ v.ownBlock ≠ u.ownBlock := by
  rcases h.2 with ⟨rfl, _⟩ | ⟨g, cap, cur, rfl, hg, hh, r⟩
  · exact .inl rfl
  · right
    rcases h'.2 with ⟨rfl, _⟩ | ⟨g', cap', cur', rfl, hg', hh', r'⟩
    · simp [Value.ownBlock]
    · intro he
      simp [Value.ownBlock] at he
      subst he
      rw [hh] at hh'
      injection hh' with hh'
      injection hh' with _ ht
      exact hne ht
theorem own_lt {e : TypeId} {size n : Nat} {zs : List Value} (h : w.ownsRow B e size v n zs) : ∀ k, v.ownBlock = some k → B ≤ k ∧ k < w.heap.size := h.lt

theorem OInts.keep (h : OInts w B v xs) (hb : Below w.heap.size w w') : OInts w' B v xs := own_keep h hb
theorem OInts.base (h : OInts w B v xs) (hB : B' ≤ B) : OInts w B' v xs := own_base h hB
theorem OInts.nil (w : World) (B : Nat) : OInts w B (.slice none 0 0) [] := World.ownsRow_nil _ _ _ _
theorem ORows.nil (w : World) (B : Nat) : ORows w B (.slice none 0 0) [] := ⟨[], World.ownsRow_nil _ _ _ _, rfl, fun j u row h => by simp at h, fun i j u u' _ h => by simp at h⟩
theorem ORows.keep (h : ORows w B v rows) (hb : Below w.heap.size w w') : ORows w' B v rows := by
  obtain ⟨us, h1, h2, h3, h4⟩ := h
  exact ⟨us, own_keep h1 hb, h2, fun j u row a b => (h3 j u row a b).keep hb, h4⟩
theorem ORows.base (h : ORows w B v rows) (hB : B' ≤ B) : ORows w B' v rows := by
  obtain ⟨us, h1, h2, h3, h4⟩ := h
  exact ⟨us, own_base h1 hB, h2, fun j u row a b => (h3 j u row a b).base hB, h4⟩
theorem OSig.keep (h : OSig w B v s) (hb : Below w.heap.size w w') : OSig w' B v s := by
  obtain ⟨u, e, h⟩ := h; exact ⟨u, e, h.keep hb⟩
theorem OSig.base (h : OSig w B v s) (hB : B' ≤ B) : OSig w B' v s := by
  obtain ⟨u, e, h⟩ := h; exact ⟨u, e, h.base hB⟩

theorem own_reads {e : TypeId} {n : Nat} {zs : List Value} (h : w.ownsRow B e 1 v n zs) : ∃ A c, v = .slice A n c ∧ n ≤ c ∧ c ≤ maxLen ∧ ∀ j x, zs[j]? = some x → ∃ b o, A = some ⟨b, o, none⟩ ∧ w.cell? ⟨b, o + j, none⟩ = some x := by
  obtain ⟨hl, h⟩ := h
  rcases h with ⟨rfl, rfl⟩ | ⟨g, cap, cur, rfl, hg, hh, h1, h2, h3, h4⟩
  · refine ⟨none, 0, rfl, Nat.le_refl _, Nat.zero_le _, fun j x hj => ?_⟩
    have : zs = [] := List.eq_nil_of_length_eq_zero (by simpa using hl)
    subst this
    simp at hj
  · refine ⟨_, cap, rfl, h1, h2, fun j x hj => ⟨g, 0, rfl, ?_⟩⟩
    subst h4
    rw [List.getElem?_take] at hj
    split at hj
    · simpa [World.cell?, hh] using hj
    · cases hj
theorem OInts.reads (h : OInts w B v xs) : RInts w v xs := by
  obtain ⟨A, c, e, h1, h2, h3⟩ := own_reads h
  exact ⟨A, c, e, h1, h2, fun j x hj => h3 j _ (by rw [List.getElem?_map, hj]; rfl)⟩
theorem ORows.reads (h : ORows w B v rows) : RRows w v rows := by
  obtain ⟨us, h0, hl, hr, -⟩ := h
  obtain ⟨A, c, e, h1, h2, h3⟩ := own_reads h0
  refine ⟨A, c, e, h1, h2, fun j row hj => ?_⟩
  have hjl : j < us.length := by rw [hl]; exact (List.getElem?_eq_some_iff.1 hj).1
  obtain ⟨b, o, ea, hc⟩ := h3 j us[j] (List.getElem?_eq_getElem hjl)
  exact ⟨b, o, us[j], ea, hc, (hr j us[j] row (List.getElem?_eq_getElem hjl) hj).reads⟩
theorem OSig.reads (h : OSig w B v s) : RSig w v s := by
  obtain ⟨u, e, h⟩ := h; exact ⟨u, e, h.reads⟩

theorem OInts.blk_ne {zs : List Value} {n B2 : Nat} (h : OInts w B v xs) (h' : w.ownsRow B2 28 1 u n zs) : v.ownBlock = none ∨ v.ownBlock ≠ u.ownBlock := own_ne h h' (by decide)

/-- behind 's = append(s, row)': one row more. w: ahead of the law; w1: behind it. -/
theorem ORows.push {us : List Value} {w1 : World} {v' rv : Value} {row : List Int} (h1 : w.ownsRow B 28 1 v rows.length us) (h2 : us.length = rows.length)
    (h3 : ∀ (j : Nat) (u : Value) (row : List Int), us[j]? = some u → rows[j]? = some row → OInts w B u row) (h4 : ∀ (i j : Nat) (u u' : Value), i < j → us[i]? = some u → us[j]? = some u' → u.ownBlock = none ∨ u.ownBlock ≠ u'.ownBlock)
    (hr : OInts w B rv row) (hne : ∀ (i : Nat) (u : Value), us[i]? = some u → u.ownBlock = none ∨ u.ownBlock ≠ rv.ownBlock) (hg : w.grownBy w1 v.ownBlock) (hv' : w1.ownsRow B 28 1 v' (rows.length + 1) (us ++ [rv])) :
    ORows w1 B v' (rows ++ [row]) := by
  have keep1 : ∀ {u : Value} {r : List Int}, OInts w B u r → OInts w1 B u r := fun hu => own_grown hu hg (hu.blk_ne h1)
  refine ⟨us ++ [rv], by simpa using hv', by simp [h2], fun j u r hu hrow => ?_, fun i j u u' hij hi hj => ?_⟩
  · rcases Nat.lt_or_ge j us.length with hj | hj
    · rw [List.getElem?_append_left hj] at hu
      rw [List.getElem?_append_left (by omega)] at hrow
      exact keep1 (h3 j u r hu hrow)
    · rw [List.getElem?_append_right hj] at hu
      rw [List.getElem?_append_right (by omega)] at hrow
      rw [h2] at hu
      rcases hk : j - rows.length with _ | m
      · rw [hk] at hu hrow
        simp at hu hrow
        subst hu hrow
        exact keep1 hr
      · rw [hk] at hu
        simp at hu
  · rcases Nat.lt_or_ge j us.length with hjl | hjl
    · rw [List.getElem?_append_left (by omega)] at hi
      rw [List.getElem?_append_left hjl] at hj
      exact h4 i j u u' hij hi hj
    · rw [List.getElem?_append_right hjl] at hj
      rcases hk : j - us.length with _ | m
      · rw [hk] at hj
        simp at hj
        subst hj
        have hil : i < us.length := by omega
        rw [List.getElem?_append_left hil] at hi
        exact hne i u hi
      · rw [hk] at hj
        simp at hj
end
end

section
open Go.RowKit
set_option linter.unusedVariables false

structure MEq where
  vars : List Int
  left : List Int
  right : List Int
structure MThy where
  over : MSig
  eqs : List MEq

def REq (w : World) (v : Value) (e : MEq) : Prop := ∃ a b c, v = .agg #[a, b, c] ∧ RInts w a e.vars ∧ RInts w b e.left ∧ RInts w c e.right
/-- a list of equations: three cells an element -/
def REqs (w : World) (v : Value) (es : List MEq) : Prop :=
  ∃ A c, v = .slice A es.length c ∧ es.length ≤ c ∧ c ≤ maxLen ∧ ∀ j e, es[j]? = some e → ∃ b o x y z, A = some ⟨b, o, none⟩ ∧
    w.cell? ⟨b, o + j * 3, none⟩ = some x ∧ w.cell? ⟨b, o + j * 3 + 1, none⟩ = some y ∧ w.cell? ⟨b, o + j * 3 + 2, none⟩ = some z ∧ RInts w x e.vars ∧ RInts w y e.left ∧ RInts w z e.right
def RThy (w : World) (v : Value) (t : MThy) : Prop := ∃ u x, v = .agg #[.int .i64 t.over.sorts, u, x] ∧ RRows w u t.over.ops ∧ REqs w x t.eqs

section
variable {w w' : World} {v : Value} {e : MEq} {es : List MEq} {t : MThy}
theorem REq.keep (h : REq w v e) (hb : Below w.heap.size w w') : REq w' v e := by
  obtain ⟨a, b, c, rfl, h1, h2, h3⟩ := h; exact ⟨a, b, c, rfl, h1.keep hb, h2.keep hb, h3.keep hb⟩
theorem REqs.keep (h : REqs w v es) (hb : Below w.heap.size w w') : REqs w' v es := by
  obtain ⟨A, c, e, h1, h2, h3⟩ := h
  refine ⟨A, c, e, h1, h2, fun j x hj => ?_⟩
  obtain ⟨b, o, x, y, z, e, c1, c2, c3, r1, r2, r3⟩ := h3 j x hj
  exact ⟨b, o, x, y, z, e, cell_keep hb c1, cell_keep hb c2, cell_keep hb c3, r1.keep hb, r2.keep hb, r3.keep hb⟩
theorem RThy.keep (h : RThy w v t) (hb : Below w.heap.size w w') : RThy w' v t := by
  obtain ⟨u, x, rfl, h1, h2⟩ := h; exact ⟨u, x, rfl, h1.keep hb, h2.keep hb⟩
theorem REqs.len (h : REqs w v es) : es.length ≤ 9223372036854775807 := by
  obtain ⟨A, c, e, h1, h2, h3⟩ := h; rw [maxLen_eq] at h2; omega
theorem REqs.nil (w : World) : REqs w (.slice none 0 0) [] := ⟨none, 0, rfl, Nat.le_refl _, Nat.zero_le _, fun j x h => by simp at h⟩
theorem REqs.form (h : REqs w v es) : ∃ A c, v = .slice A es.length c ∧ es.length ≤ c ∧ c ≤ 9223372036854775807 := by
  obtain ⟨A, c, e, h1, h2, h3⟩ := h; exact ⟨A, c, e, h1, h2⟩
theorem REqs.at_ (h : REqs w v es) {k : Nat} (hk : k < es.length) : ∃ b o c x y z, v = .slice (some ⟨b, o, none⟩) es.length c ∧
    w.cell? ⟨b, o + k * 3, none⟩ = some x ∧ w.cell? ⟨b, o + k * 3 + 1, none⟩ = some y ∧ w.cell? ⟨b, o + k * 3 + 2, none⟩ = some z ∧ RInts w x es[k].vars ∧ RInts w y es[k].left ∧ RInts w z es[k].right := by
  obtain ⟨A, c, e, h1, h2, h3⟩ := h
  obtain ⟨b, o, x, y, z, rfl, r⟩ := h3 k es[k] (List.getElem?_eq_getElem hk)
  exact ⟨b, o, c, x, y, z, e, r⟩
theorem REq.form (h : REq w v e) : ∃ A a B b C c, v = .agg #[.slice A e.vars.length a, .slice B e.left.length b, .slice C e.right.length c] := by
  obtain ⟨a, b, c, rfl, h1, h2, h3⟩ := h
  obtain ⟨A, a, rfl, -⟩ := h1.form
  obtain ⟨B, b, rfl, -⟩ := h2.form
  obtain ⟨C, c, rfl, -⟩ := h3.form
  exact ⟨_, _, _, _, _, _, rfl⟩
theorem RThy.form (h : RThy w v t) : ∃ A a B b, v = .agg #[.int .i64 t.over.sorts, .slice A t.over.ops.length a, .slice B t.eqs.length b] := by
  obtain ⟨a, b, rfl, h1, h2⟩ := h
  obtain ⟨A, a, rfl, -⟩ := h1.form
  obtain ⟨B, b, rfl, -⟩ := h2.form
  exact ⟨_, _, _, _, rfl⟩
theorem RSig.form {s : MSig} (h : RSig w v s) : ∃ A a, v = .agg #[.int .i64 s.sorts, .slice A s.ops.length a] := by
  obtain ⟨a, rfl, h1⟩ := h
  obtain ⟨A, a, rfl, -⟩ := h1.form
  exact ⟨_, _, rfl⟩
theorem REq.of {a b c : Value} (h : REq w (.agg #[a, b, c]) e) : RInts w a e.vars ∧ RInts w b e.left ∧ RInts w c e.right := by
  obtain ⟨a', b', c', he, h1, h2, h3⟩ := h
  injection he with he
  simp at he
  obtain ⟨rfl, rfl, rfl⟩ := he
  exact ⟨h1, h2, h3⟩
theorem RThy.of {n a b : Value} (h : RThy w (.agg #[n, a, b]) t) : n = .int .i64 t.over.sorts ∧ RRows w a t.over.ops ∧ REqs w b t.eqs := by
  obtain ⟨a', b', he, h1, h2⟩ := h
  injection he with he
  simp at he
  obtain ⟨rfl, rfl, rfl⟩ := he
  exact ⟨rfl, h1, h2⟩
theorem RSig.of {n a : Value} {s : MSig} (h : RSig w (.agg #[n, a]) s) : n = .int .i64 s.sorts ∧ RRows w a s.ops := by
  obtain ⟨a', he, h1⟩ := h
  injection he with he
  simp at he
  obtain ⟨rfl, rfl⟩ := he
  exact ⟨rfl, h1⟩
end

/-- an operation that its guard leaves out -/
theorem ite_off {c : Bool} {A B : Prop} (h : c = false) (hb : B) : if c = true then A else B := by rw [h]; simpa using hb
/-- the cells of a box, the newest block -/
theorem bx_at (w : World) (cs : Array Value) (t : TypeId) {k : Nat} {u : Value} (h : cs[k]? = some u) : (w.alloc (.cells cs t)).cell? ⟨w.heap.size, k, none⟩ = some u := by
  rw [World.cell?_alloc_at _ _ _ _ rfl]; exact h
theorem bx3 (w : World) (a b c : Value) (t : TypeId) : (w.alloc (.cells #[a, b, c] t)).cell? ⟨w.heap.size, 0, none⟩ = some a ∧ (w.alloc (.cells #[a, b, c] t)).cell? ⟨w.heap.size, 1, none⟩ = some b ∧ (w.alloc (.cells #[a, b, c] t)).cell? ⟨w.heap.size, 2, none⟩ = some c :=
  ⟨bx_at w _ _ rfl, bx_at w _ _ rfl, bx_at w _ _ rfl⟩
theorem bx4 (w : World) (a b c d : Value) (t : TypeId) : (w.alloc (.cells #[a, b, c, d] t)).cell? ⟨w.heap.size, 0, none⟩ = some a ∧ (w.alloc (.cells #[a, b, c, d] t)).cell? ⟨w.heap.size, 1, none⟩ = some b ∧ (w.alloc (.cells #[a, b, c, d] t)).cell? ⟨w.heap.size, 2, none⟩ = some c ∧ (w.alloc (.cells #[a, b, c, d] t)).cell? ⟨w.heap.size, 3, none⟩ = some d :=
  ⟨bx_at w _ _ rfl, bx_at w _ _ rfl, bx_at w _ _ rfl, bx_at w _ _ rfl⟩

/-- lists of rows that a call has made, in whatever cells of a block -/
def ORowsT (T : TypeId) (size n : Nat) (w : World) (B : Nat) (v : Value) (rows : List (List Int)) : Prop :=
  ∃ us : List Value, w.ownsRow B T size v n us ∧ us.length = rows.length ∧
    (∀ (j : Nat) (u : Value) (row : List Int), us[j]? = some u → rows[j]? = some row → OInts w B u row) ∧
    (∀ (i j : Nat) (u u' : Value), i < j → us[i]? = some u → us[j]? = some u' → u.ownBlock = none ∨ u.ownBlock ≠ u'.ownBlock)
end

section
open Go.RowKit
set_option linter.unusedVariables false

def eqOkB (s : MSig) (e : MEq) : Bool := decide (0 ≤ sortM s e.vars e.left) && decide (sortM s e.vars e.right = sortM s e.vars e.left)
def thyB (t : MThy) : Bool := (validB t.over && decide (t.eqs.length ≤ 6)) && t.eqs.all (eqOkB t.over)
def SmallE (e : MEq) : Prop := Small e.left ∧ Small e.right
def SmallT (t : MThy) : Prop := ∀ e ∈ t.eqs, SmallE e
/-- rows of an equation that are not too long -/
def FitsE (e : MEq) : Prop := e.vars.length ≤ 1048576 ∧ e.left.length ≤ 1048576 ∧ e.right.length ≤ 1048576
def FitsEs (es : List MEq) : Prop := es.length ≤ 1048576 ∧ ∀ e ∈ es, FitsE e
def sameE (a b : MEq) : Bool := (sameI a.vars b.vars && sameI a.left b.left) && sameI a.right b.right
theorem sameE_self (a : MEq) : sameE a a = true := by unfold sameE sameI; simp
theorem sameE_eq {a b : MEq} : sameE a b = true ↔ a = b := by
  obtain ⟨a1, a2, a3⟩ := a
  obtain ⟨b1, b2, b3⟩ := b
  unfold sameE sameI
  simp [and_assoc]
def sameEs : List MEq → List MEq → Bool
  | [], [] => true
  | a :: xs, b :: ys => sameE a b && sameEs xs ys
  | _, _ => false
theorem sameEs_eq {xs bs : List MEq} : sameEs xs bs = true ↔ xs = bs := by
  induction xs generalizing bs with
  | nil => cases bs <;> simp [sameEs]
  | cons a xs ih => cases bs with
    | nil => simp [sameEs]
    | cons b bs => simp [sameEs, sameE_eq, ih]
theorem sameEs_self (xs : List MEq) : sameEs xs xs = true := sameEs_eq.2 rfl
theorem eqOkB_bad {s : MSig} {e : MEq} (h : validB s = false) : eqOkB s e = false := by
  unfold eqOkB
  have : ¬ 0 ≤ sortM s e.vars e.left := fun hh => by
    obtain ⟨tm, hv, -⟩ := sortM_to hh
    rw [(vars_valid hv).1] at h
    cases h
  simp [this]
end

section
open Go.ChangeShapes Go.WideShapes Go.ChangeAt Go.RowKit Go.Deep Go.Joins
set_option linter.unusedVariables false

set_option maxRecDepth 100000 in
theorem ints_cell {H : Type} {enc : TypeId × Value → H} {W : World} {fuel : Nat} {u : Value} {x : DataW H × List MemPlace} (h : DataW.trod enc Try.prog W 0 (fun _ => true) true fuel 28 [u] = some x) : ∃ xs, RInts W u xs ∧ Small xs := by
  rcases open_ints Try.underlying28 Try.underlying3 (by kernel_rfl) h with ⟨hcs, _⟩ | ⟨x, l, c, zs, hcs, _, hl, hm, hz, _, hcell, hwz⟩
  · simp at hcs
    subst hcs
    exact ⟨[], RInts.nil _, small_nil⟩
  · simp at hcs
    subst hcs
    simp only [if_true] at hz
    have ht : (zs.take l).length = l := by rw [List.length_take]; omega
    refine ⟨zs.take l, ⟨some x, c, by rw [ht], by rw [ht]; exact hl, hm, fun j y hj => ?_⟩, small_take (small_wf hwz) _⟩
    rw [List.getElem?_take] at hj
    split at hj
    · obtain ⟨hjl, rfl⟩ := List.getElem?_eq_some_iff.1 hj
      obtain ⟨b, o, rfl, hc⟩ := plain_cell hcell hjl
      exact ⟨b, o, rfl, hc⟩
    · cases hj
set_option maxRecDepth 100000 in
theorem rows_cell {H : Type} {enc : TypeId × Value → H} {W : World} {fuel : Nat} {u : Value} {x : DataW H × List MemPlace} (hf : DataW.trod enc Try.prog W 0 (fun _ => true) true fuel 22 [u] = some x) : ∃ xs, RRows W u xs ∧ SmallR xs := by
  rcases open_int_rows Try.underlying22 Try.underlying28 Try.underlying3 (by kernel_rfl) (by kernel_rfl) hf with ⟨hcs, -⟩ | ⟨ad, len, cap, A, L, C, Z, hcs, -, hl, hm, -, hr⟩
  · simp at hcs
    subst hcs
    exact ⟨[], RRows.nil _, fun row hr => by simp at hr⟩
  · simp at hcs
    subst hcs
    refine ⟨(List.range len).map fun r => (Z r).take (L r), ?_, fun row hrow => ?_⟩
    · refine ⟨some ad, cap, by simp, by simpa using hl, hm, fun j row hj => ?_⟩
      simp only [List.getElem?_map] at hj
      obtain ⟨r, hr', rfl⟩ := Option.map_eq_some_iff.1 hj
      obtain ⟨hjl, hrj⟩ := List.getElem?_eq_some_iff.1 hr'
      simp at hjl hrj
      subst hrj
      obtain ⟨hc, h1, h2, h3, h4, h5, h6⟩ := hr j (by omega)
      obtain ⟨b, o, sp⟩ := ad
      have hsp : sp = none := by
        have := spot_none (hr 0 (by omega)).1
        simpa [Addr.add] using this
      subst hsp
      rw [add_plain] at hc
      refine ⟨b, o, _, rfl, hc, A j, C j, by rw [List.length_take]; congr 1; omega, by rw [List.length_take]; omega, h2, fun i x hx => ?_⟩
      rw [List.getElem?_take] at hx
      split at hx
      · obtain ⟨hil, rfl⟩ := List.getElem?_eq_some_iff.1 hx
        cases hA : A j with
        | none => have := h5 hA; omega
        | some a' =>
          obtain ⟨-, hcell⟩ := h6 a' hA
          obtain ⟨b', o', rfl, hc'⟩ := plain_cell (by rw [h3]; exact hcell) hil
          exact ⟨b', o', rfl, hc'⟩
      · cases hx
    · obtain ⟨r, hr', rfl⟩ := List.mem_map.1 hrow
      simp at hr'
      obtain ⟨hc, h1, h2, h3, h4, h5, h6⟩ := hr r (by omega)
      exact small_take (small_wf h4) _

instance : Inhabited MEq := ⟨⟨[], [], []⟩⟩
instance : Inhabited MSig := ⟨⟨0, []⟩⟩

set_option maxRecDepth 100000 in
theorem cells_Eq : Try.prog.cellsOf 55 = 3 := by kernel_rfl
set_option maxRecDepth 100000 in
theorem eqs_cell {H : Type} {enc : TypeId × Value → H} {W : World} {fuel : Nat} {u : Value} {x : DataW H × List MemPlace} (hf : DataW.trod enc Try.prog W 0 (fun _ => true) true fuel 25 [u] = some x) : ∃ es, REqs W u es ∧ ∀ e ∈ es, SmallE e := by
  rcases open_slice Try.underlying25 hf with ⟨hcs, -⟩ | ⟨a, len, cap, m, n, D, Pl, hcs, hb, hl, hm, hmm, -, hx⟩
  · simp at hcs
    subst hcs
    exact ⟨[], REqs.nil _, fun e he => by simp at he⟩
  · simp at hcs
    subst hcs
    have hlm : len ≤ m := by rw [hmm]; split <;> omega
    have each : ∀ i, i < len → ∃ q : MEq, (∃ b o x y z, a = ⟨b, o, none⟩ ∧ W.cell? ⟨b, o + i * 3, none⟩ = some x ∧ W.cell? ⟨b, o + i * 3 + 1, none⟩ = some y ∧ W.cell? ⟨b, o + i * 3 + 2, none⟩ = some z ∧ RInts W x q.vars ∧ RInts W y q.left ∧ RInts W z q.right) ∧ SmallE q := by
      intro i hi
      obtain ⟨cs', h1, h2⟩ := hx i (by omega)
      rw [cells_Eq] at h1
      obtain ⟨-, hlen, hcell⟩ := World.cells?_some h1
      obtain ⟨y0, y1, y2, n', -, -, g0, g1, g2⟩ := trod_struct3 Try.underlying55 h2
      match cs', hlen with
      | [v0, v1, v2], _ =>
        have c0 := hcell 0 (by omega)
        have c1 := hcell 1 (by omega)
        have c2 := hcell 2 (by omega)
        have hsp0 : a.spot = none := by
          obtain ⟨cs0, k1, -⟩ := hx 0 (by omega)
          rw [cells_Eq] at k1
          obtain ⟨-, hl0, hc0⟩ := World.cells?_some k1
          have c := hc0 0 (by omega)
          rw [List.getElem?_eq_getElem (by omega)] at c
          have := spot_none c
          simpa [Addr.add] using this
        obtain ⟨b, o, sp⟩ := a
        simp only at hsp0
        subst hsp0
        rw [add_add, add_plain] at c0 c1 c2
        have k1 : Try.prog.cellsOf 28 = 1 := by kernel_rfl
        simp [k1] at g0 g1 g2
        obtain ⟨xs0, r0, -⟩ := ints_cell (u := v0) (by simpa using g0)
        obtain ⟨xs1, r1, s1⟩ := ints_cell (u := v1) (by simpa using g1)
        obtain ⟨xs2, r2, s2⟩ := ints_cell (u := v2) (by simpa using g2)
        exact ⟨⟨xs0, xs1, xs2⟩, ⟨b, o, v0, v1, v2, rfl, by simpa using c0, by simpa [Nat.add_assoc] using c1, by simpa [Nat.add_assoc] using c2, r0, r1, r2⟩, s1, s2⟩
    obtain ⟨q, hq⟩ := choose_lt each
    refine ⟨(List.range len).map q, ⟨some a, cap, by simp, by simpa using hl, hm, fun j e hj => ?_⟩, fun e he => ?_⟩
    · simp only [List.getElem?_map] at hj
      obtain ⟨r, hr', rfl⟩ := Option.map_eq_some_iff.1 hj
      obtain ⟨hjl, hrj⟩ := List.getElem?_eq_some_iff.1 hr'
      simp at hjl hrj
      subst hrj
      obtain ⟨⟨b, o, x, y, z, rfl, r⟩, -⟩ := hq j hjl
      exact ⟨b, o, x, y, z, rfl, r⟩
    · obtain ⟨r, hr', rfl⟩ := List.mem_map.1 he
      simp at hr'
      exact (hq r hr').2

set_option maxRecDepth 100000 in
theorem eq_of {H : Type} {enc : TypeId × Value → H} {W : World} {base : Nat} {v : Value} {d : DataW H} {p : List MemPlace} (hv : Value.okWide Try.prog W .any base 55 v)
    (h : DataW.Trod enc Try.prog W 0 (fun _ => true) true 55 v d p) : ∃ e, REq W v e ∧ SmallE e := by
  obtain ⟨v0, v1, v2, y0, y1, y2, n, rfl, -, -, h0, h1, h2⟩ := open_agg3 Try.underlying55 (by kernel_rfl) cells_Eq hv h
  obtain ⟨xs0, r0, -⟩ := ints_cell h0
  obtain ⟨xs1, r1, s1⟩ := ints_cell h1
  obtain ⟨xs2, r2, s2⟩ := ints_cell h2
  exact ⟨⟨xs0, xs1, xs2⟩, ⟨v0, v1, v2, rfl, r0, r1, r2⟩, s1, s2⟩

set_option maxRecDepth 100000 in
theorem cells_Thy : Try.prog.cellsOf 27 = 3 := by kernel_rfl
set_option maxRecDepth 100000 in
theorem thy_of {H : Type} {enc : TypeId × Value → H} {W : World} {base : Nat} {v : Value} {d : DataW H} {p : List MemPlace} (hv : Value.okWide Try.prog W .any base 27 v)
    (h : DataW.Trod enc Try.prog W 0 (fun _ => true) true 27 v d p) : ∃ t, RThy W v t ∧ SmallT t := by
  obtain ⟨cs, rfl, hsz⟩ := okWide_struct Try.underlying27 hv
  obtain ⟨c0, c1, c2, rfl⟩ := array3 (hsz.trans cells_Thy)
  obtain ⟨fuel, hf⟩ := h
  obtain ⟨y0, y1, n, -, -, h0, h1⟩ := trod_struct2 Try.underlying27 hf
  have k2 : Try.prog.cellsOf 24 = 2 := by kernel_rfl
  have k1 : Try.prog.cellsOf 25 = 1 := by kernel_rfl
  simp [Value.cells, k1, k2] at h0 h1
  obtain ⟨z0, z1, n', -, -, g0, g1⟩ := trod_struct2 Try.underlying24 h0
  have k3 : Try.prog.cellsOf 3 = 1 := by kernel_rfl
  have k4 : Try.prog.cellsOf 22 = 1 := by kernel_rfl
  simp [k3, k4] at g0 g1
  obtain ⟨a, e0, -, wa⟩ := DataW.trod_int Try.underlying3 g0
  simp at e0
  subst e0
  obtain ⟨rows, r1, -⟩ := rows_cell g1
  obtain ⟨es, r2, s2⟩ := eqs_cell h1
  exact ⟨⟨⟨a, rows⟩, es⟩, ⟨_, _, rfl, r1, r2⟩, s2⟩
end
end Go.Proofs.Ytbopcghbmbchkaa
