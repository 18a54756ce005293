/- How the rows and signatures of the program read in memory, and what keeps them readable. No walk. -/
import Derived.Test.YteccjnnhihbdhabRows
import Derived.WalkKit
import Derived.Lib.Hide
import Derived.Deep.Draws
import Derived.Deep.QuietTactic
import Derived.BigQuiet
namespace Go.Proofs.Yteccjnnhihbdhab
open Go.RowKit
set_option linter.unusedVariables false

def RInts (w : World) (v : Value) (xs : List Int) : Prop :=
  ∃ A c, v = .slice A xs.length c ∧ xs.length ≤ c ∧ c ≤ maxLen ∧ ∀ j x, xs[j]? = some x → ∃ b o, A = some ⟨b, o, none⟩ ∧ w.cell? ⟨b, o + j, none⟩ = some (.int .i64 x)

def RRows (w : World) (v : Value) (rows : List (List Int)) : Prop :=
  ∃ A c, v = .slice A rows.length c ∧ rows.length ≤ c ∧ c ≤ maxLen ∧ ∀ j row, rows[j]? = some row → ∃ b o u, A = some ⟨b, o, none⟩ ∧ w.cell? ⟨b, o + j, none⟩ = some u ∧ RInts w u row

structure MSig where
  sorts : Int
  ops : List (List Int)

def RSig (w : World) (v : Value) (s : MSig) : Prop := ∃ u, v = .agg #[.int .i64 s.sorts, u] ∧ RRows w u s.ops

theorem maxLen_eq : maxLen = 9223372036854775807 := rfl

section
variable {w w' : World} {xs : List Int} {rows : List (List Int)} {v : Value} {s : MSig}
theorem cell_keep (hb : Below w.heap.size w w') {a : Addr} {u : Value} (h : w.cell? a = some u) : w'.cell? a = some u :=
  (hb.cell (World.block_lt_of_cell? w a h)).trans h
theorem RInts.keep (h : RInts w v xs) (hb : Below w.heap.size w w') : RInts w' v xs := by
  obtain ⟨A, c, e, h1, h2, h3⟩ := h
  exact ⟨A, c, e, h1, h2, fun j x hj => by obtain ⟨b, o, e, hc⟩ := h3 j x hj; exact ⟨b, o, e, cell_keep hb hc⟩⟩
theorem RRows.keep (h : RRows w v rows) (hb : Below w.heap.size w w') : RRows w' v rows := by
  obtain ⟨A, c, e, h1, h2, h3⟩ := h
  exact ⟨A, c, e, h1, h2, fun j x hj => by obtain ⟨b, o, u, e, hc, hr⟩ := h3 j x hj; exact ⟨b, o, u, e, cell_keep hb hc, hr.keep hb⟩⟩
theorem RSig.keep (h : RSig w v s) (hb : Below w.heap.size w w') : RSig w' v s := by
  obtain ⟨u, e, hr⟩ := h; exact ⟨u, e, hr.keep hb⟩
theorem RInts.len (h : RInts w v xs) : xs.length ≤ 9223372036854775807 := by
  obtain ⟨A, c, e, h1, h2, h3⟩ := h; rw [maxLen_eq] at h2; omega
theorem RRows.len (h : RRows w v rows) : rows.length ≤ 9223372036854775807 := by
  obtain ⟨A, c, e, h1, h2, h3⟩ := h; rw [maxLen_eq] at h2; omega
theorem RInts.nil (w : World) : RInts w (.slice none 0 0) [] := ⟨none, 0, rfl, Nat.le_refl _, Nat.zero_le _, fun j x h => by simp at h⟩
theorem RRows.nil (w : World) : RRows w (.slice none 0 0) [] := ⟨none, 0, rfl, Nat.le_refl _, Nat.zero_le _, fun j x h => by simp at h⟩
/-- the element at k -/
theorem RInts.at_ (h : RInts w v xs) {k : Nat} (hk : k < xs.length) : ∃ b o c, v = .slice (some ⟨b, o, none⟩) xs.length c ∧ w.cell? ⟨b, o + k, none⟩ = some (.int .i64 xs[k]) := by
  obtain ⟨A, c, e, h1, h2, h3⟩ := h
  obtain ⟨b, o, rfl, hc⟩ := h3 k xs[k] (List.getElem?_eq_getElem hk)
  exact ⟨b, o, c, e, hc⟩
theorem RRows.at_ (h : RRows w v rows) {k : Nat} (hk : k < rows.length) : ∃ b o c u, v = .slice (some ⟨b, o, none⟩) rows.length c ∧ w.cell? ⟨b, o + k, none⟩ = some u ∧ RInts w u rows[k] := by
  obtain ⟨A, c, e, h1, h2, h3⟩ := h
  obtain ⟨b, o, u, rfl, hc, hr⟩ := h3 k rows[k] (List.getElem?_eq_getElem hk)
  exact ⟨b, o, c, u, e, hc, hr⟩
theorem RInts.form (h : RInts w v xs) : ∃ A c, v = .slice A xs.length c ∧ xs.length ≤ c ∧ c ≤ 9223372036854775807 := by
  obtain ⟨A, c, e, h1, h2, h3⟩ := h; exact ⟨A, c, e, h1, h2⟩
theorem RRows.form (h : RRows w v rows) : ∃ A c, v = .slice A rows.length c ∧ rows.length ≤ c ∧ c ≤ 9223372036854775807 := by
  obtain ⟨A, c, e, h1, h2, h3⟩ := h; exact ⟨A, c, e, h1, h2⟩
end
theorem below_alloc (w : World) (o : Obj) : Below w.heap.size w (w.alloc o) := (Below.refl _ _).alloc (Nat.le_refl _) o
theorem below_drewN {B : Nat} {a w : World} (h : Below B a w) (n : Nat) : Below B a (w.drewN n) := ⟨h.os, h.tape, h.output, h.size, h.block⟩
theorem ret_bool {a b : Bool} (h : a = b) : Ending.returned (.bool a) = .returned (.bool b) := by rw [h]
theorem ret_int {k : IntKind} {a b : Int} (h : a = b) : Ending.returned (.int k a) = .returned (.int k b) := by rw [h]
theorem take_all {α : Type} {l : List α} {k : Nat} (h : l.length ≤ k) : l.take k = l := List.take_of_length_le h

/-! quiet regions -/
theorem quiet_left {P : Program} {f : FuncId} {args : Array Value} {w : World} {n : Nat} {v : Value}
    (h : Calls P f args (w.drewN n) fun e w' => e = .returned v ∧ w.drewN n = w') : Calls P f args (w.drewN n) fun e w'' => e = .returned v ∧ ∃ m, w'' = w.drewN m :=
  h.mono fun _ _ ⟨he, hm⟩ => ⟨he, n, hm.symm⟩
/-- wr is w but for draws -/
def Drawn (w wr : World) : Prop := ∃ m, wr = w.drewN m
theorem Drawn.refl (w : World) : Drawn w w := ⟨0, rfl⟩
theorem Drawn.more {w wr : World} (h : Drawn w wr) (n : Nat) : Drawn w (wr.drewN n) := by
  obtain ⟨m, rfl⟩ := h; exact ⟨m + n, by rw [World.drewN_drewN]⟩
theorem Drawn.cell {w wr : World} (h : Drawn w wr) (a : Addr) : wr.cell? a = w.cell? a := by
  obtain ⟨m, rfl⟩ := h; rfl
theorem Drawn.below {w wr : World} (h : Drawn w wr) : Below w.heap.size w wr := by
  obtain ⟨m, rfl⟩ := h; exact below_drewN (Below.refl _ _) m

theorem quiet_drawn {P : Program} {f : FuncId} {args : Array Value} {w : World} {n : Nat} {v : Value}
    (h : Calls P f args (w.drewN n) fun e w' => e = .returned v ∧ Drawn (w.drewN n) w') : Calls P f args (w.drewN n) fun e w'' => e = .returned v ∧ ∃ m, w'' = w.drewN m :=
  h.mono fun _ _ ⟨he, m, hm⟩ => ⟨he, n + m, by rw [hm, World.drewN_drewN]⟩
theorem Drawn.trans {a b c : World} (h : Drawn a b) (k : Drawn b c) : Drawn a c := by
  obtain ⟨m, rfl⟩ := h; obtain ⟨n, rfl⟩ := k; exact ⟨m + n, by rw [World.drewN_drewN]⟩

/-! the plain functions -/
def inB (a lo hi : Int) : Bool := decide (lo ≤ a) && decide (a ≤ hi)
def belowB (xs : List Int) (m : Int) : Bool := xs.all fun x => decide (0 ≤ x) && decide (x < m)
theorem belowB_take {xs : List Int} {m : Int} {k : Nat} (hk : k < xs.length) : belowB (xs.take (k+1)) m = (belowB (xs.take k) m && (decide (0 ≤ xs[k]) && decide (xs[k] < m))) := by
  unfold belowB; rw [List.take_succ_eq_append_getElem hk, List.all_append]; simp
theorem belowB_bad {xs : List Int} {m : Int} {k : Nat} (hk : k < xs.length) (h : ¬ (0 ≤ xs[k] ∧ xs[k] < m)) : belowB xs m = false := by
  rw [belowB, List.all_eq_false]
  exact ⟨xs[k], List.getElem_mem hk, by simpa using h⟩
theorem sigOf_eta (s : MSig) : (⟨s.sorts, s.ops⟩ : MSig) = s := rfl
def rowB (sorts : Int) (row : List Int) : Bool := (decide (1 ≤ row.length) && decide (row.length ≤ 3)) && belowB row sorts
theorem all_take {α : Type} {p : α → Bool} {xs : List α} {k : Nat} (hk : k < xs.length) : (xs.take (k+1)).all p = ((xs.take k).all p && p xs[k]) := by
  rw [List.take_succ_eq_append_getElem hk, List.all_append]; simp
theorem all_bad {α : Type} {p : α → Bool} {xs : List α} {k : Nat} (hk : k < xs.length) (h : p xs[k] = false) : xs.all p = false := by
  rw [List.all_eq_false]; exact ⟨xs[k], List.getElem_mem hk, by simpa using h⟩
def sameI (xs ys : List Int) : Bool := decide (xs = ys)
def sameR (xs ys : List (List Int)) : Bool := decide (xs = ys)
theorem take_succ_eq {α : Type} {xs ys : List α} {k : Nat} (hx : k < xs.length) (hy : k < ys.length) (h : xs.take k = ys.take k) (he : xs[k] = ys[k]) : xs.take (k + 1) = ys.take (k + 1) := by
  rw [List.take_succ_eq_append_getElem hx, List.take_succ_eq_append_getElem hy, h, he]
theorem ne_of_at {α : Type} {xs ys : List α} {k : Nat} (hx : k < xs.length) (hy : k < ys.length) (he : xs[k] ≠ ys[k]) : xs ≠ ys := by
  rintro rfl; exact he rfl
theorem last_at {row : List Int} (h : 0 < row.length) : row.getLastD (-1) = row[row.length - 1] := by
  cases row with
  | nil => simp at h
  | cons a l => simp [List.getLast?_eq_getElem?]
theorem getD_at {α : Type} {l : List α} {k : Nat} (d : α) (hk : k < l.length) : l.getD k d = l[k] := by
  rw [List.getD_eq_getElem?_getD, List.getElem?_eq_getElem hk]; rfl
def validB (s : MSig) : Bool := (decide (1 ≤ s.sorts) && decide (s.sorts ≤ 3)) && decide (s.ops.length ≤ 6) && s.ops.all (rowB s.sorts)
def hasOpB (s : MSig) (op : Int) : Bool := validB s && (decide (0 ≤ op) && decide (op < s.ops.length))
def leavesM (s : MSig) (op : Int) : Int := if hasOpB s op then (s.ops.getD op.toNat []).getLastD (-1) else -1
def takesM (s : MSig) (op : Int) : List Int := if hasOpB s op then (s.ops.getD op.toNat []).dropLast else []
theorem valid_row {s : MSig} (h : validB s = true) {k : Nat} (hk : k < s.ops.length) : 1 ≤ s.ops[k].length ∧ s.ops[k].length ≤ 3 ∧ ∀ x ∈ s.ops[k], 0 ≤ x ∧ x < s.sorts := by
  unfold validB at h
  simp only [Bool.and_eq_true, List.all_eq_true] at h
  have := h.2 _ (List.getElem_mem hk)
  simp [rowB, belowB] at this
  exact ⟨this.1.1, this.1.2, this.2⟩
theorem valid_sorts {s : MSig} (h : validB s = true) : 1 ≤ s.sorts ∧ s.sorts ≤ 3 ∧ s.ops.length ≤ 6 := by
  unfold validB at h
  simp only [Bool.and_eq_true, decide_eq_true_eq] at h
  exact ⟨h.1.1.1, h.1.1.2, h.1.2⟩
theorem hasOp_nat {s : MSig} {op : Int} (h : hasOpB s op = true) : ∃ k : Nat, op = k ∧ k < s.ops.length ∧ validB s = true := by
  unfold hasOpB at h
  simp only [Bool.and_eq_true, decide_eq_true_eq] at h
  obtain ⟨k, rfl⟩ := Int.eq_ofNat_of_zero_le h.2.1
  exact ⟨k, rfl, by omega, h.1⟩
theorem leaves_nat {s : MSig} {k : Nat} (h : hasOpB s k = true) (hk : k < s.ops.length) : leavesM s k = s.ops[k].getLastD (-1) := by
  unfold leavesM
  rw [if_pos h, Int.toNat_natCast, getD_at _ hk]
theorem takes_nat {s : MSig} {k : Nat} (h : hasOpB s k = true) (hk : k < s.ops.length) : takesM s k = s.ops[k].dropLast := by
  unfold takesM
  rw [if_pos h, Int.toNat_natCast, getD_at _ hk]
end Go.Proofs.Yteccjnnhihbdhab
