/- How the rows and signatures of the program read in memory, and what keeps them readable. No walk. · What the proofs of the exact laws share: a signature that came in. · Contracts of the functions on signatures that only read. · The spec's SigValid: two loops, a region that draws in the inner one. · Operations of a signature; equality of rows and signatures. · Equality of rows, of lists of rows, of signatures (the exact laws' own). · Rows, lists of rows and signatures that a call itself has made: where they lie, and what keeps them. No walk. · The exact laws' measure and copy: szSig, toSig. · A row that is being filled, place by place. No walk. · The exact laws' copies: toIntS, toIntSS, toSig. · toSig. · Small words that the exact laws share. · The exact laws' marks: markIntS, heldIntS, markIntSS, markSig. -/
import Derived.Test.YtmmnamjgpfkababRows
import Derived.WalkKit
import Derived.Lib.Hide
import Derived.Deep.Draws
import Derived.Deep.QuietTactic
import Derived.BigQuiet
import Derived.ProofKit
import Derived.OpenShut
import Derived.ShutString
import Derived.ChangeOld
import Derived.Lib.SmallJoins
import Derived.Deep.Matrix
import Derived.Deep.RegionHeld3
import Derived.Deep.OwnRows
namespace Go.Proofs.Ytmmnamjgpfkabab
section
open Go.RowKit
set_option linter.unusedVariables false

def RInts (w : World) (v : Value) (xs : List Int) : Prop :=
  ∃ A c, v = .slice A xs.length c ∧ xs.length ≤ c ∧ c ≤ maxLen ∧ ∀ j x, xs[j]? = some x → ∃ b o, A = some ⟨b, o, none⟩ ∧ w.cell? ⟨b, o + j, none⟩ = some (.int .i64 x)

def RRows (w : World) (v : Value) (rows : List (List Int)) : Prop :=
  ∃ A c, v = .slice A rows.length c ∧ rows.length ≤ c ∧ c ≤ maxLen ∧ ∀ j row, rows[j]? = some row → ∃ b o u, A = some ⟨b, o, none⟩ ∧ w.cell? ⟨b, o + j, none⟩ = some u ∧ RInts w u row

structure MSig where
  sorts : Int
  ops : List (List Int)

def RSig (w : World) (v : Value) (s : MSig) : Prop := ∃ u, v = .agg #[.int .i64 s.sorts, u] ∧ RRows w u s.ops

theorem maxLen_eq : maxLen = 9223372036854775807 := rfl

section
variable {w w' : World} {xs : List Int} {rows : List (List Int)} {v : Value} {s : MSig}
theorem cell_keep (hb : Below w.heap.size w w') {a : Addr} {u : Value} (h : w.cell? a = some u) : w'.cell? a = some u :=
  (hb.cell (World.block_lt_of_cell? w a h)).trans h
theorem RInts.keep (h : RInts w v xs) (hb : Below w.heap.size w w') : RInts w' v xs := by
  obtain ⟨A, c, e, h1, h2, h3⟩ := h
  exact ⟨A, c, e, h1, h2, fun j x hj => by obtain ⟨b, o, e, hc⟩ := h3 j x hj; exact ⟨b, o, e, cell_keep hb hc⟩⟩
theorem RRows.keep (h : RRows w v rows) (hb : Below w.heap.size w w') : RRows w' v rows := by
  obtain ⟨A, c, e, h1, h2, h3⟩ := h
  exact ⟨A, c, e, h1, h2, fun j x hj => by obtain ⟨b, o, u, e, hc, hr⟩ := h3 j x hj; exact ⟨b, o, u, e, cell_keep hb hc, hr.keep hb⟩⟩
theorem RSig.keep (h : RSig w v s) (hb : Below w.heap.size w w') : RSig w' v s := by
  obtain ⟨u, e, hr⟩ := h; exact ⟨u, e, hr.keep hb⟩
theorem RInts.len (h : RInts w v xs) : xs.length ≤ 9223372036854775807 := by
  obtain ⟨A, c, e, h1, h2, h3⟩ := h; rw [maxLen_eq] at h2; omega
theorem RRows.len (h : RRows w v rows) : rows.length ≤ 9223372036854775807 := by
  obtain ⟨A, c, e, h1, h2, h3⟩ := h; rw [maxLen_eq] at h2; omega
theorem RInts.nil (w : World) : RInts w (.slice none 0 0) [] := ⟨none, 0, rfl, Nat.le_refl _, Nat.zero_le _, fun j x h => by simp at h⟩
theorem RRows.nil (w : World) : RRows w (.slice none 0 0) [] := ⟨none, 0, rfl, Nat.le_refl _, Nat.zero_le _, fun j x h => by simp at h⟩
/-- the element at k -/
theorem RInts.at_ (h : RInts w v xs) {k : Nat} (hk : k < xs.length) : ∃ b o c, v = .slice (some ⟨b, o, none⟩) xs.length c ∧ w.cell? ⟨b, o + k, none⟩ = some (.int .i64 xs[k]) := by
  obtain ⟨A, c, e, h1, h2, h3⟩ := h
  obtain ⟨b, o, rfl, hc⟩ := h3 k xs[k] (List.getElem?_eq_getElem hk)
  exact ⟨b, o, c, e, hc⟩
theorem RRows.at_ (h : RRows w v rows) {k : Nat} (hk : k < rows.length) : ∃ b o c u, v = .slice (some ⟨b, o, none⟩) rows.length c ∧ w.cell? ⟨b, o + k, none⟩ = some u ∧ RInts w u rows[k] := by
  obtain ⟨A, c, e, h1, h2, h3⟩ := h
  obtain ⟨b, o, u, rfl, hc, hr⟩ := h3 k rows[k] (List.getElem?_eq_getElem hk)
  exact ⟨b, o, c, u, e, hc, hr⟩
theorem RInts.form (h : RInts w v xs) : ∃ A c, v = .slice A xs.length c ∧ xs.length ≤ c ∧ c ≤ 9223372036854775807 := by
  obtain ⟨A, c, e, h1, h2, h3⟩ := h; exact ⟨A, c, e, h1, h2⟩
theorem RRows.form (h : RRows w v rows) : ∃ A c, v = .slice A rows.length c ∧ rows.length ≤ c ∧ c ≤ 9223372036854775807 := by
  obtain ⟨A, c, e, h1, h2, h3⟩ := h; exact ⟨A, c, e, h1, h2⟩
end
theorem below_alloc (w : World) (o : Obj) : Below w.heap.size w (w.alloc o) := (Below.refl _ _).alloc (Nat.le_refl _) o
theorem below_drewN {B : Nat} {a w : World} (h : Below B a w) (n : Nat) : Below B a (w.drewN n) := ⟨h.os, h.tape, h.output, h.size, h.block⟩
theorem ret_bool {a b : Bool} (h : a = b) : Ending.returned (.bool a) = .returned (.bool b) := by rw [h]
theorem ret_int {k : IntKind} {a b : Int} (h : a = b) : Ending.returned (.int k a) = .returned (.int k b) := by rw [h]
theorem take_all {α : Type} {l : List α} {k : Nat} (h : l.length ≤ k) : l.take k = l := List.take_of_length_le h

/-! quiet regions -/
theorem quiet_left {P : Program} {f : FuncId} {args : Array Value} {w : World} {n : Nat} {v : Value}
    (h : Calls P f args (w.drewN n) fun e w' => e = .returned v ∧ w.drewN n = w') : Calls P f args (w.drewN n) fun e w'' => e = .returned v ∧ ∃ m, w'' = w.drewN m :=
  h.mono fun _ _ ⟨he, hm⟩ => ⟨he, n, hm.symm⟩
/-- wr is w but for draws -/
def Drawn (w wr : World) : Prop := ∃ m, wr = w.drewN m
theorem Drawn.refl (w : World) : Drawn w w := ⟨0, rfl⟩
theorem Drawn.more {w wr : World} (h : Drawn w wr) (n : Nat) : Drawn w (wr.drewN n) := by
  obtain ⟨m, rfl⟩ := h; exact ⟨m + n, by rw [World.drewN_drewN]⟩
theorem Drawn.cell {w wr : World} (h : Drawn w wr) (a : Addr) : wr.cell? a = w.cell? a := by
  obtain ⟨m, rfl⟩ := h; rfl
theorem Drawn.below {w wr : World} (h : Drawn w wr) : Below w.heap.size w wr := by
  obtain ⟨m, rfl⟩ := h; exact below_drewN (Below.refl _ _) m

theorem quiet_drawn {P : Program} {f : FuncId} {args : Array Value} {w : World} {n : Nat} {v : Value}
    (h : Calls P f args (w.drewN n) fun e w' => e = .returned v ∧ Drawn (w.drewN n) w') : Calls P f args (w.drewN n) fun e w'' => e = .returned v ∧ ∃ m, w'' = w.drewN m :=
  h.mono fun _ _ ⟨he, m, hm⟩ => ⟨he, n + m, by rw [hm, World.drewN_drewN]⟩
theorem Drawn.trans {a b c : World} (h : Drawn a b) (k : Drawn b c) : Drawn a c := by
  obtain ⟨m, rfl⟩ := h; obtain ⟨n, rfl⟩ := k; exact ⟨m + n, by rw [World.drewN_drewN]⟩

/-! the plain functions -/
def inB (a lo hi : Int) : Bool := decide (lo ≤ a) && decide (a ≤ hi)
def belowB (xs : List Int) (m : Int) : Bool := xs.all fun x => decide (0 ≤ x) && decide (x < m)
theorem belowB_take {xs : List Int} {m : Int} {k : Nat} (hk : k < xs.length) : belowB (xs.take (k+1)) m = (belowB (xs.take k) m && (decide (0 ≤ xs[k]) && decide (xs[k] < m))) := by
  unfold belowB; rw [List.take_succ_eq_append_getElem hk, List.all_append]; simp
theorem belowB_bad {xs : List Int} {m : Int} {k : Nat} (hk : k < xs.length) (h : ¬ (0 ≤ xs[k] ∧ xs[k] < m)) : belowB xs m = false := by
  rw [belowB, List.all_eq_false]
  exact ⟨xs[k], List.getElem_mem hk, by simpa using h⟩
theorem sigOf_eta (s : MSig) : (⟨s.sorts, s.ops⟩ : MSig) = s := rfl
def rowB (sorts : Int) (row : List Int) : Bool := (decide (1 ≤ row.length) && decide (row.length ≤ 3)) && belowB row sorts
theorem all_take {α : Type} {p : α → Bool} {xs : List α} {k : Nat} (hk : k < xs.length) : (xs.take (k+1)).all p = ((xs.take k).all p && p xs[k]) := by
  rw [List.take_succ_eq_append_getElem hk, List.all_append]; simp
theorem all_bad {α : Type} {p : α → Bool} {xs : List α} {k : Nat} (hk : k < xs.length) (h : p xs[k] = false) : xs.all p = false := by
  rw [List.all_eq_false]; exact ⟨xs[k], List.getElem_mem hk, by simpa using h⟩
def sameI (xs ys : List Int) : Bool := decide (xs = ys)
def sameR (xs ys : List (List Int)) : Bool := decide (xs = ys)
theorem take_succ_eq {α : Type} {xs ys : List α} {k : Nat} (hx : k < xs.length) (hy : k < ys.length) (h : xs.take k = ys.take k) (he : xs[k] = ys[k]) : xs.take (k + 1) = ys.take (k + 1) := by
  rw [List.take_succ_eq_append_getElem hx, List.take_succ_eq_append_getElem hy, h, he]
theorem ne_of_at {α : Type} {xs ys : List α} {k : Nat} (hx : k < xs.length) (hy : k < ys.length) (he : xs[k] ≠ ys[k]) : xs ≠ ys := by
  rintro rfl; exact he rfl
theorem last_at {row : List Int} (h : 0 < row.length) : row.getLastD (-1) = row[row.length - 1] := by
  cases row with
  | nil => simp at h
  | cons a l => simp [List.getLast?_eq_getElem?]
theorem getD_at {α : Type} {l : List α} {k : Nat} (d : α) (hk : k < l.length) : l.getD k d = l[k] := by
  rw [List.getD_eq_getElem?_getD, List.getElem?_eq_getElem hk]; rfl
def validB (s : MSig) : Bool := (decide (1 ≤ s.sorts) && decide (s.sorts ≤ 3)) && decide (s.ops.length ≤ 6) && s.ops.all (rowB s.sorts)
def hasOpB (s : MSig) (op : Int) : Bool := validB s && (decide (0 ≤ op) && decide (op < s.ops.length))
def leavesM (s : MSig) (op : Int) : Int := if hasOpB s op then (s.ops.getD op.toNat []).getLastD (-1) else -1
def takesM (s : MSig) (op : Int) : List Int := if hasOpB s op then (s.ops.getD op.toNat []).dropLast else []
theorem valid_row {s : MSig} (h : validB s = true) {k : Nat} (hk : k < s.ops.length) : 1 ≤ s.ops[k].length ∧ s.ops[k].length ≤ 3 ∧ ∀ x ∈ s.ops[k], 0 ≤ x ∧ x < s.sorts := by
  unfold validB at h
  simp only [Bool.and_eq_true, List.all_eq_true] at h
  have := h.2 _ (List.getElem_mem hk)
  simp [rowB, belowB] at this
  exact ⟨this.1.1, this.1.2, this.2⟩
theorem valid_sorts {s : MSig} (h : validB s = true) : 1 ≤ s.sorts ∧ s.sorts ≤ 3 ∧ s.ops.length ≤ 6 := by
  unfold validB at h
  simp only [Bool.and_eq_true, decide_eq_true_eq] at h
  exact ⟨h.1.1.1, h.1.1.2, h.1.2⟩
theorem hasOp_nat {s : MSig} {op : Int} (h : hasOpB s op = true) : ∃ k : Nat, op = k ∧ k < s.ops.length ∧ validB s = true := by
  unfold hasOpB at h
  simp only [Bool.and_eq_true, decide_eq_true_eq] at h
  obtain ⟨k, rfl⟩ := Int.eq_ofNat_of_zero_le h.2.1
  exact ⟨k, rfl, by omega, h.1⟩
theorem leaves_nat {s : MSig} {k : Nat} (h : hasOpB s k = true) (hk : k < s.ops.length) : leavesM s k = s.ops[k].getLastD (-1) := by
  unfold leavesM
  rw [if_pos h, Int.toNat_natCast, getD_at _ hk]
theorem takes_nat {s : MSig} {k : Nat} (h : hasOpB s k = true) (hk : k < s.ops.length) : takesM s k = s.ops[k].dropLast := by
  unfold takesM
  rw [if_pos h, Int.toNat_natCast, getD_at _ hk]
end

section
open Go.ChangeShapes Go.WideShapes Go.ChangeAt Go.RowKit Go.Deep Go.Joins
set_option linter.unusedVariables false

theorem own : ownKnob Try.prog.godebug = none := by kernel_rfl
theorem laidOut : laidOutB Try.prog = true := by kernel_rfl

theorem spot_none {w : World} {a : Addr} {v : Value} (h : w.cell? a = some v) : a.spot = none := World.cell?_spot h
theorem add_plain (b o j : Nat) : (⟨b, o, none⟩ : Addr).add j = ⟨b, o + j, none⟩ := by
  unfold Addr.add
  split
  · rename_i h; subst h; rfl
  · rfl

set_option maxRecDepth 100000 in
theorem cells_sig : Try.prog.cellsOf 24 = 2 := by kernel_rfl
set_option maxRecDepth 100000 in
theorem sig_of {H : Type} {enc : TypeId × Value → H} {W : World} {base : Nat} {v : Value} {d : DataW H} {p : List MemPlace} (hv : Value.okWide Try.prog W .any base 24 v)
    (h : DataW.Trod enc Try.prog W 0 (fun _ => true) true 24 v d p) : ∃ s, RSig W v s := by
  obtain ⟨c0, c1, y0, y1, m, rfl, -, -, hy0, hy1⟩ := open_agg2 Try.underlying24 (by kernel_rfl) cells_sig hv h
  obtain ⟨a, e0, -, wa⟩ := DataW.trod_int Try.underlying3 hy0
  simp at e0
  subst e0
  rcases open_int_rows Try.underlying22 Try.underlying55 Try.underlying3 (by kernel_rfl) (by kernel_rfl) hy1 with ⟨hcs, -⟩ | ⟨ad, len, cap, A, L, C, Z, hcs, -, hl, hm, -, hr⟩
  · simp at hcs
    subst hcs
    exact ⟨⟨a, []⟩, _, rfl, RRows.nil _⟩
  · simp at hcs
    subst hcs
    refine ⟨⟨a, (List.range len).map fun r => (Z r).take (L r)⟩, _, rfl, ?_⟩
    refine ⟨some ad, cap, by simp, by simpa using hl, hm, fun j row hj => ?_⟩
    simp only [List.getElem?_map] at hj
    obtain ⟨r, hr', rfl⟩ := Option.map_eq_some_iff.1 hj
    obtain ⟨hjl, hrj⟩ := List.getElem?_eq_some_iff.1 hr'
    simp at hjl hrj
    subst hrj
    obtain ⟨hc, h1, h2, h3, h4, h5, h6⟩ := hr j (by omega)
    obtain ⟨b, o, sp⟩ := ad
    have hsp : sp = none := by
      have := spot_none (hr 0 (by omega)).1
      simpa [Addr.add] using this
    subst hsp
    rw [add_plain] at hc
    refine ⟨b, o, _, rfl, hc, A j, C j, by rw [List.length_take]; congr 1; omega, by rw [List.length_take]; omega, h2, fun i x hx => ?_⟩
    rw [List.getElem?_take] at hx
    split at hx
    · rename_i hil
      obtain ⟨hiz, rfl⟩ := List.getElem?_eq_some_iff.1 hx
      cases hA : A j with
      | none => have := h5 hA; omega
      | some a' =>
        obtain ⟨-, hcell⟩ := h6 a' hA
        obtain ⟨b', o', sp'⟩ := a'
        have hsp' : sp' = none := by
          have := spot_none (hcell 0 (by omega))
          simpa [Addr.add] using this
        subst hsp'
        have := hcell i (by omega)
        rw [add_plain, getD_at _ hiz] at this
        exact ⟨b', o', rfl, this⟩
    · cases hx
end

section
open Go.RowKit
set_option linter.unusedVariables false

theorem sortsBelow_any (v : Value) (xs : List Int) (m : Int) (w : World) (h : RInts w v xs) :
    Calls Try.prog 91 #[v, .int .i64 m] w fun e w' => e = .returned (.bool (belowB xs m)) ∧ w = w' := by
  have H := Lib.hid h
  have hn := h.len
  obtain ⟨A, c, rfl, -⟩ := h.form
  clear h
  go_enter Try.func91, Try.ntmps91
  go_wp2
  go_loop [4, 6, 9] (fun r s i => ∃ k : Nat, k ≤ xs.length ∧ i = .int .i64 k ∧ belowB (xs.take k) m = true) (fun _ _ i => xs.length - (intOf i).toNat)
  case atStart => exact ⟨0, Nat.zero_le _, rfl, rfl⟩
  case round =>
    obtain ⟨k, hk, rfl, hb0⟩ := hrel
    have hb := Lib.hid hb0
    clear hb0
    by_cases hlt : k < xs.length
    · obtain ⟨b, o, c', e, hcell⟩ := H.out.at_ hlt
      cases e
      have HB := Lib.hid (belowB_take (m := m) hlt)
      have HN := Lib.hid (belowB_bad (m := m) hlt)
      generalize xs[k] = x at hcell HB HN
      by_cases h0 : x < 0
      · go_wp2
        go_ret
        exact ⟨ret_bool (HN.out (by omega)).symm, rfl⟩
      · by_cases h1 : x < m
        · go_wp2
          go_round
          case rel => exact ⟨k + 1, by omega, by go_num, by rw [HB.out, hb.out]; simp; omega⟩
          case measure => simp [intOf]; omega
        · go_wp2
          go_ret
          exact ⟨ret_bool (HN.out (by omega)).symm, rfl⟩
    · go_wp2
      go_ret
      refine ⟨ret_bool ?_, rfl⟩
      have h := hb.out
      rwa [take_all (by omega), eq_comm] at h

theorem sigValid_any (v : Value) (s : MSig) (w : World) (h : RSig w v s) :
    Calls Try.prog 56 #[v] w fun e w' => e = .returned (.bool (validB s)) ∧ Below w.heap.size w w' := by
  obtain ⟨u, rfl, hr⟩ := h
  obtain ⟨sorts, ops⟩ := s
  have hn := hr.len
  obtain ⟨A, c, rfl, -⟩ := hr.form
  have H := Lib.hid (hr.keep (below_alloc w (.cells #[.int .i64 sorts, .slice A ops.length c] 33)))
  clear hr
  have HV : Hid (validB ⟨sorts, ops⟩ = ((decide (1 ≤ sorts) && decide (sorts ≤ 3)) && decide (ops.length ≤ 6) && ops.all (rowB sorts))) := rfl
  by_cases c1 : sorts < 1
  · go_enter Try.func56, Try.ntmps56
    go_wp2
    go_ret
    refine ⟨ret_bool ?_, below_alloc _ _⟩
    rw [HV.out]; simp; omega
  by_cases c2 : 3 < sorts
  · go_enter Try.func56, Try.ntmps56
    go_wp2
    go_ret
    refine ⟨ret_bool ?_, below_alloc _ _⟩
    rw [HV.out]; simp; omega
  by_cases c3 : 6 < ops.length
  · go_enter Try.func56, Try.ntmps56
    go_wp2
    go_ret
    refine ⟨ret_bool ?_, below_alloc _ _⟩
    rw [HV.out]; simp; omega
  go_enter Try.func56, Try.ntmps56
  go_wp2
  go_loop [4, 22] (fun s i => ∃ k : Nat, k ≤ ops.length ∧ i = .int .i64 k ∧ (ops.take k).all (rowB sorts) = true) (fun _ i => ops.length - (intOf i).toNat)
  case atStart => exact ⟨0, Nat.zero_le _, rfl, rfl⟩
  case round =>
    obtain ⟨k, hk, rfl, hb0⟩ := hrel
    have hb := Lib.hid hb0
    clear hb0
    by_cases hlt : k < ops.length
    · obtain ⟨b, o, c', u, e, hcell, hri⟩ := H.out.at_ hlt
      cases e
      have HB := Lib.hid (all_take (p := rowB sorts) hlt)
      have HN := Lib.hid (all_bad (p := rowB sorts) hlt)
      generalize ops[k] = row at hri HB HN
      have HR : Hid (rowB sorts row = ((decide (1 ≤ row.length) && decide (row.length ≤ 3)) && belowB row sorts)) := rfl
      have hrn := hri.len
      obtain ⟨A', c'', rfl, -⟩ := hri.form
      have HI := Lib.hid hri
      clear hri
      by_cases d1 : row.length < 1
      · go_wp2
        go_ret
        refine ⟨ret_bool ?_, below_alloc _ _⟩
        rw [HV.out, HN.out (by rw [HR.out]; simp; omega)]; simp
      by_cases d2 : 3 < row.length
      · go_wp2
        go_ret
        refine ⟨ret_bool ?_, below_alloc _ _⟩
        rw [HV.out, HN.out (by rw [HR.out]; simp; omega)]; simp
      cases hbb : belowB row sorts with
      | true =>
        have Hbb := Lib.hid hbb
        clear hbb
        go_wp2_with (go_at_call 91; refine (sortsBelow_any _ _ _ _ HI.out).mono ?_; rw [Hbb.out]; rintro e w' ⟨rfl, rfl⟩)
        go_round
        case rel => exact ⟨k + 1, by omega, by go_num, by rw [HB.out, hb.out, HR.out, Hbb.out]; simp; omega⟩
        case measure => simp [intOf]; omega
      | false =>
        have Hbb := Lib.hid hbb
        clear hbb
        go_wp2_with (go_at_call 91; refine (sortsBelow_any _ _ _ _ HI.out).mono ?_; rw [Hbb.out]; rintro e w' ⟨rfl, rfl⟩)
        go_ret
        refine ⟨ret_bool ?_, below_alloc _ _⟩
        rw [HV.out, HN.out (by rw [HR.out, Hbb.out]; simp)]; simp
    · go_wp2
      go_ret
      refine ⟨ret_bool ?_, below_alloc _ _⟩
      have h := hb.out
      rw [take_all (by omega)] at h
      rw [HV.out, h]; simp; omega
end

section
open Go.RowKit
set_option linter.unusedVariables false

theorem l1In_is (a lo hi : Int) (w : World) (b : Bool) (hb : inB a lo hi = b) :
    Calls Try.prog 64 #[.int .i64 a, .int .i64 lo, .int .i64 hi] w fun e w' => e = .returned (.bool b) ∧ w = w' := by
  subst hb
  unfold inB
  by_cases h : lo ≤ a
  · go_enter Try.func64, Try.ntmps64
    go_wp2
    go_ret
    exact ⟨ret_bool (by simp; omega), rfl⟩
  · go_enter Try.func64, Try.ntmps64
    go_wp2
    go_ret
    exact ⟨ret_bool (by simp; omega), rfl⟩

theorem inB_row (x sorts : Int) (q : Int) (hq : 1 ≤ sorts → sorts ≤ 3 → q = sorts - 1) (h1 : 1 ≤ sorts) (h3 : sorts ≤ 3) : inB x 0 q = (decide (0 ≤ x) && decide (x < sorts)) := by
  rw [hq h1 h3]; unfold inB; congr 1; rw [decide_eq_decide]; omega
def inRow (q : Int) (row : List Int) : Bool := inB row.length 1 3 && row.all fun x => inB x 0 q
theorem inRow_rowB {sorts q : Int} (hq : 1 ≤ sorts → sorts ≤ 3 → q = sorts - 1) (h1 : 1 ≤ sorts) (h3 : sorts ≤ 3) : inRow q = rowB sorts := by
  funext row
  unfold inRow rowB belowB
  congr 1
  · unfold inB; congr 1 <;> (rw [decide_eq_decide]; omega)
  · congr 1; funext x; exact inB_row x sorts q hq h1 h3
theorem validB_in {sorts q : Int} {ops : List (List Int)} (hq : 1 ≤ sorts → sorts ≤ 3 → q = sorts - 1) : validB ⟨sorts, ops⟩ = (ops.all (inRow q) && (inB sorts 1 3 && decide (ops.length ≤ 6))) := by
  unfold validB
  by_cases h1 : 1 ≤ sorts
  · by_cases h3 : sorts ≤ 3
    · rw [inRow_rowB hq h1 h3]; simp [inB, h1, h3, Bool.and_comm]
    · simp [inB, h3]
  · simp [inB, h1]

theorem specSigValid_any (v : Value) (s : MSig) (w : World) (h : RSig w v s) :
    Calls Try.prog 22 #[v] w fun e w' => e = .returned (.bool (validB s)) ∧ Below w.heap.size w w' := by
  obtain ⟨u, rfl, hr⟩ := h
  obtain ⟨sorts, ops⟩ := s
  have hn := hr.len
  obtain ⟨A, c, rfl, -⟩ := hr.form
  have H := Lib.hid (hr.keep (below_alloc w (.cells #[.int .i64 sorts, .slice A ops.length c] 33)))
  have hc0 : (w.alloc (.cells #[.int .i64 sorts, .slice A ops.length c] 33)).cell? ⟨w.heap.size, 0, none⟩ = some (.int .i64 sorts) := by
    rw [World.cell?_alloc_at _ _ _ _ rfl]; rfl
  have hc1 : (w.alloc (.cells #[.int .i64 sorts, .slice A ops.length c] 33)).cell? ⟨w.heap.size, 1, none⟩ = some (.slice A ops.length c) := by
    rw [World.cell?_alloc_at _ _ _ _ rfl]; rfl
  have hbW : Below w.heap.size w (w.alloc (.cells #[.int .i64 sorts, .slice A ops.length c] 33)) := below_alloc _ _
  clear hr
  have HV : Hid (validB ⟨sorts, ops⟩ = (ops.all (inRow (IntKind.i64.wrap (sorts - 1))) && (inB sorts 1 3 && decide (ops.length ≤ 6)))) :=
    validB_in (fun h1 h3 => by rw [IntKind.wrap_i64]; omega)
  have HC0 := Lib.hid hc0
  have HC1 := Lib.hid hc1
  have HBW := Lib.hid hbW
  clear hc0 hc1 hbW
  go_enter Try.func22, Try.ntmps22
  go_wp2
  go_loopw [3] (fun i wr => ∃ k : Nat, k ≤ ops.length ∧ i = .int .i64 k ∧ (ops.take k).all (inRow (IntKind.i64.wrap (sorts - 1))) = true ∧ Drawn (w.alloc (.cells #[.int .i64 sorts, .slice A ops.length c] 33)) wr) (fun i _ => ops.length - (intOf i).toNat)
  case atStart => exact ⟨0, Nat.zero_le _, rfl, rfl, Drawn.refl _⟩
  case round =>
    obtain ⟨k, hk, rfl, hb0, hd⟩ := hrel
    have hb := Lib.hid hb0
    have HD := Lib.hid hd
    clear hb0 hd
    have f0 := (HD.out.cell _).trans HC0.out
    have f1 := (HD.out.cell _).trans HC1.out
    by_cases hlt : k < ops.length
    · obtain ⟨b, o, c', u, e, hcell, hri⟩ := (H.out.keep HD.out.below).at_ hlt
      cases e
      have HB := Lib.hid (all_take (p := inRow (IntKind.i64.wrap (sorts - 1))) hlt)
      have HN := Lib.hid (all_bad (p := inRow (IntKind.i64.wrap (sorts - 1))) hlt)
      generalize ops[k] = row at hri HB HN
      have HR : Hid (inRow (IntKind.i64.wrap (sorts - 1)) row = (inB row.length 1 3 && row.all fun x => inB x 0 (IntKind.i64.wrap (sorts - 1)))) := rfl
      have hrn := hri.len
      obtain ⟨A', c'', rfl, -⟩ := hri.form
      have HI := Lib.hid hri
      clear hri
      cases hbb : inB row.length 1 3 with
      | false =>
        have Hbb := Lib.hid hbb
        clear hbb
        go_wp2_with (go_at_call 64; refine (l1In_is _ _ _ _ _ Hbb.out).mono ?_; rintro e w' ⟨rfl, rfl⟩)
        go_ret
        refine ⟨ret_bool ?_, HBW.out.trans (HD.out.below.mono (by simp))⟩
        rw [HV.out, HN.out (by rw [HR.out, Hbb.out]; simp)]; simp
      | true =>
        have Hbb := Lib.hid hbb
        clear hbb
        go_wp2_with (go_at_call 64; refine (l1In_is _ _ _ _ _ Hbb.out).mono ?_; rintro e w' ⟨rfl, rfl⟩)
        have hlt' : (k : Int) < (ops.length : Int) := by omega
        obtain ⟨wo, rfl⟩ : ∃ wo : World, wo = wr := ⟨_, rfl⟩
        go_loopw [4] (fun j wj => ∃ l : Nat, l ≤ row.length ∧ j = .int .i64 l ∧ (row.take l).all (fun x => inB x 0 (IntKind.i64.wrap (sorts - 1))) = true ∧ Drawn wo wj) (fun j _ => row.length - (intOf j).toNat)
        case atStart => exact ⟨0, Nat.zero_le _, rfl, rfl, Drawn.refl _⟩
        case round =>
          obtain ⟨l, hl, rfl, hbl0, hdj⟩ := hrel
          have hbl := Lib.hid hbl0
          have HDJ := Lib.hid hdj
          clear hbl0 hdj
          have g0 := (HDJ.out.cell _).trans f0
          have g1 := (HDJ.out.cell _).trans f1
          have g2 := (HDJ.out.cell _).trans hcell
          by_cases hll : l < row.length
          · obtain ⟨b', o', c3, e, hx⟩ := (HI.out.keep HDJ.out.below).at_ hll
            cases e
            have HBL := Lib.hid (all_take (p := fun x => inB x 0 (IntKind.i64.wrap (sorts - 1))) hll)
            have HNL := Lib.hid (all_bad (p := fun x => inB x 0 (IntKind.i64.wrap (sorts - 1))) hll)
            generalize row[l] = x at hx HBL HNL
            have hll' : (l : Int) < (row.length : Int) := by omega
            go_wp2_with fail
            cases hbx : inB x 0 (IntKind.i64.wrap (sorts - 1)) with
            | false =>
              have Hbx := Lib.hid hbx
              clear hbx
              go_quiet ((go_at_call 64; exact quiet_left (l1In_is _ _ _ _ _ Hbx.out)))
              go_wp2
              go_ret
              refine ⟨ret_bool ?_, ?_⟩
              · rw [HV.out, HN.out (by rw [HR.out, HNL.out Hbx.out]; simp)]; simp
              · exact below_drewN (HBW.out.trans ((HD.out.below.mono (by simp)).trans (HDJ.out.below.mono (by have := HD.out.below.size; simp at this; omega)))) _
            | true =>
              have Hbx := Lib.hid hbx
              clear hbx
              go_quiet ((go_at_call 64; exact quiet_left (l1In_is _ _ _ _ _ Hbx.out)))
              go_wp2
              go_roundw
              case rel => exact ⟨l + 1, by omega, by go_num, by rw [HBL.out, hbl.out, Hbx.out]; rfl, HDJ.out.more _⟩
              case measure => simp [intOf]; omega
          · go_wp2
            have hbl' := hbl.out
            rw [take_all (by omega)] at hbl'
            go_roundw
            case rel => exact ⟨k + 1, by omega, by go_num, by rw [HB.out, hb.out, HR.out, Hbb.out, hbl']; rfl, by obtain ⟨m, hm⟩ := HD.out; obtain ⟨m', hm'⟩ := HDJ.out; exact ⟨m + m', by rw [hm', hm, World.drewN_drewN]⟩⟩
            case measure => simp [intOf]; omega
    · have HE0 := hb.out
      rw [take_all (by omega)] at HE0
      have HE := Lib.hid HE0
      clear HE0
      cases hbs : inB sorts 1 3 with
      | false =>
        have Hbs := Lib.hid hbs
        clear hbs
        go_wp2_with (go_at_call 64; refine (l1In_is _ _ _ _ _ Hbs.out).mono ?_; rintro e w' ⟨rfl, rfl⟩)
        go_ret
        refine ⟨ret_bool ?_, HBW.out.trans (HD.out.below.mono (by simp))⟩
        rw [HV.out, Hbs.out]; simp
      | true =>
        have Hbs := Lib.hid hbs
        clear hbs
        go_wp2_with (go_at_call 64; refine (l1In_is _ _ _ _ _ Hbs.out).mono ?_; rintro e w' ⟨rfl, rfl⟩)
        go_ret
        refine ⟨ret_bool ?_, HBW.out.trans (HD.out.below.mono (by simp))⟩
        rw [HV.out, HE.out, Hbs.out]; simp; omega
end

section
open Go.RowKit
set_option linter.unusedVariables false

theorem box_cells (w : World) (a b : Value) (t : TypeId) : (w.alloc (.cells #[a, b] t)).cell? ⟨w.heap.size, 0, none⟩ = some a ∧ (w.alloc (.cells #[a, b] t)).cell? ⟨w.heap.size, 1, none⟩ = some b := by
  constructor <;> (rw [World.cell?_alloc_at _ _ _ _ rfl]; rfl)

theorem alive_any (w : World) : Calls Try.prog 24 #[] w fun e w' => e = .returned (.bool true) ∧ Below w.heap.size w w' := by
  go_enter Try.func24, Try.ntmps24
  go_wp2_with fail
  refine (sigValid_any _ ⟨1, []⟩ _ ⟨_, rfl, RRows.nil _⟩).mono ?_
  rw [show validB ⟨1, []⟩ = true from rfl]
  rintro e w1 ⟨rfl, hb1⟩
  go_wp2_with fail
  refine (sigValid_any _ ⟨0, []⟩ _ ⟨_, rfl, RRows.nil _⟩).mono ?_
  rw [show validB ⟨0, []⟩ = false from rfl]
  rintro e w2 ⟨rfl, hb2⟩
  go_wp2
  go_ret
  exact ⟨rfl, hb1.trans (hb2.mono hb1.size)⟩
end

section
open Go.RowKit
set_option linter.unusedVariables false

theorem eqIntS_any (v v' : Value) (xs ys : List Int) (w : World) (h : RInts w v xs) (h' : RInts w v' ys) :
    Calls Try.prog 42 #[v, v'] w fun e w' => e = .returned (.bool (sameI xs ys)) ∧ Drawn w w' := by
  have H := Lib.hid h
  have H' := Lib.hid h'
  have hn := h.len
  have hn' := h'.len
  obtain ⟨A, c, rfl, -⟩ := h.form
  obtain ⟨A', c', rfl, -⟩ := h'.form
  clear h h'
  by_cases hl : xs.length = ys.length
  · have hl' : ((xs.length : Int) != (ys.length : Int)) = false := by simp [hl]
    have HL := Lib.hid hl
    have hle : xs.length ≤ ys.length := by omega
    have hge : ys.length ≤ xs.length := by omega
    clear hl
    go_enter Try.func42, Try.ntmps42
    go_wp2
    go_loopw [5] (fun i wr => ∃ k : Nat, k ≤ xs.length ∧ i = .int .i64 k ∧ xs.take k = ys.take k ∧ Drawn w wr) (fun i _ => xs.length - (intOf i).toNat)
    case atStart => exact ⟨0, Nat.zero_le _, rfl, rfl, Drawn.refl _⟩
    case round =>
      obtain ⟨k, hk, rfl, hb0, hd⟩ := hrel
      have hb := Lib.hid hb0
      have HD := Lib.hid hd
      clear hb0 hd
      by_cases hlt : k < xs.length
      · obtain ⟨b, o, c3, e, hx⟩ := (H.out.keep HD.out.below).at_ hlt
        cases e
        obtain ⟨b', o', c4, e, hy⟩ := (H'.out.keep HD.out.below).at_ (show k < ys.length by omega)
        cases e
        have hs1 : (k : Int) < (xs.length : Int) := by omega
        have hs2 : (k : Int) < (ys.length : Int) := by omega
        have HT := Lib.hid (take_succ_eq hlt (show k < ys.length by omega) hb.out)
        have HN := Lib.hid (ne_of_at hlt (show k < ys.length by omega))
        generalize xs[k] = x at hx HT HN
        generalize ys[k]'(by omega) = y at hy HT HN
        by_cases hxy : x = y
        · subst hxy
          have e1 : (x != x) = false := by simp
          have e2 : (x == x) = true := by simp
          go_wp2_with fail
          go_quiet (fail)
          go_wp2
          go_roundw
          case rel => exact ⟨k + 1, by omega, by go_num, HT.out (by simp), HD.out.more _⟩
          case measure => simp [intOf]; omega
        · have e1 : (x != y) = true := by simpa using hxy
          have e2 : (x == y) = false := by simpa using hxy
          have HXY := Lib.hid hxy
          clear hxy
          go_wp2_with fail
          go_quiet (fail)
          go_wp2
          go_ret
          exact ⟨ret_bool (by unfold sameI; simpa using (HN.out HXY.out)), HD.out.more _⟩
      · go_wp2
        go_ret
        have h := hb.out
        rw [take_all (by omega), take_all (by omega)] at h
        exact ⟨ret_bool (by unfold sameI; simpa using h), HD.out⟩
  · have hl' : ((xs.length : Int) != (ys.length : Int)) = true := by simp; omega
    have HL := Lib.hid hl
    clear hl
    go_enter Try.func42, Try.ntmps42
    go_wp2
    go_ret
    exact ⟨ret_bool (by unfold sameI; simp; rintro rfl; exact HL.out rfl), Drawn.refl _⟩

theorem eqIntS_is (v v' : Value) (xs ys : List Int) (w : World) (b : Bool) (hb : sameI xs ys = b) (h : RInts w v xs) (h' : RInts w v' ys) :
    Calls Try.prog 42 #[v, v'] w fun e w' => e = .returned (.bool b) ∧ Drawn w w' := by
  subst hb; exact eqIntS_any v v' xs ys w h h'

theorem eqIntSS_any (v v' : Value) (xs ys : List (List Int)) (w : World) (h : RRows w v xs) (h' : RRows w v' ys) :
    Calls Try.prog 43 #[v, v'] w fun e w' => e = .returned (.bool (sameR xs ys)) ∧ Drawn w w' := by
  have H := Lib.hid h
  have H' := Lib.hid h'
  have hn := h.len
  have hn' := h'.len
  obtain ⟨A, c, rfl, -⟩ := h.form
  obtain ⟨A', c', rfl, -⟩ := h'.form
  clear h h'
  by_cases hl : xs.length = ys.length
  · have hl' : ((xs.length : Int) != (ys.length : Int)) = false := by simp [hl]
    have HL := Lib.hid hl
    have hle : xs.length ≤ ys.length := by omega
    have hge : ys.length ≤ xs.length := by omega
    clear hl
    go_enter Try.func43, Try.ntmps43
    go_wp2
    go_loopw [5] (fun i wr => ∃ k : Nat, k ≤ xs.length ∧ i = .int .i64 k ∧ xs.take k = ys.take k ∧ Drawn w wr) (fun i _ => xs.length - (intOf i).toNat)
    case atStart => exact ⟨0, Nat.zero_le _, rfl, rfl, Drawn.refl _⟩
    case round =>
      obtain ⟨k, hk, rfl, hb0, hd⟩ := hrel
      have hb := Lib.hid hb0
      have HD := Lib.hid hd
      clear hb0 hd
      by_cases hlt : k < xs.length
      · obtain ⟨b, o, c3, u, e, hx, hr⟩ := (H.out.keep HD.out.below).at_ hlt
        cases e
        obtain ⟨b', o', c4, u', e, hy, hr'⟩ := (H'.out.keep HD.out.below).at_ (show k < ys.length by omega)
        cases e
        have hs1 : (k : Int) < (xs.length : Int) := by omega
        have hs2 : (k : Int) < (ys.length : Int) := by omega
        have HT := Lib.hid (take_succ_eq hlt (show k < ys.length by omega) hb.out)
        have HN := Lib.hid (ne_of_at hlt (show k < ys.length by omega))
        generalize xs[k] = x at hr HT HN
        generalize ys[k]'(by omega) = y at hr' HT HN
        have HR := Lib.hid hr
        have HR' := Lib.hid hr'
        obtain ⟨A1, c1, rfl, -⟩ := hr.form
        obtain ⟨A2, c2, rfl, -⟩ := hr'.form
        clear hr hr'
        cases hxy : sameI x y with
        | true =>
          have HXY := Lib.hid hxy
          clear hxy
          go_wp2_with fail
          go_quiet ((go_at_call 42; exact quiet_drawn (eqIntS_is _ _ _ _ _ _ HXY.out (HR.out.keep (below_drewN (Below.refl _ _) _)) (HR'.out.keep (below_drewN (Below.refl _ _) _)))))
          go_wp2
          go_roundw
          case rel => exact ⟨k + 1, by omega, by go_num, HT.out (by simpa [sameI] using HXY.out), HD.out.more _⟩
          case measure => simp [intOf]; omega
        | false =>
          have HXY := Lib.hid hxy
          clear hxy
          go_wp2_with fail
          go_quiet ((go_at_call 42; exact quiet_drawn (eqIntS_is _ _ _ _ _ _ HXY.out (HR.out.keep (below_drewN (Below.refl _ _) _)) (HR'.out.keep (below_drewN (Below.refl _ _) _)))))
          go_wp2
          go_ret
          exact ⟨ret_bool (by unfold sameR; simpa using (HN.out (by simpa [sameI] using HXY.out))), HD.out.more _⟩
      · go_wp2
        go_ret
        have h := hb.out
        rw [take_all (by omega), take_all (by omega)] at h
        exact ⟨ret_bool (by unfold sameR; simpa using h), HD.out⟩
  · have hl' : ((xs.length : Int) != (ys.length : Int)) = true := by simp; omega
    have HL := Lib.hid hl
    clear hl
    go_enter Try.func43, Try.ntmps43
    go_wp2
    go_ret
    exact ⟨ret_bool (by unfold sameR; simp; rintro rfl; exact HL.out rfl), Drawn.refl _⟩

def sameS (a b : MSig) : Bool := decide (a.sorts = b.sorts) && sameR a.ops b.ops
theorem sameS_self (a : MSig) : sameS a a = true := by unfold sameS sameR; simp
theorem eqIntSS_is (v v' : Value) (xs ys : List (List Int)) (w : World) (b : Bool) (hb : sameR xs ys = b) (h : RRows w v xs) (h' : RRows w v' ys) :
    Calls Try.prog 43 #[v, v'] w fun e w' => e = .returned (.bool b) ∧ Drawn w w' := by
  subst hb; exact eqIntSS_any v v' xs ys w h h'

theorem eqSig_any (v v' : Value) (a b : MSig) (w : World) (h : RSig w v a) (h' : RSig w v' b) :
    Calls Try.prog 16 #[v, v'] w fun e w' => e = .returned (.bool (sameS a b)) ∧ Below w.heap.size w w' := by
  obtain ⟨u, rfl, hr⟩ := h
  obtain ⟨u', rfl, hr'⟩ := h'
  have hb2 : Below w.heap.size w ((w.alloc (.cells #[.int .i64 a.sorts, u] 33)).alloc (.cells #[.int .i64 b.sorts, u'] 33)) := (below_alloc _ _).alloc (by simp) _
  have HB := Lib.hid hb2
  have H := Lib.hid (hr.keep hb2)
  have H' := Lib.hid (hr'.keep hb2)
  clear hb2
  obtain ⟨A, c, rfl, -⟩ := hr.form
  obtain ⟨A', c', rfl, -⟩ := hr'.form
  clear hr hr'
  obtain ⟨s1, xs⟩ := a
  obtain ⟨s2, ys⟩ := b
  by_cases hs : s1 = s2
  · subst hs
    have e1 : (s1 != s1) = false := by simp
    have e2 : (s1 == s1) = true := by simp
    cases hxy : sameR xs ys with
    | true =>
      have HXY := Lib.hid hxy
      clear hxy
      go_enter Try.func16, Try.ntmps16
      go_wp2_with (go_at_call 43; refine (eqIntSS_is _ _ _ _ _ _ HXY.out H.out H'.out).mono ?_; rintro e w1 ⟨rfl, hd⟩)
      go_ret
      exact ⟨ret_bool (by unfold sameS; rw [HXY.out]; simp), HB.out.trans (hd.below.mono (by simp; omega))⟩
    | false =>
      have HXY := Lib.hid hxy
      clear hxy
      go_enter Try.func16, Try.ntmps16
      go_wp2_with (go_at_call 43; refine (eqIntSS_is _ _ _ _ _ _ HXY.out H.out H'.out).mono ?_; rintro e w1 ⟨rfl, hd⟩)
      go_ret
      exact ⟨ret_bool (by unfold sameS; rw [HXY.out]; simp), HB.out.trans (hd.below.mono (by simp; omega))⟩
  · have e1 : (s1 != s2) = true := by simpa using hs
    have e2 : (s1 == s2) = false := by simpa using hs
    have HS := Lib.hid hs
    clear hs
    go_enter Try.func16, Try.ntmps16
    go_wp2
    go_ret
    exact ⟨ret_bool (by unfold sameS; simp [HS.out]), HB.out⟩
theorem eqSig_is (v v' : Value) (a b : MSig) (w : World) (r : Bool) (hr : sameS a b = r) (h : RSig w v a) (h' : RSig w v' b) :
    Calls Try.prog 16 #[v, v'] w fun e w' => e = .returned (.bool r) ∧ Below w.heap.size w w' := by
  subst hr; exact eqSig_any v v' a b w h h'
end

section
open Go.RowKit
set_option linter.unusedVariables false

def OInts (w : World) (B : Nat) (v : Value) (xs : List Int) : Prop := w.ownsRow B 3 1 v xs.length (xs.map (Value.int .i64))

def ORows (w : World) (B : Nat) (v : Value) (rows : List (List Int)) : Prop :=
  ∃ us : List Value, w.ownsRow B 55 1 v rows.length us ∧ us.length = rows.length ∧
    (∀ (j : Nat) (u : Value) (row : List Int), us[j]? = some u → rows[j]? = some row → OInts w B u row) ∧
    (∀ (i j : Nat) (u u' : Value), i < j → us[i]? = some u → us[j]? = some u' → u.ownBlock = none ∨ u.ownBlock ≠ u'.ownBlock)

def OSig (w : World) (B : Nat) (v : Value) (s : MSig) : Prop := ∃ u, v = .agg #[.int .i64 s.sorts, u] ∧ ORows w B u s.ops

section
variable {w w' : World} {B B' : Nat} {v u : Value} {xs : List Int} {rows : List (List Int)} {s : MSig}

theorem own_keep {e : TypeId} {size n : Nat} {zs : List Value} (h : w.ownsRow B e size v n zs) (hb : Below w.heap.size w w') : w'.ownsRow B e size v n zs := by
  refine ⟨h.1, ?_⟩
  rcases h.2 with h2 | ⟨g, cap, cur, hv, hg, hh, r⟩
  · exact .inl h2
  · exact .inr ⟨g, cap, cur, hv, hg, by rw [hb.block g (Array.getElem?_eq_some_iff.1 hh).1]; exact hh, r⟩
theorem own_base {e : TypeId} {size n : Nat} {zs : List Value} (h : w.ownsRow B e size v n zs) (hB : B' ≤ B) : w.ownsRow B' e size v n zs := by
  refine ⟨h.1, ?_⟩
  rcases h.2 with h2 | ⟨g, cap, cur, hv, hg, hh, r⟩
  · exact .inl h2
  · exact .inr ⟨g, cap, cur, hv, by omega, hh, r⟩
/-- from a higher base: the row's block lies there -/
theorem own_raise {e : TypeId} {size n : Nat} {zs : List Value} (h : w.ownsRow B e size v n zs) (hB : ∀ k, v.ownBlock = some k → B' ≤ k) : w.ownsRow B' e size v n zs := by
  refine ⟨h.1, ?_⟩
  rcases h.2 with h2 | ⟨g, cap, cur, rfl, hg, hh, r⟩
  · exact .inl h2
  · exact .inr ⟨g, cap, cur, rfl, hB g rfl, hh, r⟩
theorem own_grown {e : TypeId} {size n : Nat} {zs : List Value} {row : Option Nat} (h : w.ownsRow B e size v n zs) (hg : w.grownBy w' row) (hne : v.ownBlock = none ∨ v.ownBlock ≠ row) : w'.ownsRow B e size v n zs := h.kept hg hne
/-- rows of different element types lie in different blocks -/
theorem own_ne {e e' : TypeId} {size size' n n' B2 : Nat} {zs zs' : List Value} (h : w.ownsRow B e size v n zs) (h' : w.ownsRow B2 e' size' u n' zs') (hne : e ≠ e') : v.ownBlock = none ∨ v.ownBlock ≠ u.ownBlock := by
  rcases h.2 with ⟨rfl, _⟩ | ⟨g, cap, cur, rfl, hg, hh, r⟩
  · exact .inl rfl
  · right
    rcases h'.2 with ⟨rfl, _⟩ | ⟨g', cap', cur', rfl, hg', hh', r'⟩
    · simp [Value.ownBlock]
    · intro he
      simp [Value.ownBlock] at he
      subst he
      rw [hh] at hh'
      injection hh' with hh'
      injection hh' with _ ht
      exact hne ht
theorem own_lt {e : TypeId} {size n : Nat} {zs : List Value} (h : w.ownsRow B e size v n zs) : ∀ k, v.ownBlock = some k → B ≤ k ∧ k < w.heap.size := h.lt

theorem OInts.keep (h : OInts w B v xs) (hb : Below w.heap.size w w') : OInts w' B v xs := own_keep h hb
theorem OInts.base (h : OInts w B v xs) (hB : B' ≤ B) : OInts w B' v xs := own_base h hB
theorem OInts.nil (w : World) (B : Nat) : OInts w B (.slice none 0 0) [] := World.ownsRow_nil _ _ _ _
theorem ORows.nil (w : World) (B : Nat) : ORows w B (.slice none 0 0) [] := ⟨[], World.ownsRow_nil _ _ _ _, rfl, fun j u row h => by simp at h, fun i j u u' _ h => by simp at h⟩
theorem ORows.keep (h : ORows w B v rows) (hb : Below w.heap.size w w') : ORows w' B v rows := by
  obtain ⟨us, h1, h2, h3, h4⟩ := h
  exact ⟨us, own_keep h1 hb, h2, fun j u row a b => (h3 j u row a b).keep hb, h4⟩
theorem ORows.base (h : ORows w B v rows) (hB : B' ≤ B) : ORows w B' v rows := by
  obtain ⟨us, h1, h2, h3, h4⟩ := h
  exact ⟨us, own_base h1 hB, h2, fun j u row a b => (h3 j u row a b).base hB, h4⟩
theorem OSig.keep (h : OSig w B v s) (hb : Below w.heap.size w w') : OSig w' B v s := by
  obtain ⟨u, e, h⟩ := h; exact ⟨u, e, h.keep hb⟩
theorem OSig.base (h : OSig w B v s) (hB : B' ≤ B) : OSig w B' v s := by
  obtain ⟨u, e, h⟩ := h; exact ⟨u, e, h.base hB⟩

theorem own_reads {e : TypeId} {n : Nat} {zs : List Value} (h : w.ownsRow B e 1 v n zs) : ∃ A c, v = .slice A n c ∧ n ≤ c ∧ c ≤ maxLen ∧ ∀ j x, zs[j]? = some x → ∃ b o, A = some ⟨b, o, none⟩ ∧ w.cell? ⟨b, o + j, none⟩ = some x := by
  obtain ⟨hl, h⟩ := h
  rcases h with ⟨rfl, rfl⟩ | ⟨g, cap, cur, rfl, hg, hh, h1, h2, h3, h4⟩
  · refine ⟨none, 0, rfl, Nat.le_refl _, Nat.zero_le _, fun j x hj => ?_⟩
    have : zs = [] := List.eq_nil_of_length_eq_zero (by simpa using hl)
    subst this
    simp at hj
  · refine ⟨_, cap, rfl, h1, h2, fun j x hj => ⟨g, 0, rfl, ?_⟩⟩
    subst h4
    rw [List.getElem?_take] at hj
    split at hj
    · simpa [World.cell?, hh] using hj
    · cases hj
theorem OInts.reads (h : OInts w B v xs) : RInts w v xs := by
  obtain ⟨A, c, e, h1, h2, h3⟩ := own_reads h
  exact ⟨A, c, e, h1, h2, fun j x hj => h3 j _ (by rw [List.getElem?_map, hj]; rfl)⟩
theorem ORows.reads (h : ORows w B v rows) : RRows w v rows := by
  obtain ⟨us, h0, hl, hr, -⟩ := h
  obtain ⟨A, c, e, h1, h2, h3⟩ := own_reads h0
  refine ⟨A, c, e, h1, h2, fun j row hj => ?_⟩
  have hjl : j < us.length := by rw [hl]; exact (List.getElem?_eq_some_iff.1 hj).1
  obtain ⟨b, o, ea, hc⟩ := h3 j us[j] (List.getElem?_eq_getElem hjl)
  exact ⟨b, o, us[j], ea, hc, (hr j us[j] row (List.getElem?_eq_getElem hjl) hj).reads⟩
theorem OSig.reads (h : OSig w B v s) : RSig w v s := by
  obtain ⟨u, e, h⟩ := h; exact ⟨u, e, h.reads⟩

theorem OInts.blk_ne {zs : List Value} {n B2 : Nat} (h : OInts w B v xs) (h' : w.ownsRow B2 55 1 u n zs) : v.ownBlock = none ∨ v.ownBlock ≠ u.ownBlock := own_ne h h' (by decide)

/-- behind 's = append(s, row)': one row more. w: ahead of the law; w1: behind it. -/
theorem ORows.push {us : List Value} {w1 : World} {v' rv : Value} {row : List Int} (h1 : w.ownsRow B 55 1 v rows.length us) (h2 : us.length = rows.length)
    (h3 : ∀ (j : Nat) (u : Value) (row : List Int), us[j]? = some u → rows[j]? = some row → OInts w B u row) (h4 : ∀ (i j : Nat) (u u' : Value), i < j → us[i]? = some u → us[j]? = some u' → u.ownBlock = none ∨ u.ownBlock ≠ u'.ownBlock)
    (hr : OInts w B rv row) (hne : ∀ (i : Nat) (u : Value), us[i]? = some u → u.ownBlock = none ∨ u.ownBlock ≠ rv.ownBlock) (hg : w.grownBy w1 v.ownBlock) (hv' : w1.ownsRow B 55 1 v' (rows.length + 1) (us ++ [rv])) :
    ORows w1 B v' (rows ++ [row]) := by
  have keep1 : ∀ {u : Value} {r : List Int}, OInts w B u r → OInts w1 B u r := fun hu => own_grown hu hg (hu.blk_ne h1)
  refine ⟨us ++ [rv], by simpa using hv', by simp [h2], fun j u r hu hrow => ?_, fun i j u u' hij hi hj => ?_⟩
  · rcases Nat.lt_or_ge j us.length with hj | hj
    · rw [List.getElem?_append_left hj] at hu
      rw [List.getElem?_append_left (by omega)] at hrow
      exact keep1 (h3 j u r hu hrow)
    · rw [List.getElem?_append_right hj] at hu
      rw [List.getElem?_append_right (by omega)] at hrow
      rw [h2] at hu
      rcases hk : j - rows.length with _ | m
      · rw [hk] at hu hrow
        simp at hu hrow
        subst hu hrow
        exact keep1 hr
      · rw [hk] at hu
        simp at hu
  · rcases Nat.lt_or_ge j us.length with hjl | hjl
    · rw [List.getElem?_append_left (by omega)] at hi
      rw [List.getElem?_append_left hjl] at hj
      exact h4 i j u u' hij hi hj
    · rw [List.getElem?_append_right hjl] at hj
      rcases hk : j - us.length with _ | m
      · rw [hk] at hj
        simp at hj
        subst hj
        have hil : i < us.length := by omega
        rw [List.getElem?_append_left hil] at hi
        exact hne i u hi
      · rw [hk] at hj
        simp at hj
end
end

section
open Go.RowKit
set_option linter.unusedVariables false

theorem szIntS_any (v : Value) (xs : List Int) (left : Int) (w : World) (h : RInts w v xs) (h0 : 0 ≤ left) (h1 : left ≤ 1048576) :
    Calls Try.prog 69 #[v, .int .i64 left] w fun e w' => ∃ r : Int, e = .returned (.int .i64 r) ∧ (r < 0 ∨ (0 ≤ r ∧ r + xs.length = left)) ∧ w = w' := by
  have hn := h.len
  obtain ⟨A, c, rfl, -⟩ := h.form
  by_cases hl : left - (xs.length : Int) < 0
  · go_enter Try.func69, Try.ntmps69
    go_wp2
    go_ret
    exact ⟨-1, rfl, .inl (by omega), rfl⟩
  · go_enter Try.func69, Try.ntmps69
    go_wp2
    go_ret
    exact ⟨_, rfl, .inr ⟨by omega, by omega⟩, rfl⟩

/-- rows that are not too many and not too long -/
def Fits (rows : List (List Int)) : Prop := rows.length ≤ 1048576 ∧ ∀ row ∈ rows, row.length ≤ 1048576

theorem szIntSS_any (v : Value) (rows : List (List Int)) (left : Int) (w : World) (h : RRows w v rows) (h0 : 0 ≤ left) (h1 : left ≤ 1048576) :
    Calls Try.prog 31 #[v, .int .i64 left] w fun e w' => ∃ r : Int, e = .returned (.int .i64 r) ∧ (r < 0 ∨ (0 ≤ r ∧ r ≤ left ∧ Fits rows)) ∧ w = w' := by
  have H := Lib.hid h
  have hn := h.len
  obtain ⟨A, c, rfl, -⟩ := h.form
  clear h
  by_cases hl : left - (rows.length : Int) < 0
  · go_enter Try.func31, Try.ntmps31
    go_wp2
    go_ret
    exact ⟨-1, rfl, .inl (by omega), rfl⟩
  · go_enter Try.func31, Try.ntmps31
    go_wp2
    go_loop [1, 5] (fun l i => ∃ k : Nat, ∃ r : Int, k ≤ rows.length ∧ i = .int .i64 k ∧ l = .int .i64 r ∧ 0 ≤ r ∧ r ≤ left ∧ (∀ row ∈ rows.take k, row.length ≤ 1048576)) (fun _ i => rows.length - (intOf i).toNat)
    case atStart => exact ⟨0, _, Nat.zero_le _, rfl, rfl, by omega, by omega, by simp⟩
    case round =>
      obtain ⟨k, r, hk, rfl, rfl, hr0, hr1, hb0⟩ := hrel
      have hb := Lib.hid hb0
      clear hb0
      by_cases hlt : k < rows.length
      · obtain ⟨b, o, c', u, e, hcell, hri⟩ := H.out.at_ hlt
        cases e
        have HT := Lib.hid (List.take_succ_eq_append_getElem hlt)
        generalize rows[k] = row at hri HT
        have HI := Lib.hid hri
        obtain ⟨A', c'', rfl, -⟩ := hri.form
        clear hri
        go_wp2_with fail
        refine (szIntS_any _ row _ _ HI.out hr0 (by omega)).mono ?_
        rintro e w1 ⟨r', rfl, hr', rfl⟩
        by_cases hneg : r' < 0
        · clear hr'
          go_wp2
          go_ret
          exact ⟨-1, rfl, .inl (by omega), rfl⟩
        · obtain ⟨h2, h3⟩ := hr'.resolve_left hneg
          have HR := Lib.hid h3
          clear h3 hr'
          go_wp2
          go_round
          case rel =>
            refine ⟨k + 1, r', by omega, by go_num, rfl, h2, by have := HR.out; omega, ?_⟩
            rw [HT.out]
            intro x hx
            rcases List.mem_append.1 hx with hx | hx
            · exact hb.out x hx
            · simp at hx; subst hx; have := HR.out; omega
          case measure => simp [intOf]; omega
      · go_wp2
        go_ret
        have h := hb.out
        rw [take_all (by omega)] at h
        exact ⟨r, rfl, .inr ⟨hr0, hr1, by omega, h⟩, rfl⟩

theorem szSig_any (v : Value) (s : MSig) (left : Int) (w : World) (h : RSig w v s) (h0 : 0 ≤ left) (h1 : left ≤ 1048576) :
    Calls Try.prog 12 #[v, .int .i64 left] w fun e w' => ∃ r : Int, e = .returned (.int .i64 r) ∧ (r < 0 ∨ (0 ≤ r ∧ r ≤ left ∧ Fits s.ops)) ∧ Below w.heap.size w w' := by
  obtain ⟨u, rfl, hr⟩ := h
  obtain ⟨sorts, ops⟩ := s
  have H := Lib.hid (hr.keep (below_alloc w (.cells #[.int .i64 sorts, u] 24)))
  have HB := Lib.hid (below_alloc w (.cells #[.int .i64 sorts, u] 24))
  obtain ⟨A, c, rfl, -⟩ := hr.form
  clear hr
  go_enter Try.func12, Try.ntmps12
  go_wp2_with fail
  refine (szIntSS_any _ ops _ _ H.out h0 h1).mono ?_
  rintro e w1 ⟨r, rfl, hr, rfl⟩
  by_cases hneg : r < 0
  · clear hr
    go_wp2
    go_ret
    exact ⟨-1, rfl, .inl (by omega), HB.out⟩
  · have HR := Lib.hid (hr.resolve_left hneg)
    clear hr
    go_wp2
    go_ret
    exact ⟨r, rfl, .inr HR.out, HB.out⟩
end

section
open Go.RowKit
set_option linter.unusedVariables false

theorem Try.tinfo_int : (Try.prog.info? 3).map (fun i => (i.zero, i.size, i.bytes)) = some (some (.int .i64 0), 1, 8) := by kernel_rfl

theorem blk_cell {w : World} {b : Nat} {cs : Array Value} {t : TypeId} (h : w.heap[b]? = some (.cells cs t (0, 0))) (i : Nat) : w.cell? ⟨b, i, none⟩ = cs[i]? := by simp [World.cell?, h]
theorem blk_free {w : World} {b : Nat} {cs : Array Value} {t : TypeId} (h : w.heap[b]? = some (.cells cs t (0, 0))) (i : Nat) : w.frozen? ⟨b, i, none⟩ = false := by simp [World.frozen?, h]
theorem blk_set {w : World} {b : Nat} {cs : Array Value} {t : TypeId} (h : w.heap[b]? = some (.cells cs t (0, 0))) (i : Nat) (u : Value) : (w.setCell ⟨b, i, none⟩ u).heap[b]? = some (.cells (cs.setIfInBounds i u) t (0, 0)) := by
  simp [World.setCell, Array.getElem?_modify, h]

theorem block_cell' {w : World} {b : Nat} {cs : Array Value} {t : TypeId} (h : w.heap[b]? = some (.cells cs t (0, 0))) (i : Nat) : w.cell? ⟨b, i, none⟩ = cs[i]? := blk_cell h i
theorem block_free' {w : World} {b : Nat} {cs : Array Value} {t : TypeId} (h : w.heap[b]? = some (.cells cs t (0, 0))) (i : Nat) : w.frozen? ⟨b, i, none⟩ = false := blk_free h i
theorem ORows.setLow' {w : World} {B b : Nat} {v : Value} {rows : List (List Int)} (h : ORows w B v rows) (hb : b < B) (i : Nat) (x : Value) : ORows (w.setCell ⟨b, i, none⟩ x) B v rows := by
  obtain ⟨us, a1, a2, a3, a4⟩ := h
  exact ⟨us, ownsRow_setCell_below a1 hb _, a2, fun j u r a b => ownsRow_setCell_below (a3 j u r a b) hb _, a4⟩

/-- a row that is being filled: k of its places are done -/
def Filling (w wr : World) (zs : List Int) (k : Nat) : Prop :=
  ∃ cur : Array Value, wr.heap[w.heap.size]? = some (.cells cur 3 (0, 0)) ∧ cur.size = zs.length ∧ (∀ j, j < k → cur[j]? = (zs[j]?).map (Value.int .i64)) ∧ Below w.heap.size w wr

theorem Filling.start (w : World) (zs : List Int) (cur : Array Value) (h : cur.size = zs.length) : Filling w (w.alloc (.cells cur 3)) zs 0 :=
  ⟨cur, heap_alloc_new w _, h, fun j hj => by omega, below_alloc _ _⟩
theorem Filling.step {w wr : World} {zs : List Int} {k : Nat} (h : Filling w wr zs k) (hk : k < zs.length) {x : Int} (hx : zs[k] = x) : Filling w (wr.setCell ⟨w.heap.size, k, none⟩ (.int .i64 x)) zs (k + 1) := by
  obtain ⟨cur, h1, h2, h3, h4⟩ := h
  refine ⟨_, blk_set h1 k _, by simpa using h2, fun j hj => ?_, h4.setCell (Nat.le_refl _) _⟩
  rw [Array.getElem?_setIfInBounds]
  by_cases hjk : k = j
  · subst hjk
    rw [if_pos rfl, if_pos (by omega), List.getElem?_eq_getElem hk, hx]
    rfl
  · rw [if_neg hjk]
    exact h3 j (by omega)
theorem Filling.cell {w wr : World} {zs : List Int} {k : Nat} (h : Filling w wr zs k) (hk : k < zs.length) : ∃ u, wr.cell? ⟨w.heap.size, k, none⟩ = some u ∧ wr.frozen? ⟨w.heap.size, k, none⟩ = false := by
  obtain ⟨cur, h1, h2, h3, h4⟩ := h
  exact ⟨cur[k]'(by omega), (blk_cell h1 k).trans (Array.getElem?_eq_getElem (by omega)), blk_free h1 k⟩
theorem Filling.done {w wr : World} {zs : List Int} {n : Nat} (h : Filling w wr zs n) (hn : n = zs.length) (hm : n ≤ 9223372036854775807) : OInts wr w.heap.size (.slice (some ⟨w.heap.size, 0, none⟩) n n) zs ∧ Below w.heap.size w wr := by
  obtain ⟨cur, h1, h2, h3, h4⟩ := h
  subst hn
  refine ⟨⟨by simp, .inr ⟨w.heap.size, _, cur, rfl, Nat.le_refl _, h1, Nat.le_refl _, by rw [maxLen_eq]; exact hm, by simpa using h2, ?_⟩⟩, h4⟩
  apply List.ext_getElem?
  intro j
  rw [List.getElem?_take, List.getElem?_map]
  split
  · rw [Array.getElem?_toList]
    exact h3 j (by omega)
  · rw [List.getElem?_eq_none (by omega)]
    rfl

theorem Try.tinfo_ints : (Try.prog.info? 55).map (fun i => (i.zero, i.size, i.bytes)) = some (some (.slice none 0 0), 1, 24) := by kernel_rfl

/-- a list of rows that is being filled: k of its rows are done -/
def FillingR (w wr : World) (rows : List (List Int)) (k : Nat) : Prop :=
  ∃ cur : Array Value, wr.heap[w.heap.size]? = some (.cells cur 55 (0, 0)) ∧ cur.size = rows.length ∧ (∀ (j : Nat) (row : List Int), j < k → rows[j]? = some row → ∃ u, cur[j]? = some u ∧ OInts wr (w.heap.size + 1) u row) ∧
    (∀ (i j : Nat) (u u' : Value), i < j → j < k → cur[i]? = some u → cur[j]? = some u' → u.ownBlock = none ∨ u.ownBlock ≠ u'.ownBlock) ∧ Below w.heap.size w wr
theorem FillingR.start (w : World) (rows : List (List Int)) (cur : Array Value) (h : cur.size = rows.length) : FillingR w (w.alloc (.cells cur 55)) rows 0 :=
  ⟨cur, heap_alloc_new w _, h, fun j row hj => by omega, fun i j u u' _ hj => by omega, below_alloc _ _⟩
theorem FillingR.cell {w wr : World} {rows : List (List Int)} {k : Nat} (h : FillingR w wr rows k) (hk : k < rows.length) {w1 : World} (hb : Below wr.heap.size wr w1) : ∃ u, w1.cell? ⟨w.heap.size, k, none⟩ = some u ∧ w1.frozen? ⟨w.heap.size, k, none⟩ = false := by
  obtain ⟨cur, h1, h2, h3, h4, h5⟩ := h
  have h1' := (hb.block _ (Array.getElem?_eq_some_iff.1 h1).1).trans h1
  exact ⟨cur[k]'(by omega), (blk_cell h1' k).trans (Array.getElem?_eq_getElem (by omega)), blk_free h1' k⟩
theorem FillingR.step {w wr w1 : World} {rows : List (List Int)} {k : Nat} {u : Value} (h : FillingR w wr rows k) (hk : k < rows.length) (hb : Below wr.heap.size wr w1) (hu : OInts w1 wr.heap.size u rows[k]) : FillingR w (w1.setCell ⟨w.heap.size, k, none⟩ u) rows (k + 1) := by
  obtain ⟨cur, h1, h2, h3, h4, h5⟩ := h
  have hlt := (Array.getElem?_eq_some_iff.1 h1).1
  have h1' := (hb.block _ hlt).trans h1
  refine ⟨_, blk_set h1' k _, by simpa using h2, fun j row hj hrow => ?_, fun i j x x' hij hjk hi hj => ?_, ((h5.trans (hb.mono (by omega))).setCell (Nat.le_refl _) _)⟩
  · by_cases hjk : k = j
    · subst hjk
      rw [List.getElem?_eq_getElem hk] at hrow
      cases hrow
      exact ⟨u, by rw [Array.getElem?_setIfInBounds, if_pos rfl, if_pos (by omega)], ownsRow_setCell_below (hu.base (by omega)) (by show w.heap.size < w.heap.size + 1; omega) _⟩
    · obtain ⟨x, hx, hxo⟩ := h3 j row (by omega) hrow
      exact ⟨x, by rw [Array.getElem?_setIfInBounds, if_neg hjk]; exact hx, ownsRow_setCell_below (hxo.keep hb) (by show w.heap.size < w.heap.size + 1; omega) _⟩
  · rw [Array.getElem?_setIfInBounds, if_neg (by omega)] at hi
    by_cases hjk' : k = j
    · subst hjk'
      rw [Array.getElem?_setIfInBounds, if_pos rfl, if_pos (by omega)] at hj
      cases hj
      obtain ⟨y, hy, hyo⟩ := h3 i _ hij (List.getElem?_eq_getElem (show i < rows.length by omega))
      rw [hy] at hi
      cases hi
      cases hbx : x.ownBlock with
      | none => exact .inl rfl
      | some b =>
        right
        intro e
        have a := (own_lt hyo b hbx).2
        have c := (own_lt hu b e.symm).1
        omega
    · rw [Array.getElem?_setIfInBounds, if_neg hjk'] at hj
      exact h4 i j x x' hij (by omega) hi hj
theorem FillingR.done {w wr : World} {rows : List (List Int)} {n : Nat} (h : FillingR w wr rows n) (hn : n = rows.length) (hm : n ≤ 9223372036854775807) : ORows wr w.heap.size (.slice (some ⟨w.heap.size, 0, none⟩) n n) rows ∧ Below w.heap.size w wr := by
  obtain ⟨cur, h1, h2, h3, h4, h5⟩ := h
  subst hn
  refine ⟨⟨cur.toList, ?_, by simpa using h2, fun j u row hu hrow => ?_, fun i j u u' hij hi hj => ?_⟩, h5⟩
  · refine ⟨by simp [h2], .inr ⟨w.heap.size, _, cur, rfl, Nat.le_refl _, h1, Nat.le_refl _, by rw [maxLen_eq]; exact hm, by simpa using h2, List.take_of_length_le (by simp [h2])⟩⟩
  · obtain ⟨x, hx, hxo⟩ := h3 j row (List.getElem?_eq_some_iff.1 hrow).1 hrow
    rw [Array.getElem?_toList, hx] at hu
    cases hu
    exact hxo.base (by omega)
  · rw [Array.getElem?_toList] at hi hj
    exact h4 i j u u' hij (by have := (Array.getElem?_eq_some_iff.1 hj).1; omega) hi hj
end

section
open Go.RowKit
set_option linter.unusedVariables false

theorem toIntS_any (v : Value) (xs : List Int) (w : World) (h : RInts w v xs) (hs : xs.length ≤ 1048576) :
    Calls Try.prog 36 #[v] w fun e w' => ∃ u, e = .returned u ∧ OInts w' w.heap.size u xs ∧ Below w.heap.size w w' := by
  have H := Lib.hid h
  obtain ⟨A, c, rfl, -⟩ := h.form
  clear h
  have hmk := run_make_row' (P := Try.prog) 55 3 (.int .i64 0) 8 Try.underlying55 Try.tinfo_int rfl .i64 .i64 xs.length (by omega) (by omega)
  go_enter Try.func36, Try.ntmps36
  go_wp2
  go_loopw [4] (fun i wr => ∃ k : Nat, k ≤ xs.length ∧ i = .int .i64 k ∧ Filling w wr xs k) (fun i _ => xs.length - (intOf i).toNat)
  case atStart => exact ⟨0, Nat.zero_le _, rfl, Filling.start w _ _ (by simp [madeCells])⟩
  case round =>
    obtain ⟨k, hk, rfl, hf⟩ := hrel
    have HF := Lib.hid hf
    clear hf hmk
    by_cases hlt : k < xs.length
    · obtain ⟨b, o, c', e, hx⟩ := (H.out.keep (by obtain ⟨_, _, _, _, hb⟩ := HF.out; exact hb)).at_ hlt
      cases e
      obtain ⟨u, g1, g2⟩ := HF.out.cell hlt
      have HX := Lib.hid (rfl : xs[k] = xs[k])
      obtain ⟨x, hxe⟩ : ∃ x, x = xs[k] := ⟨_, rfl⟩
      rw [← hxe] at hx
      have HX := Lib.hid hxe
      clear hxe
      go_wp2
      go_roundw
      case rel => exact ⟨k + 1, by omega, by go_num, HF.out.step hlt HX.out.symm⟩
      case measure => simp [intOf]; omega
    · go_wp2
      go_ret
      obtain ⟨r1, r2⟩ := HF.out.done (by omega) (by omega)
      have hkn : k = xs.length := by omega
      subst hkn
      exact ⟨_, rfl, r1, r2⟩

theorem toIntSS_any (v : Value) (rows : List (List Int)) (w : World) (h : RRows w v rows) (hs : Fits rows) :
    Calls Try.prog 37 #[v] w fun e w' => ∃ u, e = .returned u ∧ ORows w' w.heap.size u rows ∧ Below w.heap.size w w' := by
  have H := Lib.hid h
  have HS := Lib.hid hs
  obtain ⟨A, c, rfl, -⟩ := h.form
  have hlen := hs.1
  clear h hs
  have hmk := run_make_row' (P := Try.prog) 22 55 (.slice none 0 0) 24 Try.underlying22 Try.tinfo_ints rfl .i64 .i64 rows.length (by omega) (by omega)
  go_enter Try.func37, Try.ntmps37
  go_wp2
  go_loopw [4] (fun i wr => ∃ k : Nat, k ≤ rows.length ∧ i = .int .i64 k ∧ FillingR w wr rows k) (fun i _ => rows.length - (intOf i).toNat)
  case atStart => exact ⟨0, Nat.zero_le _, rfl, FillingR.start w _ _ (by simp [madeCells])⟩
  case round =>
    obtain ⟨k, hk, rfl, hf⟩ := hrel
    have HF := Lib.hid hf
    clear hf hmk
    by_cases hlt : k < rows.length
    · obtain ⟨b, o, c', u, e, hx, hri⟩ := (H.out.keep (by obtain ⟨_, _, _, _, _, hb⟩ := HF.out; exact hb)).at_ hlt
      cases e
      have hrl := HS.out.2 _ (List.getElem_mem hlt)
      have HI := Lib.hid hri
      have HRL := Lib.hid hrl
      obtain ⟨A', c'', rfl, -⟩ := hri.form
      clear hri hrl
      go_wp2_with fail
      refine (toIntS_any _ rows[k] _ HI.out HRL.out).mono ?_
      rintro e w1 ⟨u, rfl, ho, hb⟩
      obtain ⟨u0, g1, g2⟩ := HF.out.cell hlt hb
      have HN := Lib.hid (HF.out.step hlt hb ho)
      obtain ⟨A1, c1, rfl, -⟩ := ho.reads.form
      clear ho hb
      go_wp2
      go_roundw
      case rel => exact ⟨k + 1, by omega, by go_num, HN.out⟩
      case measure => simp [intOf]; omega
    · go_wp2
      go_ret
      obtain ⟨r1, r2⟩ := HF.out.done (by omega) (by omega)
      have hkn : k = rows.length := by omega
      subst hkn
      exact ⟨_, rfl, r1, r2⟩
end

section
open Go.RowKit
set_option linter.unusedVariables false

set_option maxRecDepth 100000 in
theorem toSig_any (v : Value) (s : MSig) (w : World) (h : RSig w v s) (hs : Fits s.ops) :
    Calls Try.prog 14 #[v] w fun e w' => ∃ u, e = .returned u ∧ OSig w' w.heap.size u s ∧ Below w.heap.size w w' := by
  obtain ⟨u, rfl, hr⟩ := h
  obtain ⟨sorts, ops⟩ := s
  obtain ⟨W3, hW3⟩ : ∃ W3, W3 = ((w.alloc (.cells #[.int .i64 sorts, u] 24)).alloc (.cells #[.int .i64 0, .slice none 0 0] 33)).alloc (.cells #[.int .i64 sorts, .slice none 0 0] 33) := ⟨_, rfl⟩
  have hb3 : Below w.heap.size w W3 := by rw [hW3]; exact ((below_alloc _ _).alloc (by simp) _).alloc (by simp; omega) _
  have hz3 : W3.heap.size = w.heap.size + 3 := by rw [hW3]; simp
  have e1 : W3.heap[w.heap.size + 1]? = some (.cells #[.int .i64 0, .slice none 0 0] 33 (0, 0)) := by
    rw [hW3, heap_alloc_old _ _ (by simp)]
    exact (congrArg (fun i => ((w.alloc (.cells #[.int .i64 sorts, u] 24)).alloc (.cells #[.int .i64 0, .slice none 0 0] 33)).heap[i]?) (by simp)).trans (heap_alloc_new (w.alloc (.cells #[.int .i64 sorts, u] 24)) _)
  have e2 : W3.heap[w.heap.size + 2]? = some (.cells #[.int .i64 sorts, .slice none 0 0] 33 (0, 0)) := by
    rw [hW3]
    exact (congrArg (fun i => (((w.alloc (.cells #[.int .i64 sorts, u] 24)).alloc (.cells #[.int .i64 0, .slice none 0 0] 33)).alloc (.cells #[.int .i64 sorts, .slice none 0 0] 33)).heap[i]?) (by simp)).trans (heap_alloc_new ((w.alloc (.cells #[.int .i64 sorts, u] 24)).alloc (.cells #[.int .i64 0, .slice none 0 0] 33)) _)
  have H := Lib.hid (show RRows (((w.alloc (.cells #[.int .i64 sorts, u] 24)).alloc (.cells #[.int .i64 0, .slice none 0 0] 33)).alloc (.cells #[.int .i64 sorts, .slice none 0 0] 33)) u ops by rw [← hW3]; exact hr.keep hb3)
  have HW3 := Lib.hid (And.intro hW3 (And.intro hb3 (And.intro hz3 (And.intro e1 e2))))
  have HS := Lib.hid hs
  obtain ⟨A, c, rfl, -⟩ := hr.form
  clear hr hW3 hb3 hz3 e1 e2 hs
  go_enter Try.func14, Try.ntmps14
  go_wp2_with fail
  refine (toIntSS_any _ ops _ H.out HS.out).mono ?_
  rintro e w4 ⟨v, rfl, ho, hb⟩
  obtain ⟨hW3, hb3, hz3, e1, e2⟩ := HW3.out
  rw [← hW3] at ho hb
  have f1 := (hb.block _ (by omega)).trans e1
  have f2 := (hb.block _ (by omega)).trans e2
  rw [hz3] at ho
  have hsz := hb.size
  rw [hz3] at hsz
  have HO := Lib.hid ho
  have HB := Lib.hid (hb3.trans (hb.mono (by omega)))
  obtain ⟨A4, c4, rfl, -⟩ := ho.reads.form
  have j0 := block_cell' f1 0
  have j1 := block_cell' f1 1
  have j2 := block_free' f1 0
  have j3 := block_free' f1 1
  have j4 := block_cell' f2 0
  have j5 := block_cell' f2 1
  have j6 := block_free' f2 1
  simp at j0 j1 j4 j5
  have HF := Lib.hid (And.intro f1 f2)
  clear ho hb hb3 hz3 e1 e2 f1 f2 hW3 HW3
  go_wp2
  obtain ⟨f1, f2⟩ := HF.out
  have d1 := blk_set (blk_set ((Below.heap_setCell w4 ⟨w.heap.size + 2, 1, none⟩ (.slice A4 ops.length c4) (w.heap.size + 1) (by show w.heap.size + 1 ≠ w.heap.size + 2; omega)).trans f1) 0 (.int .i64 sorts)) 1 (.slice A4 ops.length c4)
  have d2 := ((HO.out.setLow' (b := w.heap.size + 2) (by omega) 1 (.slice A4 ops.length c4)).setLow' (b := w.heap.size + 1) (by omega) 0 (.int .i64 sorts)).setLow' (b := w.heap.size + 1) (by omega) 1 (.slice A4 ops.length c4)
  have d3 := ((HB.out.setCell (p := ⟨w.heap.size + 2, 1, none⟩) (by show w.heap.size ≤ w.heap.size + 2; omega) (.slice A4 ops.length c4)).setCell (p := ⟨w.heap.size + 1, 0, none⟩) (by show w.heap.size ≤ w.heap.size + 1; omega) (.int .i64 sorts)).setCell (p := ⟨w.heap.size + 1, 1, none⟩) (by show w.heap.size ≤ w.heap.size + 1; omega) (.slice A4 ops.length c4)
  generalize ((w4.setCell ⟨w.heap.size + 2, 1, none⟩ (.slice A4 ops.length c4)).setCell ⟨w.heap.size + 1, 0, none⟩ (.int .i64 sorts)).setCell ⟨w.heap.size + 1, 1, none⟩ (.slice A4 ops.length c4) = w9 at d1 d2 d3 ⊢
  have k0 := blk_cell d1 0
  have k1 := blk_cell d1 1
  simp at k0 k1
  clear j0 j1 j2 j3 j4 j5 j6 f1 f2
  refine bodyPost_ret (v := .agg #[.int .i64 sorts, .slice A4 ops.length c4]) (by simp [results, Try.results14, go_sem, k0, k1]) rfl ?_
  exact ⟨_, rfl, ⟨_, rfl, d2.base (by omega)⟩, d3⟩
end

section
open Go.ChangeShapes Go.WideShapes Go.ChangeAt Go.RowKit
set_option linter.unusedVariables false

theorem gr_undrew {a w w' : World} {B : Nat} (h : Below B a w.drew) : Below B a w := ⟨h.os, h.tape, h.output, h.size, h.block⟩
theorem below_undrew {B : Nat} {w w' : World} (h : Below B w.drew w') : Below B w w' := ⟨h.os, h.tape, h.output, h.size, h.block⟩
theorem bx_cells (w : World) (a b : Value) (t : TypeId) : (w.alloc (.cells #[a, b] t)).cell? ⟨w.heap.size, 0, none⟩ = some a ∧ (w.alloc (.cells #[a, b] t)).cell? ⟨w.heap.size, 1, none⟩ = some b := by
  constructor <;> (rw [World.cell?_alloc_at _ _ _ _ rfl]; rfl)
end

section
open Go.RowKit
set_option linter.unusedVariables false

def marks (k : Int) (n : Nat) : List Int := (List.range n).map fun (i : Nat) => k + (i : Int)
theorem marks_len (k : Int) (n : Nat) : (marks k n).length = n := by simp [marks]
theorem marks_at {k : Int} {n j : Nat} (h : j < (marks k n).length) : (marks k n)[j] = k + (j : Int) := by simp [marks]

/-- of w's blocks only those from B on and below M may have turned, and none is new -/
structure Outside (B M : Nat) (w w' : World) : Prop where
  os : w'.os = w.os
  tape : w'.tape = w.tape
  output : w'.output = w.output
  size : w'.heap.size = w.heap.size
  block : ∀ k, k < B ∨ M ≤ k → w'.heap[k]? = w.heap[k]?
theorem Outside.refl (B M : Nat) (w : World) : Outside B M w w := ⟨rfl, rfl, rfl, rfl, fun _ _ => rfl⟩
theorem Outside.trans {B M : Nat} {a b c : World} (h : Outside B M a b) (k : Outside B M b c) : Outside B M a c :=
  ⟨k.os.trans h.os, k.tape.trans h.tape, k.output.trans h.output, k.size.trans h.size, fun i hi => (k.block i hi).trans (h.block i hi)⟩
theorem Outside.below {B M : Nat} {w w' : World} (h : Outside B M w w') : Below B w w' := ⟨h.os, h.tape, h.output, Nat.le_of_eq h.size.symm, fun k hk => h.block k (.inl hk)⟩
theorem Outside.mono {B M B' M' : Nat} {w w' : World} (h : Outside B M w w') (hB : B' ≤ B) (hM : M ≤ M') : Outside B' M' w w' := ⟨h.os, h.tape, h.output, h.size, fun k hk => h.block k (by omega)⟩
theorem own_outside {w w' : World} {B M C : Nat} {e : TypeId} {size n : Nat} {v : Value} {zs : List Value} (h : w.ownsRow C e size v n zs) (ho : Outside B M w w') (hC : ∀ k, v.ownBlock = some k → k < B ∨ M ≤ k) : w'.ownsRow C e size v n zs := by
  refine ⟨h.1, ?_⟩
  rcases h.2 with h2 | ⟨g, cap, cur, rfl, hg, hh, r⟩
  · exact .inl h2
  · exact .inr ⟨g, cap, cur, rfl, hg, (ho.block g (hC g rfl)).trans hh, r⟩

/-- a row of the call's own whose first k places bear marks -/
def Marking (w wr : World) (B : Nat) (v : Value) (xs : List Int) (k0 : Int) (k : Nat) : Prop :=
  (∃ ys : List Int, ys.length = xs.length ∧ OInts wr B v ys ∧ ∀ j, j < k → ys[j]? = some (k0 + (j : Int))) ∧ w.grownBy wr v.ownBlock ∧ wr.heap.size = w.heap.size

theorem Marking.start {w : World} {B : Nat} {v : Value} {xs : List Int} (k0 : Int) (h : OInts w B v xs) : Marking w w B v xs k0 0 := ⟨⟨xs, rfl, h, fun j hj => by omega⟩, ⟨rfl, rfl, rfl, Nat.le_refl _, fun _ _ _ => rfl⟩, rfl⟩
theorem Marking.cell {w wr : World} {B g c : Nat} {n : Nat} {xs : List Int} {k0 : Int} {k : Nat} (h : Marking w wr B (.slice (some ⟨g, 0, none⟩) n c) xs k0 k) (hk : k < xs.length) : ∃ u, wr.cell? ⟨g, k, none⟩ = some u ∧ wr.frozen? ⟨g, k, none⟩ = false := by
  obtain ⟨⟨ys, h1, h2, h3⟩, h4⟩ := h
  rcases h2.2 with ⟨e, _⟩ | ⟨g', cap, cur, e, hg, hh, a1, a2, a3, a4⟩
  · cases e
  · injection e with e1 e2
    injection e1 with e1
    injection e1 with e1
    subst e1
    exact ⟨cur[k]'(by omega), (blk_cell hh k).trans (Array.getElem?_eq_getElem (by omega)), blk_free hh k⟩
theorem Marking.step {w wr : World} {B g c : Nat} {n : Nat} {xs : List Int} {k0 : Int} {k : Nat} (h : Marking w wr B (.slice (some ⟨g, 0, none⟩) n c) xs k0 k) (hk : k < xs.length) :
    Marking w (wr.setCell ⟨g, k, none⟩ (.int .i64 (k0 + (k : Int)))) B (.slice (some ⟨g, 0, none⟩) n c) xs k0 (k + 1) := by
  obtain ⟨⟨ys, h1, h2, h3⟩, h4⟩ := h
  have hgl := own_lt h2 g rfl
  have hn : n = ys.length := by
    obtain ⟨A, c', e, _⟩ := own_reads h2
    injection e
  subst hn
  have hst := h2.stored k (.int .i64 (k0 + (k : Int)))
  refine ⟨⟨ys.set k (k0 + (k : Int)), by simpa using h1, ?_, fun j hj => ?_⟩, ⟨h4.1.os, h4.1.tape, h4.1.output, by simpa [World.setCell] using h4.1.size, fun i hi hne => (hst.2.block i (by rw [h4.2]; exact hi) hne).trans (h4.1.block i hi hne)⟩, by simpa [World.setCell] using h4.2⟩
  · unfold OInts
    rw [List.length_set, List.map_set]
    exact hst.1
  · by_cases hjk : k = j
    · subst hjk
      rw [List.getElem?_set_self (by omega)]
    · rw [List.getElem?_set_ne hjk]
      exact h3 j (by omega)
theorem Marking.done {w wr : World} {B : Nat} {v : Value} {xs : List Int} {k0 : Int} {k : Nat} (h : Marking w wr B v xs k0 k) (hk : k = xs.length) : OInts wr B v (marks k0 xs.length) ∧ w.grownBy wr v.ownBlock ∧ wr.heap.size = w.heap.size := by
  obtain ⟨⟨ys, h1, h2, h3⟩, h4⟩ := h
  have e : ys = marks k0 xs.length := by
    apply List.ext_getElem?
    intro j
    by_cases hj : j < xs.length
    · rw [h3 j (by omega), List.getElem?_eq_getElem (by rw [marks_len]; exact hj), marks_at]
    · rw [List.getElem?_eq_none (by omega), List.getElem?_eq_none (by rw [marks_len]; omega)]
  rw [← e]; exact ⟨h2, h4⟩

theorem markIntS_any (v : Value) (B : Nat) (xs : List Int) (k0 : Int) (w : World) (h : OInts w B v xs) (hs : xs.length ≤ 1048576) (h0 : 0 ≤ k0) (h1 : k0 ≤ 1000000000000000) :
    Calls Try.prog 47 #[v, .int .i64 k0] w fun e w' => e = .returned (.int .i64 (k0 + (xs.length : Int))) ∧ OInts w' B v (marks k0 xs.length) ∧ w.grownBy w' v.ownBlock ∧ w'.heap.size = w.heap.size := by
  have H := Lib.hid (Marking.start k0 h)
  obtain ⟨A, c, rfl, hc, -⟩ := h.reads.form
  have hA : xs.length ≠ 0 → ∃ g, A = some ⟨g, 0, none⟩ := fun hne => by
    rcases h.2 with ⟨e, e2⟩ | ⟨g, cap, cur, e, -⟩
    · exact absurd e2 hne
    · injection e with e; exact ⟨g, e⟩
  have HA := Lib.hid hA
  clear h hA
  go_enter Try.func47, Try.ntmps47
  go_wp2
  go_loopw [1, 5] (fun l i wr => ∃ k : Nat, k ≤ xs.length ∧ i = .int .i64 k ∧ l = .int .i64 (k0 + (k : Int)) ∧ Marking w wr B (.slice A xs.length c) xs k0 k) (fun _ i _ => xs.length - (intOf i).toNat)
  case atStart => exact ⟨0, Nat.zero_le _, rfl, by simp, H.out⟩
  case round =>
    obtain ⟨k, hk, rfl, rfl, hm⟩ := hrel
    have HM := Lib.hid hm
    clear hm
    by_cases hlt : k < xs.length
    · obtain ⟨g, rfl⟩ := HA.out (by omega)
      obtain ⟨u, g1, g2⟩ := HM.out.cell hlt
      go_wp2
      go_roundw
      case rel => exact ⟨k + 1, by omega, by go_num, by go_num, HM.out.step hlt⟩
      case measure => simp [intOf]; omega
    · go_wp2
      go_ret
      obtain ⟨r1, r2⟩ := HM.out.done (by omega)
      have hkn : k = xs.length := by omega
      subst hkn
      exact ⟨rfl, r1, r2⟩

theorem heldIntS_any (v : Value) (n : Nat) (k0 : Int) (w : World) (h : RInts w v (marks k0 n)) (hs : n ≤ 1048576) (h0 : 0 ≤ k0) (h1 : k0 ≤ 1000000000000000) :
    Calls Try.prog 115 #[v, .int .i64 k0] w fun e w' => e = .returned (.int .i64 (k0 + (n : Int))) ∧ Drawn w w' := by
  have H := Lib.hid h
  obtain ⟨A, c, e, -⟩ := h.form
  rw [marks_len] at e
  subst e
  clear h
  go_enter Try.func115, Try.ntmps115
  go_wp2
  go_loopw [1, 5] (fun l i wr => ∃ k : Nat, k ≤ n ∧ i = .int .i64 k ∧ l = .int .i64 (k0 + (k : Int)) ∧ Drawn w wr) (fun _ i _ => n - (intOf i).toNat)
  case atStart => exact ⟨0, Nat.zero_le _, rfl, by simp, Drawn.refl _⟩
  case round =>
    obtain ⟨k, hk, rfl, rfl, hd⟩ := hrel
    have HD := Lib.hid hd
    clear hd
    by_cases hlt : k < n
    · obtain ⟨b, o, c', e, hx⟩ := (H.out.keep HD.out.below).at_ (k := k) (by rw [marks_len]; exact hlt)
      rw [marks_len] at e
      cases e
      rw [marks_at] at hx
      have e1 : (k0 + (k : Int) != k0 + (k : Int)) = false := by simp
      go_wp2
      go_roundw
      case rel => exact ⟨k + 1, by omega, by go_num, by go_num, HD.out⟩
      case measure => simp [intOf]; omega
    · go_wp2
      go_ret
      have hkn : k = n := by omega
      subst hkn
      exact ⟨rfl, HD.out⟩

/-- a list of rows of the call's own, whose rows bear whatever numbers; us: where they lie -/
structure MarkR (w wr : World) (B M : Nat) (v : Value) (us : List Value) (rows : List (List Int)) : Prop where
  own : wr.ownsRow B 55 1 v rows.length us
  len : us.length = rows.length
  row : ∀ (j : Nat) (u : Value) (row : List Int), us[j]? = some u → rows[j]? = some row → ∃ ys : List Int, ys.length = row.length ∧ OInts wr B u ys
  apart : ∀ (i j : Nat) (u u' : Value), i < j → us[i]? = some u → us[j]? = some u' → u.ownBlock = none ∨ u.ownBlock ≠ u'.ownBlock
  low : ∀ (j : Nat) (u : Value), us[j]? = some u → ∀ k, u.ownBlock = some k → B ≤ k ∧ k < M
  frame : Outside B M w wr
theorem MarkR.start {w0 w : World} {B : Nat} {v : Value} {rows : List (List Int)} (h : ORows w0 B v rows) (hb : Below w0.heap.size w0 w) : ∃ us, MarkR w w B w0.heap.size v us rows := by
  obtain ⟨us, h1, h2, h3, h4⟩ := h
  refine ⟨us, own_keep h1 hb, h2, fun j u row hu hr => ⟨row, rfl, (h3 j u row hu hr).keep hb⟩, h4, fun j u hu k hk => ?_, Outside.refl _ _ _⟩
  have hj : j < rows.length := by rw [← h2]; exact (List.getElem?_eq_some_iff.1 hu).1
  exact own_lt (h3 j u _ hu (List.getElem?_eq_getElem hj)) k hk
theorem MarkR.step {w wr w1 : World} {B M : Nat} {v u : Value} {us : List Value} {rows : List (List Int)} {j : Nat} {ys : List Int} (h : MarkR w wr B M v us rows) (hu : us[j]? = some u) (hy : OInts w1 B u ys) (hyl : ∀ row, rows[j]? = some row → ys.length = row.length)
    (hxs : ∃ xs, OInts wr B u xs) (hg : wr.grownBy w1 u.ownBlock) (hz : w1.heap.size = wr.heap.size) : MarkR w w1 B M v us rows := by
  obtain ⟨xs, hxs⟩ := hxs
  refine ⟨own_grown h.own hg (own_ne h.own hxs (by decide)), h.len, fun i x row hx hr => ?_, h.apart, h.low, h.frame.trans ⟨hg.os, hg.tape, hg.output, hz, fun k hk => ?_⟩⟩
  · by_cases hij : i = j
    · subst hij
      rw [hu] at hx
      cases hx
      exact ⟨ys, hyl row hr, hy⟩
    · obtain ⟨zs, z1, z2⟩ := h.row i x row hx hr
      refine ⟨zs, z1, own_grown z2 hg ?_⟩
      rcases Nat.lt_or_gt_of_ne hij with hlt | hgt
      · exact h.apart i j x u hlt hx hu
      · rcases h.apart j i u x hgt hu hx with e | e
        · rw [e]
          cases x.ownBlock with
          | none => exact .inl rfl
          | some k => right; simp
        · exact .inr (fun e' => e e'.symm)
  · by_cases hkl : k < wr.heap.size
    · exact hg.block k hkl (fun e => by have := h.low j u hu k e.symm; omega)
    · rw [Array.getElem?_eq_none (by omega), Array.getElem?_eq_none (by omega)]

theorem markIntSS_any (v : Value) (B : Nat) (rows : List (List Int)) (k0 : Int) (w0 w : World) (h : ORows w0 B v rows) (hb : Below w0.heap.size w0 w) (hs : rows.length ≤ 1048576) (hs2 : ∀ row ∈ rows, row.length ≤ 1048576) (h0 : 0 ≤ k0) (h1 : k0 ≤ 100) :
    Calls Try.prog 48 #[v, .int .i64 k0] w fun e w' => ∃ k : Int, e = .returned (.int .i64 k) ∧ 0 ≤ k ∧ k ≤ 10000000000000 ∧ Outside B w0.heap.size w w' := by
  obtain ⟨us, hm0⟩ := MarkR.start h hb
  have HM0 := Lib.hid hm0
  have HS2 := Lib.hid hs2
  obtain ⟨A, c, rfl, -⟩ := own_reads hm0.own
  clear h hb hm0 hs2
  go_enter Try.func48, Try.ntmps48
  go_wp2
  go_loopw [1, 5] (fun l i wr => ∃ k : Nat, ∃ x : Int, k ≤ rows.length ∧ i = .int .i64 k ∧ l = .int .i64 x ∧ 0 ≤ x ∧ x ≤ 100 + 1048576 * (k : Int) ∧ MarkR w wr B w0.heap.size (.slice A rows.length c) us rows) (fun _ i _ => rows.length - (intOf i).toNat)
  case atStart => exact ⟨0, k0, Nat.zero_le _, rfl, rfl, h0, by omega, HM0.out⟩
  case round =>
    obtain ⟨k, x, hk, rfl, rfl, hx0, hx1, hm⟩ := hrel
    have HM := Lib.hid hm
    clear hm
    by_cases hlt : k < rows.length
    · have hul : k < us.length := by rw [HM.out.len]; exact hlt
      obtain ⟨ys, hyl, hyo⟩ := HM.out.row k us[k] rows[k] (List.getElem?_eq_getElem hul) (List.getElem?_eq_getElem hlt)
      have hrl := HS2.out _ (List.getElem_mem hlt)
      obtain ⟨A0, c0, e0, -, -, hcells⟩ := own_reads HM.out.own
      cases e0
      obtain ⟨b, o, ea, hcell⟩ := hcells k us[k] (List.getElem?_eq_getElem hul)
      subst ea
      have HU := Lib.hid (List.getElem?_eq_getElem hul)
      have HYL := Lib.hid (And.intro hyl hrl)
      have HR := Lib.hid (List.getElem?_eq_getElem hlt)
      generalize us[k] = u at hyo hcell HU
      have HYO := Lib.hid hyo
      obtain ⟨Au, cu, rfl, -⟩ := own_reads hyo
      clear hyo hyl hrl hcells hul
      go_wp2_with fail
      refine (markIntS_any _ B ys _ _ HYO.out (by have := HYL.out; omega) hx0 (by omega)).mono ?_
      rintro e w1 ⟨rfl, ho, hg, hz⟩
      have HN := Lib.hid (HM.out.step HU.out ho (fun row hr => by rw [marks_len]; have h := HR.out; rw [h] at hr; cases hr; exact HYL.out.1) ⟨ys, HYO.out⟩ hg hz)
      have hyl : (ys.length : Int) ≤ 1048576 := by have := HYL.out; omega
      clear ho hg hz
      go_wp2
      go_roundw
      case rel => exact ⟨k + 1, _, by omega, by go_num, rfl, by omega, by omega, HN.out⟩
      case measure => simp [intOf]; omega
    · go_wp2
      go_ret
      exact ⟨x, rfl, hx0, by omega, HM.out.frame⟩

theorem markSig_any (v : Value) (B : Nat) (s : MSig) (k0 : Int) (w0 w : World) (h : OSig w0 B v s) (hb : Below w0.heap.size w0 w) (hs : s.ops.length ≤ 1048576) (hs2 : ∀ row ∈ s.ops, row.length ≤ 1048576) (h0 : 0 ≤ k0) (h1 : k0 ≤ 100) :
    Calls Try.prog 17 #[v, .int .i64 k0] w fun e w' => ∃ k : Int, e = .returned (.int .i64 k) ∧ 0 ≤ k ∧ k ≤ 10000000000000 ∧ ∃ o, Outside B w0.heap.size (w.alloc o) w' := by
  obtain ⟨u, rfl, ho⟩ := h
  obtain ⟨sorts, ops⟩ := s
  have HO := Lib.hid ho
  have HB := Lib.hid (hb.trans ((below_alloc w (.cells #[.int .i64 sorts, u] 33)).mono hb.size))
  have HS := Lib.hid (And.intro hs hs2)
  obtain ⟨A, c, rfl, -⟩ := ho.reads.form
  clear ho hb hs hs2
  go_enter Try.func17, Try.ntmps17
  go_wp2_with fail
  refine (markIntSS_any _ B ops _ w0 _ HO.out HB.out HS.out.1 HS.out.2 h0 h1).mono ?_
  rintro e w1 ⟨k, rfl, hk0, hk1, hout⟩
  have HOUT := Lib.hid hout
  clear hout
  go_wp2
  go_ret
  exact ⟨k, rfl, hk0, hk1, _, HOUT.out⟩
end
end Go.Proofs.Ytmmnamjgpfkabab
