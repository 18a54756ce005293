/- l5Value of package spec: the value of the term at a place. By recursion on the term. · ValueOf of both packages. · slices.Backward over a slice of ints: the iterator's contract. · rowAt of package impl: a row of values by its number. -/
import Derived.Test.YtbopcghbmbchkabK23f49072
import Derived.RangeFuncBox
import Derived.RangeFuncLeaves
import Derived.RangeFuncNested
import Derived.Shelf.Abstract
import Derived.WalkKit
import Derived.OwnWalkIn
import Derived.TacticsInMore
import Derived.LoopNIn
import Derived.LoopIn
import Derived.Shelf.RegionOpen
import Derived.RangeFuncCalls
namespace Go.Proofs.Ytbopcghbmbchkab
section
open Go.RowKit
set_option linter.unusedVariables false
set_option linter.unusedSimpArgs false

def L5At (s : MSig) (m : MModel) (t vals : List Int) (tm : Tm) : Prop := ∀ (k : Nat) (b : List Int) (w : World) (v v' tv vv : Value), t.drop k = tm.row ++ b → RSig w v s → RModel w v' m → RInts w tv t → RInts w vv vals →
  Calls Try.prog 73 #[v, v', tv, .int .i64 (k : Int), vv] w fun e w' => e = .returned (.tuple #[.int .i64 (valT m vals tm), .int .i64 ((k + tm.row.length : Nat) : Int)]) ∧ Below w.heap.size w w'

end

section
open Go.RowKit
set_option linter.unusedVariables false
set_option linter.unusedSimpArgs false

end

section
open Go.RowKit Go.Shelf
set_option linter.unusedVariables false
attribute [local go_sem] Oper.semAt_some

/-- what comes: an index and what stands there -/
abbrev At (zs : List Int) := { p : Nat × Int // zs[p.1]? = some p.2 }
/-- all of them, from the last one on -/
def bwd (zs : List Int) : List (At zs) := (List.finRange zs.length).reverse.map fun i => ⟨(i.1, zs[i.1]), List.getElem?_eq_getElem i.2⟩
theorem bwd_len (zs : List Int) : (bwd zs).length = zs.length := by simp [bwd]
theorem bwd_at {zs : List Int} {k m : Nat} (h : m + k + 1 = zs.length) (hk : k < (bwd zs).length) : (bwd zs)[k] = ⟨(m, zs[m]'(by omega)), List.getElem?_eq_getElem (by omega)⟩ := by
  have hm : zs.length - 1 - k = m := by omega
  subst hm
  simp [bwd]
theorem bwd_take {zs : List Int} {k : Nat} (hk : k < (bwd zs).length) : (bwd zs).take (k + 1) = (bwd zs).take k ++ [(bwd zs)[k]] := List.take_succ_eq_append_getElem hk

/-- what a round keeps: whatever lay below, and the box of the slice -/
def BwKp (w : World) (Bs : Nat) (sv : Value) (W1 W2 : World) : Prop := Below w.heap.size W1 W2 ∧ (W1.cell? ⟨Bs, 0, none⟩ = some sv → W2.cell? ⟨Bs, 0, none⟩ = some sv)
theorem bwKp_t {w : World} {Bs : Nat} {sv : Value} {A B C : World} (h : BwKp w Bs sv A B) (k : BwKp w Bs sv B C) : BwKp w Bs sv A C := ⟨h.1.trans k.1, fun c => k.2 (h.2 c)⟩
theorem bwKp_b {w w1 : World} {Bs : Nat} {sv : Value} (hn : w.heap.size ≤ w1.heap.size) (W : World) (l : Nat) (o o' : Obj) (hl : w1.heap.size ≤ l) (h : W.heap[l]? = some o) (hc : o.isCells = false) (hw : o.isWalk = false) : BwKp w Bs sv W (W.putObj l o') :=
  ⟨belowK_b hn W l o o' hl h hc hw, fun c => cell_kept c (grownBy_putObj' W l o') (fun r e => by cases e; exact ⟨o, h, hc⟩)⟩

set_option maxRecDepth 100000 in
set_option maxHeartbeats 2000000 in
theorem bw1_in (F : Fence) (n : Nat) (h7 : F.fn 129) (hro : F.round = none) (hn : 1 ≤ n) (l Bs c : Nat) (A : Option Addr) (zs : List Int) (hlen : zs.length ≤ 1048576) (w : World) (hz : RInts w (.slice A zs.length c) zs) (J Jx : List (At zs) → World → Prop)
    (hY : ∀ pre x W, J pre W → pre.length < zs.length → YieldAt F (n - 1) Try.prog l #[.int .i64 (x.1.1 : Int), .int .i64 x.1.2] W fun e W' =>
      (e = .returned (.bool true) ∧ J (pre ++ [x]) W' ∧ BwKp w Bs (.slice A zs.length c) W W') ∨ (e = .returned (.bool false) ∧ Jx (pre ++ [x]) W'))
    (W : World) (hW : Below w.heap.size w W) (hBs : W.cell? ⟨Bs, 0, none⟩ = some (.slice A zs.length c)) (h0 : J [] W) :
    CallsIn F n Try.prog 129 #[.func (.yield l) #[] #[], .pointer (some ⟨Bs, 0, none⟩)] W fun e W' => (∃ v, e = .returned v) ∧
      ((∃ ys, ys = bwd zs ∧ J ys W') ∨ (∃ pre, True ∧ Jx pre W')) := by
  have HZ := Lib.hid hz
  have HW := Lib.hid hW
  clear hz hW
  refine callsIn_of_wp Try.func129 rfl h7 ?_ hro
  simp only [Try.ntmps129, List.size_toArray, List.length_cons, List.length_nil, Nat.reduceAdd, Nat.reduceSub, Array.replicate_succ, Array.replicate_zero, List.push_toArray, List.append_toArray, List.nil_append, List.cons_append]
  gi_wp2
  gi_loopw [3] (fun i wr => ∃ r : Nat, r ≤ zs.length ∧ i = .int .i64 ((r : Int) - 1) ∧ J ((bwd zs).take (zs.length - r)) wr ∧ Below w.heap.size w wr ∧ wr.cell? ⟨Bs, 0, none⟩ = some (.slice A zs.length c))
    (fun i _ => (intOf i + 1).toNat)
  case atStart => exact ⟨zs.length, Nat.le_refl _, rfl, by simpa using h0, HW.out, hBs⟩
  case round =>
    obtain ⟨r, hr, rfl, hJs, hnx, hbc⟩ := hrel
    have HNX := Lib.hid hnx
    have HBC := Lib.hid hbc
    clear hnx
    cases r with
    | zero =>
      simp only [Nat.sub_zero] at hJs
      rw [List.take_of_length_le (by rw [bwd_len]; omega)] at hJs
      have e0 : ((0 : Nat) : Int) - 1 = -1 := rfl
      rw [e0]
      gi_wp2
      go_end0
      exact ⟨⟨_, rfl⟩, .inl ⟨_, rfl, hJs⟩⟩
    | succ m =>
      have e0 : ((m + 1 : Nat) : Int) - 1 = (m : Int) := by omega
      rw [e0]
      have hm : m < zs.length := by omega
      obtain ⟨b, o, c', e, hx⟩ := (HZ.out.keep HNX.out).at_ hm
      cases e
      have hm' : (m : Int) < (zs.length : Int) := by omega
      have hm0 : (0 : Int) ≤ (m : Int) := by omega
      have hkl : zs.length - (m + 1) < (bwd zs).length := by rw [bwd_len]; omega
      have hat := bwd_at (zs := zs) (k := zs.length - (m + 1)) (m := m) (by omega) hkl
      have HTK := Lib.hid (bwd_take hkl)
      rw [hat] at HTK
      obtain ⟨fn, tmps, assign, body, hy, hR⟩ := hY _ ⟨(m, zs[m]), List.getElem?_eq_getElem hm⟩ wr hJs (by rw [List.length_take, bwd_len]; omega)
      dsimp only at hy
      generalize hzz : zs[m] = z at hx hy
      have hw1 : IntKind.i64.wrap ((m : Int) - 1) = (m : Int) - 1 := by rw [IntKind.wrap_i64]; omega
      gi_wp2
      refine hR.mono ?_
      rintro e W3 (⟨rfl, hJ3, hk3⟩ | ⟨rfl, hJx3⟩)
      · have hbc3 := hk3.2 HBC.out
        gi_wp2
        go_roundw
        case rel => exact ⟨m, by omega, rfl, by rw [show zs.length - m = zs.length - (m + 1) + 1 by omega, HTK.out]; exact hJ3, HNX.out.trans hk3.1, hbc3⟩
        case measure => simp [intOf]
      · gi_wp2
        refine bodyPost_ret (results_none rfl _ _ _) rfl ?_
        exact ⟨⟨_, rfl⟩, .inr ⟨_, trivial, hJx3⟩⟩
theorem bw_stops (F : Fence) (n : Nat) (h7 : F.fn 129) (hro : F.round = none) (hn : 1 ≤ n) (Bs c : Nat) (A : Option Addr) (zs : List Int) (hlen : zs.length ≤ 1048576) (w : World) (hz : RInts w (.slice A zs.length c) zs) (w4 : World) (hB : Below w.heap.size w w4)
    (hBs : w4.cell? ⟨Bs, 0, none⟩ = some (.slice A zs.length c)) :
    SeqStopsK F n Try.prog 129 #[.pointer (some ⟨Bs, 0, none⟩)] (fun x : At zs => #[.int .i64 (x.1.1 : Int), .int .i64 x.1.2]) (BwKp w Bs (.slice A zs.length c)) (fun ys => ys = bwd zs) (fun _ => True) zs.length w4 :=
  fun l J Jx W hW _ _ hY h0 => bw1_in F n h7 hro hn l Bs c A zs hlen w hz J Jx hY W (hB.trans (hW.mono hB.size)) (cell_keep hW hBs) h0

set_option maxHeartbeats 1000000 in
theorem bw_in (F : Fence) (n : Nat) (h5 : F.fn 127) (hro : F.round = none) (a : Option Addr) (len cap : Nat) (w : World) :
    CallsIn F n Try.prog 127 #[.slice a len cap] w fun e w' => e = .returned (.func (.func 129) #[] #[.pointer (some ⟨w.heap.size, 0, none⟩)]) ∧ w' = w.alloc (.cells #[.slice a len cap] 26) := by
  refine callsIn_of_wp Try.func127 rfl h5 ?_ hro
  simp only [Try.ntmps127, List.size_toArray, List.length_cons, List.length_nil, Nat.reduceAdd, Nat.reduceSub, Array.replicate_succ, Array.replicate_zero, List.push_toArray, List.append_toArray, List.nil_append, List.cons_append]
  gi_wp2
  go_ret
  exact ⟨rfl, rfl⟩
end

section
open Go.RowKit Go.Shelf
set_option linter.unusedVariables false
attribute [local go_sem] Oper.semAt_some

/-- the number left, and the row, when pairs have come -/
def rowNum (n : Int) (pre : List (Nat × Int)) : Int := pre.foldl (fun q p => q / p.2) n
def rowFill : Int → List Int → List (Nat × Int) → List Int
  | _, row, [] => row
  | n, row, p :: ps => rowFill (n / p.2) (row.set p.1 (n % p.2)) ps
theorem rowNum_snoc (n : Int) (pre : List (Nat × Int)) (p : Nat × Int) : rowNum n (pre ++ [p]) = rowNum n pre / p.2 := by simp [rowNum]
theorem rowFill_snoc : ∀ (n : Int) (row : List Int) (pre : List (Nat × Int)) (p : Nat × Int), rowFill n row (pre ++ [p]) = (rowFill n row pre).set p.1 (rowNum n pre % p.2)
  | n, row, [], p => by simp [rowFill, rowNum]
  | n, row, q :: pre, p => by
    simp only [List.cons_append, rowFill]
    rw [rowFill_snoc (n / q.2) _ pre p]
    rfl
theorem rowFill_len : ∀ (n : Int) (row : List Int) (pre : List (Nat × Int)), (rowFill n row pre).length = row.length
  | n, row, [] => rfl
  | n, row, q :: pre => by simp only [rowFill]; rw [rowFill_len]; simp
def prs {zs : List Int} (pre : List (At zs)) : List (Nat × Int) := pre.map Subtype.val
theorem at_size {zs : List Int} (hz : Sizes zs) (x : At zs) : x.1.1 < zs.length ∧ 1 ≤ x.1.2 ∧ x.1.2 ≤ 3 := by
  obtain ⟨h, e⟩ := List.getElem?_eq_some_iff.1 x.2
  have := hz _ (List.getElem_mem h)
  rw [e] at this
  exact ⟨h, this⟩
theorem rowNum_in {zs : List Int} (hz : Sizes zs) {n N : Int} (h0 : 0 ≤ n) (h1 : n ≤ N) : ∀ pre : List (At zs), 0 ≤ rowNum n (prs pre) ∧ rowNum n (prs pre) ≤ N := by
  intro pre
  induction pre generalizing n with
  | nil => exact ⟨h0, h1⟩
  | cons x pre ih =>
    have hx := at_size hz x
    have a : 0 ≤ n / x.1.2 := Int.ediv_nonneg h0 (by omega)
    have b : n / x.1.2 ≤ n := Int.ediv_le_self _ h0
    exact ih (n := n / x.1.2) a (by omega)
/-- when k of them have come, from the last one on -/
theorem row_part {zs : List Int} (hz : Sizes zs) (n : Int) : ∀ k, k ≤ zs.length → rowNum n (prs ((bwd zs).take k)) = n / waysM (zs.drop (zs.length - k)) ∧
    ∀ j, zs.length - k ≤ j → j < zs.length → (rowFill n (List.replicate zs.length 0) (prs ((bwd zs).take k)))[j]? = (digM zs n)[j]? := by
  intro k
  induction k with
  | zero =>
    intro _
    refine ⟨?_, fun j h1 h2 => by omega⟩
    simp [prs, rowNum, waysM]
  | succ k ih =>
    intro hk
    obtain ⟨i1, i2⟩ := ih (by omega)
    have hkl : k < (bwd zs).length := by rw [bwd_len]; omega
    have hm : zs.length - 1 - k < zs.length := by omega
    have hat := bwd_at (zs := zs) (k := k) (m := zs.length - 1 - k) (by omega) hkl
    have htk : prs ((bwd zs).take (k + 1)) = prs ((bwd zs).take k) ++ [(zs.length - 1 - k, zs[zs.length - 1 - k])] := by
      rw [bwd_take hkl, hat]; simp [prs]
    have e1 : zs.length - (k + 1) = zs.length - 1 - k := by omega
    have e2 : zs.length - k = zs.length - 1 - k + 1 := by omega
    rw [htk, rowNum_snoc, rowFill_snoc, i1, e1]
    refine ⟨?_, fun j h1 h2 => ?_⟩
    · rw [e2]; exact dig_left hz hm
    · by_cases hj : zs.length - 1 - k = j
      · subst hj
        rw [List.getElem?_set_self (by rw [rowFill_len]; simp; omega), digM_at hm, e2]
      · rw [List.getElem?_set_ne hj]
        exact i2 j (by omega) h2
theorem row_all {zs : List Int} (hz : Sizes zs) (n : Int) : rowFill n (List.replicate zs.length 0) (prs (bwd zs)) = digM zs n := by
  have h := (row_part hz n zs.length (Nat.le_refl _)).2
  rw [List.take_of_length_le (by rw [bwd_len]; omega)] at h
  apply List.ext_getElem?
  intro j
  by_cases hj : j < zs.length
  · exact h j (by omega) hj
  · rw [List.getElem?_eq_none (by rw [rowFill_len]; simp; omega), List.getElem?_eq_none (by rw [digM_len]; omega)]

/-- the three blocks of the call: the number, the row's cells, the row -/
def RowSt (w : World) (zs : List Int) (n : Int) (pre : List (At zs)) (W : World) : Prop :=
  Boxed W w.heap.size 3 (.int .i64 (rowNum n (prs pre))) ∧
  W.heap[w.heap.size + 1]? = some (.cells ((rowFill n (List.replicate zs.length 0) (prs pre)).map (Value.int .i64)).toArray 3 (0, 0)) ∧
  Boxed W (w.heap.size + 2) 26 (.slice (some ⟨w.heap.size + 1, 0, none⟩) zs.length zs.length)

theorem block_kept {A B : World} {row : Option Nat} {k : Nat} {cs : Array Value} {t : TypeId} (h : A.heap[k]? = some (.cells cs t (0, 0))) (hg : A.grownBy B row) (hr : ∀ r, row = some r → ∃ o : Obj, A.heap[r]? = some o ∧ o.isCells = false) : B.heap[k]? = some (.cells cs t (0, 0)) := by
  refine (hg.block k (Array.getElem?_eq_some_iff.1 h).1 (fun e => ?_)).trans h
  obtain ⟨o, ho, hc⟩ := hr k e.symm
  rw [h] at ho
  cases ho
  cases hc
theorem made_zero (n : Nat) : madeCells #[Value.int .i64 0] n = ((List.replicate n (0 : Int)).map (Value.int .i64)).toArray := by
  apply Array.ext
  · simp [madeCells]
  · intro i h1 h2
    simp [madeCells, Nat.mod_one]
theorem blk_old {wc wd : World} {bx : Nat} {o : Obj} (hz : wc.heap[bx]? = some o) (hb : Below wc.heap.size wc wd) : wd.heap[bx]? = some o := (hb.block _ (Array.getElem?_eq_some_iff.1 hz).1).trans hz
theorem rowSt_own (w : World) (zs : List Int) (n : Int) : Own (RowSt w zs n) := fun s A B row hs hg hr => ⟨block_kept hs.1 hg hr, block_kept hs.2.1 hg hr, block_kept hs.2.2 hg hr⟩
theorem rowSt_step {w W : World} {zs : List Int} {n : Int} {pre : List (At zs)} (h : RowSt w zs n pre W) (x : At zs) (hx : x.1.1 < zs.length) :
    RowSt w zs n (pre ++ [x]) ((W.setCell ⟨w.heap.size + 1, x.1.1, none⟩ (.int .i64 (rowNum n (prs pre) % x.1.2))).setCell ⟨w.heap.size, 0, none⟩ (.int .i64 (rowNum n (prs pre) / x.1.2))) := by
  obtain ⟨h1, h2, h3⟩ := h
  have hp : prs (pre ++ [x]) = prs pre ++ [x.1] := by simp [prs]
  refine ⟨?_, ?_, ?_⟩
  · rw [hp, rowNum_snoc]
    have := blk_set ((Below.heap_setCell W ⟨w.heap.size + 1, x.1.1, none⟩ (.int .i64 (rowNum n (prs pre) % x.1.2)) w.heap.size (by show w.heap.size ≠ w.heap.size + 1; omega)).trans h1) 0 (.int .i64 (rowNum n (prs pre) / x.1.2))
    exact this
  · rw [Below.heap_setCell _ ⟨w.heap.size, 0, none⟩ _ _ (by show w.heap.size + 1 ≠ w.heap.size; omega), hp, rowFill_snoc]
    refine (blk_set h2 x.1.1 _).trans ?_
    rw [List.map_set]
    simp
  · unfold Boxed
    rw [Below.heap_setCell _ ⟨w.heap.size, 0, none⟩ _ _ (by show w.heap.size + 2 ≠ w.heap.size; omega), Below.heap_setCell _ ⟨w.heap.size + 1, x.1.1, none⟩ _ _ (by show w.heap.size + 2 ≠ w.heap.size + 1; omega)]
    exact h3

theorem rw_far {w : World} {b rb : Nat} (h : b ≠ rb) (i o : Nat) (u : Value) : (w.setCell ⟨rb, i, none⟩ u).cell? ⟨b, o, none⟩ = w.cell? ⟨b, o, none⟩ := World.cell?_of_block (Below.heap_setCell w ⟨rb, i, none⟩ u b h)
theorem rw_drew {a w : World} {B : Nat} (h : Below B a w) : Below B a w.drew := ⟨h.os, h.tape, h.output, h.size, h.block⟩
theorem row_owns {w : World} {B b : Nat} {xs : List Int} (h : w.heap[b]? = some (.cells (xs.map (Value.int .i64)).toArray 3 (0, 0))) (hB : B ≤ b) (hm : xs.length ≤ 9223372036854775807) : OInts w B (.slice (some ⟨b, 0, none⟩) xs.length xs.length) xs := by
  refine ⟨by simp, .inr ⟨b, _, _, rfl, hB, h, Nat.le_refl _, by rw [maxLen_eq]; exact hm, by simp, ?_⟩⟩
  simp only
  rw [List.take_of_length_le (by simp)]

set_option maxHeartbeats 2000000 in
set_option maxRecDepth 100000 in
theorem rowAt_any (zs : List Int) (n : Int) (w : World) (v : Value) (h : RInts w v zs) (hz : Sizes zs) (hl : zs.length ≤ 4) (h0 : 0 ≤ n) (h1 : n ≤ 1000) :
    Calls Try.prog 116 #[v, .int .i64 n] w fun e w' => ∃ u, e = .returned u ∧ OInts w' w.heap.size u (digM zs n) ∧ Below w.heap.size w w' := by
  have H := Lib.hid h
  have HZ := Lib.hid hz
  obtain ⟨A, c, rfl, -⟩ := h.form
  clear h hz
  have hmk := run_make_row' (P := Try.prog) 26 3 (.int .i64 0) 8 Try.underlying26 Try.tinfo_int rfl .i64 .i64 zs.length (by omega) (by omega)
  refine (callsIn_wide (n := 8)).1 ?_
  refine callsIn_of_wp_marks Try.func116 rfl trivial ?_ rfl
  simp only [Try.ntmps116, List.size_toArray, List.length_cons, List.length_nil, Nat.reduceAdd, Nat.reduceSub, Array.replicate_succ, Array.replicate_zero, List.push_toArray, List.append_toArray, List.nil_append, List.cons_append]
  gi_wp2
  refine ⟨trivial, ?_⟩
  refine (bw_in Fence.wide 7 trivial rfl _ _ _ _).mono ?_
  rintro e w' ⟨rfl, rfl⟩
  have hB0 : Below w.heap.size w ((((w.alloc (.cells #[.int .i64 n] 3)).alloc (.cells (madeCells #[.int .i64 0] zs.length) 3)).alloc (.cells #[.slice (some ⟨w.heap.size + 1, 0, none⟩) zs.length zs.length] 26)).alloc (.cells #[.slice A zs.length c] 26)) :=
    (((below_alloc _ _).alloc (by simp) _).alloc (by simp; omega) _).alloc (by simp; omega) _
  have hS0 : RowSt w zs n [] ((((w.alloc (.cells #[.int .i64 n] 3)).alloc (.cells (madeCells #[.int .i64 0] zs.length) 3)).alloc (.cells #[.slice (some ⟨w.heap.size + 1, 0, none⟩) zs.length zs.length] 26)).alloc (.cells #[.slice A zs.length c] 26)) := by
    refine ⟨?_, ?_, ?_⟩
    · exact (((Boxed.new w 3 (.int .i64 n)).alloc _).alloc _).alloc _
    · have h2 := World.alloc_heap_new (w.alloc (.cells #[.int .i64 n] 3)) (.cells (madeCells #[.int .i64 0] zs.length) 3)
      rw [World.size_alloc] at h2
      have h3 := blk_old (blk_old h2 (below_alloc _ (.cells #[.slice (some ⟨w.heap.size + 1, 0, none⟩) zs.length zs.length] 26))) (below_alloc _ (.cells #[.slice A zs.length c] 26))
      refine h3.trans ?_
      rw [made_zero]
      rfl
    · have h2 := Boxed.new ((w.alloc (.cells #[.int .i64 n] 3)).alloc (.cells (madeCells #[.int .i64 0] zs.length) 3)) 26 (.slice (some ⟨w.heap.size + 1, 0, none⟩) zs.length zs.length)
      simp only [World.size_alloc] at h2
      exact h2.alloc _
  have hbx : ((((w.alloc (.cells #[.int .i64 n] 3)).alloc (.cells (madeCells #[.int .i64 0] zs.length) 3)).alloc (.cells #[.slice (some ⟨w.heap.size + 1, 0, none⟩) zs.length zs.length] 26)).alloc (.cells #[.slice A zs.length c] 26)).cell? ⟨w.heap.size + 3, 0, none⟩ = some (.slice A zs.length c) := by
    have := Boxed.new (((w.alloc (.cells #[.int .i64 n] 3)).alloc (.cells (madeCells #[.int .i64 0] zs.length) 3)).alloc (.cells #[.slice (some ⟨w.heap.size + 1, 0, none⟩) zs.length zs.length] 26)) 26 (.slice A zs.length c)
    simp only [World.size_alloc] at this
    exact this.cell
  have hI : RInts ((((w.alloc (.cells #[.int .i64 n] 3)).alloc (.cells (madeCells #[.int .i64 0] zs.length) 3)).alloc (.cells #[.slice (some ⟨w.heap.size + 1, 0, none⟩) zs.length zs.length] 26)).alloc (.cells #[.slice A zs.length c] 26)) (.slice A zs.length c) zs := H.out.keep hB0
  have hsz4 : ((((w.alloc (.cells #[.int .i64 n] 3)).alloc (.cells (madeCells #[.int .i64 0] zs.length) 3)).alloc (.cells #[.slice (some ⟨w.heap.size + 1, 0, none⟩) zs.length zs.length] 26)).alloc (.cells #[.slice A zs.length c] 26)).heap.size = w.heap.size + 4 := by simp
  have hbs : (((w.alloc (.cells #[.int .i64 n] 3)).alloc (.cells (madeCells #[.int .i64 0] zs.length) 3)).alloc (.cells #[.slice (some ⟨w.heap.size + 1, 0, none⟩) zs.length zs.length] 26)).heap.size = w.heap.size + 3 := by simp
  generalize hW4 : (((w.alloc (.cells #[.int .i64 n] 3)).alloc (.cells (madeCells #[.int .i64 0] zs.length) 3)).alloc (.cells #[.slice (some ⟨w.heap.size + 1, 0, none⟩) zs.length zs.length] 26)).alloc (.cells #[.slice A zs.length c] 26) = W4 at hB0 hS0 hbx hI hsz4 ⊢
  clear hmk hbs
  gi_wp2
  refine wpIn_rangeFunc_ownG rfl (by omega) (gf := 129) (lb := #[.pointer (some ⟨w.heap.size + 1 + 1 + 1, 0, none⟩)]) rfl trivial (enters_of Try.func129 (by kernel_rfl) rfl)
    (bw_stops Fence.wide 7 trivial rfl (by omega) (w.heap.size + 1 + 1 + 1) c A zs (by omega) w H.out W4 hB0 hbx) bwKp_t (bwKp_b (by omega)) (Below.refl _ _) (fun _ => rfl)
    (fun pre W => RowSt w zs n pre W ∧ Below w.heap.size w W)
    (fun _ _ _ => False)
    (OwnFrom.and (Own.from (rowSt_own w zs n) _) (ownFrom_below (Nat.le_refl _) (by omega)))
    (fun _ _ _ _ _ hs _ _ => hs)
    ⟨hS0, hB0⟩
    (fun x => { tmps := #[.slice A zs.length c, .int .i64 n, undef, .pointer (some ⟨w.heap.size, 0, none⟩), .slice none 0 0, .pointer (some ⟨w.heap.size + 1 + 1, 0, none⟩), .int .i64 (x.1.1 : Int), .int .i64 x.1.2, .slice A zs.length c, .int .i64 (zs.length : Int), .slice (some ⟨w.heap.size + 1, 0, none⟩) zs.length zs.length, .slice A zs.length c, .func (.func 129) #[] #[.pointer (some ⟨w.heap.size + 1 + 1 + 1, 0, none⟩)], .int .i64 (x.1.1 : Int), .int .i64 x.1.2, undef, undef, undef, undef, undef, undef, undef, undef, undef, undef], defers := [] }) ?assign ?body ?done ?stop
  case assign =>
    intro l x W K hK
    gi_wp2
    exact hK
  case body =>
    rintro l pre x W ⟨hS, hB⟩ _
    have hx := at_size HZ.out x
    have hq := rowNum_in HZ.out h0 h1 pre
    have HS := Lib.hid hS
    obtain ⟨s1, s2, s3⟩ := hS
    have c1 := s1.cell
    have c2 := s1.frozen
    have c3 := s3.cell
    have hxl : (x.1.1 : Int) < (zs.length : Int) := by omega
    have d1 : W.cell? ⟨w.heap.size + 1, x.1.1, none⟩ = some (.int .i64 ((rowFill n (List.replicate zs.length 0) (prs pre))[x.1.1]'(by rw [rowFill_len]; simp; omega))) := by
      rw [blk_cell s2]; simp
    have d2 := blk_free s2 x.1.1
    generalize (rowFill n (List.replicate zs.length 0) (prs pre))[x.1.1]'(by rw [rowFill_len]; simp; omega) = y at d1
    have HST := Lib.hid (rowSt_step HS.out x hx.1)
    have hw1 : (rowNum n (prs pre)).tmod x.1.2 = rowNum n (prs pre) % x.1.2 := Int.tmod_eq_emod_of_nonneg hq.1
    have hw2 : (rowNum n (prs pre)).tdiv x.1.2 = rowNum n (prs pre) / x.1.2 := Int.tdiv_eq_ediv_of_nonneg hq.1
    have hm0 := Int.emod_nonneg (rowNum n (prs pre)) (show x.1.2 ≠ 0 by omega)
    have hm1 := Int.emod_lt_of_pos (rowNum n (prs pre)) (show 0 < x.1.2 by omega)
    have hd0 : 0 ≤ rowNum n (prs pre) / x.1.2 := Int.ediv_nonneg hq.1 (by omega)
    have hd1 : rowNum n (prs pre) / x.1.2 ≤ rowNum n (prs pre) := Int.ediv_le_self _ hq.1
    have hz0 : ¬ x.1.2 = 0 := by omega
    generalize rowNum n (prs pre) / x.1.2 = qd at hw2 hd0 hd1 HST
    generalize rowNum n (prs pre) % x.1.2 = qm at hw1 hm0 hm1 HST
    generalize rowNum n (prs pre) = q at hw1 hw2 hq hd1 c1 s1
    clear s1 s2 s3
    have hqm : qm ≤ 3 := by omega
    have hqw1 : IntKind.i64.wrap qm = qm := by rw [IntKind.wrap_i64]; omega
    have hqd : qd ≤ 1000 := by omega
    have hqw2 : IntKind.i64.wrap qd = qd := by rw [IntKind.wrap_i64]; omega
    have hmo : Try.prog.follows .mixedOrders = true := by kernel_rfl
    have g1 : (W.drew.setCell ⟨w.heap.size + 1, x.1.1, none⟩ (.int .i64 qm)).cell? ⟨w.heap.size, 0, none⟩ = some (.int .i64 q) := (rw_far (by omega) _ _ _).trans c1
    have g2 : (W.drew.setCell ⟨w.heap.size + 1, x.1.1, none⟩ (.int .i64 qm)).frozen? ⟨w.heap.size, 0, none⟩ = false := by rw [World.frozen?_setCell]; exact c2
    have HK := Lib.hid (show KeepsFrom W4.heap.size W ((W.drew.setCell ⟨w.heap.size + 1, x.1.1, none⟩ (.int .i64 qm)).setCell ⟨w.heap.size, 0, none⟩ (.int .i64 qd)) ∧ BwKp w (w.heap.size + 1 + 1 + 1) (.slice A zs.length c) W ((W.drew.setCell ⟨w.heap.size + 1, x.1.1, none⟩ (.int .i64 qm)).setCell ⟨w.heap.size, 0, none⟩ (.int .i64 qd)) ∧ RowSt w zs n (pre ++ [x]) ((W.drew.setCell ⟨w.heap.size + 1, x.1.1, none⟩ (.int .i64 qm)).setCell ⟨w.heap.size, 0, none⟩ (.int .i64 qd)) ∧ Below w.heap.size w ((W.drew.setCell ⟨w.heap.size + 1, x.1.1, none⟩ (.int .i64 qm)).setCell ⟨w.heap.size, 0, none⟩ (.int .i64 qd)) from
      ⟨(((KeepsOthers.drew W).trans (KeepsOthers.setCell _ _ _)).trans (KeepsOthers.setCell _ _ _)).from _,
       ⟨((rw_drew (Below.refl w.heap.size W)).setCell (p := ⟨w.heap.size + 1, x.1.1, none⟩) (by show w.heap.size ≤ w.heap.size + 1; omega) _).setCell (p := ⟨w.heap.size, 0, none⟩) (Nat.le_refl _) _, fun hc => (rw_far (by omega) _ _ _).trans ((rw_far (by omega) _ _ _).trans hc)⟩,
       HST.out,
       ((rw_drew hB).setCell (p := ⟨w.heap.size + 1, x.1.1, none⟩) (by show w.heap.size ≤ w.heap.size + 1; omega) _).setCell (p := ⟨w.heap.size, 0, none⟩) (Nat.le_refl _) _⟩)
    gi_wp2
    gi_region_with_o (fail)
    all_goals gi_wp2
    all_goals exact HK.out
  case done =>
    rintro D ys W hD rfl ⟨hS, hB⟩ hK
    have HS := Lib.hid hS
    have c3 := hS.2.2.cell
    have hm1 : zs.length ≤ 9223372036854775807 := by omega
    have HR := Lib.hid (row_all HZ.out n)
    clear hS hS0 hbx hI
    gi_wp2
    refine ⟨by simp, .inl ⟨_, _, rfl, run_takeDeferred hK, ?_⟩⟩
    have hk := block_kept HS.out.2.1 (grownBy_putObj' W D (.deferred none)) (fun r e => by cases e; exact ⟨_, hK, rfl⟩)
    rw [HR.out] at hk
    have ho := row_owns (B := w.heap.size) hk (by omega) (by rw [digM_len]; exact hm1)
    rw [digM_len] at ho
    exact ⟨.slice (some ⟨w.heap.size + 1, 0, none⟩) zs.length zs.length, by simp [results, Try.results116, go_sem], _, rfl, ho, hB.trans (belowK_b (w := w) (Nat.le_refl _) W D _ _ (by have := hB0.size; omega) hK rfl rfl)⟩
  case stop =>
    rintro D c pre W _ _ h _
    exact h.elim
end
end Go.Proofs.Ytbopcghbmbchkab
