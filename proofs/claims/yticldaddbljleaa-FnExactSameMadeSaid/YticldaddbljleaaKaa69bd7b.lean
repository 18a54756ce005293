/- isValue, sizesOf, rowsOf of package impl. · slices.Backward over a slice of ints: the iterator's contract. · rowAt of package impl: a row of values by its number. · numberOf of package impl; two rows that are filled at once. · takesAndLeaves, ledValues of package impl. · leftApart, joinClasses of package impl. · A callee that changes one inner row of an own list of rows. -/
import Derived.Test.YticldaddbljleaaKead4caef
import Derived.RangeFuncBox
import Derived.RangeFuncLeaves
import Derived.RangeFuncNested
import Derived.Shelf.Abstract
import Derived.WalkKit
import Derived.OwnWalkIn
import Derived.TacticsInMore
import Derived.LoopNIn
import Derived.LoopIn
import Derived.Shelf.RegionOpen
import Derived.RangeFuncCalls
import Derived.Deep.AppendLies
namespace Go.Proofs.Yticldaddbljleaa
section
open Go.RowKit
set_option linter.unusedVariables false
set_option linter.unusedSimpArgs false

def inSize (z v : Int) : Bool := decide (0 ≤ v) && decide (v < z)
theorem inSize_neg {z v : Int} (h : v < 0) : inSize z v = false := by unfold inSize; simp; omega
theorem inSize_pos {z v : Int} (h : 0 ≤ v) : inSize z v = decide (v < z) := by unfold inSize; simp [h]
theorem inSize_inB {z v q : Int} (hq : q = z - 1) : inB v 0 q = inSize z v := by unfold inB inSize; rw [← Bool.decide_and, ← Bool.decide_and, decide_eq_decide]; omega
theorem belowB_step {xs : List Int} {z : Int} {k : Nat} (hk : k < xs.length) : belowB (xs.take (k+1)) z = (belowB (xs.take k) z && inSize z xs[k]) := belowB_take hk
theorem belowB_no {xs : List Int} {z : Int} {k : Nat} (hk : k < xs.length) (h : inSize z xs[k] = false) : belowB xs z = false := belowB_bad hk (by unfold inSize at h; simpa using h)

set_option maxRecDepth 100000 in
theorem isValue_any (m : MModel) (sort value : Int) (w : World) (v : Value) (h : RModel w v m) (hs : 0 ≤ sort) (hl : sort < (m.sizes.length : Int)) :
    Calls Try.prog 96 #[v, .int .i64 sort, .int .i64 value] w fun e w' => e = .returned (.bool (inSize (m.sizes.getD sort.toNat 0) value)) ∧ Below w.heap.size w w' := by
  obtain ⟨n, rfl⟩ : ∃ n : Nat, sort = (n : Int) := ⟨sort.toNat, by omega⟩
  have hn : n < m.sizes.length := by omega
  have hml := h.form
  obtain ⟨Ama, cma, Amb, cmb, rfl⟩ := h.form
  have hb : Below w.heap.size w (w.alloc (.cells #[.slice Ama m.sizes.length cma, .slice Amb m.tables.length cmb] 28)) := below_alloc _ _
  have HB := Lib.hid hb
  have hsz : (w.alloc (.cells #[.slice Ama m.sizes.length cma, .slice Amb m.tables.length cmb] 28)).heap.size = w.heap.size + 1 := by simp
  have Hm := Lib.hid (h.keep hb)
  have m0 := bx_at (w) #[.slice Ama m.sizes.length cma, .slice Amb m.tables.length cmb] 28 (k := 0) rfl
  have m1 := bx_at (w) #[.slice Ama m.sizes.length cma, .slice Amb m.tables.length cmb] 28 (k := 1) rfl
  generalize hW : w.alloc (.cells #[.slice Ama m.sizes.length cma, .slice Amb m.tables.length cmb] 28) = W at HB hsz Hm m0 m1
  clear hb h
  have hml1 := Hm.out.of.1.len
  obtain ⟨b, o, c, e, hx⟩ := Hm.out.of.1.at_ hn
  cases e
  rw [Int.toNat_natCast, getD_at _ hn]
  generalize m.sizes[n] = z at hx ⊢
  by_cases hv : value < 0
  · have HE := Lib.hid (inSize_neg (z := z) hv)
    have hv' : ¬ 0 ≤ value := by omega
    go_enter Try.func96, Try.ntmps96
    go_wp2
    go_ret
    exact ⟨ret_bool HE.out.symm, HB.out⟩
  · have hv' : 0 ≤ value := by omega
    have HE := Lib.hid (inSize_pos (z := z) hv')
    go_enter Try.func96, Try.ntmps96
    go_wp2
    go_ret
    exact ⟨ret_bool HE.out.symm, HB.out⟩

set_option maxRecDepth 100000 in
theorem sizesOf_any (m : MModel) (row : List Int) (w : World) (v v' : Value) (h : RModel w v m) (h' : RInts w v' row) (hin : InTo m.sizes row) (hs : row.length ≤ 1048576) :
    Calls Try.prog 141 #[v, v'] w fun e w' => ∃ u, e = .returned u ∧ OInts w' w.heap.size u (ledM m.sizes row) ∧ Below w.heap.size w w' := by
  obtain ⟨Ama, cma, Amb, cmb, rfl⟩ := h.form
  have hb : Below w.heap.size w (w.alloc (.cells #[.slice Ama m.sizes.length cma, .slice Amb m.tables.length cmb] 28)) := below_alloc _ _
  have HB := Lib.hid hb
  have hsz : (w.alloc (.cells #[.slice Ama m.sizes.length cma, .slice Amb m.tables.length cmb] 28)).heap.size = w.heap.size + 1 := by simp
  have Hm := Lib.hid (h.keep hb)
  have m0 := bx_at (w) #[.slice Ama m.sizes.length cma, .slice Amb m.tables.length cmb] 28 (k := 0) rfl
  have m1 := bx_at (w) #[.slice Ama m.sizes.length cma, .slice Amb m.tables.length cmb] 28 (k := 1) rfl
  generalize hW : w.alloc (.cells #[.slice Ama m.sizes.length cma, .slice Amb m.tables.length cmb] 28) = W at HB hsz Hm m0 m1
  clear hb h
  have H1 := Lib.hid (h'.keep HB.out)
  have HI := Lib.hid hin
  obtain ⟨A', c', rfl, -⟩ := h'.form
  clear h' hin
  go_enter Try.func141, Try.ntmps141
  go_wp2_with fail
  clear hW
  refine (ledRow_any _ _ row m.sizes _ H1.out Hm.out.of.1 HI.out hs).mono ?_
  rintro e w1 ⟨u, rfl, ho, hb⟩
  have HO := Lib.hid ho
  have HX := Lib.hid hb
  clear ho hb m0 m1
  go_wp2
  go_ret
  exact ⟨u, rfl, HO.out.base HB.out.size, sz_keep HB.out HX.out⟩

theorem ways_wrap {zs : List Int} (hz : Sizes zs) (hl : zs.length ≤ 4) {k : Nat} (hk : k < zs.length) : IntKind.i64.wrap (waysM (zs.take k) * zs[k]) = waysM (zs.take (k + 1)) := by
  have h1 := ways_few (hz.take (k + 1)) (by simp; omega)
  have h2 := ways_pos (hz.take (k + 1))
  rw [← waysM_take hk, IntKind.wrap_i64]; omega
set_option maxRecDepth 100000 in
theorem rowsOf_any (zs : List Int) (w : World) (v : Value) (h : RInts w v zs) (hz : Sizes zs) (hl : zs.length ≤ 4) :
    Calls Try.prog 156 #[v] w fun e w' => e = .returned (.int .i64 (waysM zs)) ∧ w = w' := by
  have H := Lib.hid h
  obtain ⟨A, c, rfl, -⟩ := h.form
  have HW := Lib.hid (fun (k : Nat) (hk : k < zs.length) => ways_wrap hz hl hk)
  clear h hz
  go_enter Try.func156, Try.ntmps156
  go_wp2
  go_loopw [3, 5, 8] (fun p _ i wr => ∃ k : Nat, k ≤ zs.length ∧ i = .int .i64 k ∧ p = .int .i64 (waysM (zs.take k)) ∧ w = wr) (fun _ _ i _ => zs.length - (intOf i).toNat)
  case atStart => exact ⟨0, Nat.zero_le _, rfl, rfl, rfl⟩
  case round =>
    obtain ⟨k, hk, rfl, rfl, rfl⟩ := hrel
    by_cases hlt : k < zs.length
    · obtain ⟨b, o, c', e, hx⟩ := H.out.at_ hlt
      cases e
      have hlt' : (k : Int) < (zs.length : Int) := by omega
      have hw := HW.out k hlt
      generalize zs[k] = z at hx hw
      generalize hq : waysM (zs.take (k + 1)) = q at hw
      have HQ := Lib.hid hq
      clear hq
      go_wp2
      go_roundw
      case rel => exact ⟨k + 1, by omega, by go_num, by rw [HQ.out], by first | trivial | rfl⟩
      case measure => simp [intOf]; omega
    · have hkn : k = zs.length := by omega
      have hlt' : ¬ (k : Int) < (zs.length : Int) := by omega
      have HT := Lib.hid (show zs.take k = zs from take_all (by omega))
      go_wp2
      go_ret
      exact ⟨rfl, rfl⟩
end

section
open Go.RowKit Go.Shelf
set_option linter.unusedVariables false
attribute [local go_sem] Oper.semAt_some

/-- what comes: an index and what stands there -/
abbrev At (zs : List Int) := { p : Nat × Int // zs[p.1]? = some p.2 }
/-- all of them, from the last one on -/
def bwd (zs : List Int) : List (At zs) := (List.finRange zs.length).reverse.map fun i => ⟨(i.1, zs[i.1]), List.getElem?_eq_getElem i.2⟩
theorem bwd_len (zs : List Int) : (bwd zs).length = zs.length := by simp [bwd]
theorem bwd_at {zs : List Int} {k m : Nat} (h : m + k + 1 = zs.length) (hk : k < (bwd zs).length) : (bwd zs)[k] = ⟨(m, zs[m]'(by omega)), List.getElem?_eq_getElem (by omega)⟩ := by
  have hm : zs.length - 1 - k = m := by omega
  subst hm
  simp [bwd]
theorem bwd_take {zs : List Int} {k : Nat} (hk : k < (bwd zs).length) : (bwd zs).take (k + 1) = (bwd zs).take k ++ [(bwd zs)[k]] := List.take_succ_eq_append_getElem hk

/-- what a round keeps: whatever lay below, and the box of the slice -/
def BwKp (w : World) (Bs : Nat) (sv : Value) (W1 W2 : World) : Prop := Below w.heap.size W1 W2 ∧ (W1.cell? ⟨Bs, 0, none⟩ = some sv → W2.cell? ⟨Bs, 0, none⟩ = some sv)
theorem bwKp_t {w : World} {Bs : Nat} {sv : Value} {A B C : World} (h : BwKp w Bs sv A B) (k : BwKp w Bs sv B C) : BwKp w Bs sv A C := ⟨h.1.trans k.1, fun c => k.2 (h.2 c)⟩
theorem bwKp_b {w w1 : World} {Bs : Nat} {sv : Value} (hn : w.heap.size ≤ w1.heap.size) (W : World) (l : Nat) (o o' : Obj) (hl : w1.heap.size ≤ l) (h : W.heap[l]? = some o) (hc : o.isCells = false) (hw : o.isWalk = false) : BwKp w Bs sv W (W.putObj l o') :=
  ⟨belowK_b hn W l o o' hl h hc hw, fun c => cell_kept c (grownBy_putObj' W l o') (fun r e => by cases e; exact ⟨o, h, hc⟩)⟩

set_option maxRecDepth 100000 in
set_option maxHeartbeats 2000000 in
theorem bw1_in (F : Fence) (n : Nat) (h7 : F.fn 160) (hro : F.round = none) (hn : 1 ≤ n) (l Bs c : Nat) (A : Option Addr) (zs : List Int) (hlen : zs.length ≤ 1048576) (w : World) (hz : RInts w (.slice A zs.length c) zs) (J Jx : List (At zs) → World → Prop)
    (hY : ∀ pre x W, J pre W → pre.length < zs.length → YieldAt F (n - 1) Try.prog l #[.int .i64 (x.1.1 : Int), .int .i64 x.1.2] W fun e W' =>
      (e = .returned (.bool true) ∧ J (pre ++ [x]) W' ∧ BwKp w Bs (.slice A zs.length c) W W') ∨ (e = .returned (.bool false) ∧ Jx (pre ++ [x]) W'))
    (W : World) (hW : Below w.heap.size w W) (hBs : W.cell? ⟨Bs, 0, none⟩ = some (.slice A zs.length c)) (h0 : J [] W) :
    CallsIn F n Try.prog 160 #[.func (.yield l) #[] #[], .pointer (some ⟨Bs, 0, none⟩)] W fun e W' => (∃ v, e = .returned v) ∧
      ((∃ ys, ys = bwd zs ∧ J ys W') ∨ (∃ pre, True ∧ Jx pre W')) := by
  have HZ := Lib.hid hz
  have HW := Lib.hid hW
  clear hz hW
  refine callsIn_of_wp Try.func160 rfl h7 ?_ hro
  simp only [Try.ntmps160, List.size_toArray, List.length_cons, List.length_nil, Nat.reduceAdd, Nat.reduceSub, Array.replicate_succ, Array.replicate_zero, List.push_toArray, List.append_toArray, List.nil_append, List.cons_append]
  gi_wp2
  gi_loopw [3] (fun i wr => ∃ r : Nat, r ≤ zs.length ∧ i = .int .i64 ((r : Int) - 1) ∧ J ((bwd zs).take (zs.length - r)) wr ∧ Below w.heap.size w wr ∧ wr.cell? ⟨Bs, 0, none⟩ = some (.slice A zs.length c))
    (fun i _ => (intOf i + 1).toNat)
  case atStart => exact ⟨zs.length, Nat.le_refl _, rfl, by simpa using h0, HW.out, hBs⟩
  case round =>
    obtain ⟨r, hr, rfl, hJs, hnx, hbc⟩ := hrel
    have HNX := Lib.hid hnx
    have HBC := Lib.hid hbc
    clear hnx
    cases r with
    | zero =>
      simp only [Nat.sub_zero] at hJs
      rw [List.take_of_length_le (by rw [bwd_len]; omega)] at hJs
      have e0 : ((0 : Nat) : Int) - 1 = -1 := rfl
      rw [e0]
      gi_wp2
      go_end0
      exact ⟨⟨_, rfl⟩, .inl ⟨_, rfl, hJs⟩⟩
    | succ m =>
      have e0 : ((m + 1 : Nat) : Int) - 1 = (m : Int) := by omega
      rw [e0]
      have hm : m < zs.length := by omega
      obtain ⟨b, o, c', e, hx⟩ := (HZ.out.keep HNX.out).at_ hm
      cases e
      have hm' : (m : Int) < (zs.length : Int) := by omega
      have hm0 : (0 : Int) ≤ (m : Int) := by omega
      have hkl : zs.length - (m + 1) < (bwd zs).length := by rw [bwd_len]; omega
      have hat := bwd_at (zs := zs) (k := zs.length - (m + 1)) (m := m) (by omega) hkl
      have HTK := Lib.hid (bwd_take hkl)
      rw [hat] at HTK
      obtain ⟨fn, tmps, assign, body, hy, hR⟩ := hY _ ⟨(m, zs[m]), List.getElem?_eq_getElem hm⟩ wr hJs (by rw [List.length_take, bwd_len]; omega)
      dsimp only at hy
      generalize hzz : zs[m] = z at hx hy
      have hw1 : IntKind.i64.wrap ((m : Int) - 1) = (m : Int) - 1 := by rw [IntKind.wrap_i64]; omega
      gi_wp2
      refine hR.mono ?_
      rintro e W3 (⟨rfl, hJ3, hk3⟩ | ⟨rfl, hJx3⟩)
      · have hbc3 := hk3.2 HBC.out
        gi_wp2
        go_roundw
        case rel => exact ⟨m, by omega, rfl, by rw [show zs.length - m = zs.length - (m + 1) + 1 by omega, HTK.out]; exact hJ3, HNX.out.trans hk3.1, hbc3⟩
        case measure => simp [intOf]
      · gi_wp2
        refine bodyPost_ret (results_none rfl _ _ _) rfl ?_
        exact ⟨⟨_, rfl⟩, .inr ⟨_, trivial, hJx3⟩⟩
theorem bw_stops (F : Fence) (n : Nat) (h7 : F.fn 160) (hro : F.round = none) (hn : 1 ≤ n) (Bs c : Nat) (A : Option Addr) (zs : List Int) (hlen : zs.length ≤ 1048576) (w : World) (hz : RInts w (.slice A zs.length c) zs) (w4 : World) (hB : Below w.heap.size w w4)
    (hBs : w4.cell? ⟨Bs, 0, none⟩ = some (.slice A zs.length c)) :
    SeqStopsK F n Try.prog 160 #[.pointer (some ⟨Bs, 0, none⟩)] (fun x : At zs => #[.int .i64 (x.1.1 : Int), .int .i64 x.1.2]) (BwKp w Bs (.slice A zs.length c)) (fun ys => ys = bwd zs) (fun _ => True) zs.length w4 :=
  fun l J Jx W hW _ _ hY h0 => bw1_in F n h7 hro hn l Bs c A zs hlen w hz J Jx hY W (hB.trans (hW.mono hB.size)) (cell_keep hW hBs) h0

set_option maxHeartbeats 1000000 in
theorem bw_in (F : Fence) (n : Nat) (h5 : F.fn 157) (hro : F.round = none) (a : Option Addr) (len cap : Nat) (w : World) :
    CallsIn F n Try.prog 157 #[.slice a len cap] w fun e w' => e = .returned (.func (.func 160) #[] #[.pointer (some ⟨w.heap.size, 0, none⟩)]) ∧ w' = w.alloc (.cells #[.slice a len cap] 26) := by
  refine callsIn_of_wp Try.func157 rfl h5 ?_ hro
  simp only [Try.ntmps157, List.size_toArray, List.length_cons, List.length_nil, Nat.reduceAdd, Nat.reduceSub, Array.replicate_succ, Array.replicate_zero, List.push_toArray, List.append_toArray, List.nil_append, List.cons_append]
  gi_wp2
  go_ret
  exact ⟨rfl, rfl⟩
end

section
open Go.RowKit Go.Shelf
set_option linter.unusedVariables false
attribute [local go_sem] Oper.semAt_some

/-- the number left, and the row, when pairs have come -/
def rowNum (n : Int) (pre : List (Nat × Int)) : Int := pre.foldl (fun q p => q / p.2) n
def rowFill : Int → List Int → List (Nat × Int) → List Int
  | _, row, [] => row
  | n, row, p :: ps => rowFill (n / p.2) (row.set p.1 (n % p.2)) ps
theorem rowNum_snoc (n : Int) (pre : List (Nat × Int)) (p : Nat × Int) : rowNum n (pre ++ [p]) = rowNum n pre / p.2 := by simp [rowNum]
theorem rowFill_snoc : ∀ (n : Int) (row : List Int) (pre : List (Nat × Int)) (p : Nat × Int), rowFill n row (pre ++ [p]) = (rowFill n row pre).set p.1 (rowNum n pre % p.2)
  | n, row, [], p => by simp [rowFill, rowNum]
  | n, row, q :: pre, p => by
    simp only [List.cons_append, rowFill]
    rw [rowFill_snoc (n / q.2) _ pre p]
    rfl
theorem rowFill_len : ∀ (n : Int) (row : List Int) (pre : List (Nat × Int)), (rowFill n row pre).length = row.length
  | n, row, [] => rfl
  | n, row, q :: pre => by simp only [rowFill]; rw [rowFill_len]; simp
def prs {zs : List Int} (pre : List (At zs)) : List (Nat × Int) := pre.map Subtype.val
theorem at_size {zs : List Int} (hz : Sizes zs) (x : At zs) : x.1.1 < zs.length ∧ 1 ≤ x.1.2 ∧ x.1.2 ≤ 3 := by
  obtain ⟨h, e⟩ := List.getElem?_eq_some_iff.1 x.2
  have := hz _ (List.getElem_mem h)
  rw [e] at this
  exact ⟨h, this⟩
theorem rowNum_in {zs : List Int} (hz : Sizes zs) {n N : Int} (h0 : 0 ≤ n) (h1 : n ≤ N) : ∀ pre : List (At zs), 0 ≤ rowNum n (prs pre) ∧ rowNum n (prs pre) ≤ N := by
  intro pre
  induction pre generalizing n with
  | nil => exact ⟨h0, h1⟩
  | cons x pre ih =>
    have hx := at_size hz x
    have a : 0 ≤ n / x.1.2 := Int.ediv_nonneg h0 (by omega)
    have b : n / x.1.2 ≤ n := Int.ediv_le_self _ h0
    exact ih (n := n / x.1.2) a (by omega)
/-- when k of them have come, from the last one on -/
theorem row_part {zs : List Int} (hz : Sizes zs) (n : Int) : ∀ k, k ≤ zs.length → rowNum n (prs ((bwd zs).take k)) = n / waysM (zs.drop (zs.length - k)) ∧
    ∀ j, zs.length - k ≤ j → j < zs.length → (rowFill n (List.replicate zs.length 0) (prs ((bwd zs).take k)))[j]? = (digM zs n)[j]? := by
  intro k
  induction k with
  | zero =>
    intro _
    refine ⟨?_, fun j h1 h2 => by omega⟩
    simp [prs, rowNum, waysM]
  | succ k ih =>
    intro hk
    obtain ⟨i1, i2⟩ := ih (by omega)
    have hkl : k < (bwd zs).length := by rw [bwd_len]; omega
    have hm : zs.length - 1 - k < zs.length := by omega
    have hat := bwd_at (zs := zs) (k := k) (m := zs.length - 1 - k) (by omega) hkl
    have htk : prs ((bwd zs).take (k + 1)) = prs ((bwd zs).take k) ++ [(zs.length - 1 - k, zs[zs.length - 1 - k])] := by
      rw [bwd_take hkl, hat]; simp [prs]
    have e1 : zs.length - (k + 1) = zs.length - 1 - k := by omega
    have e2 : zs.length - k = zs.length - 1 - k + 1 := by omega
    rw [htk, rowNum_snoc, rowFill_snoc, i1, e1]
    refine ⟨?_, fun j h1 h2 => ?_⟩
    · rw [e2]; exact dig_left hz hm
    · by_cases hj : zs.length - 1 - k = j
      · subst hj
        rw [List.getElem?_set_self (by rw [rowFill_len]; simp; omega), digM_at hm, e2]
      · rw [List.getElem?_set_ne hj]
        exact i2 j (by omega) h2
theorem row_all {zs : List Int} (hz : Sizes zs) (n : Int) : rowFill n (List.replicate zs.length 0) (prs (bwd zs)) = digM zs n := by
  have h := (row_part hz n zs.length (Nat.le_refl _)).2
  rw [List.take_of_length_le (by rw [bwd_len]; omega)] at h
  apply List.ext_getElem?
  intro j
  by_cases hj : j < zs.length
  · exact h j (by omega) hj
  · rw [List.getElem?_eq_none (by rw [rowFill_len]; simp; omega), List.getElem?_eq_none (by rw [digM_len]; omega)]

/-- the three blocks of the call: the number, the row's cells, the row -/
def RowSt (w : World) (zs : List Int) (n : Int) (pre : List (At zs)) (W : World) : Prop :=
  Boxed W w.heap.size 3 (.int .i64 (rowNum n (prs pre))) ∧
  W.heap[w.heap.size + 1]? = some (.cells ((rowFill n (List.replicate zs.length 0) (prs pre)).map (Value.int .i64)).toArray 3 (0, 0)) ∧
  Boxed W (w.heap.size + 2) 26 (.slice (some ⟨w.heap.size + 1, 0, none⟩) zs.length zs.length)

theorem block_kept {A B : World} {row : Option Nat} {k : Nat} {cs : Array Value} {t : TypeId} (h : A.heap[k]? = some (.cells cs t (0, 0))) (hg : A.grownBy B row) (hr : ∀ r, row = some r → ∃ o : Obj, A.heap[r]? = some o ∧ o.isCells = false) : B.heap[k]? = some (.cells cs t (0, 0)) := by
  refine (hg.block k (Array.getElem?_eq_some_iff.1 h).1 (fun e => ?_)).trans h
  obtain ⟨o, ho, hc⟩ := hr k e.symm
  rw [h] at ho
  cases ho
  cases hc
theorem made_zero (n : Nat) : madeCells #[Value.int .i64 0] n = ((List.replicate n (0 : Int)).map (Value.int .i64)).toArray := by
  apply Array.ext
  · simp [madeCells]
  · intro i h1 h2
    simp [madeCells, Nat.mod_one]
theorem blk_old {wc wd : World} {bx : Nat} {o : Obj} (hz : wc.heap[bx]? = some o) (hb : Below wc.heap.size wc wd) : wd.heap[bx]? = some o := (hb.block _ (Array.getElem?_eq_some_iff.1 hz).1).trans hz
theorem rowSt_own (w : World) (zs : List Int) (n : Int) : Own (RowSt w zs n) := fun s A B row hs hg hr => ⟨block_kept hs.1 hg hr, block_kept hs.2.1 hg hr, block_kept hs.2.2 hg hr⟩
theorem rowSt_step {w W : World} {zs : List Int} {n : Int} {pre : List (At zs)} (h : RowSt w zs n pre W) (x : At zs) (hx : x.1.1 < zs.length) :
    RowSt w zs n (pre ++ [x]) ((W.setCell ⟨w.heap.size + 1, x.1.1, none⟩ (.int .i64 (rowNum n (prs pre) % x.1.2))).setCell ⟨w.heap.size, 0, none⟩ (.int .i64 (rowNum n (prs pre) / x.1.2))) := by
  obtain ⟨h1, h2, h3⟩ := h
  have hp : prs (pre ++ [x]) = prs pre ++ [x.1] := by simp [prs]
  refine ⟨?_, ?_, ?_⟩
  · rw [hp, rowNum_snoc]
    have := blk_set ((Below.heap_setCell W ⟨w.heap.size + 1, x.1.1, none⟩ (.int .i64 (rowNum n (prs pre) % x.1.2)) w.heap.size (by show w.heap.size ≠ w.heap.size + 1; omega)).trans h1) 0 (.int .i64 (rowNum n (prs pre) / x.1.2))
    exact this
  · rw [Below.heap_setCell _ ⟨w.heap.size, 0, none⟩ _ _ (by show w.heap.size + 1 ≠ w.heap.size; omega), hp, rowFill_snoc]
    refine (blk_set h2 x.1.1 _).trans ?_
    rw [List.map_set]
    simp
  · unfold Boxed
    rw [Below.heap_setCell _ ⟨w.heap.size, 0, none⟩ _ _ (by show w.heap.size + 2 ≠ w.heap.size; omega), Below.heap_setCell _ ⟨w.heap.size + 1, x.1.1, none⟩ _ _ (by show w.heap.size + 2 ≠ w.heap.size + 1; omega)]
    exact h3

theorem rw_far {w : World} {b rb : Nat} (h : b ≠ rb) (i o : Nat) (u : Value) : (w.setCell ⟨rb, i, none⟩ u).cell? ⟨b, o, none⟩ = w.cell? ⟨b, o, none⟩ := World.cell?_of_block (Below.heap_setCell w ⟨rb, i, none⟩ u b h)
theorem rw_drew {a w : World} {B : Nat} (h : Below B a w) : Below B a w.drew := ⟨h.os, h.tape, h.output, h.size, h.block⟩
theorem row_owns {w : World} {B b : Nat} {xs : List Int} (h : w.heap[b]? = some (.cells (xs.map (Value.int .i64)).toArray 3 (0, 0))) (hB : B ≤ b) (hm : xs.length ≤ 9223372036854775807) : OInts w B (.slice (some ⟨b, 0, none⟩) xs.length xs.length) xs := by
  refine ⟨by simp, .inr ⟨b, _, _, rfl, hB, h, Nat.le_refl _, by rw [maxLen_eq]; exact hm, by simp, ?_⟩⟩
  simp only
  rw [List.take_of_length_le (by simp)]

set_option maxHeartbeats 2000000 in
set_option maxRecDepth 100000 in
theorem rowAt_any (zs : List Int) (n : Int) (w : World) (v : Value) (h : RInts w v zs) (hz : Sizes zs) (hl : zs.length ≤ 4) (h0 : 0 ≤ n) (h1 : n ≤ 1000) :
    Calls Try.prog 143 #[v, .int .i64 n] w fun e w' => ∃ u, e = .returned u ∧ OInts w' w.heap.size u (digM zs n) ∧ Below w.heap.size w w' := by
  have H := Lib.hid h
  have HZ := Lib.hid hz
  obtain ⟨A, c, rfl, -⟩ := h.form
  clear h hz
  have hmk := run_make_row' (P := Try.prog) 26 3 (.int .i64 0) 8 Try.underlying26 Try.tinfo_int rfl .i64 .i64 zs.length (by omega) (by omega)
  refine (callsIn_wide (n := 8)).1 ?_
  refine callsIn_of_wp_marks Try.func143 rfl trivial ?_ rfl
  simp only [Try.ntmps143, List.size_toArray, List.length_cons, List.length_nil, Nat.reduceAdd, Nat.reduceSub, Array.replicate_succ, Array.replicate_zero, List.push_toArray, List.append_toArray, List.nil_append, List.cons_append]
  gi_wp2
  refine ⟨trivial, ?_⟩
  refine (bw_in Fence.wide 7 trivial rfl _ _ _ _).mono ?_
  rintro e w' ⟨rfl, rfl⟩
  have hB0 : Below w.heap.size w ((((w.alloc (.cells #[.int .i64 n] 3)).alloc (.cells (madeCells #[.int .i64 0] zs.length) 3)).alloc (.cells #[.slice (some ⟨w.heap.size + 1, 0, none⟩) zs.length zs.length] 26)).alloc (.cells #[.slice A zs.length c] 26)) :=
    (((below_alloc _ _).alloc (by simp) _).alloc (by simp; omega) _).alloc (by simp; omega) _
  have hS0 : RowSt w zs n [] ((((w.alloc (.cells #[.int .i64 n] 3)).alloc (.cells (madeCells #[.int .i64 0] zs.length) 3)).alloc (.cells #[.slice (some ⟨w.heap.size + 1, 0, none⟩) zs.length zs.length] 26)).alloc (.cells #[.slice A zs.length c] 26)) := by
    refine ⟨?_, ?_, ?_⟩
    · exact (((Boxed.new w 3 (.int .i64 n)).alloc _).alloc _).alloc _
    · have h2 := World.alloc_heap_new (w.alloc (.cells #[.int .i64 n] 3)) (.cells (madeCells #[.int .i64 0] zs.length) 3)
      rw [World.size_alloc] at h2
      have h3 := blk_old (blk_old h2 (below_alloc _ (.cells #[.slice (some ⟨w.heap.size + 1, 0, none⟩) zs.length zs.length] 26))) (below_alloc _ (.cells #[.slice A zs.length c] 26))
      refine h3.trans ?_
      rw [made_zero]
      rfl
    · have h2 := Boxed.new ((w.alloc (.cells #[.int .i64 n] 3)).alloc (.cells (madeCells #[.int .i64 0] zs.length) 3)) 26 (.slice (some ⟨w.heap.size + 1, 0, none⟩) zs.length zs.length)
      simp only [World.size_alloc] at h2
      exact h2.alloc _
  have hbx : ((((w.alloc (.cells #[.int .i64 n] 3)).alloc (.cells (madeCells #[.int .i64 0] zs.length) 3)).alloc (.cells #[.slice (some ⟨w.heap.size + 1, 0, none⟩) zs.length zs.length] 26)).alloc (.cells #[.slice A zs.length c] 26)).cell? ⟨w.heap.size + 3, 0, none⟩ = some (.slice A zs.length c) := by
    have := Boxed.new (((w.alloc (.cells #[.int .i64 n] 3)).alloc (.cells (madeCells #[.int .i64 0] zs.length) 3)).alloc (.cells #[.slice (some ⟨w.heap.size + 1, 0, none⟩) zs.length zs.length] 26)) 26 (.slice A zs.length c)
    simp only [World.size_alloc] at this
    exact this.cell
  have hI : RInts ((((w.alloc (.cells #[.int .i64 n] 3)).alloc (.cells (madeCells #[.int .i64 0] zs.length) 3)).alloc (.cells #[.slice (some ⟨w.heap.size + 1, 0, none⟩) zs.length zs.length] 26)).alloc (.cells #[.slice A zs.length c] 26)) (.slice A zs.length c) zs := H.out.keep hB0
  have hsz4 : ((((w.alloc (.cells #[.int .i64 n] 3)).alloc (.cells (madeCells #[.int .i64 0] zs.length) 3)).alloc (.cells #[.slice (some ⟨w.heap.size + 1, 0, none⟩) zs.length zs.length] 26)).alloc (.cells #[.slice A zs.length c] 26)).heap.size = w.heap.size + 4 := by simp
  have hbs : (((w.alloc (.cells #[.int .i64 n] 3)).alloc (.cells (madeCells #[.int .i64 0] zs.length) 3)).alloc (.cells #[.slice (some ⟨w.heap.size + 1, 0, none⟩) zs.length zs.length] 26)).heap.size = w.heap.size + 3 := by simp
  generalize hW4 : (((w.alloc (.cells #[.int .i64 n] 3)).alloc (.cells (madeCells #[.int .i64 0] zs.length) 3)).alloc (.cells #[.slice (some ⟨w.heap.size + 1, 0, none⟩) zs.length zs.length] 26)).alloc (.cells #[.slice A zs.length c] 26) = W4 at hB0 hS0 hbx hI hsz4 ⊢
  clear hmk hbs
  gi_wp2
  refine wpIn_rangeFunc_ownG rfl (by omega) (gf := 160) (lb := #[.pointer (some ⟨w.heap.size + 1 + 1 + 1, 0, none⟩)]) rfl trivial (enters_of Try.func160 (by kernel_rfl) rfl)
    (bw_stops Fence.wide 7 trivial rfl (by omega) (w.heap.size + 1 + 1 + 1) c A zs (by omega) w H.out W4 hB0 hbx) bwKp_t (bwKp_b (by omega)) (Below.refl _ _) (fun _ => rfl)
    (fun pre W => RowSt w zs n pre W ∧ Below w.heap.size w W)
    (fun _ _ _ => False)
    (OwnFrom.and (Own.from (rowSt_own w zs n) _) (ownFrom_below (Nat.le_refl _) (by omega)))
    (fun _ _ _ _ _ hs _ _ => hs)
    ⟨hS0, hB0⟩
    (fun x => { tmps := #[.slice A zs.length c, .int .i64 n, undef, .pointer (some ⟨w.heap.size, 0, none⟩), .slice none 0 0, .pointer (some ⟨w.heap.size + 1 + 1, 0, none⟩), .int .i64 (x.1.1 : Int), .int .i64 x.1.2, .slice A zs.length c, .int .i64 (zs.length : Int), .slice (some ⟨w.heap.size + 1, 0, none⟩) zs.length zs.length, .slice A zs.length c, .func (.func 160) #[] #[.pointer (some ⟨w.heap.size + 1 + 1 + 1, 0, none⟩)], .int .i64 (x.1.1 : Int), .int .i64 x.1.2, undef, undef, undef, undef, undef, undef, undef, undef, undef, undef], defers := [] }) ?assign ?body ?done ?stop
  case assign =>
    intro l x W K hK
    gi_wp2
    exact hK
  case body =>
    rintro l pre x W ⟨hS, hB⟩ _
    have hx := at_size HZ.out x
    have hq := rowNum_in HZ.out h0 h1 pre
    have HS := Lib.hid hS
    obtain ⟨s1, s2, s3⟩ := hS
    have c1 := s1.cell
    have c2 := s1.frozen
    have c3 := s3.cell
    have hxl : (x.1.1 : Int) < (zs.length : Int) := by omega
    have d1 : W.cell? ⟨w.heap.size + 1, x.1.1, none⟩ = some (.int .i64 ((rowFill n (List.replicate zs.length 0) (prs pre))[x.1.1]'(by rw [rowFill_len]; simp; omega))) := by
      rw [blk_cell s2]; simp
    have d2 := blk_free s2 x.1.1
    generalize (rowFill n (List.replicate zs.length 0) (prs pre))[x.1.1]'(by rw [rowFill_len]; simp; omega) = y at d1
    have HST := Lib.hid (rowSt_step HS.out x hx.1)
    have hw1 : (rowNum n (prs pre)).tmod x.1.2 = rowNum n (prs pre) % x.1.2 := Int.tmod_eq_emod_of_nonneg hq.1
    have hw2 : (rowNum n (prs pre)).tdiv x.1.2 = rowNum n (prs pre) / x.1.2 := Int.tdiv_eq_ediv_of_nonneg hq.1
    have hm0 := Int.emod_nonneg (rowNum n (prs pre)) (show x.1.2 ≠ 0 by omega)
    have hm1 := Int.emod_lt_of_pos (rowNum n (prs pre)) (show 0 < x.1.2 by omega)
    have hd0 : 0 ≤ rowNum n (prs pre) / x.1.2 := Int.ediv_nonneg hq.1 (by omega)
    have hd1 : rowNum n (prs pre) / x.1.2 ≤ rowNum n (prs pre) := Int.ediv_le_self _ hq.1
    have hz0 : ¬ x.1.2 = 0 := by omega
    generalize rowNum n (prs pre) / x.1.2 = qd at hw2 hd0 hd1 HST
    generalize rowNum n (prs pre) % x.1.2 = qm at hw1 hm0 hm1 HST
    generalize rowNum n (prs pre) = q at hw1 hw2 hq hd1 c1 s1
    clear s1 s2 s3
    have hqm : qm ≤ 3 := by omega
    have hqw1 : IntKind.i64.wrap qm = qm := by rw [IntKind.wrap_i64]; omega
    have hqd : qd ≤ 1000 := by omega
    have hqw2 : IntKind.i64.wrap qd = qd := by rw [IntKind.wrap_i64]; omega
    have hmo : Try.prog.follows .mixedOrders = true := by kernel_rfl
    have g1 : (W.drew.setCell ⟨w.heap.size + 1, x.1.1, none⟩ (.int .i64 qm)).cell? ⟨w.heap.size, 0, none⟩ = some (.int .i64 q) := (rw_far (by omega) _ _ _).trans c1
    have g2 : (W.drew.setCell ⟨w.heap.size + 1, x.1.1, none⟩ (.int .i64 qm)).frozen? ⟨w.heap.size, 0, none⟩ = false := by rw [World.frozen?_setCell]; exact c2
    have HK := Lib.hid (show KeepsFrom W4.heap.size W ((W.drew.setCell ⟨w.heap.size + 1, x.1.1, none⟩ (.int .i64 qm)).setCell ⟨w.heap.size, 0, none⟩ (.int .i64 qd)) ∧ BwKp w (w.heap.size + 1 + 1 + 1) (.slice A zs.length c) W ((W.drew.setCell ⟨w.heap.size + 1, x.1.1, none⟩ (.int .i64 qm)).setCell ⟨w.heap.size, 0, none⟩ (.int .i64 qd)) ∧ RowSt w zs n (pre ++ [x]) ((W.drew.setCell ⟨w.heap.size + 1, x.1.1, none⟩ (.int .i64 qm)).setCell ⟨w.heap.size, 0, none⟩ (.int .i64 qd)) ∧ Below w.heap.size w ((W.drew.setCell ⟨w.heap.size + 1, x.1.1, none⟩ (.int .i64 qm)).setCell ⟨w.heap.size, 0, none⟩ (.int .i64 qd)) from
      ⟨(((KeepsOthers.drew W).trans (KeepsOthers.setCell _ _ _)).trans (KeepsOthers.setCell _ _ _)).from _,
       ⟨((rw_drew (Below.refl w.heap.size W)).setCell (p := ⟨w.heap.size + 1, x.1.1, none⟩) (by show w.heap.size ≤ w.heap.size + 1; omega) _).setCell (p := ⟨w.heap.size, 0, none⟩) (Nat.le_refl _) _, fun hc => (rw_far (by omega) _ _ _).trans ((rw_far (by omega) _ _ _).trans hc)⟩,
       HST.out,
       ((rw_drew hB).setCell (p := ⟨w.heap.size + 1, x.1.1, none⟩) (by show w.heap.size ≤ w.heap.size + 1; omega) _).setCell (p := ⟨w.heap.size, 0, none⟩) (Nat.le_refl _) _⟩)
    gi_wp2
    gi_region_with_o (fail)
    all_goals gi_wp2
    all_goals exact HK.out
  case done =>
    rintro D ys W hD rfl ⟨hS, hB⟩ hK
    have HS := Lib.hid hS
    have c3 := hS.2.2.cell
    have hm1 : zs.length ≤ 9223372036854775807 := by omega
    have HR := Lib.hid (row_all HZ.out n)
    clear hS hS0 hbx hI
    gi_wp2
    refine ⟨by simp, .inl ⟨_, _, rfl, run_takeDeferred hK, ?_⟩⟩
    have hk := block_kept HS.out.2.1 (grownBy_putObj' W D (.deferred none)) (fun r e => by cases e; exact ⟨_, hK, rfl⟩)
    rw [HR.out] at hk
    have ho := row_owns (B := w.heap.size) hk (by omega) (by rw [digM_len]; exact hm1)
    rw [digM_len] at ho
    exact ⟨.slice (some ⟨w.heap.size + 1, 0, none⟩) zs.length zs.length, by simp [results, Try.results143, go_sem], _, rfl, ho, hB.trans (belowK_b (w := w) (Nat.le_refl _) W D _ _ (by have := hB0.size; omega) hK rfl rfl)⟩
  case stop =>
    rintro D c pre W _ _ h _
    exact h.elim
end

section
open Go.RowKit
set_option linter.unusedVariables false
set_option linter.unusedSimpArgs false

theorem vb_alloc {a w : World} (h : Below a.heap.size a w) (o : Obj) : Below a.heap.size a (w.alloc o) := h.alloc h.size o
theorem vb_drew {a w : World} (h : Below a.heap.size a w) : Below a.heap.size a w.drew := ⟨h.os, h.tape, h.output, h.size, h.block⟩
theorem vb_undrew {w w' : World} (h : Below w.drew.heap.size w.drew w') : Below w.heap.size w w' := ⟨h.os, h.tape, h.output, h.size, h.block⟩
theorem va_far {w : World} {b rb : Nat} (h : b ≠ rb) (i o : Nat) (u : Value) : (w.setCell ⟨rb, i, none⟩ u).cell? ⟨b, o, none⟩ = w.cell? ⟨b, o, none⟩ := World.cell?_of_block (Below.heap_setCell w ⟨rb, i, none⟩ u b h)
theorem place_wrap {zs vs : List Int} (hz : Sizes zs) (hl : zs.length ≤ 4) (h : InAll zs vs) {k : Nat} (hk : k < zs.length) (hk' : k < vs.length) :
    ∃ a, IntKind.i64.wrap (placeM 0 (zs.take k) (vs.take k) * zs[k]) = a ∧ IntKind.i64.wrap (a + vs[k]) = placeM 0 (zs.take (k + 1)) (vs.take (k + 1)) := by
  have h1 := ways_few (hz.take (k + 1)) (by simp; omega)
  obtain ⟨h2, h3⟩ := place_in (hz.take (k + 1)) (h.take (k + 1))
  have h4 := h.2 k hk hk'
  have h5 := hz _ (List.getElem_mem hk)
  rw [placeM_take hk hk'] at h2 h3 ⊢
  generalize placeM 0 (zs.take k) (vs.take k) * zs[k] = q at h2 h3 ⊢
  generalize vs[k] = v at h2 h3 h4 ⊢
  refine ⟨q, ?_, ?_⟩ <;> (rw [IntKind.wrap_i64]; omega)

set_option maxRecDepth 100000 in
theorem numberOf_any (zs vs : List Int) (w : World) (v v' : Value) (h : RInts w v zs) (h' : RInts w v' vs) (hz : Sizes zs) (hl : zs.length ≤ 4) (hin : InAll zs vs) :
    Calls Try.prog 129 #[v, v'] w fun e w' => e = .returned (.int .i64 (placeM 0 zs vs)) ∧ w = w' := by
  have H := Lib.hid h
  have H' := Lib.hid h'
  obtain ⟨A, c, rfl, -⟩ := h.form
  obtain ⟨A', c', rfl, -⟩ := h'.form
  have HW := Lib.hid (fun (k : Nat) (hk : k < zs.length) (hk' : k < vs.length) => place_wrap hz hl hin hk hk')
  have HL := Lib.hid hin.1
  have hvl : vs.length ≤ 4 := by rw [hin.1]; exact hl
  clear h h' hz hin
  go_enter Try.func129, Try.ntmps129
  go_wp2
  go_loopw [5, 6, 7, 10] (fun p _ _ i wr => ∃ k : Nat, k ≤ vs.length ∧ i = .int .i64 k ∧ p = .int .i64 (placeM 0 (zs.take k) (vs.take k)) ∧ w = wr) (fun _ _ _ i _ => vs.length - (intOf i).toNat)
  case atStart => exact ⟨0, Nat.zero_le _, rfl, rfl, rfl⟩
  case round =>
    obtain ⟨k, hk, rfl, rfl, rfl⟩ := hrel
    by_cases hlt : k < vs.length
    · obtain ⟨b, o, c2, e, hx⟩ := H'.out.at_ hlt
      cases e
      have hlt' : (k : Int) < (vs.length : Int) := by omega
      have hkz : k < zs.length := by rw [← HL.out]; exact hlt
      have hkz' : (k : Int) < (zs.length : Int) := by omega
      obtain ⟨b2, o2, c3, e, hy⟩ := H.out.at_ hkz
      cases e
      obtain ⟨a, hw1, hw2⟩ := HW.out k hkz hlt
      generalize vs[k] = x at hx hw2
      generalize zs[k] = z at hy hw1
      generalize hq : placeM 0 (zs.take (k + 1)) (vs.take (k + 1)) = q at hw2
      have HQ := Lib.hid hq
      clear hq
      go_wp2
      go_roundw
      case rel => exact ⟨k + 1, by omega, by go_num, by rw [HQ.out], by first | trivial | rfl⟩
      case measure => simp [intOf]; omega
    · have hkn : k = vs.length := by omega
      have hlt' : ¬ (k : Int) < (vs.length : Int) := by omega
      have HT := Lib.hid (show zs.take k = zs from take_all (by rw [← HL.out]; omega))
      have HT2 := Lib.hid (show vs.take k = vs from take_all (by omega))
      rw [HT.out, HT2.out]
      go_wp2
      go_ret
      exact ⟨rfl, rfl⟩

/-- two rows that are being filled at once: k of their places are done -/
def TwoAt (W2 wr : World) (bs bt n : Nat) (xs ys : List Int) (k : Nat) : Prop :=
  ∃ cs ds : Array Value, wr.heap[bs]? = some (.cells cs 3 (0, 0)) ∧ wr.heap[bt]? = some (.cells ds 3 (0, 0)) ∧ cs.size = n ∧ ds.size = n ∧ (∀ j, j < k → cs[j]? = (xs[j]?).map (Value.int .i64)) ∧ (∀ j, j < k → ds[j]? = (ys[j]?).map (Value.int .i64)) ∧
    bs ≠ bt ∧ W2.heap.size ≤ bs ∧ W2.heap.size ≤ bt ∧ Below W2.heap.size W2 wr
section
variable {W2 wr w6 : World} {bs bt n k : Nat} {xs ys : List Int} {x y : Int}
theorem TwoAt.bel (h : TwoAt W2 wr bs bt n xs ys k) : Below W2.heap.size W2 wr := by obtain ⟨_, _, _, _, _, _, _, _, _, _, _, hb⟩ := h; exact hb
theorem TwoAt.ne (h : TwoAt W2 wr bs bt n xs ys k) : bs ≠ bt ∧ W2.heap.size ≤ bs ∧ W2.heap.size ≤ bt := by obtain ⟨_, _, _, _, _, _, _, _, a, b, c, _⟩ := h; exact ⟨a, b, c⟩
theorem two_put {cs : Array Value} {zs : List Int} {z : Int} (hs : cs.size = n) (hk : k < n) (hd : ∀ j, j < k → cs[j]? = (zs[j]?).map (Value.int .i64)) (hz : zs[k]? = some z) : ∀ j, j < k + 1 → (cs.setIfInBounds k (.int .i64 z))[j]? = (zs[j]?).map (Value.int .i64) := by
  intro j hj
  rw [Array.getElem?_setIfInBounds]
  by_cases hjk : k = j
  · subst hjk
    rw [if_pos rfl, if_pos (by omega), hz]
    rfl
  · rw [if_neg hjk]
    exact hd j (by omega)
theorem TwoAt.step (h : TwoAt W2 wr bs bt n xs ys k) (hb : Below wr.heap.size wr w6) (hk : k < n) (hx : xs[k]? = some x) (hy : ys[k]? = some y) :
    TwoAt W2 ((w6.setCell ⟨bs, k, none⟩ (.int .i64 x)).setCell ⟨bt, k, none⟩ (.int .i64 y)) bs bt n xs ys (k + 1) := by
  obtain ⟨cs, ds, a1, a2, a3, a4, a5, a6, a7, a8, a9, a10⟩ := h
  have b1 := (hb.block _ (Array.getElem?_eq_some_iff.1 a1).1).trans a1
  have b2 := (hb.block _ (Array.getElem?_eq_some_iff.1 a2).1).trans a2
  refine ⟨_, _, (Below.heap_setCell _ ⟨bt, k, none⟩ _ bs (by show bs ≠ bt; exact a7)).trans (blk_set b1 k _), blk_set ((Below.heap_setCell _ ⟨bs, k, none⟩ _ bt (by show bt ≠ bs; exact fun e => a7 e.symm)).trans b2) k _, by simpa using a3, by simpa using a4, two_put a3 hk a5 hx, two_put a4 hk a6 hy, a7, a8, a9,
    ((a10.trans (hb.mono a10.size)).setCell (p := ⟨bs, k, none⟩) a8 _).setCell (p := ⟨bt, k, none⟩) a9 _⟩
theorem TwoAt.cells (h : TwoAt W2 wr bs bt n xs ys k) (hb : Below wr.heap.size wr w6) (hk : k < n) (X : Value) :
    (∃ u, w6.cell? ⟨bs, k, none⟩ = some u) ∧ w6.frozen? ⟨bs, k, none⟩ = false ∧ (∃ u, (w6.setCell ⟨bs, k, none⟩ X).cell? ⟨bt, k, none⟩ = some u) ∧ (w6.setCell ⟨bs, k, none⟩ X).frozen? ⟨bt, k, none⟩ = false := by
  obtain ⟨cs, ds, a1, a2, a3, a4, a5, a6, a7, a8, a9, a10⟩ := h
  have b1 := (hb.block _ (Array.getElem?_eq_some_iff.1 a1).1).trans a1
  have b2 := (hb.block _ (Array.getElem?_eq_some_iff.1 a2).1).trans a2
  have b3 := (Below.heap_setCell w6 ⟨bs, k, none⟩ X bt (by show bt ≠ bs; exact fun e => a7 e.symm)).trans b2
  exact ⟨⟨cs[k]'(by omega), (blk_cell b1 k).trans (Array.getElem?_eq_getElem (by omega))⟩, blk_free b1 k, ⟨ds[k]'(by omega), (blk_cell b3 k).trans (Array.getElem?_eq_getElem (by omega))⟩, blk_free b3 k⟩
theorem TwoAt.done (h : TwoAt W2 wr bs bt n xs ys n) (hx : xs.length = n) (hy : ys.length = n) (hm : n ≤ 9223372036854775807) : RInts wr (.slice (some ⟨bs, 0, none⟩) n n) xs ∧ RInts wr (.slice (some ⟨bt, 0, none⟩) n n) ys := by
  obtain ⟨cs, ds, a1, a2, a3, a4, a5, a6, a7, a8, a9, a10⟩ := h
  refine ⟨⟨_, n, by rw [hx], by omega, by rw [maxLen_eq]; exact hm, fun j x hj => ⟨bs, 0, rfl, ?_⟩⟩, ⟨_, n, by rw [hy], by omega, by rw [maxLen_eq]; exact hm, fun j x hj => ⟨bt, 0, rfl, ?_⟩⟩⟩
  · have hl := (List.getElem?_eq_some_iff.1 hj).1
    rw [Nat.zero_add, blk_cell a1, a5 j (by omega), hj]; rfl
  · have hl := (List.getElem?_eq_some_iff.1 hj).1
    rw [Nat.zero_add, blk_cell a2, a6 j (by omega), hj]; rfl
theorem two_start {W wx : World} {o : Array Value} (hh : wx.heap = ((W.alloc (.cells o 3)).alloc (.cells o 3)).heap) (ho : wx.os = W.os) (ht : wx.tape = W.tape) (hp : wx.output = W.output) (hn : o.size = n) (xs ys : List Int) :
    TwoAt W wx W.heap.size (W.heap.size + 1) n xs ys 0 ∧ TwoAt W wx (W.heap.size + 1) W.heap.size n xs ys 0 := by
  have h1 : ((W.alloc (.cells o 3)).alloc (.cells o 3)).heap[W.heap.size]? = some (.cells o 3 (0, 0)) := by
    rw [heap_alloc_old _ _ (by simp)]; exact heap_alloc_new W _
  have h2 : ((W.alloc (.cells o 3)).alloc (.cells o 3)).heap[W.heap.size + 1]? = some (.cells o 3 (0, 0)) :=
    (congrArg (fun i => ((W.alloc (.cells o 3)).alloc (.cells o 3)).heap[i]?) (by simp)).trans (heap_alloc_new (W.alloc (.cells o 3)) _)
  have hb : Below W.heap.size W ((W.alloc (.cells o 3)).alloc (.cells o 3)) := (below_alloc _ _).alloc (by simp) _
  have hb' : Below W.heap.size W wx := ⟨ho, ht, hp, by rw [hh]; exact hb.size, fun n hn => by rw [hh]; exact hb.block n hn⟩
  rw [← hh] at h1 h2
  exact ⟨⟨o, o, h1, h2, hn, hn, fun j hj => by omega, fun j hj => by omega, by omega, by omega, by omega, hb'⟩, ⟨o, o, h2, h1, hn, hn, fun j hj => by omega, fun j hj => by omega, by omega, by omega, by omega, hb'⟩⟩
end
end

section
open Go.RowKit
set_option linter.unusedVariables false
set_option linter.unusedSimpArgs false

set_option maxRecDepth 100000 in
theorem takesAndLeaves_any (s : MSig) (k : Nat) (w : World) (v : Value) (h : RSig w v s) (hv : validB s = true) (hk : k < s.ops.length) :
    Calls Try.prog 140 #[v, .int .i64 k] w fun e w' => ∃ u, e = .returned (.tuple #[u, .int .i64 ((opRow s k).getLastD (-1))]) ∧ RInts w' u (opRow s k).dropLast ∧ Below w.heap.size w w' := by
  obtain ⟨Asa, csa, rfl⟩ := h.form
  have hb : Below w.heap.size w (w.alloc (.cells #[.int .i64 s.sorts, .slice Asa s.ops.length csa] 25)) := below_alloc _ _
  have HB := Lib.hid hb
  have hsz : (w.alloc (.cells #[.int .i64 s.sorts, .slice Asa s.ops.length csa] 25)).heap.size = w.heap.size + 1 := by simp
  have Hs := Lib.hid (h.keep hb)
  have s0 := bx_at (w) #[.int .i64 s.sorts, .slice Asa s.ops.length csa] 25 (k := 0) rfl
  have s1 := bx_at (w) #[.int .i64 s.sorts, .slice Asa s.ops.length csa] 25 (k := 1) rfl
  generalize hW : w.alloc (.cells #[.int .i64 s.sorts, .slice Asa s.ops.length csa] 25) = W at HB hsz Hs s0 s1
  clear hb h
  have hk' : (k : Int) < (s.ops.length : Int) := by omega
  obtain ⟨r1, r2, -⟩ := opRow_valid hv hk
  obtain ⟨b, o, c, u, e, hx, hr⟩ := Hs.out.of.2.at_ hk
  cases e
  have HR : Hid (RInts W u (opRow s k)) := by rw [opRow_at hk]; exact hr
  clear hr hv
  generalize opRow s k = row at HR r1 r2
  obtain ⟨n, hn⟩ : ∃ n : Nat, row.length = n + 1 := ⟨row.length - 1, by omega⟩
  have hne : n < row.length := by omega
  obtain ⟨b1, o1, c1, rfl, hy⟩ := HR.out.at_ hne
  have hcap : n ≤ c1 := by
    obtain ⟨A9, c9, e, h9, -⟩ := HR.out.form
    cases e
    omega
  have HLS : Hid (row.getLastD (-1) = row[n]) := by
    have := last_at (row := row) (by omega)
    simp only [hn, Nat.add_sub_cancel] at this
    exact this
  have HD := Lib.hid HR.out.dropLast
  rw [hn] at HD
  simp only [Nat.add_sub_cancel] at HD
  rw [HLS.out]
  generalize row[n] = last at hy
  have hw0 : IntKind.i64.wrap (((n + 1 : Nat) : Int) - 1) = (n : Int) := by rw [IntKind.wrap_i64]; omega
  have hnn : (n : Int) < (n : Int) + 1 := by omega
  rw [hn] at hx
  clear HR HLS hne
  go_enter Try.func140, Try.ntmps140
  go_wp2_with fail
  clear hW
  refine wp_region_held_drew (S := (fun w' => w'.cell? ⟨b1, o1 + n, none⟩ = some (.int .i64 last))) (by kernel_rfl) ?_ (fun hHeld => ?_)
  · exact hy
  refine wpAnyH_take (i := 0) (oi := _) (v := ?_) rfl (by kernel_rfl) (by kernel_rfl) (by kernel_rfl) (fun _ _ _ h => h) (Or.inl ⟨by rfl, ?_⟩) (by assumption) ?_
  rotate_left
  · first | (intro w' hSw; (try dsimp only at hSw); go_simp; done) | (intro w' hSw; (try dsimp only at hSw); go_simp; with_reducible rfl)
  try simp only [Act.put, List.getElem_toArray, List.getElem_cons_zero, List.getElem_cons_succ, List.setIfInBounds_toArray, List.set_cons_zero, List.set_cons_succ]
  refine wpAnyH_take (i := 1) (oi := _) (v := ?_) rfl (by kernel_rfl) (by kernel_rfl) (by kernel_rfl) (fun _ _ _ h => h) (Or.inl ⟨by rfl, ?_⟩) (by assumption) ?_
  rotate_left
  · first | (intro w' hSw; (try dsimp only at hSw); go_simp; done) | (intro w' hSw; (try dsimp only at hSw); go_simp; with_reducible rfl)
  try simp only [Act.put, List.getElem_toArray, List.getElem_cons_zero, List.getElem_cons_succ, List.setIfInBounds_toArray, List.set_cons_zero, List.set_cons_succ]
  refine wpAnyH_take (i := 2) (oi := _) (v := ?_) rfl (by kernel_rfl) (by kernel_rfl) (by kernel_rfl) (fun _ _ _ h => h) (Or.inl ⟨by rfl, ?_⟩) (by assumption) ?_
  rotate_left
  · first | (intro w' hSw; (try dsimp only at hSw); go_simp; done) | (intro w' hSw; (try dsimp only at hSw); go_simp; with_reducible rfl)
  try simp only [Act.put, List.getElem_toArray, List.getElem_cons_zero, List.getElem_cons_succ, List.setIfInBounds_toArray, List.set_cons_zero, List.set_cons_succ]
  refine wpAnyH_take (i := 3) (oi := _) (v := ?_) rfl (by kernel_rfl) (by kernel_rfl) (by kernel_rfl) (fun _ _ _ h => h) (Or.inl ⟨by rfl, ?_⟩) (by assumption) ?_
  rotate_left
  · first | (intro w' hSw; (try dsimp only at hSw); go_simp; done) | (intro w' hSw; (try dsimp only at hSw); go_simp; with_reducible rfl)
  try simp only [Act.put, List.getElem_toArray, List.getElem_cons_zero, List.getElem_cons_succ, List.setIfInBounds_toArray, List.set_cons_zero, List.set_cons_succ]
  refine wpAnyH_take (i := 4) (oi := _) (v := ?_) rfl (by kernel_rfl) (by kernel_rfl) (by kernel_rfl) (fun _ _ _ h => h) (Or.inl ⟨by rfl, ?_⟩) (by assumption) ?_
  rotate_left
  · first | (intro w' hSw; (try dsimp only at hSw); go_simp; done) | (intro w' hSw; (try dsimp only at hSw); go_simp; with_reducible rfl)
  try simp only [Act.put, List.getElem_toArray, List.getElem_cons_zero, List.getElem_cons_succ, List.setIfInBounds_toArray, List.set_cons_zero, List.set_cons_succ]
  refine wpAnyH_take (i := 5) (oi := _) (v := ?_) rfl (by kernel_rfl) (by kernel_rfl) (by kernel_rfl) (fun _ _ _ h => h) (Or.inl ⟨by rfl, ?_⟩) (by assumption) ?_
  rotate_left
  · first | (intro w' hSw; (try dsimp only at hSw); go_simp; done) | (intro w' hSw; (try dsimp only at hSw); go_simp; with_reducible rfl)
  try simp only [Act.put, List.getElem_toArray, List.getElem_cons_zero, List.getElem_cons_succ, List.setIfInBounds_toArray, List.set_cons_zero, List.set_cons_succ]
  refine wpAnyH_take (i := 6) (oi := _) (v := ?_) rfl (by kernel_rfl) (by kernel_rfl) (by kernel_rfl) (fun _ _ _ h => h) (Or.inl ⟨by rfl, ?_⟩) (by assumption) ?_
  rotate_left
  · first | (intro w' hSw; (try dsimp only at hSw); go_simp; done) | (intro w' hSw; (try dsimp only at hSw); go_simp; with_reducible rfl)
  try simp only [Act.put, List.getElem_toArray, List.getElem_cons_zero, List.getElem_cons_succ, List.setIfInBounds_toArray, List.set_cons_zero, List.set_cons_succ]
  refine wpAnyH_take (i := 7) (oi := _) (v := ?_) rfl (by kernel_rfl) (by kernel_rfl) (by kernel_rfl) (fun _ _ _ h => h) (Or.inl ⟨by rfl, ?_⟩) (by assumption) ?_
  rotate_left
  · first | (intro w' hSw; (try dsimp only at hSw); go_simp; done) | (intro w' hSw; (try dsimp only at hSw); go_simp; with_reducible rfl)
  try simp only [Act.put, List.getElem_toArray, List.getElem_cons_zero, List.getElem_cons_succ, List.setIfInBounds_toArray, List.set_cons_zero, List.set_cons_succ]
  refine wpAnyH_take (i := 8) (oi := _) (v := ?_) rfl (by kernel_rfl) (by kernel_rfl) (by kernel_rfl) (fun _ _ _ h => h) (Or.inl ⟨by rfl, ?_⟩) (by assumption) ?_
  rotate_left
  · first | (intro w' hSw; (try dsimp only at hSw); go_simp; done) | (intro w' hSw; (try dsimp only at hSw); go_simp; with_reducible rfl)
  try simp only [Act.put, List.getElem_toArray, List.getElem_cons_zero, List.getElem_cons_succ, List.setIfInBounds_toArray, List.set_cons_zero, List.set_cons_succ]
  refine wpAnyH_done (by kernel_rfl) ?_ _
  clear hx hy s0 s1
  go_wp2
  refine bodyPost_ret (v := .tuple #[.slice (some ⟨b1, o1, none⟩) n c1, .int .i64 last]) (by simp [results, Try.results140, go_sem]) rfl ?_
  exact ⟨_, rfl, HD.out.keep (map_drew (Below.refl _ _)), map_drew HB.out⟩

set_option maxRecDepth 100000 in
theorem ledValues_any (h : List (List Int)) (sorts vals : List Int) (w : World) (v v1 v2 : Value) (hh : RRows w v h) (h1 : RInts w v1 sorts) (h2 : RInts w v2 vals) (hin : VIn h sorts vals) (hs : vals.length ≤ 1000000) :
    Calls Try.prog 142 #[v, v1, v2] w fun e w' => ∃ u, e = .returned u ∧ OInts w' w.heap.size u (ledV h sorts vals) ∧ Below w.heap.size w w' := by
  have HH := Lib.hid hh
  have H1 := Lib.hid h1
  have H2 := Lib.hid h2
  have HIN := Lib.hid hin
  obtain ⟨A, c, rfl, -⟩ := hh.form
  obtain ⟨A1, c1, rfl, -⟩ := h1.form
  obtain ⟨A2, c2, rfl, -⟩ := h2.form
  have HRL := Lib.hid (ledV_len (h := h) hin.1)
  have hle : sorts.length = vals.length := hin.1.symm
  have HLE := Lib.hid hle
  clear hh h1 h2 hin hle
  have hmk := run_make_row' (P := Try.prog) 26 3 (.int .i64 0) 8 Try.underlying26 Try.tinfo_int rfl .i64 .i64 vals.length (by omega) (by omega)
  go_enter Try.func142, Try.ntmps142
  go_wp2
  go_loopw [8, 9, 15] (fun a b i wr => ∃ k : Nat, k ≤ vals.length ∧ i = .int .i64 k ∧ Filling w wr (ledV h sorts vals) k) (fun _ _ i _ => vals.length - (intOf i).toNat)
  case atStart => exact ⟨0, Nat.zero_le _, rfl, Filling.start w _ _ (by rw [HRL.out]; simp [madeCells])⟩
  case round =>
    obtain ⟨k, hk, rfl, hf⟩ := hrel
    have HF := Lib.hid hf
    have HB := Lib.hid (filling_below hf)
    clear hf hmk
    by_cases hlt : k < vals.length
    · have hlt' : (k : Int) < (vals.length : Int) := by omega
      have hks : k < sorts.length := by have := HLE.out; omega
      have hks' : (k : Int) < (sorts.length : Int) := by omega
      obtain ⟨b, o, c', e, hx⟩ := (H2.out.keep HB.out).at_ hlt
      cases e
      obtain ⟨b1, o1, c1', e, hy⟩ := (H1.out.keep HB.out).at_ hks
      cases e
      have HX := Lib.hid (ledV_at hks hlt (by rw [HRL.out]; exact hlt))
      obtain ⟨q1, q2, q3, q4⟩ := HIN.out.2 k hks hlt
      obtain ⟨u, g1, g2⟩ := HF.out.cell (by rw [HRL.out]; exact hlt)
      generalize sorts[k] = sk at *
      generalize vals[k] = vk at *
      obtain ⟨i, rfl⟩ : ∃ i : Nat, sk = (i : Int) := ⟨sk.toNat, by omega⟩
      obtain ⟨j, rfl⟩ : ∃ j : Nat, vk = (j : Int) := ⟨vk.toNat, by omega⟩
      have hi : i < h.length := by omega
      unfold ledOne at HX
      rw [Int.toNat_natCast] at HX q4
      rw [getD_at _ hi] at HX q4
      obtain ⟨b2, o2, c2', u2, e, hz, hr⟩ := (HH.out.keep HB.out).at_ hi
      cases e
      generalize h[i] = hrow at *
      have hj : j < hrow.length := by omega
      rw [Int.toNat_natCast, getD_at _ hj] at HX
      obtain ⟨b3, o3, c3', rfl, ht⟩ := hr.at_ hj
      generalize hrow[j] = out at *
      clear hr
      go_wp2
      go_roundw
      case rel => exact ⟨k + 1, by omega, by go_num, HF.out.step (by rw [HRL.out]; exact hlt) HX.out⟩
      case measure => simp [intOf]; omega
    · go_wp2
      go_ret
      obtain ⟨r1, r2⟩ := HF.out.done (by rw [HRL.out]; omega) (by omega)
      have hkn : k = vals.length := by omega
      subst hkn
      exact ⟨_, rfl, r1, r2⟩
end

section
open Go.RowKit
set_option linter.unusedVariables false
set_option linter.unusedSimpArgs false

def apartV : Option (Int × Int × Int) → Value
  | none => .tuple #[.int .i64 0, .int .i64 0, .int .i64 0, .bool false]
  | some t => .tuple #[.int .i64 t.1, .int .i64 t.2.1, .int .i64 t.2.2, .bool true]
theorem Cls.vin {s : MSig} {m : MModel} {c : List (List Int)} (f : ModFacts s m) (h : Cls m c) {takes : List Int} {last : Int} {table : List Int} (o : OpAt s m takes last table) (n : Nat) : VIn c takes (digM (ledM m.sizes takes) n) :=
  vin_of h.le o.tin f.sorts.1 (dig_in o.siz n)

set_option maxHeartbeats 3200000 in
set_option maxRecDepth 100000 in
theorem leftApart_any (s : MSig) (m : MModel) (c : List (List Int)) (f : ModFacts s m) (hc : Cls m c) (w : World) (v va vc : Value) (h1 : RSig w v s) (h2 : RModel w va m) (h3 : RRows w vc c) :
    Calls Try.prog 99 #[v, va, vc] w fun e w' => e = .returned (apartV (firstApart s m c)) ∧ Below w.heap.size w w' := by
  obtain ⟨Asa, csa, rfl⟩ := h1.form
  obtain ⟨Ama, cma, Amb, cmb, rfl⟩ := h2.form
  have hb : Below w.heap.size w ((w.alloc (.cells #[.int .i64 s.sorts, .slice Asa s.ops.length csa] 25)).alloc (.cells #[.slice Ama m.sizes.length cma, .slice Amb m.tables.length cmb] 28)) := (below_alloc _ _).alloc (by simp) _
  have HB := Lib.hid hb
  have hsz : ((w.alloc (.cells #[.int .i64 s.sorts, .slice Asa s.ops.length csa] 25)).alloc (.cells #[.slice Ama m.sizes.length cma, .slice Amb m.tables.length cmb] 28)).heap.size = w.heap.size + 2 := by simp
  have Hs := Lib.hid (h1.keep hb)
  have s0 := cell_keep (below_alloc (w.alloc (.cells #[.int .i64 s.sorts, .slice Asa s.ops.length csa] 25)) (.cells #[.slice Ama m.sizes.length cma, .slice Amb m.tables.length cmb] 28)) (bx_at (w) #[.int .i64 s.sorts, .slice Asa s.ops.length csa] 25 (k := 0) rfl)
  have s1 := cell_keep (below_alloc (w.alloc (.cells #[.int .i64 s.sorts, .slice Asa s.ops.length csa] 25)) (.cells #[.slice Ama m.sizes.length cma, .slice Amb m.tables.length cmb] 28)) (bx_at (w) #[.int .i64 s.sorts, .slice Asa s.ops.length csa] 25 (k := 1) rfl)
  have Hm := Lib.hid (h2.keep hb)
  have m0 := bx_at (w.alloc (.cells #[.int .i64 s.sorts, .slice Asa s.ops.length csa] 25)) #[.slice Ama m.sizes.length cma, .slice Amb m.tables.length cmb] 28 (k := 0) rfl
  have m1 := bx_at (w.alloc (.cells #[.int .i64 s.sorts, .slice Asa s.ops.length csa] 25)) #[.slice Ama m.sizes.length cma, .slice Amb m.tables.length cmb] 28 (k := 1) rfl
  simp only [World.size_alloc] at m0 m1
  generalize hW : (w.alloc (.cells #[.int .i64 s.sorts, .slice Asa s.ops.length csa] 25)).alloc (.cells #[.slice Ama m.sizes.length cma, .slice Amb m.tables.length cmb] 28) = W at HB hsz Hs s0 s1 Hm m0 m1
  clear hb h1 h2
  have HH := Lib.hid (h3.keep HB.out)
  have HF := Lib.hid f
  have HC := Lib.hid hc
  obtain ⟨Ah, ch, rfl, -⟩ := h3.form
  have HCX := Lib.hid (And.intro s0 (And.intro s1 (And.intro m0 m1)))
  have HTL0 := Lib.hid f.tl
  have hto := (valid_sorts f.va).2.2
  clear h3 f hc
  go_enter Try.func99, Try.ntmps99
  go_wp2
  clear hW s0 s1 m0 m1
  go_loopw [10, 11, 12, 13, 14, 15, 16, 17, 21] (fun _ _ _ _ _ _ _ _ i wr => ∃ k : Nat, k ≤ m.tables.length ∧ i = .int .i64 k ∧ (∀ k', k' < k → apartIn s m c k' = none) ∧ Below W.heap.size W wr) (fun _ _ _ _ _ _ _ _ i _ => m.tables.length - (intOf i).toNat)
  case atStart => exact ⟨0, Nat.zero_le _, rfl, fun k' h => by omega, Below.refl _ _⟩
  case round =>
    obtain ⟨k, hk, rfl, hall, hd⟩ := hrel
    have HALL := Lib.hid hall
    have HD := Lib.hid hd
    have f0 := cell_keep hd HCX.out.1
    have f1 := cell_keep hd HCX.out.2.1
    have f2 := cell_keep hd HCX.out.2.2.1
    have f3 := cell_keep hd HCX.out.2.2.2
    clear hall hd
    by_cases hlt : k < m.tables.length
    · have hlt' : (k : Int) < (m.tables.length : Int) := by omega
      have hks : k < s.ops.length := by have := HTL0.out; omega
      obtain ⟨b4, o4, c4, u4, e, hx, hr4⟩ := (Hm.out.of.2.keep HD.out).at_ hlt
      cases e
      have HTB : Hid (RInts wr u4 (m.tables.getD k [])) := by rw [getD_at _ hlt]; exact hr4
      have HOA := Lib.hid (HF.out.op hks)
      have HTA := Lib.hid (takesAndLeaves_any s k wr _ (Hs.out.keep HD.out) HF.out.va hks)
      have HAI := Lib.hid (show apartIn s m c k = firstFrom (apartAt m c (opRow s k).dropLast ((opRow s k).getLastD (-1)) (m.tables.getD k [])) (m.tables.getD k []).length from rfl)
      have HHIT := Lib.hid (fun t (e : apartIn s m c k = some t) => (show firstApart s m c = some t from firstFrom_hit hks HALL.out e))
      clear hr4
      obtain ⟨A5, c5, rfl, hl5, -⟩ := HTB.out.form
      generalize (opRow s k).dropLast = takes at HOA HTA HAI
      generalize (opRow s k).getLastD (-1) = last at HOA HTA HAI
      generalize m.tables.getD k [] = table at HTB HOA hx HAI hl5
      go_wp2_with fail
      refine HTA.out.mono ?_
      rintro x w2 ⟨ut, rfl, hut, hb⟩
      have HUT := Lib.hid hut
      obtain ⟨At, ct, rfl, -⟩ := hut.form
      replace HTB := Lib.hid (HTB.out.keep hb)
      replace f2 := cell_keep hb f2
      replace f3 := cell_keep hb f3
      replace HD := Lib.hid (sz_keep HD.out hb)
      clear hut hb hx f0 f1
      go_wp2_with fail
      refine (sizesOf_any m takes _ _ _ (Hm.out.keep HD.out) HUT.out HOA.out.into (by have := HOA.out.tsm; omega)).mono ?_
      rintro x w6 ⟨u6, rfl, ho6, hb6⟩
      have HO4 := Lib.hid ho6.reads
      obtain ⟨A6, c6, rfl, -⟩ := ho6.reads.form
      have HD6 := Lib.hid (sz_keep HD.out hb6)
      have HTB6 := Lib.hid (HTB.out.keep hb6)
      have HUT6 := Lib.hid (HUT.out.keep hb6)
      clear ho6 hb6 f2 f3
      have HZ4 := Lib.hid HOA.out.zlen
      have HFW := Lib.hid HOA.out.few
      have HSA := Lib.hid HOA.out.siz
      have HTSM := Lib.hid (show takes.length ≤ 2 from HOA.out.tsm)
      have HVL := Lib.hid HOA.out.val
      have HLI := Lib.hid HOA.out.lin
      have HIN := Lib.hid (fun n : Nat => And.intro (HC.out.vin HF.out HOA.out n) (other_in HF.out HC.out HOA.out n))
      have HOT := Lib.hid (fun n => (show otherN m c takes n = placeM 0 (ledM m.sizes takes) (ledV c takes (digM (ledM m.sizes takes) n)) from rfl))
      have HAP := Lib.hid (fun n => (show apartAt m c takes last table n = if decide (ledOne c last (table.getD n 0) = ledOne c last (table.getD (otherN m c takes n).toNat 0)) then none else some (last, table.getD n 0, table.getD (otherN m c takes n).toNat 0) from rfl))
      obtain ⟨fA, hfA⟩ : ∃ fA, apartAt m c takes last table = fA := ⟨_, rfl⟩
      rw [hfA] at HAI HAP
      obtain ⟨ot, hot⟩ : ∃ ot, otherN m c takes = ot := ⟨_, rfl⟩
      rw [hot] at HAP HOT HIN
      clear hfA hot
      generalize ledM m.sizes takes = zs at HO4 HIN HZ4 HSA HOT
      go_wp2
      go_loopw [15, 16, 17, 37] (fun _ _ _ i wk => ∃ j : Nat, j ≤ table.length ∧ i = .int .i64 j ∧ (∀ j', j' < j → fA j' = none) ∧ Below w6.heap.size w6 wk) (fun _ _ _ i _ => table.length - (intOf i).toNat)
      case atStart => exact ⟨0, Nat.zero_le _, rfl, fun j' h => by omega, Below.refl _ _⟩
      case round =>
        obtain ⟨j, hj, rfl, hpj, hdk⟩ := hrel
        have HPJ := Lib.hid hpj
        have HDK := Lib.hid hdk
        clear hpj hdk
        by_cases hjt : j < table.length
        · have hjt' : (j : Int) < (table.length : Int) := by omega
          have hfw := HFW.out
          obtain ⟨b7, o7, c7, e, hv7⟩ := (HTB6.out.keep HDK.out).at_ hjt
          cases e
          have HGT := Lib.hid (show table.getD j 0 = table[j] from getD_at _ hjt)
          have HVJ := Lib.hid (HVL.out _ (List.getElem_mem hjt))
          have HAJ := Lib.hid (HAP.out j)
          rw [HGT.out] at HAJ
          generalize table[j] = x7 at hv7 HGT HVJ HAJ
          obtain ⟨hvi, hia, ho0, ho1⟩ := HIN.out j
          have HVI := Lib.hid hvi
          have HIA := Lib.hid hia
          have HOJ := Lib.hid (HOT.out j)
          have HDL := Lib.hid (digM_len zs (j : Int))
          generalize ot j = on at ho0 ho1 HAJ HOJ
          obtain ⟨q, rfl⟩ : ∃ q : Nat, on = (q : Int) := ⟨on.toNat, by omega⟩
          have hq : q < table.length := by omega
          have hq' : (q : Int) < (table.length : Int) := by omega
          have hq0 : (0 : Int) ≤ (q : Int) := by omega
          clear hvi hia ho0 ho1
          go_wp2_with fail
          refine (rowAt_any zs (j : Int) _ _ (HO4.out.keep HDK.out) HSA.out HZ4.out (by omega) (by have := HFW.out; omega)).mono ?_
          rintro x w8 ⟨u8, rfl, ho8, hb8⟩
          have HO8 := Lib.hid ho8.reads
          obtain ⟨A8, c8, rfl, -⟩ := ho8.reads.form
          have HX8 := Lib.hid (sz_keep HDK.out hb8)
          clear ho8 hb8
          generalize digM zs (j : Int) = ds at HO8 HVI HIA HOJ HDL
          go_wp2_with fail
          refine (ledValues_any c takes ds _ _ _ _ (HH.out.keep (sz_keep HD6.out HX8.out)) (HUT6.out.keep HX8.out) HO8.out HVI.out (by rw [HVI.out.1]; have := HTSM.out; omega)).mono ?_
          rintro x w9 ⟨u9, rfl, ho9, hb9⟩
          have HO9 := Lib.hid ho9.reads
          obtain ⟨A9, c9, rfl, -⟩ := ho9.reads.form
          have HX9 := Lib.hid (sz_keep HX8.out hb9)
          clear ho9 hb9
          generalize ledV c takes ds = ls at HO9 HIA HOJ
          go_wp2_with fail
          refine (numberOf_any zs ls _ _ _ (HO4.out.keep HX9.out) HO9.out HSA.out HZ4.out HIA.out).mono ?_
          rw [← HOJ.out]
          rintro x w10 ⟨rfl, rfl⟩
          have HQT := Lib.hid (show table.getD ((q : Nat) : Int).toNat 0 = table[q] by rw [Int.toNat_natCast, getD_at _ hq])
          have HVQ := Lib.hid (HVL.out _ (List.getElem_mem hq))
          obtain ⟨bq, oq, cq, e, hvq⟩ := (HTB6.out.keep HX9.out).at_ hq
          cases e
          rw [HQT.out] at HAJ
          generalize table[q] = y7 at hvq HQT HVQ HAJ
          obtain ⟨l, hl⟩ : ∃ l : Nat, last = (l : Int) := ⟨last.toNat, by have := HLI.out; omega⟩
          subst hl
          have hlm : l < m.sizes.length := by have := HLI.out; omega
          have hlh : l < c.length := by have := HC.out.le.1; omega
          have hlh' : (l : Int) < (c.length : Int) := by omega
          have hl0 : (0 : Int) ≤ (l : Int) := by omega
          obtain ⟨b11, o11, c11, u11, e, hv11, hr11⟩ := (HH.out.keep (sz_keep HD6.out HX9.out)).at_ hlh
          cases e
          obtain ⟨i7, rfl⟩ : ∃ i : Nat, x7 = (i : Int) := ⟨x7.toNat, by have := HVJ.out; omega⟩
          obtain ⟨j7, rfl⟩ : ∃ i : Nat, y7 = (i : Int) := ⟨y7.toNat, by have := HVQ.out; omega⟩
          have HLE := Lib.hid (HC.out.le.2 l hlm)
          have HG3 := Lib.hid (fun i : Nat => (show ledOne c (l : Int) (i : Int) = (c.getD l []).getD i 0 by unfold ledOne; rw [Int.toNat_natCast, Int.toNat_natCast]))
          have HVJ2 := Lib.hid HVJ.out
          have HVQ2 := Lib.hid HVQ.out
          rw [Int.toNat_natCast, getD_at _ hlm] at HVJ2 HVQ2
          rw [getD_at _ hlh] at HLE HG3
          generalize c[l] = hrow at hr11 HLE HG3 hv11
          have hri : i7 < hrow.length := by have := HVJ2.out; have := HLE.out; omega
          have hrj : j7 < hrow.length := by have := HVQ2.out; have := HLE.out; omega
          rw [HG3.out i7, HG3.out j7, getD_at _ hri, getD_at _ hrj] at HAJ
          obtain ⟨b12, o12, c12, rfl, hv12⟩ := hr11.at_ hri
          obtain ⟨b13, o13, c13, e, hv13⟩ := hr11.at_ hrj
          cases e
          generalize hrow[i7] = p7 at hv12 HAJ
          generalize hrow[j7] = r7 at hv13 HAJ
          have hri' : (i7 : Int) < (hrow.length : Int) := by omega
          have hrj' : (j7 : Int) < (hrow.length : Int) := by omega
          have hi0 : (0 : Int) ≤ (i7 : Int) := by omega
          have hj0 : (0 : Int) ≤ (j7 : Int) := by omega
          clear hr11
          go_wp2_with fail
          refine wp_region_held_drew (S := (fun w' => w'.cell? ⟨b11, o11 + l, none⟩ = some (.slice (some ⟨b12, o12, none⟩) hrow.length c12) ∧ w'.cell? ⟨b12, o12 + i7, none⟩ = some (.int .i64 p7) ∧ w'.cell? ⟨b12, o12 + j7, none⟩ = some (.int .i64 r7))) (by kernel_rfl) ?_ (fun hHeld => ?_)
          · exact ⟨hv11, hv12, hv13⟩
          refine wpAnyH_take (i := 0) (oi := _) (v := ?_) rfl (by kernel_rfl) (by kernel_rfl) (by kernel_rfl) (fun _ _ _ h => h) (Or.inl ⟨by rfl, ?_⟩) (by assumption) ?_
          rotate_left
          · first | (intro w' hSw; (try dsimp only at hSw); go_simp; done) | (intro w' hSw; (try dsimp only at hSw); go_simp; with_reducible rfl)
          try simp only [Act.put, List.getElem_toArray, List.getElem_cons_zero, List.getElem_cons_succ, List.setIfInBounds_toArray, List.set_cons_zero, List.set_cons_succ]
          refine wpAnyH_take (i := 1) (oi := _) (v := ?_) rfl (by kernel_rfl) (by kernel_rfl) (by kernel_rfl) (fun _ _ _ h => h) (Or.inl ⟨by rfl, ?_⟩) (by assumption) ?_
          rotate_left
          · first | (intro w' hSw; (try dsimp only at hSw); go_simp; done) | (intro w' hSw; (try dsimp only at hSw); go_simp; with_reducible rfl)
          try simp only [Act.put, List.getElem_toArray, List.getElem_cons_zero, List.getElem_cons_succ, List.setIfInBounds_toArray, List.set_cons_zero, List.set_cons_succ]
          refine wpAnyH_take (i := 2) (oi := _) (v := ?_) rfl (by kernel_rfl) (by kernel_rfl) (by kernel_rfl) (fun _ _ _ h => h) (Or.inl ⟨by rfl, ?_⟩) (by assumption) ?_
          rotate_left
          · first | (intro w' hSw; (try dsimp only at hSw); go_simp; done) | (intro w' hSw; (try dsimp only at hSw); go_simp; with_reducible rfl)
          try simp only [Act.put, List.getElem_toArray, List.getElem_cons_zero, List.getElem_cons_succ, List.setIfInBounds_toArray, List.set_cons_zero, List.set_cons_succ]
          refine wpAnyH_take (i := 3) (oi := _) (v := ?_) rfl (by kernel_rfl) (by kernel_rfl) (by kernel_rfl) (fun _ _ _ h => h) (Or.inl ⟨by rfl, ?_⟩) (by assumption) ?_
          rotate_left
          · first | (intro w' hSw; (try dsimp only at hSw); go_simp; done) | (intro w' hSw; (try dsimp only at hSw); go_simp; with_reducible rfl)
          try simp only [Act.put, List.getElem_toArray, List.getElem_cons_zero, List.getElem_cons_succ, List.setIfInBounds_toArray, List.set_cons_zero, List.set_cons_succ]
          refine wpAnyH_take (i := 4) (oi := _) (v := ?_) rfl (by kernel_rfl) (by kernel_rfl) (by kernel_rfl) (fun _ _ _ h => h) (Or.inl ⟨by rfl, ?_⟩) (by assumption) ?_
          rotate_left
          · first | (intro w' hSw; (try dsimp only at hSw); go_simp; done) | (intro w' hSw; (try dsimp only at hSw); go_simp; with_reducible rfl)
          try simp only [Act.put, List.getElem_toArray, List.getElem_cons_zero, List.getElem_cons_succ, List.setIfInBounds_toArray, List.set_cons_zero, List.set_cons_succ]
          refine wpAnyH_take (i := 5) (oi := _) (v := ?_) rfl (by kernel_rfl) (by kernel_rfl) (by kernel_rfl) (fun _ _ _ h => h) (Or.inl ⟨by rfl, ?_⟩) (by assumption) ?_
          rotate_left
          · first | (intro w' hSw; (try dsimp only at hSw); go_simp; done) | (intro w' hSw; (try dsimp only at hSw); go_simp; with_reducible rfl)
          try simp only [Act.put, List.getElem_toArray, List.getElem_cons_zero, List.getElem_cons_succ, List.setIfInBounds_toArray, List.set_cons_zero, List.set_cons_succ]
          refine wpAnyH_take (i := 6) (oi := _) (v := ?_) rfl (by kernel_rfl) (by kernel_rfl) (by kernel_rfl) (fun _ _ _ h => h) (Or.inl ⟨by rfl, ?_⟩) (by assumption) ?_
          rotate_left
          · first | (intro w' hSw; (try dsimp only at hSw); go_simp; done) | (intro w' hSw; (try dsimp only at hSw); go_simp; with_reducible rfl)
          try simp only [Act.put, List.getElem_toArray, List.getElem_cons_zero, List.getElem_cons_succ, List.setIfInBounds_toArray, List.set_cons_zero, List.set_cons_succ]
          refine wpAnyH_take (i := 7) (oi := _) (v := ?_) rfl (by kernel_rfl) (by kernel_rfl) (by kernel_rfl) (fun _ _ _ h => h) (Or.inl ⟨by rfl, ?_⟩) (by assumption) ?_
          rotate_left
          · first | (intro w' hSw; (try dsimp only at hSw); go_simp; done) | (intro w' hSw; (try dsimp only at hSw); go_simp; with_reducible rfl)
          try simp only [Act.put, List.getElem_toArray, List.getElem_cons_zero, List.getElem_cons_succ, List.setIfInBounds_toArray, List.set_cons_zero, List.set_cons_succ]
          refine wpAnyH_take (i := 8) (oi := _) (v := ?_) rfl (by kernel_rfl) (by kernel_rfl) (by kernel_rfl) (fun _ _ _ h => h) (Or.inl ⟨by rfl, ?_⟩) (by assumption) ?_
          rotate_left
          · first | (intro w' hSw; (try dsimp only at hSw); go_simp; done) | (intro w' hSw; (try dsimp only at hSw); go_simp; with_reducible rfl)
          try simp only [Act.put, List.getElem_toArray, List.getElem_cons_zero, List.getElem_cons_succ, List.setIfInBounds_toArray, List.set_cons_zero, List.set_cons_succ]
          refine wpAnyH_take (i := 9) (oi := _) (v := ?_) rfl (by kernel_rfl) (by kernel_rfl) (by kernel_rfl) (fun _ _ _ h => h) (Or.inl ⟨by rfl, ?_⟩) (by assumption) ?_
          rotate_left
          · first | (intro w' hSw; (try dsimp only at hSw); go_simp; done) | (intro w' hSw; (try dsimp only at hSw); go_simp; with_reducible rfl)
          try simp only [Act.put, List.getElem_toArray, List.getElem_cons_zero, List.getElem_cons_succ, List.setIfInBounds_toArray, List.set_cons_zero, List.set_cons_succ]
          refine wpAnyH_take (i := 10) (oi := _) (v := ?_) rfl (by kernel_rfl) (by kernel_rfl) (by kernel_rfl) (fun _ _ _ h => h) (Or.inl ⟨by rfl, ?_⟩) (by assumption) ?_
          rotate_left
          · first | (intro w' hSw; (try dsimp only at hSw); go_simp; done) | (intro w' hSw; (try dsimp only at hSw); go_simp; with_reducible rfl)
          try simp only [Act.put, List.getElem_toArray, List.getElem_cons_zero, List.getElem_cons_succ, List.setIfInBounds_toArray, List.set_cons_zero, List.set_cons_succ]
          refine wpAnyH_take (i := 11) (oi := _) (v := ?_) rfl (by kernel_rfl) (by kernel_rfl) (by kernel_rfl) (fun _ _ _ h => h) (Or.inl ⟨by rfl, ?_⟩) (by assumption) ?_
          rotate_left
          · first | (intro w' hSw; (try dsimp only at hSw); go_simp; done) | (intro w' hSw; (try dsimp only at hSw); go_simp; with_reducible rfl)
          try simp only [Act.put, List.getElem_toArray, List.getElem_cons_zero, List.getElem_cons_succ, List.setIfInBounds_toArray, List.set_cons_zero, List.set_cons_succ]
          refine wpAnyH_take (i := 12) (oi := _) (v := ?_) rfl (by kernel_rfl) (by kernel_rfl) (by kernel_rfl) (fun _ _ _ h => h) (Or.inl ⟨by rfl, ?_⟩) (by assumption) ?_
          rotate_left
          · first | (intro w' hSw; (try dsimp only at hSw); go_simp; done) | (intro w' hSw; (try dsimp only at hSw); go_simp; with_reducible rfl)
          try simp only [Act.put, List.getElem_toArray, List.getElem_cons_zero, List.getElem_cons_succ, List.setIfInBounds_toArray, List.set_cons_zero, List.set_cons_succ]
          refine wpAnyH_take (i := 13) (oi := _) (v := ?_) rfl (by kernel_rfl) (by kernel_rfl) (by kernel_rfl) (fun _ _ _ h => h) (Or.inl ⟨by rfl, ?_⟩) (by assumption) ?_
          rotate_left
          · first | (intro w' hSw; (try dsimp only at hSw); go_simp; done) | (intro w' hSw; (try dsimp only at hSw); go_simp; with_reducible rfl)
          try simp only [Act.put, List.getElem_toArray, List.getElem_cons_zero, List.getElem_cons_succ, List.setIfInBounds_toArray, List.set_cons_zero, List.set_cons_succ]
          refine wpAnyH_take (i := 14) (oi := _) (v := ?_) rfl (by kernel_rfl) (by kernel_rfl) (by kernel_rfl) (fun _ _ _ h => h) (Or.inl ⟨by rfl, ?_⟩) (by assumption) ?_
          rotate_left
          · first | (intro w' hSw; (try dsimp only at hSw); go_simp; done) | (intro w' hSw; (try dsimp only at hSw); go_simp; with_reducible rfl)
          try simp only [Act.put, List.getElem_toArray, List.getElem_cons_zero, List.getElem_cons_succ, List.setIfInBounds_toArray, List.set_cons_zero, List.set_cons_succ]
          refine wpAnyH_done (by kernel_rfl) ?_ _
          clear hv11 hv12 hv13 hv7 hvq
          by_cases hyz : p7 = r7
          · have hne : (p7 != r7) = false := by simp [hyz]
            have HNJ := Lib.hid (show fA j = none by rw [HAJ.out, if_pos (decide_eq_true hyz)])
            clear hyz
            go_wp2
            go_roundw
            case rel => exact ⟨j + 1, by omega, by go_num, (fun j' h => by
              rcases Nat.lt_or_ge j' j with q | q
              · exact HPJ.out j' q
              · rw [show j' = j by omega]; exact HNJ.out), map_drew HX9.out⟩
            case measure => simp [intOf]; omega
          · have hne : (p7 != r7) = true := by simpa using hyz
            have HFR := Lib.hid (HHIT.out _ (HAI.out.trans (firstFrom_hit hjt HPJ.out (by rw [HAJ.out, if_neg (by simpa using hyz)]))))
            clear hyz
            go_wp2
            refine bodyPost_ret (v := .tuple #[.int .i64 (l : Int), .int .i64 (i7 : Int), .int .i64 (j7 : Int), .bool true]) (by simp [results, Try.results99, go_sem]) rfl ?_
            rw [HFR.out]
            exact ⟨rfl, sz_keep HB.out (sz_keep HD6.out (map_drew HX9.out))⟩
        · have hjn : j = table.length := by omega
          have hjt' : ¬ (j : Int) < (table.length : Int) := by omega
          have HNO := Lib.hid (show apartIn s m c k = none by rw [HAI.out]; exact firstFrom_none.2 fun i hi => HPJ.out i (by omega))
          go_wp2
          go_roundw
          case rel => exact ⟨k + 1, by omega, by go_num, (fun k' h => by
            rcases Nat.lt_or_ge k' k with q | q
            · exact HALL.out k' q
            · rw [show k' = k by omega]; exact HNO.out), sz_keep HD6.out HDK.out⟩
          case measure => simp [intOf]; omega
    · have hkn : k = s.ops.length := by have := HTL0.out; omega
      have hlt' : ¬ (k : Int) < (m.tables.length : Int) := by omega
      have HNN := Lib.hid (show firstApart s m c = none from firstFrom_none.2 fun i hi => HALL.out i (by omega))
      go_wp2
      refine bodyPost_ret (v := .tuple #[.int .i64 0, .int .i64 0, .int .i64 0, .bool false]) (by simp [results, Try.results99, go_sem]) rfl ?_
      rw [HNN.out]
      exact ⟨rfl, sz_keep HB.out HD.out⟩
end

section
open Go.RowKit

/-- the inner row u (place k) is given, and what it is behind the callee -/
theorem ORows.inner {w w1 : World} {B k : Nat} {v u : Value} {us : List Value} {rows : List (List Int)} {row row0 : List Int}
    (h1 : w.ownsRow B 26 1 v rows.length us) (h2 : us.length = rows.length)
    (h3 : ∀ (j : Nat) (u : Value) (row : List Int), us[j]? = some u → rows[j]? = some row → OInts w B u row)
    (h4 : ∀ (i j : Nat) (u u' : Value), i < j → us[i]? = some u → us[j]? = some u' → u.ownBlock = none ∨ u.ownBlock ≠ u'.ownBlock)
    (hk : us[k]? = some u) (hb : u.ownBlock ≠ none) (h0 : OInts w B u row0) (hu : OInts w1 B u row) (hg : w.grownBy w1 u.ownBlock) : ORows w1 B v (rows.set k row) := by
  have hkl : k < rows.length := by rw [← h2]; exact (List.getElem?_eq_some_iff.1 hk).1
  have hvu : v.ownBlock = none ∨ v.ownBlock ≠ u.ownBlock := by
    rcases h0.blk_ne h1 with e | e
    · exact absurd e hb
    · exact .inr fun x => e x.symm
  refine ⟨us, by rw [List.length_set]; exact own_grown h1 hg hvu, by rw [List.length_set]; exact h2, fun j x r hx hr => ?_, h4⟩
  by_cases hjk : k = j
  · subst hjk
    rw [List.getElem?_set_self hkl] at hr
    rw [hk] at hx
    cases hx
    cases hr
    exact hu
  · rw [List.getElem?_set_ne hjk] at hr
    refine own_grown (h3 j x r hx hr) hg ?_
    rcases Nat.lt_or_ge j k with hlt | hge
    · exact h4 j k x u hlt hx hk
    · rcases h4 k j u x (by omega) hk hx with e | e
      · exact absurd e hb
      · exact .inr fun y => e y.symm
theorem own_at0 {w : World} {B : Nat} {v : Value} {xs : List Int} (h : OInts w B v xs) (hx : 0 < xs.length) : ∃ g c, v = .slice (some ⟨g, 0, none⟩) xs.length c ∧ B ≤ g := by
  rcases h.2 with ⟨e, e2⟩ | ⟨g', cap, cur, e, hg, r⟩
  · obtain ⟨b, o, c, e3, -⟩ := h.reads.at_ hx
    rw [e] at e3
    cases e3
  · exact ⟨g', cap, e, hg⟩
/-- one inner row of an own list of rows, and what the list is when it has changed -/
theorem ORows.at_own {w : World} {B g n c k : Nat} {rows : List (List Int)} (h : ORows w B (.slice (some ⟨g, 0, none⟩) n c) rows) (hk : k < rows.length) (hne : 0 < rows[k].length) :
    ∃ gi ci, w.cell? ⟨g, k, none⟩ = some (.slice (some ⟨gi, 0, none⟩) rows[k].length ci) ∧ OInts w B (.slice (some ⟨gi, 0, none⟩) rows[k].length ci) rows[k] ∧ B ≤ gi ∧
      ∀ (w1 : World) (row : List Int), OInts w1 B (.slice (some ⟨gi, 0, none⟩) rows[k].length ci) row → w.grownBy w1 (some gi) → ORows w1 B (.slice (some ⟨g, 0, none⟩) n c) (rows.set k row) := by
  obtain ⟨us, h1, h2, h3, h4⟩ := h
  have hu : us[k]? = some us[k] := List.getElem?_eq_getElem (by omega)
  have ho := h3 k _ _ hu (List.getElem?_eq_getElem hk)
  obtain ⟨A, c', e, -, -, hc⟩ := own_reads h1
  obtain ⟨b, o, eA, ec⟩ := hc k _ hu
  injection e with e1 e2 e3
  rw [eA] at e1
  injection e1 with e1
  injection e1 with x1 x2
  subst x1 x2
  generalize us[k] = u at hu ho ec
  obtain ⟨gi, ci, rfl, hg⟩ := own_at0 ho hne
  refine ⟨gi, ci, by simpa using ec, ho, hg, fun w1 row hr hgr => ORows.inner h1 h2 h3 h4 hu (by intro q; cases q) ho hr hgr⟩
end
end Go.Proofs.Yticldaddbljleaa
