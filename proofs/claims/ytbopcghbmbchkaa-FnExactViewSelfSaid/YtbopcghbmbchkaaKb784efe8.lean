/- Equality of rows, of lists of rows, of signatures (the exact laws' own). · The exact laws' measure and copy: szSig, toSig. · A row that is being filled, place by place. No walk. · The exact laws' copies: toIntS, toIntSS, toSig. · toSig. · The exact laws' measure, copy and comparison of an equation: szEq, toEq, eqEq. · The exact laws' measure, copy and comparison of lists of equations: szEqS, toEqS, eqEqS. -/
import Derived.Test.YtbopcghbmbchkaaKb5549bf4
import Derived.Deep.RegionHeld3
import Derived.Deep.OwnRows
namespace Go.Proofs.Ytbopcghbmbchkaa
section
open Go.RowKit
set_option linter.unusedVariables false

theorem eqIntS_any (v v' : Value) (xs ys : List Int) (w : World) (h : RInts w v xs) (h' : RInts w v' ys) :
    Calls Try.prog 31 #[v, v'] w fun e w' => e = .returned (.bool (sameI xs ys)) ∧ Drawn w w' := by
  have H := Lib.hid h
  have H' := Lib.hid h'
  have hn := h.len
  have hn' := h'.len
  obtain ⟨A, c, rfl, -⟩ := h.form
  obtain ⟨A', c', rfl, -⟩ := h'.form
  clear h h'
  by_cases hl : xs.length = ys.length
  · have hl' : ((xs.length : Int) != (ys.length : Int)) = false := by simp [hl]
    have HL := Lib.hid hl
    have hle : xs.length ≤ ys.length := by omega
    have hge : ys.length ≤ xs.length := by omega
    clear hl
    go_enter Try.func31, Try.ntmps31
    go_wp2
    go_loopw [5] (fun i wr => ∃ k : Nat, k ≤ xs.length ∧ i = .int .i64 k ∧ xs.take k = ys.take k ∧ Drawn w wr) (fun i _ => xs.length - (intOf i).toNat)
    case atStart => exact ⟨0, Nat.zero_le _, rfl, rfl, Drawn.refl _⟩
    case round =>
      obtain ⟨k, hk, rfl, hb0, hd⟩ := hrel
      have hb := Lib.hid hb0
      have HD := Lib.hid hd
      clear hb0 hd
      by_cases hlt : k < xs.length
      · obtain ⟨b, o, c3, e, hx⟩ := (H.out.keep HD.out.below).at_ hlt
        cases e
        obtain ⟨b', o', c4, e, hy⟩ := (H'.out.keep HD.out.below).at_ (show k < ys.length by omega)
        cases e
        have hs1 : (k : Int) < (xs.length : Int) := by omega
        have hs2 : (k : Int) < (ys.length : Int) := by omega
        have HT := Lib.hid (take_succ_eq hlt (show k < ys.length by omega) hb.out)
        have HN := Lib.hid (ne_of_at hlt (show k < ys.length by omega))
        generalize xs[k] = x at hx HT HN
        generalize ys[k]'(by omega) = y at hy HT HN
        by_cases hxy : x = y
        · subst hxy
          have e1 : (x != x) = false := by simp
          have e2 : (x == x) = true := by simp
          go_wp2_with fail
          go_quiet (fail)
          go_wp2
          go_roundw
          case rel => exact ⟨k + 1, by omega, by go_num, HT.out (by simp), HD.out.more _⟩
          case measure => simp [intOf]; omega
        · have e1 : (x != y) = true := by simpa using hxy
          have e2 : (x == y) = false := by simpa using hxy
          have HXY := Lib.hid hxy
          clear hxy
          go_wp2_with fail
          go_quiet (fail)
          go_wp2
          go_ret
          exact ⟨ret_bool (by unfold sameI; simpa using (HN.out HXY.out)), HD.out.more _⟩
      · go_wp2
        go_ret
        have h := hb.out
        rw [take_all (by omega), take_all (by omega)] at h
        exact ⟨ret_bool (by unfold sameI; simpa using h), HD.out⟩
  · have hl' : ((xs.length : Int) != (ys.length : Int)) = true := by simp; omega
    have HL := Lib.hid hl
    clear hl
    go_enter Try.func31, Try.ntmps31
    go_wp2
    go_ret
    exact ⟨ret_bool (by unfold sameI; simp; rintro rfl; exact HL.out rfl), Drawn.refl _⟩

theorem eqIntS_is (v v' : Value) (xs ys : List Int) (w : World) (b : Bool) (hb : sameI xs ys = b) (h : RInts w v xs) (h' : RInts w v' ys) :
    Calls Try.prog 31 #[v, v'] w fun e w' => e = .returned (.bool b) ∧ Drawn w w' := by
  subst hb; exact eqIntS_any v v' xs ys w h h'

theorem eqIntSS_any (v v' : Value) (xs ys : List (List Int)) (w : World) (h : RRows w v xs) (h' : RRows w v' ys) :
    Calls Try.prog 32 #[v, v'] w fun e w' => e = .returned (.bool (sameR xs ys)) ∧ Drawn w w' := by
  have H := Lib.hid h
  have H' := Lib.hid h'
  have hn := h.len
  have hn' := h'.len
  obtain ⟨A, c, rfl, -⟩ := h.form
  obtain ⟨A', c', rfl, -⟩ := h'.form
  clear h h'
  by_cases hl : xs.length = ys.length
  · have hl' : ((xs.length : Int) != (ys.length : Int)) = false := by simp [hl]
    have HL := Lib.hid hl
    have hle : xs.length ≤ ys.length := by omega
    have hge : ys.length ≤ xs.length := by omega
    clear hl
    go_enter Try.func32, Try.ntmps32
    go_wp2
    go_loopw [5] (fun i wr => ∃ k : Nat, k ≤ xs.length ∧ i = .int .i64 k ∧ xs.take k = ys.take k ∧ Drawn w wr) (fun i _ => xs.length - (intOf i).toNat)
    case atStart => exact ⟨0, Nat.zero_le _, rfl, rfl, Drawn.refl _⟩
    case round =>
      obtain ⟨k, hk, rfl, hb0, hd⟩ := hrel
      have hb := Lib.hid hb0
      have HD := Lib.hid hd
      clear hb0 hd
      by_cases hlt : k < xs.length
      · obtain ⟨b, o, c3, u, e, hx, hr⟩ := (H.out.keep HD.out.below).at_ hlt
        cases e
        obtain ⟨b', o', c4, u', e, hy, hr'⟩ := (H'.out.keep HD.out.below).at_ (show k < ys.length by omega)
        cases e
        have hs1 : (k : Int) < (xs.length : Int) := by omega
        have hs2 : (k : Int) < (ys.length : Int) := by omega
        have HT := Lib.hid (take_succ_eq hlt (show k < ys.length by omega) hb.out)
        have HN := Lib.hid (ne_of_at hlt (show k < ys.length by omega))
        generalize xs[k] = x at hr HT HN
        generalize ys[k]'(by omega) = y at hr' HT HN
        have HR := Lib.hid hr
        have HR' := Lib.hid hr'
        obtain ⟨A1, c1, rfl, -⟩ := hr.form
        obtain ⟨A2, c2, rfl, -⟩ := hr'.form
        clear hr hr'
        cases hxy : sameI x y with
        | true =>
          have HXY := Lib.hid hxy
          clear hxy
          go_wp2_with fail
          go_quiet ((go_at_call 31; exact quiet_drawn (eqIntS_is _ _ _ _ _ _ HXY.out (HR.out.keep (below_drewN (Below.refl _ _) _)) (HR'.out.keep (below_drewN (Below.refl _ _) _)))))
          go_wp2
          go_roundw
          case rel => exact ⟨k + 1, by omega, by go_num, HT.out (by simpa [sameI] using HXY.out), HD.out.more _⟩
          case measure => simp [intOf]; omega
        | false =>
          have HXY := Lib.hid hxy
          clear hxy
          go_wp2_with fail
          go_quiet ((go_at_call 31; exact quiet_drawn (eqIntS_is _ _ _ _ _ _ HXY.out (HR.out.keep (below_drewN (Below.refl _ _) _)) (HR'.out.keep (below_drewN (Below.refl _ _) _)))))
          go_wp2
          go_ret
          exact ⟨ret_bool (by unfold sameR; simpa using (HN.out (by simpa [sameI] using HXY.out))), HD.out.more _⟩
      · go_wp2
        go_ret
        have h := hb.out
        rw [take_all (by omega), take_all (by omega)] at h
        exact ⟨ret_bool (by unfold sameR; simpa using h), HD.out⟩
  · have hl' : ((xs.length : Int) != (ys.length : Int)) = true := by simp; omega
    have HL := Lib.hid hl
    clear hl
    go_enter Try.func32, Try.ntmps32
    go_wp2
    go_ret
    exact ⟨ret_bool (by unfold sameR; simp; rintro rfl; exact HL.out rfl), Drawn.refl _⟩

def sameS (a b : MSig) : Bool := decide (a.sorts = b.sorts) && sameR a.ops b.ops
theorem sameS_self (a : MSig) : sameS a a = true := by unfold sameS sameR; simp
theorem eqIntSS_is (v v' : Value) (xs ys : List (List Int)) (w : World) (b : Bool) (hb : sameR xs ys = b) (h : RRows w v xs) (h' : RRows w v' ys) :
    Calls Try.prog 32 #[v, v'] w fun e w' => e = .returned (.bool b) ∧ Drawn w w' := by
  subst hb; exact eqIntSS_any v v' xs ys w h h'

theorem eqSig_any (v v' : Value) (a b : MSig) (w : World) (h : RSig w v a) (h' : RSig w v' b) :
    Calls Try.prog 59 #[v, v'] w fun e w' => e = .returned (.bool (sameS a b)) ∧ Below w.heap.size w w' := by
  obtain ⟨u, rfl, hr⟩ := h
  obtain ⟨u', rfl, hr'⟩ := h'
  have hb2 : Below w.heap.size w ((w.alloc (.cells #[.int .i64 a.sorts, u] 37)).alloc (.cells #[.int .i64 b.sorts, u'] 37)) := (below_alloc _ _).alloc (by simp) _
  have HB := Lib.hid hb2
  have H := Lib.hid (hr.keep hb2)
  have H' := Lib.hid (hr'.keep hb2)
  clear hb2
  obtain ⟨A, c, rfl, -⟩ := hr.form
  obtain ⟨A', c', rfl, -⟩ := hr'.form
  clear hr hr'
  obtain ⟨s1, xs⟩ := a
  obtain ⟨s2, ys⟩ := b
  by_cases hs : s1 = s2
  · subst hs
    have e1 : (s1 != s1) = false := by simp
    have e2 : (s1 == s1) = true := by simp
    cases hxy : sameR xs ys with
    | true =>
      have HXY := Lib.hid hxy
      clear hxy
      go_enter Try.func59, Try.ntmps59
      go_wp2_with (go_at_call 32; refine (eqIntSS_is _ _ _ _ _ _ HXY.out H.out H'.out).mono ?_; rintro e w1 ⟨rfl, hd⟩)
      go_ret
      exact ⟨ret_bool (by unfold sameS; rw [HXY.out]; simp), HB.out.trans (hd.below.mono (by simp; omega))⟩
    | false =>
      have HXY := Lib.hid hxy
      clear hxy
      go_enter Try.func59, Try.ntmps59
      go_wp2_with (go_at_call 32; refine (eqIntSS_is _ _ _ _ _ _ HXY.out H.out H'.out).mono ?_; rintro e w1 ⟨rfl, hd⟩)
      go_ret
      exact ⟨ret_bool (by unfold sameS; rw [HXY.out]; simp), HB.out.trans (hd.below.mono (by simp; omega))⟩
  · have e1 : (s1 != s2) = true := by simpa using hs
    have e2 : (s1 == s2) = false := by simpa using hs
    have HS := Lib.hid hs
    clear hs
    go_enter Try.func59, Try.ntmps59
    go_wp2
    go_ret
    exact ⟨ret_bool (by unfold sameS; simp [HS.out]), HB.out⟩
theorem eqSig_is (v v' : Value) (a b : MSig) (w : World) (r : Bool) (hr : sameS a b = r) (h : RSig w v a) (h' : RSig w v' b) :
    Calls Try.prog 59 #[v, v'] w fun e w' => e = .returned (.bool r) ∧ Below w.heap.size w w' := by
  subst hr; exact eqSig_any v v' a b w h h'
end

section
open Go.RowKit
set_option linter.unusedVariables false

theorem szIntS_any (v : Value) (xs : List Int) (left : Int) (w : World) (h : RInts w v xs) (h0 : 0 ≤ left) (h1 : left ≤ 1048576) :
    Calls Try.prog 71 #[v, .int .i64 left] w fun e w' => ∃ r : Int, e = .returned (.int .i64 r) ∧ (r < 0 ∨ (0 ≤ r ∧ r + xs.length = left)) ∧ w = w' := by
  have hn := h.len
  obtain ⟨A, c, rfl, -⟩ := h.form
  by_cases hl : left - (xs.length : Int) < 0
  · go_enter Try.func71, Try.ntmps71
    go_wp2
    go_ret
    exact ⟨-1, rfl, .inl (by omega), rfl⟩
  · go_enter Try.func71, Try.ntmps71
    go_wp2
    go_ret
    exact ⟨_, rfl, .inr ⟨by omega, by omega⟩, rfl⟩

/-- rows that are not too many and not too long -/
def Fits (rows : List (List Int)) : Prop := rows.length ≤ 1048576 ∧ ∀ row ∈ rows, row.length ≤ 1048576

theorem szIntSS_any (v : Value) (rows : List (List Int)) (left : Int) (w : World) (h : RRows w v rows) (h0 : 0 ≤ left) (h1 : left ≤ 1048576) :
    Calls Try.prog 22 #[v, .int .i64 left] w fun e w' => ∃ r : Int, e = .returned (.int .i64 r) ∧ (r < 0 ∨ (0 ≤ r ∧ r ≤ left ∧ Fits rows)) ∧ w = w' := by
  have H := Lib.hid h
  have hn := h.len
  obtain ⟨A, c, rfl, -⟩ := h.form
  clear h
  by_cases hl : left - (rows.length : Int) < 0
  · go_enter Try.func22, Try.ntmps22
    go_wp2
    go_ret
    exact ⟨-1, rfl, .inl (by omega), rfl⟩
  · go_enter Try.func22, Try.ntmps22
    go_wp2
    go_loop [1, 5] (fun l i => ∃ k : Nat, ∃ r : Int, k ≤ rows.length ∧ i = .int .i64 k ∧ l = .int .i64 r ∧ 0 ≤ r ∧ r ≤ left ∧ (∀ row ∈ rows.take k, row.length ≤ 1048576)) (fun _ i => rows.length - (intOf i).toNat)
    case atStart => exact ⟨0, _, Nat.zero_le _, rfl, rfl, by omega, by omega, by simp⟩
    case round =>
      obtain ⟨k, r, hk, rfl, rfl, hr0, hr1, hb0⟩ := hrel
      have hb := Lib.hid hb0
      clear hb0
      by_cases hlt : k < rows.length
      · obtain ⟨b, o, c', u, e, hcell, hri⟩ := H.out.at_ hlt
        cases e
        have HT := Lib.hid (List.take_succ_eq_append_getElem hlt)
        generalize rows[k] = row at hri HT
        have HI := Lib.hid hri
        obtain ⟨A', c'', rfl, -⟩ := hri.form
        clear hri
        go_wp2_with fail
        refine (szIntS_any _ row _ _ HI.out hr0 (by omega)).mono ?_
        rintro e w1 ⟨r', rfl, hr', rfl⟩
        by_cases hneg : r' < 0
        · clear hr'
          go_wp2
          go_ret
          exact ⟨-1, rfl, .inl (by omega), rfl⟩
        · obtain ⟨h2, h3⟩ := hr'.resolve_left hneg
          have HR := Lib.hid h3
          clear h3 hr'
          go_wp2
          go_round
          case rel =>
            refine ⟨k + 1, r', by omega, by go_num, rfl, h2, by have := HR.out; omega, ?_⟩
            rw [HT.out]
            intro x hx
            rcases List.mem_append.1 hx with hx | hx
            · exact hb.out x hx
            · simp at hx; subst hx; have := HR.out; omega
          case measure => simp [intOf]; omega
      · go_wp2
        go_ret
        have h := hb.out
        rw [take_all (by omega)] at h
        exact ⟨r, rfl, .inr ⟨hr0, hr1, by omega, h⟩, rfl⟩

theorem szSig_any (v : Value) (s : MSig) (left : Int) (w : World) (h : RSig w v s) (h0 : 0 ≤ left) (h1 : left ≤ 1048576) :
    Calls Try.prog 44 #[v, .int .i64 left] w fun e w' => ∃ r : Int, e = .returned (.int .i64 r) ∧ (r < 0 ∨ (0 ≤ r ∧ r ≤ left ∧ Fits s.ops)) ∧ Below w.heap.size w w' := by
  obtain ⟨u, rfl, hr⟩ := h
  obtain ⟨sorts, ops⟩ := s
  have H := Lib.hid (hr.keep (below_alloc w (.cells #[.int .i64 sorts, u] 24)))
  have HB := Lib.hid (below_alloc w (.cells #[.int .i64 sorts, u] 24))
  obtain ⟨A, c, rfl, -⟩ := hr.form
  clear hr
  go_enter Try.func44, Try.ntmps44
  go_wp2_with fail
  refine (szIntSS_any _ ops _ _ H.out h0 h1).mono ?_
  rintro e w1 ⟨r, rfl, hr, rfl⟩
  by_cases hneg : r < 0
  · clear hr
    go_wp2
    go_ret
    exact ⟨-1, rfl, .inl (by omega), HB.out⟩
  · have HR := Lib.hid (hr.resolve_left hneg)
    clear hr
    go_wp2
    go_ret
    exact ⟨r, rfl, .inr HR.out, HB.out⟩
end

section
open Go.RowKit
set_option linter.unusedVariables false

theorem Try.tinfo_int : (Try.prog.info? 3).map (fun i => (i.zero, i.size, i.bytes)) = some (some (.int .i64 0), 1, 8) := by kernel_rfl

theorem blk_cell {w : World} {b : Nat} {cs : Array Value} {t : TypeId} (h : w.heap[b]? = some (.cells cs t (0, 0))) (i : Nat) : w.cell? ⟨b, i, none⟩ = cs[i]? := by simp [World.cell?, h]
theorem blk_free {w : World} {b : Nat} {cs : Array Value} {t : TypeId} (h : w.heap[b]? = some (.cells cs t (0, 0))) (i : Nat) : w.frozen? ⟨b, i, none⟩ = false := by simp [World.frozen?, h]
theorem blk_set {w : World} {b : Nat} {cs : Array Value} {t : TypeId} (h : w.heap[b]? = some (.cells cs t (0, 0))) (i : Nat) (u : Value) : (w.setCell ⟨b, i, none⟩ u).heap[b]? = some (.cells (cs.setIfInBounds i u) t (0, 0)) := by
  simp [World.setCell, Array.getElem?_modify, h]

theorem block_cell' {w : World} {b : Nat} {cs : Array Value} {t : TypeId} (h : w.heap[b]? = some (.cells cs t (0, 0))) (i : Nat) : w.cell? ⟨b, i, none⟩ = cs[i]? := blk_cell h i
theorem block_free' {w : World} {b : Nat} {cs : Array Value} {t : TypeId} (h : w.heap[b]? = some (.cells cs t (0, 0))) (i : Nat) : w.frozen? ⟨b, i, none⟩ = false := blk_free h i
theorem ORows.setLow' {w : World} {B b : Nat} {v : Value} {rows : List (List Int)} (h : ORows w B v rows) (hb : b < B) (i : Nat) (x : Value) : ORows (w.setCell ⟨b, i, none⟩ x) B v rows := by
  obtain ⟨us, a1, a2, a3, a4⟩ := h
  exact ⟨us, ownsRow_setCell_below a1 hb _, a2, fun j u r a b => ownsRow_setCell_below (a3 j u r a b) hb _, a4⟩

/-- a row that is being filled: k of its places are done -/
def Filling (w wr : World) (zs : List Int) (k : Nat) : Prop :=
  ∃ cur : Array Value, wr.heap[w.heap.size]? = some (.cells cur 3 (0, 0)) ∧ cur.size = zs.length ∧ (∀ j, j < k → cur[j]? = (zs[j]?).map (Value.int .i64)) ∧ Below w.heap.size w wr

theorem Filling.start (w : World) (zs : List Int) (cur : Array Value) (h : cur.size = zs.length) : Filling w (w.alloc (.cells cur 3)) zs 0 :=
  ⟨cur, heap_alloc_new w _, h, fun j hj => by omega, below_alloc _ _⟩
theorem Filling.step {w wr : World} {zs : List Int} {k : Nat} (h : Filling w wr zs k) (hk : k < zs.length) {x : Int} (hx : zs[k] = x) : Filling w (wr.setCell ⟨w.heap.size, k, none⟩ (.int .i64 x)) zs (k + 1) := by
  obtain ⟨cur, h1, h2, h3, h4⟩ := h
  refine ⟨_, blk_set h1 k _, by simpa using h2, fun j hj => ?_, h4.setCell (Nat.le_refl _) _⟩
  rw [Array.getElem?_setIfInBounds]
  by_cases hjk : k = j
  · subst hjk
    rw [if_pos rfl, if_pos (by omega), List.getElem?_eq_getElem hk, hx]
    rfl
  · rw [if_neg hjk]
    exact h3 j (by omega)
theorem Filling.cell {w wr : World} {zs : List Int} {k : Nat} (h : Filling w wr zs k) (hk : k < zs.length) : ∃ u, wr.cell? ⟨w.heap.size, k, none⟩ = some u ∧ wr.frozen? ⟨w.heap.size, k, none⟩ = false := by
  obtain ⟨cur, h1, h2, h3, h4⟩ := h
  exact ⟨cur[k]'(by omega), (blk_cell h1 k).trans (Array.getElem?_eq_getElem (by omega)), blk_free h1 k⟩
theorem Filling.done {w wr : World} {zs : List Int} {n : Nat} (h : Filling w wr zs n) (hn : n = zs.length) (hm : n ≤ 9223372036854775807) : OInts wr w.heap.size (.slice (some ⟨w.heap.size, 0, none⟩) n n) zs ∧ Below w.heap.size w wr := by
  obtain ⟨cur, h1, h2, h3, h4⟩ := h
  subst hn
  refine ⟨⟨by simp, .inr ⟨w.heap.size, _, cur, rfl, Nat.le_refl _, h1, Nat.le_refl _, by rw [maxLen_eq]; exact hm, by simpa using h2, ?_⟩⟩, h4⟩
  apply List.ext_getElem?
  intro j
  rw [List.getElem?_take, List.getElem?_map]
  split
  · rw [Array.getElem?_toList]
    exact h3 j (by omega)
  · rw [List.getElem?_eq_none (by omega)]
    rfl

theorem Try.tinfo_ints : (Try.prog.info? 28).map (fun i => (i.zero, i.size, i.bytes)) = some (some (.slice none 0 0), 1, 24) := by kernel_rfl

/-- a list of rows that is being filled: k of its rows are done -/
def FillingR (w wr : World) (rows : List (List Int)) (k : Nat) : Prop :=
  ∃ cur : Array Value, wr.heap[w.heap.size]? = some (.cells cur 28 (0, 0)) ∧ cur.size = rows.length ∧ (∀ (j : Nat) (row : List Int), j < k → rows[j]? = some row → ∃ u, cur[j]? = some u ∧ OInts wr (w.heap.size + 1) u row) ∧
    (∀ (i j : Nat) (u u' : Value), i < j → j < k → cur[i]? = some u → cur[j]? = some u' → u.ownBlock = none ∨ u.ownBlock ≠ u'.ownBlock) ∧ Below w.heap.size w wr
theorem FillingR.start (w : World) (rows : List (List Int)) (cur : Array Value) (h : cur.size = rows.length) : FillingR w (w.alloc (.cells cur 28)) rows 0 :=
  ⟨cur, heap_alloc_new w _, h, fun j row hj => by omega, fun i j u u' _ hj => by omega, below_alloc _ _⟩
theorem FillingR.cell {w wr : World} {rows : List (List Int)} {k : Nat} (h : FillingR w wr rows k) (hk : k < rows.length) {w1 : World} (hb : Below wr.heap.size wr w1) : ∃ u, w1.cell? ⟨w.heap.size, k, none⟩ = some u ∧ w1.frozen? ⟨w.heap.size, k, none⟩ = false := by
  obtain ⟨cur, h1, h2, h3, h4, h5⟩ := h
  have h1' := (hb.block _ (Array.getElem?_eq_some_iff.1 h1).1).trans h1
  exact ⟨cur[k]'(by omega), (blk_cell h1' k).trans (Array.getElem?_eq_getElem (by omega)), blk_free h1' k⟩
theorem FillingR.step {w wr w1 : World} {rows : List (List Int)} {k : Nat} {u : Value} (h : FillingR w wr rows k) (hk : k < rows.length) (hb : Below wr.heap.size wr w1) (hu : OInts w1 wr.heap.size u rows[k]) : FillingR w (w1.setCell ⟨w.heap.size, k, none⟩ u) rows (k + 1) := by
  obtain ⟨cur, h1, h2, h3, h4, h5⟩ := h
  have hlt := (Array.getElem?_eq_some_iff.1 h1).1
  have h1' := (hb.block _ hlt).trans h1
  refine ⟨_, blk_set h1' k _, by simpa using h2, fun j row hj hrow => ?_, fun i j x x' hij hjk hi hj => ?_, ((h5.trans (hb.mono (by omega))).setCell (Nat.le_refl _) _)⟩
  · by_cases hjk : k = j
    · subst hjk
      rw [List.getElem?_eq_getElem hk] at hrow
      cases hrow
      exact ⟨u, by rw [Array.getElem?_setIfInBounds, if_pos rfl, if_pos (by omega)], ownsRow_setCell_below (hu.base (by omega)) (by show w.heap.size < w.heap.size + 1; omega) _⟩
    · obtain ⟨x, hx, hxo⟩ := h3 j row (by omega) hrow
      exact ⟨x, by rw [Array.getElem?_setIfInBounds, if_neg hjk]; exact hx, ownsRow_setCell_below (hxo.keep hb) (by show w.heap.size < w.heap.size + 1; omega) _⟩
  · rw [Array.getElem?_setIfInBounds, if_neg (by omega)] at hi
    by_cases hjk' : k = j
    · subst hjk'
      rw [Array.getElem?_setIfInBounds, if_pos rfl, if_pos (by omega)] at hj
      cases hj
      obtain ⟨y, hy, hyo⟩ := h3 i _ hij (List.getElem?_eq_getElem (show i < rows.length by omega))
      rw [hy] at hi
      cases hi
      cases hbx : x.ownBlock with
      | none => exact .inl rfl
      | some b =>
        right
        intro e
        have a := (own_lt hyo b hbx).2
        have c := (own_lt hu b e.symm).1
        omega
    · rw [Array.getElem?_setIfInBounds, if_neg hjk'] at hj
      exact h4 i j x x' hij (by omega) hi hj
theorem FillingR.done {w wr : World} {rows : List (List Int)} {n : Nat} (h : FillingR w wr rows n) (hn : n = rows.length) (hm : n ≤ 9223372036854775807) : ORows wr w.heap.size (.slice (some ⟨w.heap.size, 0, none⟩) n n) rows ∧ Below w.heap.size w wr := by
  obtain ⟨cur, h1, h2, h3, h4, h5⟩ := h
  subst hn
  refine ⟨⟨cur.toList, ?_, by simpa using h2, fun j u row hu hrow => ?_, fun i j u u' hij hi hj => ?_⟩, h5⟩
  · refine ⟨by simp [h2], .inr ⟨w.heap.size, _, cur, rfl, Nat.le_refl _, h1, Nat.le_refl _, by rw [maxLen_eq]; exact hm, by simpa using h2, List.take_of_length_le (by simp [h2])⟩⟩
  · obtain ⟨x, hx, hxo⟩ := h3 j row (List.getElem?_eq_some_iff.1 hrow).1 hrow
    rw [Array.getElem?_toList, hx] at hu
    cases hu
    exact hxo.base (by omega)
  · rw [Array.getElem?_toList] at hi hj
    exact h4 i j u u' hij (by have := (Array.getElem?_eq_some_iff.1 hj).1; omega) hi hj
end

section
open Go.RowKit
set_option linter.unusedVariables false

theorem toIntS_any (v : Value) (xs : List Int) (w : World) (h : RInts w v xs) (hs : xs.length ≤ 1048576) :
    Calls Try.prog 26 #[v] w fun e w' => ∃ u, e = .returned u ∧ OInts w' w.heap.size u xs ∧ Below w.heap.size w w' := by
  have H := Lib.hid h
  obtain ⟨A, c, rfl, -⟩ := h.form
  clear h
  have hmk := run_make_row' (P := Try.prog) 28 3 (.int .i64 0) 8 Try.underlying28 Try.tinfo_int rfl .i64 .i64 xs.length (by omega) (by omega)
  go_enter Try.func26, Try.ntmps26
  go_wp2
  go_loopw [4] (fun i wr => ∃ k : Nat, k ≤ xs.length ∧ i = .int .i64 k ∧ Filling w wr xs k) (fun i _ => xs.length - (intOf i).toNat)
  case atStart => exact ⟨0, Nat.zero_le _, rfl, Filling.start w _ _ (by simp [madeCells])⟩
  case round =>
    obtain ⟨k, hk, rfl, hf⟩ := hrel
    have HF := Lib.hid hf
    clear hf hmk
    by_cases hlt : k < xs.length
    · obtain ⟨b, o, c', e, hx⟩ := (H.out.keep (by obtain ⟨_, _, _, _, hb⟩ := HF.out; exact hb)).at_ hlt
      cases e
      obtain ⟨u, g1, g2⟩ := HF.out.cell hlt
      have HX := Lib.hid (rfl : xs[k] = xs[k])
      obtain ⟨x, hxe⟩ : ∃ x, x = xs[k] := ⟨_, rfl⟩
      rw [← hxe] at hx
      have HX := Lib.hid hxe
      clear hxe
      go_wp2
      go_roundw
      case rel => exact ⟨k + 1, by omega, by go_num, HF.out.step hlt HX.out.symm⟩
      case measure => simp [intOf]; omega
    · go_wp2
      go_ret
      obtain ⟨r1, r2⟩ := HF.out.done (by omega) (by omega)
      have hkn : k = xs.length := by omega
      subst hkn
      exact ⟨_, rfl, r1, r2⟩

theorem toIntSS_any (v : Value) (rows : List (List Int)) (w : World) (h : RRows w v rows) (hs : Fits rows) :
    Calls Try.prog 27 #[v] w fun e w' => ∃ u, e = .returned u ∧ ORows w' w.heap.size u rows ∧ Below w.heap.size w w' := by
  have H := Lib.hid h
  have HS := Lib.hid hs
  obtain ⟨A, c, rfl, -⟩ := h.form
  have hlen := hs.1
  clear h hs
  have hmk := run_make_row' (P := Try.prog) 22 28 (.slice none 0 0) 24 Try.underlying22 Try.tinfo_ints rfl .i64 .i64 rows.length (by omega) (by omega)
  go_enter Try.func27, Try.ntmps27
  go_wp2
  go_loopw [4] (fun i wr => ∃ k : Nat, k ≤ rows.length ∧ i = .int .i64 k ∧ FillingR w wr rows k) (fun i _ => rows.length - (intOf i).toNat)
  case atStart => exact ⟨0, Nat.zero_le _, rfl, FillingR.start w _ _ (by simp [madeCells])⟩
  case round =>
    obtain ⟨k, hk, rfl, hf⟩ := hrel
    have HF := Lib.hid hf
    clear hf hmk
    by_cases hlt : k < rows.length
    · obtain ⟨b, o, c', u, e, hx, hri⟩ := (H.out.keep (by obtain ⟨_, _, _, _, _, hb⟩ := HF.out; exact hb)).at_ hlt
      cases e
      have hrl := HS.out.2 _ (List.getElem_mem hlt)
      have HI := Lib.hid hri
      have HRL := Lib.hid hrl
      obtain ⟨A', c'', rfl, -⟩ := hri.form
      clear hri hrl
      go_wp2_with fail
      refine (toIntS_any _ rows[k] _ HI.out HRL.out).mono ?_
      rintro e w1 ⟨u, rfl, ho, hb⟩
      obtain ⟨u0, g1, g2⟩ := HF.out.cell hlt hb
      have HN := Lib.hid (HF.out.step hlt hb ho)
      obtain ⟨A1, c1, rfl, -⟩ := ho.reads.form
      clear ho hb
      go_wp2
      go_roundw
      case rel => exact ⟨k + 1, by omega, by go_num, HN.out⟩
      case measure => simp [intOf]; omega
    · go_wp2
      go_ret
      obtain ⟨r1, r2⟩ := HF.out.done (by omega) (by omega)
      have hkn : k = rows.length := by omega
      subst hkn
      exact ⟨_, rfl, r1, r2⟩
end

section
open Go.RowKit
set_option linter.unusedVariables false

set_option maxRecDepth 100000 in
theorem toSig_any (v : Value) (s : MSig) (w : World) (h : RSig w v s) (hs : Fits s.ops) :
    Calls Try.prog 51 #[v] w fun e w' => ∃ u, e = .returned u ∧ OSig w' w.heap.size u s ∧ Below w.heap.size w w' := by
  obtain ⟨u, rfl, hr⟩ := h
  obtain ⟨sorts, ops⟩ := s
  obtain ⟨W3, hW3⟩ : ∃ W3, W3 = ((w.alloc (.cells #[.int .i64 sorts, u] 24)).alloc (.cells #[.int .i64 0, .slice none 0 0] 37)).alloc (.cells #[.int .i64 sorts, .slice none 0 0] 37) := ⟨_, rfl⟩
  have hb3 : Below w.heap.size w W3 := by rw [hW3]; exact ((below_alloc _ _).alloc (by simp) _).alloc (by simp; omega) _
  have hz3 : W3.heap.size = w.heap.size + 3 := by rw [hW3]; simp
  have e1 : W3.heap[w.heap.size + 1]? = some (.cells #[.int .i64 0, .slice none 0 0] 37 (0, 0)) := by
    rw [hW3, heap_alloc_old _ _ (by simp)]
    exact (congrArg (fun i => ((w.alloc (.cells #[.int .i64 sorts, u] 24)).alloc (.cells #[.int .i64 0, .slice none 0 0] 37)).heap[i]?) (by simp)).trans (heap_alloc_new (w.alloc (.cells #[.int .i64 sorts, u] 24)) _)
  have e2 : W3.heap[w.heap.size + 2]? = some (.cells #[.int .i64 sorts, .slice none 0 0] 37 (0, 0)) := by
    rw [hW3]
    exact (congrArg (fun i => (((w.alloc (.cells #[.int .i64 sorts, u] 24)).alloc (.cells #[.int .i64 0, .slice none 0 0] 37)).alloc (.cells #[.int .i64 sorts, .slice none 0 0] 37)).heap[i]?) (by simp)).trans (heap_alloc_new ((w.alloc (.cells #[.int .i64 sorts, u] 24)).alloc (.cells #[.int .i64 0, .slice none 0 0] 37)) _)
  have H := Lib.hid (show RRows (((w.alloc (.cells #[.int .i64 sorts, u] 24)).alloc (.cells #[.int .i64 0, .slice none 0 0] 37)).alloc (.cells #[.int .i64 sorts, .slice none 0 0] 37)) u ops by rw [← hW3]; exact hr.keep hb3)
  have HW3 := Lib.hid (And.intro hW3 (And.intro hb3 (And.intro hz3 (And.intro e1 e2))))
  have HS := Lib.hid hs
  obtain ⟨A, c, rfl, -⟩ := hr.form
  clear hr hW3 hb3 hz3 e1 e2 hs
  go_enter Try.func51, Try.ntmps51
  go_wp2_with fail
  refine (toIntSS_any _ ops _ H.out HS.out).mono ?_
  rintro e w4 ⟨v, rfl, ho, hb⟩
  obtain ⟨hW3, hb3, hz3, e1, e2⟩ := HW3.out
  rw [← hW3] at ho hb
  have f1 := (hb.block _ (by omega)).trans e1
  have f2 := (hb.block _ (by omega)).trans e2
  rw [hz3] at ho
  have hsz := hb.size
  rw [hz3] at hsz
  have HO := Lib.hid ho
  have HB := Lib.hid (hb3.trans (hb.mono (by omega)))
  obtain ⟨A4, c4, rfl, -⟩ := ho.reads.form
  have j0 := block_cell' f1 0
  have j1 := block_cell' f1 1
  have j2 := block_free' f1 0
  have j3 := block_free' f1 1
  have j4 := block_cell' f2 0
  have j5 := block_cell' f2 1
  have j6 := block_free' f2 1
  simp at j0 j1 j4 j5
  have HF := Lib.hid (And.intro f1 f2)
  clear ho hb hb3 hz3 e1 e2 f1 f2 hW3 HW3
  go_wp2
  obtain ⟨f1, f2⟩ := HF.out
  have d1 := blk_set (blk_set ((Below.heap_setCell w4 ⟨w.heap.size + 2, 1, none⟩ (.slice A4 ops.length c4) (w.heap.size + 1) (by show w.heap.size + 1 ≠ w.heap.size + 2; omega)).trans f1) 0 (.int .i64 sorts)) 1 (.slice A4 ops.length c4)
  have d2 := ((HO.out.setLow' (b := w.heap.size + 2) (by omega) 1 (.slice A4 ops.length c4)).setLow' (b := w.heap.size + 1) (by omega) 0 (.int .i64 sorts)).setLow' (b := w.heap.size + 1) (by omega) 1 (.slice A4 ops.length c4)
  have d3 := ((HB.out.setCell (p := ⟨w.heap.size + 2, 1, none⟩) (by show w.heap.size ≤ w.heap.size + 2; omega) (.slice A4 ops.length c4)).setCell (p := ⟨w.heap.size + 1, 0, none⟩) (by show w.heap.size ≤ w.heap.size + 1; omega) (.int .i64 sorts)).setCell (p := ⟨w.heap.size + 1, 1, none⟩) (by show w.heap.size ≤ w.heap.size + 1; omega) (.slice A4 ops.length c4)
  generalize ((w4.setCell ⟨w.heap.size + 2, 1, none⟩ (.slice A4 ops.length c4)).setCell ⟨w.heap.size + 1, 0, none⟩ (.int .i64 sorts)).setCell ⟨w.heap.size + 1, 1, none⟩ (.slice A4 ops.length c4) = w9 at d1 d2 d3 ⊢
  have k0 := blk_cell d1 0
  have k1 := blk_cell d1 1
  simp at k0 k1
  clear j0 j1 j2 j3 j4 j5 j6 f1 f2
  refine bodyPost_ret (v := .agg #[.int .i64 sorts, .slice A4 ops.length c4]) (by simp [results, Try.results51, go_sem, k0, k1]) rfl ?_
  exact ⟨_, rfl, ⟨_, rfl, d2.base (by omega)⟩, d3⟩
end

section
open Go.RowKit
set_option linter.unusedVariables false

def Apart (a b : Value) : Prop := a.ownBlock = none ∨ a.ownBlock ≠ b.ownBlock
def OEq (w : World) (B : Nat) (v : Value) (e : MEq) : Prop := ∃ a b c, v = .agg #[a, b, c] ∧ OInts w B a e.vars ∧ OInts w B b e.left ∧ OInts w B c e.right ∧ Apart a b ∧ Apart a c ∧ Apart b c
theorem OEq.keep {w w' : World} {B : Nat} {v : Value} {e : MEq} (h : OEq w B v e) (hb : Below w.heap.size w w') : OEq w' B v e := by
  obtain ⟨a, b, c, rfl, h1, h2, h3, h4⟩ := h; exact ⟨a, b, c, rfl, h1.keep hb, h2.keep hb, h3.keep hb, h4⟩
theorem OEq.base {w : World} {B B' : Nat} {v : Value} {e : MEq} (h : OEq w B v e) (hB : B' ≤ B) : OEq w B' v e := by
  obtain ⟨a, b, c, rfl, h1, h2, h3, h4⟩ := h; exact ⟨a, b, c, rfl, h1.base hB, h2.base hB, h3.base hB, h4⟩
theorem OEq.reads {w : World} {B : Nat} {v : Value} {e : MEq} (h : OEq w B v e) : REq w v e := by
  obtain ⟨a, b, c, rfl, h1, h2, h3, h4⟩ := h; exact ⟨a, b, c, rfl, h1.reads, h2.reads, h3.reads⟩
/-- what was made later lies in another block -/
theorem apart_later {w w' : World} {B : Nat} {a b : Value} {xs ys : List Int} (h : OInts w B a xs) (k : OInts w' w.heap.size b ys) : Apart a b := by
  unfold Apart
  cases ha : a.ownBlock with
  | none => exact .inl rfl
  | some x =>
    right
    intro e
    have p := (own_lt h x ha).2
    have q := (own_lt k x e.symm).1
    omega
theorem sz_keep {w w1 w2 : World} (h : Below w.heap.size w w1) (k : Below w1.heap.size w1 w2) : Below w.heap.size w w2 := h.trans (k.mono h.size)

theorem szEq_any (v : Value) (e : MEq) (left : Int) (w : World) (h : REq w v e) (h0 : 0 ≤ left) (h1 : left ≤ 1048576) :
    Calls Try.prog 20 #[v, .int .i64 left] w fun e' w' => ∃ r : Int, e' = .returned (.int .i64 r) ∧ (r < 0 ∨ (0 ≤ r ∧ r ≤ left ∧ FitsE e)) ∧ Below w.heap.size w w' := by
  obtain ⟨a, b, c, rfl, k0, k1, k2⟩ := h
  obtain ⟨xs, ys, zs⟩ := e
  simp only at k0 k1 k2
  have hb := below_alloc w (.cells #[a, b, c] 55)
  have HB := Lib.hid hb
  have K0 := Lib.hid (k0.keep hb)
  have K1 := Lib.hid (k1.keep hb)
  have K2 := Lib.hid (k2.keep hb)
  obtain ⟨A0, c0, rfl, -⟩ := k0.form
  obtain ⟨A1, c1, rfl, -⟩ := k1.form
  obtain ⟨A2, c2, rfl, -⟩ := k2.form
  clear k0 k1 k2 hb
  go_enter Try.func20, Try.ntmps20
  go_wp2_with fail
  refine (szIntS_any _ xs _ _ K0.out h0 h1).mono ?_
  rintro e w1 ⟨r, rfl, hr, rfl⟩
  by_cases hneg : r < 0
  · clear hr
    go_wp2
    go_ret
    exact ⟨-1, rfl, .inl (by omega), HB.out⟩
  have hr1 := hr.resolve_left hneg
  clear hr
  obtain ⟨hr2, hr3⟩ := hr1
  have HR := Lib.hid hr3
  have hr4 : r ≤ 1048576 := by omega
  clear hr3
  go_wp2_with fail
  refine (szIntS_any _ ys _ _ K1.out hr2 hr4).mono ?_
  rintro e w1 ⟨q, rfl, hr, rfl⟩
  by_cases hneg2 : q < 0
  · clear hr
    go_wp2
    go_ret
    exact ⟨-1, rfl, .inl (by omega), HB.out⟩
  have hr5 := hr.resolve_left hneg2
  clear hr
  obtain ⟨hr6, hr7⟩ := hr5
  have HQ := Lib.hid hr7
  have hr8 : q ≤ 1048576 := by omega
  clear hr7
  go_wp2_with fail
  refine (szIntS_any _ zs _ _ K2.out hr6 hr8).mono ?_
  rintro e w1 ⟨p, rfl, hr, rfl⟩
  by_cases hneg3 : p < 0
  · clear hr
    go_wp2
    go_ret
    exact ⟨-1, rfl, .inl (by omega), HB.out⟩
  have hr9 := hr.resolve_left hneg3
  clear hr
  obtain ⟨hr10, hr11⟩ := hr9
  have HP := Lib.hid hr11
  clear hr11
  go_wp2
  go_ret
  have a1 := HR.out
  have a2 := HQ.out
  have a3 := HP.out
  refine ⟨p, rfl, .inr ⟨hr10, by omega, ⟨?_, ?_, ?_⟩⟩, HB.out⟩ <;> simp only <;> omega

/-- a copy under way: the argument's box (a), the result's (r), and 'out' (cur), the first three new blocks -/
structure Mk (w wr : World) (Ta T : TypeId) (a r cur : Array Value) : Prop where
  ba : wr.heap[w.heap.size]? = some (.cells a Ta (0, 0))
  br : wr.heap[w.heap.size + 1]? = some (.cells r T (0, 0))
  bo : wr.heap[w.heap.size + 2]? = some (.cells cur T (0, 0))
  b : Below w.heap.size w wr
  z : w.heap.size + 3 ≤ wr.heap.size
theorem Mk.start (w : World) (Ta T : TypeId) (a r cur : Array Value) : Mk w (((w.alloc (.cells a Ta)).alloc (.cells r T)).alloc (.cells cur T)) Ta T a r cur := by
  refine ⟨?_, ?_, ?_, ((below_alloc _ _).alloc (by simp) _).alloc (by simp; omega) _, by simp⟩
  · rw [heap_alloc_old _ _ (by simp; omega), heap_alloc_old _ _ (by simp)]
    exact heap_alloc_new w _
  · rw [heap_alloc_old _ _ (by simp)]
    exact (congrArg (fun i => ((w.alloc (.cells a Ta)).alloc (.cells r T)).heap[i]?) (by simp)).trans (heap_alloc_new (w.alloc (.cells a Ta)) _)
  · exact (congrArg (fun i => (((w.alloc (.cells a Ta)).alloc (.cells r T)).alloc (.cells cur T)).heap[i]?) (by simp)).trans (heap_alloc_new ((w.alloc (.cells a Ta)).alloc (.cells r T)) _)
section
variable {w wr w2 : World} {Ta T : TypeId} {a r cur : Array Value}
theorem Mk.below (h : Mk w wr Ta T a r cur) (hb : Below wr.heap.size wr w2) : Mk w w2 Ta T a r cur :=
  ⟨(hb.block _ (by have := h.z; omega)).trans h.ba, (hb.block _ (by have := h.z; omega)).trans h.br, (hb.block _ (by have := h.z; omega)).trans h.bo, h.b.trans (hb.mono (by have := h.z; omega)), Nat.le_trans h.z hb.size⟩
theorem Mk.setO (h : Mk w wr Ta T a r cur) (i : Nat) (u : Value) : Mk w (wr.setCell ⟨w.heap.size + 2, i, none⟩ u) Ta T a r (cur.setIfInBounds i u) :=
  ⟨(Below.heap_setCell wr ⟨w.heap.size + 2, i, none⟩ u w.heap.size (by show w.heap.size ≠ w.heap.size + 2; omega)).trans h.ba, (Below.heap_setCell wr ⟨w.heap.size + 2, i, none⟩ u (w.heap.size + 1) (by show w.heap.size + 1 ≠ w.heap.size + 2; omega)).trans h.br, blk_set h.bo i u,
    h.b.setCell (p := ⟨w.heap.size + 2, i, none⟩) (by show w.heap.size ≤ w.heap.size + 2; omega) u, by have := h.z; simpa [World.setCell] using this⟩
theorem Mk.setR (h : Mk w wr Ta T a r cur) (i : Nat) (u : Value) : Mk w (wr.setCell ⟨w.heap.size + 1, i, none⟩ u) Ta T a (r.setIfInBounds i u) cur :=
  ⟨(Below.heap_setCell wr ⟨w.heap.size + 1, i, none⟩ u w.heap.size (by show w.heap.size ≠ w.heap.size + 1; omega)).trans h.ba, blk_set h.br i u, (Below.heap_setCell wr ⟨w.heap.size + 1, i, none⟩ u (w.heap.size + 2) (by show w.heap.size + 2 ≠ w.heap.size + 1; omega)).trans h.bo,
    h.b.setCell (p := ⟨w.heap.size + 1, i, none⟩) (by show w.heap.size ≤ w.heap.size + 1; omega) u, by have := h.z; simpa [World.setCell] using this⟩
theorem Mk.ca (h : Mk w wr Ta T a r cur) (i : Nat) : wr.cell? ⟨w.heap.size, i, none⟩ = a[i]? := blk_cell h.ba i
theorem Mk.co (h : Mk w wr Ta T a r cur) (i : Nat) : wr.cell? ⟨w.heap.size + 2, i, none⟩ = cur[i]? := blk_cell h.bo i
theorem Mk.fo (h : Mk w wr Ta T a r cur) (i : Nat) : wr.frozen? ⟨w.heap.size + 2, i, none⟩ = false := blk_free h.bo i
theorem Mk.cr (h : Mk w wr Ta T a r cur) (i : Nat) : wr.cell? ⟨w.heap.size + 1, i, none⟩ = r[i]? := blk_cell h.br i
theorem Mk.fr (h : Mk w wr Ta T a r cur) (i : Nat) : wr.frozen? ⟨w.heap.size + 1, i, none⟩ = false := blk_free h.br i
theorem OInts.setLow {B b : Nat} {v : Value} {xs : List Int} (h : OInts wr B v xs) (hb : b < B) (i : Nat) (x : Value) : OInts (wr.setCell ⟨b, i, none⟩ x) B v xs := ownsRow_setCell_below h hb _
end

set_option maxRecDepth 100000 in
theorem toEq_any (v : Value) (e : MEq) (w : World) (h : REq w v e) (hs : FitsE e) :
    Calls Try.prog 24 #[v] w fun e' w' => ∃ u, e' = .returned u ∧ OEq w' w.heap.size u e ∧ Below w.heap.size w w' := by
  obtain ⟨x0, x1, x2, rfl, h0, h1, h2⟩ := h
  obtain ⟨xs, ys, zs⟩ := e
  obtain ⟨hs0, hs1, hs2⟩ := hs
  simp only at h0 h1 h2 hs0 hs1 hs2
  obtain ⟨A0, c0, rfl, -⟩ := h0.form
  obtain ⟨A1, c1, rfl, -⟩ := h1.form
  obtain ⟨A2, c2, rfl, -⟩ := h2.form
  have hm := Mk.start w 55 63 #[.slice A0 xs.length c0, .slice A1 ys.length c1, .slice A2 zs.length c2] #[.slice none 0 0, .slice none 0 0, .slice none 0 0] #[.slice none 0 0, .slice none 0 0, .slice none 0 0]
  generalize hW : ((w.alloc (.cells #[.slice A0 xs.length c0, .slice A1 ys.length c1, .slice A2 zs.length c2] 55)).alloc (.cells #[.slice none 0 0, .slice none 0 0, .slice none 0 0] 63)).alloc (.cells #[.slice none 0 0, .slice none 0 0, .slice none 0 0] 63) = W at hm
  have H0 := Lib.hid (h0.keep hm.b)
  have H1 := Lib.hid h1
  have H2 := Lib.hid h2
  have p0 : W.cell? ⟨w.heap.size, 0, none⟩ = some (.slice A0 xs.length c0) := hm.ca 0
  have HM := Lib.hid hm
  clear h0 h1 h2 hm
  go_enter Try.func24, Try.ntmps24
  go_wp2_with fail
  clear hW
  refine (toIntS_any _ xs _ H0.out hs0).mono ?_
  rintro e w4 ⟨u0, rfl, ho, hb⟩
  have hz := HM.out.z
  have hm := HM.out.below hb
  obtain ⟨B0, d0, rfl, -⟩ := ho.reads.form
  have q0 : w4.cell? ⟨w.heap.size + 2, 0, none⟩ = some (.slice none 0 0) := hm.co 0
  have q1 := hm.fo 0
  have hm5 := hm.setO 0 (.slice B0 xs.length d0)
  have ho5 := ho.setLow (b := w.heap.size + 2) (by omega) 0 (.slice B0 xs.length d0)
  generalize hW5 : w4.setCell ⟨w.heap.size + 2, 0, none⟩ (.slice B0 xs.length d0) = w5 at hm5 ho5
  have p1 : w5.cell? ⟨w.heap.size, 1, none⟩ = some (.slice A1 ys.length c1) := hm5.ca 1
  have HO5 := Lib.hid ho5
  have HM5 := Lib.hid hm5
  have H1 := Lib.hid (H1.out.keep hm5.b)
  clear ho hb hm p0 hm5 ho5 H0
  go_wp2_with fail
  clear hW5 q0 q1
  refine (toIntS_any _ ys _ H1.out hs1).mono ?_
  rintro e w6 ⟨u1, rfl, ho, hb⟩
  have hz5 := HM5.out.z
  have hm := HM5.out.below hb
  obtain ⟨B1, d1, rfl, -⟩ := ho.reads.form
  have q0 : w6.cell? ⟨w.heap.size + 2, 1, none⟩ = some (.slice none 0 0) := hm.co 1
  have q1 := hm.fo 1
  have ha1 := apart_later HO5.out ho
  have hm7 := hm.setO 1 (.slice B1 ys.length d1)
  have ho7 := ho.setLow (b := w.heap.size + 2) (by omega) 1 (.slice B1 ys.length d1)
  have hn7 := (HO5.out.keep hb).setLow (b := w.heap.size + 2) (by omega) 1 (.slice B1 ys.length d1)
  generalize hW7 : w6.setCell ⟨w.heap.size + 2, 1, none⟩ (.slice B1 ys.length d1) = w7 at hm7 ho7 hn7
  have p2 : w7.cell? ⟨w.heap.size, 2, none⟩ = some (.slice A2 zs.length c2) := hm7.ca 2
  have HO7 := Lib.hid ho7
  have HN7 := Lib.hid hn7
  have HA1 := Lib.hid ha1
  have HM7 := Lib.hid hm7
  have H2 := Lib.hid (H2.out.keep hm7.b)
  clear ho hb hm p1 hm7 ho7 hn7 ha1 H1 HO5
  go_wp2_with fail
  clear hW7 q0 q1
  refine (toIntS_any _ zs _ H2.out hs2).mono ?_
  rintro e w8 ⟨u2, rfl, ho, hb⟩
  have hz7 := HM7.out.z
  have hm := HM7.out.below hb
  obtain ⟨B2, d2, rfl, -⟩ := ho.reads.form
  have ha2 := apart_later HN7.out ho
  have ha3 := apart_later HO7.out ho
  have hm9 := (((hm.setO 2 (.slice B2 zs.length d2)).setR 0 (.slice B0 xs.length d0)).setR 1 (.slice B1 ys.length d1)).setR 2 (.slice B2 zs.length d2)
  have o0 := ((((HN7.out.keep hb).setLow (b := w.heap.size + 2) (by omega) 2 (.slice B2 zs.length d2)).setLow (b := w.heap.size + 1) (by omega) 0 (.slice B0 xs.length d0)).setLow (b := w.heap.size + 1) (by omega) 1 (.slice B1 ys.length d1)).setLow (b := w.heap.size + 1) (by omega) 2 (.slice B2 zs.length d2)
  have o1 := ((((HO7.out.keep hb).setLow (b := w.heap.size + 2) (by omega) 2 (.slice B2 zs.length d2)).setLow (b := w.heap.size + 1) (by omega) 0 (.slice B0 xs.length d0)).setLow (b := w.heap.size + 1) (by omega) 1 (.slice B1 ys.length d1)).setLow (b := w.heap.size + 1) (by omega) 2 (.slice B2 zs.length d2)
  have o2 := (((ho.setLow (b := w.heap.size + 2) (by omega) 2 (.slice B2 zs.length d2)).setLow (b := w.heap.size + 1) (by omega) 0 (.slice B0 xs.length d0)).setLow (b := w.heap.size + 1) (by omega) 1 (.slice B1 ys.length d1)).setLow (b := w.heap.size + 1) (by omega) 2 (.slice B2 zs.length d2)
  have HF := Lib.hid (And.intro o0 (And.intro o1 (And.intro o2 (And.intro HA1.out (And.intro ha2 ha3)))))
  have HM9 := Lib.hid hm9
  have q0 : w8.cell? ⟨w.heap.size + 2, 0, none⟩ = some (.slice B0 xs.length d0) := hm.co 0
  have q1 : w8.cell? ⟨w.heap.size + 2, 1, none⟩ = some (.slice B1 ys.length d1) := hm.co 1
  have q2 : w8.cell? ⟨w.heap.size + 2, 2, none⟩ = some (.slice none 0 0) := hm.co 2
  have q3 := hm.fo 2
  have q4 : w8.cell? ⟨w.heap.size + 1, 0, none⟩ = some (.slice none 0 0) := hm.cr 0
  have q5 : w8.cell? ⟨w.heap.size + 1, 1, none⟩ = some (.slice none 0 0) := hm.cr 1
  have q6 : w8.cell? ⟨w.heap.size + 1, 2, none⟩ = some (.slice none 0 0) := hm.cr 2
  have q7 := hm.fr 0
  have q8 := hm.fr 1
  have q9 := hm.fr 2
  clear ho hb hm hm9 o0 o1 o2 ha2 ha3 HO7 HN7 HA1 H2 p2
  go_wp2
  obtain ⟨o0, o1, o2, a1, a2, a3⟩ := HF.out
  have hm9 := HM9.out
  generalize (((w8.setCell ⟨w.heap.size + 2, 2, none⟩ (.slice B2 zs.length d2)).setCell ⟨w.heap.size + 1, 0, none⟩ (.slice B0 xs.length d0)).setCell ⟨w.heap.size + 1, 1, none⟩ (.slice B1 ys.length d1)).setCell ⟨w.heap.size + 1, 2, none⟩ (.slice B2 zs.length d2) = w9 at o0 o1 o2 hm9 ⊢
  have k0 : w9.cell? ⟨w.heap.size + 1, 0, none⟩ = some (.slice B0 xs.length d0) := hm9.cr 0
  have k1 : w9.cell? ⟨w.heap.size + 1, 1, none⟩ = some (.slice B1 ys.length d1) := hm9.cr 1
  have k2 : w9.cell? ⟨w.heap.size + 1, 2, none⟩ = some (.slice B2 zs.length d2) := hm9.cr 2
  clear q0 q1 q2 q3 q4 q5 q6 q7 q8 q9
  refine bodyPost_ret (v := .agg #[.slice B0 xs.length d0, .slice B1 ys.length d1, .slice B2 zs.length d2]) (by simp [results, Try.results24, go_sem, k0, k1, k2]) rfl ?_
  exact ⟨_, rfl, ⟨_, _, _, rfl, o0.base (by omega), o1.base (by omega), o2.base (by omega), a1, a2, a3⟩, hm9.b⟩

theorem eqEq_any (v v' : Value) (a b : MEq) (w : World) (h : REq w v a) (h' : REq w v' b) :
    Calls Try.prog 30 #[v, v'] w fun e w' => e = .returned (.bool (sameE a b)) ∧ Below w.heap.size w w' := by
  obtain ⟨x0, x1, x2, rfl, h0, h1, h2⟩ := h
  obtain ⟨y0, y1, y2, rfl, k0, k1, k2⟩ := h'
  have hb2 : Below w.heap.size w ((w.alloc (.cells #[x0, x1, x2] 63)).alloc (.cells #[y0, y1, y2] 63)) := (below_alloc _ _).alloc (by simp) _
  have HB := Lib.hid hb2
  have H0 := Lib.hid (h0.keep hb2)
  have H1 := Lib.hid (h1.keep hb2)
  have H2 := Lib.hid (h2.keep hb2)
  have K0 := Lib.hid (k0.keep hb2)
  have K1 := Lib.hid (k1.keep hb2)
  have K2 := Lib.hid (k2.keep hb2)
  obtain ⟨a0, a1, a2⟩ := a
  obtain ⟨b0, b1, b2⟩ := b
  simp only at h0 h1 h2 k0 k1 k2 H0 H1 H2 K0 K1 K2
  obtain ⟨A0, c0, rfl, -⟩ := h0.form
  obtain ⟨A1, c1, rfl, -⟩ := h1.form
  obtain ⟨A2, c2, rfl, -⟩ := h2.form
  obtain ⟨D0, d0, rfl, -⟩ := k0.form
  obtain ⟨D1, d1, rfl, -⟩ := k1.form
  obtain ⟨D2, d2, rfl, -⟩ := k2.form
  clear h0 h1 h2 k0 k1 k2 hb2
  have c0' := cell_keep (below_alloc (w.alloc (.cells #[.slice A0 a0.length c0, .slice A1 a1.length c1, .slice A2 a2.length c2] 63)) (.cells #[.slice D0 b0.length d0, .slice D1 b1.length d1, .slice D2 b2.length d2] 63)) (bx_at w #[.slice A0 a0.length c0, .slice A1 a1.length c1, .slice A2 a2.length c2] 63 (k := 0) rfl)
  have c1' := cell_keep (below_alloc (w.alloc (.cells #[.slice A0 a0.length c0, .slice A1 a1.length c1, .slice A2 a2.length c2] 63)) (.cells #[.slice D0 b0.length d0, .slice D1 b1.length d1, .slice D2 b2.length d2] 63)) (bx_at w #[.slice A0 a0.length c0, .slice A1 a1.length c1, .slice A2 a2.length c2] 63 (k := 1) rfl)
  have c2' := cell_keep (below_alloc (w.alloc (.cells #[.slice A0 a0.length c0, .slice A1 a1.length c1, .slice A2 a2.length c2] 63)) (.cells #[.slice D0 b0.length d0, .slice D1 b1.length d1, .slice D2 b2.length d2] 63)) (bx_at w #[.slice A0 a0.length c0, .slice A1 a1.length c1, .slice A2 a2.length c2] 63 (k := 2) rfl)
  have d0' := bx_at (w.alloc (.cells #[.slice A0 a0.length c0, .slice A1 a1.length c1, .slice A2 a2.length c2] 63)) #[.slice D0 b0.length d0, .slice D1 b1.length d1, .slice D2 b2.length d2] 63 (k := 0) rfl
  have d1' := bx_at (w.alloc (.cells #[.slice A0 a0.length c0, .slice A1 a1.length c1, .slice A2 a2.length c2] 63)) #[.slice D0 b0.length d0, .slice D1 b1.length d1, .slice D2 b2.length d2] 63 (k := 1) rfl
  have d2' := bx_at (w.alloc (.cells #[.slice A0 a0.length c0, .slice A1 a1.length c1, .slice A2 a2.length c2] 63)) #[.slice D0 b0.length d0, .slice D1 b1.length d1, .slice D2 b2.length d2] 63 (k := 2) rfl
  simp only [World.size_alloc] at d0' d1' d2'
  generalize hW : (w.alloc (.cells #[.slice A0 a0.length c0, .slice A1 a1.length c1, .slice A2 a2.length c2] 63)).alloc (.cells #[.slice D0 b0.length d0, .slice D1 b1.length d1, .slice D2 b2.length d2] 63) = W at HB H0 H1 H2 K0 K1 K2 c0' c1' c2' d0' d1' d2'
  have HE : Hid (sameE ⟨a0, a1, a2⟩ ⟨b0, b1, b2⟩ = ((sameI a0 b0 && sameI a1 b1) && sameI a2 b2)) := rfl
  cases x0 : sameI a0 b0 with
  | false =>
    rw [x0] at HE
    have X0 := Lib.hid x0
    clear x0
    go_enter Try.func30, Try.ntmps30
    go_wp2_with (go_at_call 31; refine (eqIntS_is _ _ _ _ _ _ X0.out H0.out K0.out).mono ?_; rintro e w1 ⟨rfl, hd⟩)
    go_ret
    exact ⟨ret_bool HE.out.symm, sz_keep HB.out hd.below⟩
  | true =>
    rw [x0] at HE
    have X0 := Lib.hid x0
    clear x0
    cases x1 : sameI a1 b1 with
    | false =>
      rw [x1] at HE
      have X1 := Lib.hid x1
      clear x1
      go_enter Try.func30, Try.ntmps30
      go_wp2_with fail
      clear hW
      refine (eqIntS_is _ _ _ _ _ _ X0.out H0.out K0.out).mono ?_
      rintro e w1 ⟨rfl, hd⟩
      have hb := hd.below
      have HB1 := Lib.hid (sz_keep HB.out hb)
      have m1 := cell_keep hb c1'
      have m2 := cell_keep hb d1'
      have H1' := Lib.hid (H1.out.keep hb)
      have K1' := Lib.hid (K1.out.keep hb)
      clear hd hb c0' c1' c2' d0' d1' d2' H0 H1 H2 K0 K1 K2
      go_wp2_with fail
      refine (eqIntS_is _ _ _ _ _ _ X1.out H1'.out K1'.out).mono ?_
      rintro e w2 ⟨rfl, hd⟩
      go_wp2
      go_ret
      exact ⟨ret_bool HE.out.symm, sz_keep HB1.out hd.below⟩
    | true =>
      rw [x1] at HE
      have X1 := Lib.hid x1
      clear x1
      cases x2 : sameI a2 b2 with
      | false =>
        rw [x2] at HE
        have X2 := Lib.hid x2
        clear x2
        go_enter Try.func30, Try.ntmps30
        go_wp2_with fail
        clear hW
        refine (eqIntS_is _ _ _ _ _ _ X0.out H0.out K0.out).mono ?_
        rintro e w1 ⟨rfl, hd⟩
        have hb := hd.below
        have HB1 := Lib.hid (sz_keep HB.out hb)
        have m1 := cell_keep hb c1'
        have m2 := cell_keep hb d1'
        have m3 := cell_keep hb c2'
        have m4 := cell_keep hb d2'
        have H1' := Lib.hid (H1.out.keep hb)
        have K1' := Lib.hid (K1.out.keep hb)
        have H2' := Lib.hid (H2.out.keep hb)
        have K2' := Lib.hid (K2.out.keep hb)
        clear hd hb c0' c1' c2' d0' d1' d2' H0 H1 H2 K0 K1 K2
        go_wp2_with fail
        refine (eqIntS_is _ _ _ _ _ _ X1.out H1'.out K1'.out).mono ?_
        rintro e w2 ⟨rfl, hd⟩
        have hb := hd.below
        have HB2 := Lib.hid (sz_keep HB1.out hb)
        have n3 := cell_keep hb m3
        have n4 := cell_keep hb m4
        have H2'' := Lib.hid (H2'.out.keep hb)
        have K2'' := Lib.hid (K2'.out.keep hb)
        clear hd hb m1 m2 m3 m4 H1' K1' H2' K2'
        go_wp2_with fail
        refine (eqIntS_is _ _ _ _ _ _ X2.out H2''.out K2''.out).mono ?_
        rintro e w3 ⟨rfl, hd⟩
        go_wp2
        go_ret
        exact ⟨ret_bool HE.out.symm, sz_keep HB2.out hd.below⟩
      | true =>
        rw [x2] at HE
        have X2 := Lib.hid x2
        clear x2
        go_enter Try.func30, Try.ntmps30
        go_wp2_with fail
        clear hW
        refine (eqIntS_is _ _ _ _ _ _ X0.out H0.out K0.out).mono ?_
        rintro e w1 ⟨rfl, hd⟩
        have hb := hd.below
        have HB1 := Lib.hid (sz_keep HB.out hb)
        have m1 := cell_keep hb c1'
        have m2 := cell_keep hb d1'
        have m3 := cell_keep hb c2'
        have m4 := cell_keep hb d2'
        have H1' := Lib.hid (H1.out.keep hb)
        have K1' := Lib.hid (K1.out.keep hb)
        have H2' := Lib.hid (H2.out.keep hb)
        have K2' := Lib.hid (K2.out.keep hb)
        clear hd hb c0' c1' c2' d0' d1' d2' H0 H1 H2 K0 K1 K2
        go_wp2_with fail
        refine (eqIntS_is _ _ _ _ _ _ X1.out H1'.out K1'.out).mono ?_
        rintro e w2 ⟨rfl, hd⟩
        have hb := hd.below
        have HB2 := Lib.hid (sz_keep HB1.out hb)
        have n3 := cell_keep hb m3
        have n4 := cell_keep hb m4
        have H2'' := Lib.hid (H2'.out.keep hb)
        have K2'' := Lib.hid (K2'.out.keep hb)
        clear hd hb m1 m2 m3 m4 H1' K1' H2' K2'
        go_wp2_with fail
        refine (eqIntS_is _ _ _ _ _ _ X2.out H2''.out K2''.out).mono ?_
        rintro e w3 ⟨rfl, hd⟩
        go_wp2
        go_ret
        exact ⟨ret_bool HE.out.symm, sz_keep HB2.out hd.below⟩
theorem eqEq_is (v v' : Value) (a b : MEq) (w : World) (r : Bool) (hr : sameE a b = r) (h : REq w v a) (h' : REq w v' b) :
    Calls Try.prog 30 #[v, v'] w fun e w' => e = .returned (.bool r) ∧ Below w.heap.size w w' := by
  subst hr; exact eqEq_any v v' a b w h h'
end

section
open Go.RowKit
set_option linter.unusedVariables false

/-- the rows of equations, three an equation -/
def rows3 : List MEq → List (List Int)
  | [] => []
  | e :: es => e.vars :: e.left :: e.right :: rows3 es
theorem rows3_len : ∀ es : List MEq, (rows3 es).length = es.length * 3
  | [] => rfl
  | e :: es => by simp only [rows3, List.length_cons, rows3_len es]; omega
theorem rows3_at : ∀ (es : List MEq) (k : Nat) (e : MEq), es[k]? = some e → (rows3 es)[k * 3]? = some e.vars ∧ (rows3 es)[k * 3 + 1]? = some e.left ∧ (rows3 es)[k * 3 + 2]? = some e.right
  | [], k, e, h => by simp at h
  | x :: es, 0, e, h => by simp at h; subst h; simp [rows3]
  | x :: es, k + 1, e, h => by
    have := rows3_at es k e (by simpa using h)
    rw [show (k + 1) * 3 = k * 3 + 3 by omega]
    simpa [rows3] using this
theorem run_make_wide (t e : TypeId) (z : Value) (size bytes : Nat) (ht : Try.prog.underlying t = some (.slice e)) (hinfo : (Try.prog.info? e).map (fun i => (i.zero, i.size, i.bytes)) = some (some z, size, bytes))
    (kl kc : IntKind) (n : Nat) (hbytes : bytes * n ≤ 281474976710656) (h63 : n ≤ 9223372036854775807) (w : World) :
    (Instr.makeSlice t (.int kl (n : Int)) (.int kc (n : Int))).run Try.prog w = .ok (.slice (some ⟨w.heap.size, 0, none⟩) n n) (w.alloc (.cells (madeCells z.cells (n * size)) e)) := by
  obtain ⟨i, hi, hzz⟩ := Option.map_eq_some_iff.1 hinfo
  simp only [Prod.mk.injEq] at hzz
  obtain ⟨hz, hs, hb⟩ := hzz
  have := run_make (P := Try.prog) w t e i z ht hi hz kl kc n n (by omega) (by omega) (by rw [hb]; omega) (by omega)
  simpa [hs] using this
theorem Try.tinfo_Eq : (Try.prog.info? 63).map (fun i => (i.zero, i.size, i.bytes)) = some (some (.agg #[.slice none 0 0, .slice none 0 0, .slice none 0 0]), 3, 72) := by kernel_rfl

/-- a block that is being filled with rows, cell by cell -/
def FillF (T : TypeId) (w wr : World) (rows : List (List Int)) (k : Nat) : Prop :=
  ∃ cur : Array Value, wr.heap[w.heap.size]? = some (.cells cur T (0, 0)) ∧ cur.size = rows.length ∧ (∀ (j : Nat) (row : List Int), j < k → rows[j]? = some row → ∃ u, cur[j]? = some u ∧ OInts wr (w.heap.size + 1) u row) ∧
    (∀ (i j : Nat) (u u' : Value), i < j → j < k → cur[i]? = some u → cur[j]? = some u' → Apart u u') ∧ Below w.heap.size w wr
section
variable {T : TypeId} {w wr w1 : World} {rows : List (List Int)} {k : Nat}
theorem FillF.start (T : TypeId) (w : World) (rows : List (List Int)) (cur : Array Value) (h : cur.size = rows.length) : FillF T w (w.alloc (.cells cur T)) rows 0 :=
  ⟨cur, heap_alloc_new w _, h, fun j row hj => by omega, fun i j u u' _ hj => by omega, below_alloc _ _⟩
theorem FillF.bel (h : FillF T w wr rows k) : Below w.heap.size w wr := by obtain ⟨_, _, _, _, _, hb⟩ := h; exact hb
theorem FillF.lt (h : FillF T w wr rows k) : w.heap.size < wr.heap.size := by obtain ⟨cur, h1, _⟩ := h; exact (Array.getElem?_eq_some_iff.1 h1).1
theorem FillF.keep (h : FillF T w wr rows k) (hb : Below wr.heap.size wr w1) : FillF T w w1 rows k := by
  have hl := h.lt
  obtain ⟨cur, h1, h2, h3, h4, h5⟩ := h
  exact ⟨cur, (hb.block _ hl).trans h1, h2, fun j row hj hr => by obtain ⟨u, a, b⟩ := h3 j row hj hr; exact ⟨u, a, b.keep hb⟩, h4, h5.trans (hb.mono (by omega))⟩
theorem FillF.cell (h : FillF T w wr rows k) {j : Nat} (hj : j < rows.length) : ∃ u, wr.cell? ⟨w.heap.size, j, none⟩ = some u ∧ wr.frozen? ⟨w.heap.size, j, none⟩ = false := by
  obtain ⟨cur, h1, h2, h3, h4, h5⟩ := h
  exact ⟨cur[j]'(by omega), (blk_cell h1 j).trans (Array.getElem?_eq_getElem (by omega)), blk_free h1 j⟩
/-- what stands there -/
theorem FillF.old (h : FillF T w wr rows k) {j : Nat} {x : Value} (hj : j < k) (hk : k ≤ rows.length) (hx : wr.cell? ⟨w.heap.size, j, none⟩ = some x) : ∀ b, x.ownBlock = some b → b < wr.heap.size := by
  obtain ⟨cur, h1, h2, h3, h4, h5⟩ := h
  obtain ⟨u, a, b⟩ := h3 j rows[j] hj (List.getElem?_eq_getElem (by omega))
  rw [blk_cell h1, a] at hx
  cases hx
  exact fun b' hb' => (own_lt b b' hb').2
theorem FillF.put (h : FillF T w wr rows k) (hk : k < rows.length) {u : Value} {row : List Int} (hr : rows[k]? = some row) (hu : OInts wr (w.heap.size + 1) u row) (ha : ∀ (i : Nat) (x : Value), i < k → wr.cell? ⟨w.heap.size, i, none⟩ = some x → Apart x u) :
    FillF T w (wr.setCell ⟨w.heap.size, k, none⟩ u) rows (k + 1) := by
  obtain ⟨cur, h1, h2, h3, h4, h5⟩ := h
  refine ⟨_, blk_set h1 k u, by simpa using h2, fun j row' hj hrow => ?_, fun i j x x' hij hjk hi hj => ?_, h5.setCell (Nat.le_refl _) _⟩
  · by_cases hjk : k = j
    · subst hjk
      rw [hr] at hrow
      cases hrow
      exact ⟨u, by rw [Array.getElem?_setIfInBounds, if_pos rfl, if_pos (by omega)], hu.setLow (by omega) _ _⟩
    · obtain ⟨x, hx, hxo⟩ := h3 j row' (by omega) hrow
      exact ⟨x, by rw [Array.getElem?_setIfInBounds, if_neg hjk]; exact hx, hxo.setLow (by omega) _ _⟩
  · rw [Array.getElem?_setIfInBounds, if_neg (by omega)] at hi
    by_cases hjk' : k = j
    · subst hjk'
      rw [Array.getElem?_setIfInBounds, if_pos rfl, if_pos (by omega)] at hj
      cases hj
      exact ha i x hij (by rw [blk_cell h1]; exact hi)
    · rw [Array.getElem?_setIfInBounds, if_neg hjk'] at hj
      exact h4 i j x x' hij (by omega) hi hj
theorem apart_old {w1 : World} {B : Nat} {x u : Value} {row : List Int} (hx : ∀ b, x.ownBlock = some b → b < B) (hu : OInts w1 B u row) : Apart x u := by
  unfold Apart
  cases hb : x.ownBlock with
  | none => exact .inl rfl
  | some b => right; intro e; have := hx b hb; have := (own_lt hu b e.symm).1; omega
theorem FillF.put3 (h : FillF T w wr rows (k * 3)) (hb : Below wr.heap.size wr w1) {a b c : Value} {e : MEq} (he : OEq w1 wr.heap.size (.agg #[a, b, c]) e) (hk : k * 3 + 3 ≤ rows.length)
    (r0 : rows[k * 3]? = some e.vars) (r1 : rows[k * 3 + 1]? = some e.left) (r2 : rows[k * 3 + 2]? = some e.right) :
    FillF T w (((w1.setCell ⟨w.heap.size, k * 3, none⟩ a).setCell ⟨w.heap.size, k * 3 + 1, none⟩ b).setCell ⟨w.heap.size, k * 3 + 2, none⟩ c) rows (k * 3 + 3) := by
  have hl := h.lt
  obtain ⟨a', b', c', e', h1, h2, h3, p1, p2, p3⟩ := he
  injection e' with e'
  simp at e'
  obtain ⟨rfl, rfl, rfl⟩ := e'
  have h0 := h.keep hb
  have old : ∀ (j : Nat) (x : Value), j < k * 3 → w1.cell? ⟨w.heap.size, j, none⟩ = some x → ∀ b, x.ownBlock = some b → b < wr.heap.size := fun j x hj hx => by
    refine h.old hj (by omega) ?_
    obtain ⟨cur, q1, _⟩ := h
    have q2 := (hb.block _ hl).trans q1
    rw [blk_cell q2] at hx
    rw [blk_cell q1]; exact hx
  have f1 := h0.put (by omega) r0 (h1.base (by omega)) (fun i x hi hx => apart_old (old i x hi hx) h1)
  have c1 : ∀ (i : Nat) (x u : Value), (w1.setCell ⟨w.heap.size, k * 3, none⟩ u).cell? ⟨w.heap.size, i, none⟩ = some x → i < k * 3 → w1.cell? ⟨w.heap.size, i, none⟩ = some x := fun i x u hx hi => by
    rwa [World.cell?_setCell_other _ _ _ _ (by intro e; injection e; omega)] at hx
  have f2 := f1.put (by omega) r1 ((h2.base (by omega)).setLow (by omega) _ _) (fun i x hi hx => by
    by_cases hi3 : i < k * 3
    · exact apart_old (old i x hi3 (c1 i x _ hx hi3)) h2
    · have : i = k * 3 := by omega
      subst this
      obtain ⟨cur, q1, q2, -⟩ := h0
      rw [blk_cell (blk_set q1 (k * 3) a), Array.getElem?_setIfInBounds, if_pos rfl, if_pos (by omega)] at hx
      cases hx
      exact p1)
  have f3 := f2.put (by omega) r2 (((h3.base (by omega)).setLow (by omega) _ _).setLow (by omega) _ _) (fun i x hi hx => by
    obtain ⟨cur, q1, q2, -⟩ := h0
    have s1 := blk_set q1 (k * 3) a
    have s2 := blk_set s1 (k * 3 + 1) b
    rw [blk_cell s2, Array.getElem?_setIfInBounds] at hx
    by_cases hi4 : k * 3 + 1 = i
    · subst hi4
      rw [if_pos rfl, if_pos (by simp; omega)] at hx
      cases hx
      exact p3
    · rw [if_neg hi4, Array.getElem?_setIfInBounds] at hx
      by_cases hi5 : k * 3 = i
      · subst hi5
        rw [if_pos rfl, if_pos (by omega)] at hx
        cases hx
        exact p2
      · rw [if_neg hi5] at hx
        exact apart_old (old i x (by omega) (by rw [blk_cell q1]; exact hx)) h3)
  exact f3
theorem FillF.done {n size : Nat} (h : FillF T w wr rows k) (hk : k = rows.length) (hn : n * size = rows.length) (hm : n ≤ 9223372036854775807) : ORowsT T size n wr w.heap.size (.slice (some ⟨w.heap.size, 0, none⟩) n n) rows ∧ Below w.heap.size w wr := by
  obtain ⟨cur, h1, h2, h3, h4, h5⟩ := h
  subst hk
  refine ⟨⟨cur.toList, ?_, by simpa using h2, fun j u row hu hrow => ?_, fun i j u u' hij hi hj => ?_⟩, h5⟩
  · refine ⟨by simp [h2, hn], .inr ⟨w.heap.size, _, cur, rfl, Nat.le_refl _, h1, Nat.le_refl _, by rw [maxLen_eq]; exact hm, by omega, List.take_of_length_le (by simp; omega)⟩⟩
  · obtain ⟨x, hx, hxo⟩ := h3 j row (List.getElem?_eq_some_iff.1 hrow).1 hrow
    rw [Array.getElem?_toList, hx] at hu
    cases hu
    exact hxo.base (by omega)
  · rw [Array.getElem?_toList] at hi hj
    exact h4 i j u u' hij (by have := (Array.getElem?_eq_some_iff.1 hj).1; omega) hi hj
end

def OEqs (w : World) (B : Nat) (v : Value) (es : List MEq) : Prop := ORowsT 63 3 es.length w B v (rows3 es)
section
variable {T : TypeId} {size n : Nat} {w w' : World} {B B' : Nat} {v : Value} {rows : List (List Int)} {es : List MEq}
theorem ORowsT.keep (h : ORowsT T size n w B v rows) (hb : Below w.heap.size w w') : ORowsT T size n w' B v rows := by
  obtain ⟨us, h1, h2, h3, h4⟩ := h
  exact ⟨us, own_keep h1 hb, h2, fun j u row a b => (h3 j u row a b).keep hb, h4⟩
theorem ORowsT.base (h : ORowsT T size n w B v rows) (hB : B' ≤ B) : ORowsT T size n w B' v rows := by
  obtain ⟨us, h1, h2, h3, h4⟩ := h
  exact ⟨us, own_base h1 hB, h2, fun j u row a b => (h3 j u row a b).base hB, h4⟩
theorem ORowsT.setLow {b : Nat} (h : ORowsT T size n w B v rows) (hb : b < B) (i : Nat) (x : Value) : ORowsT T size n (w.setCell ⟨b, i, none⟩ x) B v rows := by
  obtain ⟨us, h1, h2, h3, h4⟩ := h
  exact ⟨us, ownsRow_setCell_below h1 hb _, h2, fun j u row a b' => (h3 j u row a b').setLow hb _ _, h4⟩
theorem wide_reads {e : TypeId} {zs : List Value} (h : w.ownsRow B e size v n zs) : ∃ A c, v = .slice A n c ∧ n ≤ c ∧ c ≤ maxLen ∧ ∀ j x, zs[j]? = some x → ∃ b, A = some ⟨b, 0, none⟩ ∧ w.cell? ⟨b, j, none⟩ = some x := by
  obtain ⟨hl, h⟩ := h
  rcases h with ⟨rfl, rfl⟩ | ⟨g, cap, cur, rfl, hg, hh, h1, h2, h3, h4⟩
  · refine ⟨none, 0, rfl, Nat.le_refl _, Nat.zero_le _, fun j x hj => ?_⟩
    have : zs = [] := List.eq_nil_of_length_eq_zero (by simpa using hl)
    subst this
    simp at hj
  · refine ⟨_, cap, rfl, h1, h2, fun j x hj => ⟨g, rfl, ?_⟩⟩
    subst h4
    rw [List.getElem?_take] at hj
    split at hj
    · simpa [World.cell?, hh] using hj
    · cases hj
theorem OEqs.reads (h : OEqs w B v es) : REqs w v es := by
  obtain ⟨us, h1, h2, h3, -⟩ := h
  obtain ⟨A, c, e, k1, k2, k3⟩ := wide_reads h1
  refine ⟨A, c, e, k1, k2, fun j q hj => ?_⟩
  obtain ⟨r0, r1, r2⟩ := rows3_at es j q hj
  have hjl := (List.getElem?_eq_some_iff.1 hj).1
  have hl := rows3_len es
  have get : ∀ i, i < es.length * 3 → ∃ u, us[i]? = some u := fun i hi => ⟨us[i]'(by omega), List.getElem?_eq_getElem _⟩
  obtain ⟨x, hx⟩ := get (j * 3) (by omega)
  obtain ⟨y, hy⟩ := get (j * 3 + 1) (by omega)
  obtain ⟨z, hz⟩ := get (j * 3 + 2) (by omega)
  obtain ⟨b, ea, c0⟩ := k3 _ x hx
  obtain ⟨b1, ea1, c1⟩ := k3 _ y hy
  obtain ⟨b2, ea2, c2⟩ := k3 _ z hz
  rw [ea] at ea1 ea2
  cases ea1
  cases ea2
  exact ⟨b, 0, x, y, z, ea, by simpa using c0, by simpa using c1, by simpa using c2, (h3 _ _ _ hx r0).reads, (h3 _ _ _ hy r1).reads, (h3 _ _ _ hz r2).reads⟩
end

theorem szEqS_any (v : Value) (es : List MEq) (left : Int) (w : World) (h : REqs w v es) (h0 : 0 ≤ left) (h1 : left ≤ 1048576) :
    Calls Try.prog 45 #[v, .int .i64 left] w fun e w' => ∃ r : Int, e = .returned (.int .i64 r) ∧ (r < 0 ∨ (0 ≤ r ∧ r ≤ left ∧ FitsEs es)) ∧ Below w.heap.size w w' := by
  have H := Lib.hid h
  have hn := h.len
  obtain ⟨A, c, rfl, -⟩ := h.form
  clear h
  by_cases hl : left - (es.length : Int) < 0
  · go_enter Try.func45, Try.ntmps45
    go_wp2
    go_ret
    exact ⟨-1, rfl, .inl (by omega), Below.refl _ _⟩
  · go_enter Try.func45, Try.ntmps45
    go_wp2
    go_loopw [1, 5] (fun l i wr => ∃ k : Nat, ∃ r : Int, k ≤ es.length ∧ i = .int .i64 k ∧ l = .int .i64 r ∧ 0 ≤ r ∧ r ≤ left ∧ (∀ e ∈ es.take k, FitsE e) ∧ Below w.heap.size w wr) (fun _ i _ => es.length - (intOf i).toNat)
    case atStart => exact ⟨0, _, Nat.zero_le _, rfl, rfl, by omega, by omega, by simp, Below.refl _ _⟩
    case round =>
      obtain ⟨k, r, hk, rfl, rfl, hr0, hr1, hb0, hbw⟩ := hrel
      have hb := Lib.hid hb0
      have HBW := Lib.hid hbw
      clear hb0 hbw
      by_cases hlt : k < es.length
      · obtain ⟨b, o, c', x, y, z, e, c0, c1, c2, q0, q1, q2⟩ := (H.out.keep HBW.out).at_ hlt
        cases e
        have HT := Lib.hid (List.take_succ_eq_append_getElem hlt)
        generalize es[k] = e at q0 q1 q2 HT
        have HI := Lib.hid (show REq wr (.agg #[x, y, z]) e from ⟨x, y, z, rfl, q0, q1, q2⟩)
        obtain ⟨A0, d0, rfl, -⟩ := q0.form
        obtain ⟨A1, d1, rfl, -⟩ := q1.form
        obtain ⟨A2, d2, rfl, -⟩ := q2.form
        clear q0 q1 q2
        go_wp2_with fail
        refine (szEq_any _ e _ _ HI.out hr0 (by omega)).mono ?_
        rintro e' w1 ⟨r', rfl, hr', hb1⟩
        have HB1 := Lib.hid (sz_keep HBW.out hb1)
        clear hb1 c0 c1 c2
        by_cases hneg : r' < 0
        · clear hr'
          go_wp2
          go_ret
          exact ⟨-1, rfl, .inl (by omega), HB1.out⟩
        · obtain ⟨h2, h3, h4⟩ := hr'.resolve_left hneg
          have HR := Lib.hid (And.intro h3 h4)
          clear h3 h4 hr'
          go_wp2
          go_roundw
          case rel =>
            refine ⟨k + 1, r', by omega, by go_num, rfl, h2, by have := HR.out.1; omega, ?_, HB1.out⟩
            rw [HT.out]
            intro x hx
            rcases List.mem_append.1 hx with hx | hx
            · exact hb.out x hx
            · simp at hx; subst hx; exact HR.out.2
          case measure => simp [intOf]; omega
      · go_wp2
        go_ret
        have h := hb.out
        rw [take_all (by omega)] at h
        exact ⟨r, rfl, .inr ⟨hr0, hr1, by omega, h⟩, HBW.out⟩

set_option maxRecDepth 100000 in
theorem toEqS_any (v : Value) (es : List MEq) (w : World) (h : REqs w v es) (hs : FitsEs es) :
    Calls Try.prog 52 #[v] w fun e w' => ∃ u, e = .returned u ∧ OEqs w' w.heap.size u es ∧ Below w.heap.size w w' := by
  have H := Lib.hid h
  have HS := Lib.hid hs
  obtain ⟨A, c, rfl, -⟩ := h.form
  have hlen := hs.1
  have HL := Lib.hid (rows3_len es)
  clear h hs
  have hmk := run_make_wide 38 63 _ 3 72 Try.underlying38 Try.tinfo_Eq .i64 .i64 es.length (by omega) (by omega)
  go_enter Try.func52, Try.ntmps52
  go_wp2
  go_loopw [4] (fun i wr => ∃ k : Nat, k ≤ es.length ∧ i = .int .i64 k ∧ FillF 63 w wr (rows3 es) (k * 3)) (fun i _ => es.length - (intOf i).toNat)
  case atStart => exact ⟨0, Nat.zero_le _, rfl, FillF.start _ w _ _ (by rw [HL.out]; simp [madeCells])⟩
  case round =>
    obtain ⟨k, hk, rfl, hf⟩ := hrel
    have HF := Lib.hid hf
    clear hf hmk
    by_cases hlt : k < es.length
    · obtain ⟨b, o, c', x, y, z, e, c0, c1, c2, q0, q1, q2⟩ := (H.out.keep HF.out.bel).at_ hlt
      cases e
      have hfe := HS.out.2 _ (List.getElem_mem hlt)
      have HR3 := Lib.hid (rows3_at es k _ (List.getElem?_eq_getElem hlt))
      generalize es[k] = e at q0 q1 q2 hfe HR3
      have HI := Lib.hid (show REq wr (.agg #[x, y, z]) e from ⟨x, y, z, rfl, q0, q1, q2⟩)
      have HFE := Lib.hid hfe
      obtain ⟨A0, d0, rfl, -⟩ := q0.form
      obtain ⟨A1, d1, rfl, -⟩ := q1.form
      obtain ⟨A2, d2, rfl, -⟩ := q2.form
      clear q0 q1 q2 hfe
      go_wp2_with fail
      refine (toEq_any _ e _ HI.out HFE.out).mono ?_
      rintro e' w1 ⟨u, rfl, ho, hb⟩
      obtain ⟨B0, g0, B1, g1, B2, g2, rfl⟩ := ho.reads.form
      have hkp := HF.out.keep hb
      obtain ⟨z0, m0, n0⟩ := hkp.cell (j := k * 3) (by have := HL.out; omega)
      obtain ⟨z1, m1, n1⟩ := hkp.cell (j := k * 3 + 1) (by have := HL.out; omega)
      obtain ⟨z2, m2, n2⟩ := hkp.cell (j := k * 3 + 2) (by have := HL.out; omega)
      have HN := Lib.hid (HF.out.put3 hb ho (by have := HL.out; omega) HR3.out.1 HR3.out.2.1 HR3.out.2.2)
      clear ho hb hkp c0 c1 c2
      go_wp2
      go_roundw
      case rel => exact ⟨k + 1, by omega, by go_num, by rw [show (k + 1) * 3 = k * 3 + 3 by omega]; exact HN.out⟩
      case measure => simp [intOf]; omega
    · have hkn : k = es.length := by omega
      go_wp2
      go_ret
      obtain ⟨r1, r2⟩ := HF.out.done (n := es.length) (size := 3) (by rw [HL.out]; omega) (by rw [HL.out]) (by omega)
      exact ⟨_, rfl, r1, r2⟩

theorem eq_drew (w : World) : Below w.heap.size w w.drew := ⟨rfl, rfl, rfl, Nat.le_refl _, fun _ _ => rfl⟩
theorem eq_undrew {w w' : World} (h : Below w.drew.heap.size w.drew w') : Below w.heap.size w w' := ⟨h.os, h.tape, h.output, h.size, h.block⟩
theorem takeE_bad {xs ys : List MEq} {k : Nat} (hx : k < xs.length) (hy : k < ys.length) (he : sameE xs[k] ys[k] = false) : sameEs xs ys = false := by
  cases h : sameEs xs ys with
  | false => rfl
  | true =>
    have := sameEs_eq.1 h
    subst this
    rw [sameE_self] at he
    cases he
theorem eqEqS_any (v v' : Value) (xs ys : List MEq) (w : World) (h : REqs w v xs) (h' : REqs w v' ys) :
    Calls Try.prog 60 #[v, v'] w fun e w' => e = .returned (.bool (sameEs xs ys)) ∧ Below w.heap.size w w' := by
  have H := Lib.hid h
  have H' := Lib.hid h'
  have hn := h.len
  have hn' := h'.len
  obtain ⟨A, c, rfl, -⟩ := h.form
  obtain ⟨A', c', rfl, -⟩ := h'.form
  clear h h'
  by_cases hl : xs.length = ys.length
  · have hl' : ((xs.length : Int) != (ys.length : Int)) = false := by simp [hl]
    have HL := Lib.hid hl
    have hle : xs.length ≤ ys.length := by omega
    have hge : ys.length ≤ xs.length := by omega
    clear hl
    go_enter Try.func60, Try.ntmps60
    go_wp2
    go_loopw [5] (fun i wr => ∃ k : Nat, k ≤ xs.length ∧ i = .int .i64 k ∧ xs.take k = ys.take k ∧ Below w.heap.size w wr) (fun i _ => xs.length - (intOf i).toNat)
    case atStart => exact ⟨0, Nat.zero_le _, rfl, rfl, Below.refl _ _⟩
    case round =>
      obtain ⟨k, hk, rfl, hb0, hd⟩ := hrel
      have hb := Lib.hid hb0
      have HD := Lib.hid hd
      clear hb0 hd
      by_cases hlt : k < xs.length
      · obtain ⟨b, o, c3, x0, x1, x2, e, c00, c01, c02, q0, q1, q2⟩ := (H.out.keep HD.out).at_ hlt
        cases e
        obtain ⟨b', o', c4, y0, y1, y2, e, d00, d01, d02, p0, p1, p2⟩ := (H'.out.keep HD.out).at_ (show k < ys.length by omega)
        cases e
        have hs1 : (k : Int) < (xs.length : Int) := by omega
        have hs2 : (k : Int) < (ys.length : Int) := by omega
        have HT := Lib.hid (take_succ_eq hlt (show k < ys.length by omega) hb.out)
        have HN := Lib.hid (takeE_bad hlt (show k < ys.length by omega))
        generalize xs[k] = x at q0 q1 q2 HT HN
        generalize ys[k]'(by omega) = y at p0 p1 p2 HT HN
        have HX := Lib.hid (show REq wr (.agg #[x0, x1, x2]) x from ⟨x0, x1, x2, rfl, q0, q1, q2⟩)
        have HY := Lib.hid (show REq wr (.agg #[y0, y1, y2]) y from ⟨y0, y1, y2, rfl, p0, p1, p2⟩)
        obtain ⟨A0, g0, rfl, -⟩ := q0.form
        obtain ⟨A1, g1, rfl, -⟩ := q1.form
        obtain ⟨A2, g2, rfl, -⟩ := q2.form
        obtain ⟨B0, h0, rfl, -⟩ := p0.form
        obtain ⟨B1, h1, rfl, -⟩ := p1.form
        obtain ⟨B2, h2, rfl, -⟩ := p2.form
        clear q0 q1 q2 p0 p1 p2
        have ea := World.new_ne wr _ c00
        have eb := World.new_ne wr _ d00
        cases hxy : sameE x y with
        | true =>
          have HXY := Lib.hid hxy
          clear hxy
          go_wp2_with fail
          go_region_held3 (fun w' => w'.cell? ⟨b, o + k * 3, none⟩ = some (.slice A0 x.vars.length g0) ∧ w'.cell? ⟨b, o + k * 3 + 1, none⟩ = some (.slice A1 x.left.length g1) ∧ w'.cell? ⟨b, o + k * 3 + 2, none⟩ = some (.slice A2 x.right.length g2) ∧ w'.cell? ⟨b', o' + k * 3, none⟩ = some (.slice B0 y.vars.length h0) ∧ w'.cell? ⟨b', o' + k * 3 + 1, none⟩ = some (.slice B1 y.left.length h1) ∧ w'.cell? ⟨b', o' + k * 3 + 2, none⟩ = some (.slice B2 y.right.length h2)) (first | go_keep)
            (first
              | (go_at_call 30; refine (eqEq_is _ _ _ _ wr.drew _ HXY.out (HX.out.keep (eq_drew _)) (HY.out.keep (eq_drew _))).mono ?_; rintro e w2 ⟨rfl, hb2⟩; have HB2 := Lib.hid (eq_undrew hb2); have j0 := cell_keep HB2.out c00; have j1 := cell_keep HB2.out c01; have j2 := cell_keep HB2.out c02; have j3 := cell_keep HB2.out d00; have j4 := cell_keep HB2.out d01; have j5 := cell_keep HB2.out d02; clear hb2))
          have HBN := Lib.hid (sz_keep HD.out HB2.out)
          clear c00 c01 c02 d00 d01 d02 j0 j1 j2 j3 j4 j5 ea eb
          go_wp2
          go_roundw
          case rel => exact ⟨k + 1, by omega, by go_num, HT.out (sameE_eq.1 HXY.out), HBN.out⟩
          case measure => simp [intOf]; omega
        | false =>
          have HXY := Lib.hid hxy
          clear hxy
          go_wp2_with fail
          go_region_held3 (fun w' => w'.cell? ⟨b, o + k * 3, none⟩ = some (.slice A0 x.vars.length g0) ∧ w'.cell? ⟨b, o + k * 3 + 1, none⟩ = some (.slice A1 x.left.length g1) ∧ w'.cell? ⟨b, o + k * 3 + 2, none⟩ = some (.slice A2 x.right.length g2) ∧ w'.cell? ⟨b', o' + k * 3, none⟩ = some (.slice B0 y.vars.length h0) ∧ w'.cell? ⟨b', o' + k * 3 + 1, none⟩ = some (.slice B1 y.left.length h1) ∧ w'.cell? ⟨b', o' + k * 3 + 2, none⟩ = some (.slice B2 y.right.length h2)) (first | go_keep)
            (first
              | (go_at_call 30; refine (eqEq_is _ _ _ _ wr.drew _ HXY.out (HX.out.keep (eq_drew _)) (HY.out.keep (eq_drew _))).mono ?_; rintro e w2 ⟨rfl, hb2⟩; have HB2 := Lib.hid (eq_undrew hb2); have j0 := cell_keep HB2.out c00; have j1 := cell_keep HB2.out c01; have j2 := cell_keep HB2.out c02; have j3 := cell_keep HB2.out d00; have j4 := cell_keep HB2.out d01; have j5 := cell_keep HB2.out d02; clear hb2))
          have HBN := Lib.hid (sz_keep HD.out HB2.out)
          clear c00 c01 c02 d00 d01 d02 j0 j1 j2 j3 j4 j5 ea eb
          go_wp2
          go_ret
          exact ⟨ret_bool (HN.out HXY.out).symm, HBN.out⟩
      · go_wp2
        go_ret
        have h := hb.out
        rw [take_all (by omega), take_all (by omega)] at h
        exact ⟨ret_bool (by rw [h, sameEs_self]), HD.out⟩
  · have hl' : ((xs.length : Int) != (ys.length : Int)) = true := by simp; omega
    have HL := Lib.hid hl
    clear hl
    go_enter Try.func60, Try.ntmps60
    go_wp2
    go_ret
    refine ⟨ret_bool ?_, Below.refl _ _⟩
    cases h : sameEs xs ys with
    | false => rfl
    | true => have := sameEs_eq.1 h; subst this; exact absurd rfl HL.out
end
end Go.Proofs.Ytbopcghbmbchkaa
