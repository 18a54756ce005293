/- rowAt of package impl: a row of values by its number. · slices.Clone, TermAt of both packages. · TermPut of both packages. · FailsAt of package impl. · Rows of values one after the other by l4Next: what all walks need. · FailsAt of package spec. · Holds of both packages. -/
import Derived.Test.YtkhabmoidpgapaaKac082421
import Derived.Shelf.RegionOpen
import Derived.RangeFuncCalls
import Derived.Deep.RegionHeld3
import Derived.Lib.SliceRun
namespace Go.Proofs.Ytkhabmoidpgapaa
section
open Go.RowKit Go.Shelf
set_option linter.unusedVariables false
attribute [local go_sem] Oper.semAt_some

/-- the number left, and the row, when pairs have come -/
def rowNum (n : Int) (pre : List (Nat × Int)) : Int := pre.foldl (fun q p => q / p.2) n
def rowFill : Int → List Int → List (Nat × Int) → List Int
  | _, row, [] => row
  | n, row, p :: ps => rowFill (n / p.2) (row.set p.1 (n % p.2)) ps
theorem rowNum_snoc (n : Int) (pre : List (Nat × Int)) (p : Nat × Int) : rowNum n (pre ++ [p]) = rowNum n pre / p.2 := by simp [rowNum]
theorem rowFill_snoc : ∀ (n : Int) (row : List Int) (pre : List (Nat × Int)) (p : Nat × Int), rowFill n row (pre ++ [p]) = (rowFill n row pre).set p.1 (rowNum n pre % p.2)
  | n, row, [], p => by simp [rowFill, rowNum]
  | n, row, q :: pre, p => by
    simp only [List.cons_append, rowFill]
    rw [rowFill_snoc (n / q.2) _ pre p]
    rfl
theorem rowFill_len : ∀ (n : Int) (row : List Int) (pre : List (Nat × Int)), (rowFill n row pre).length = row.length
  | n, row, [] => rfl
  | n, row, q :: pre => by simp only [rowFill]; rw [rowFill_len]; simp
def prs {zs : List Int} (pre : List (At zs)) : List (Nat × Int) := pre.map Subtype.val
theorem at_size {zs : List Int} (hz : Sizes zs) (x : At zs) : x.1.1 < zs.length ∧ 1 ≤ x.1.2 ∧ x.1.2 ≤ 3 := by
  obtain ⟨h, e⟩ := List.getElem?_eq_some_iff.1 x.2
  have := hz _ (List.getElem_mem h)
  rw [e] at this
  exact ⟨h, this⟩
theorem rowNum_in {zs : List Int} (hz : Sizes zs) {n N : Int} (h0 : 0 ≤ n) (h1 : n ≤ N) : ∀ pre : List (At zs), 0 ≤ rowNum n (prs pre) ∧ rowNum n (prs pre) ≤ N := by
  intro pre
  induction pre generalizing n with
  | nil => exact ⟨h0, h1⟩
  | cons x pre ih =>
    have hx := at_size hz x
    have a : 0 ≤ n / x.1.2 := Int.ediv_nonneg h0 (by omega)
    have b : n / x.1.2 ≤ n := Int.ediv_le_self _ h0
    exact ih (n := n / x.1.2) a (by omega)
/-- when k of them have come, from the last one on -/
theorem row_part {zs : List Int} (hz : Sizes zs) (n : Int) : ∀ k, k ≤ zs.length → rowNum n (prs ((bwd zs).take k)) = n / waysM (zs.drop (zs.length - k)) ∧
    ∀ j, zs.length - k ≤ j → j < zs.length → (rowFill n (List.replicate zs.length 0) (prs ((bwd zs).take k)))[j]? = (digM zs n)[j]? := by
  intro k
  induction k with
  | zero =>
    intro _
    refine ⟨?_, fun j h1 h2 => by omega⟩
    simp [prs, rowNum, waysM]
  | succ k ih =>
    intro hk
    obtain ⟨i1, i2⟩ := ih (by omega)
    have hkl : k < (bwd zs).length := by rw [bwd_len]; omega
    have hm : zs.length - 1 - k < zs.length := by omega
    have hat := bwd_at (zs := zs) (k := k) (m := zs.length - 1 - k) (by omega) hkl
    have htk : prs ((bwd zs).take (k + 1)) = prs ((bwd zs).take k) ++ [(zs.length - 1 - k, zs[zs.length - 1 - k])] := by
      rw [bwd_take hkl, hat]; simp [prs]
    have e1 : zs.length - (k + 1) = zs.length - 1 - k := by omega
    have e2 : zs.length - k = zs.length - 1 - k + 1 := by omega
    rw [htk, rowNum_snoc, rowFill_snoc, i1, e1]
    refine ⟨?_, fun j h1 h2 => ?_⟩
    · rw [e2]; exact dig_left hz hm
    · by_cases hj : zs.length - 1 - k = j
      · subst hj
        rw [List.getElem?_set_self (by rw [rowFill_len]; simp; omega), digM_at hm, e2]
      · rw [List.getElem?_set_ne hj]
        exact i2 j (by omega) h2
theorem row_all {zs : List Int} (hz : Sizes zs) (n : Int) : rowFill n (List.replicate zs.length 0) (prs (bwd zs)) = digM zs n := by
  have h := (row_part hz n zs.length (Nat.le_refl _)).2
  rw [List.take_of_length_le (by rw [bwd_len]; omega)] at h
  apply List.ext_getElem?
  intro j
  by_cases hj : j < zs.length
  · exact h j (by omega) hj
  · rw [List.getElem?_eq_none (by rw [rowFill_len]; simp; omega), List.getElem?_eq_none (by rw [digM_len]; omega)]

/-- the three blocks of the call: the number, the row's cells, the row -/
def RowSt (w : World) (zs : List Int) (n : Int) (pre : List (At zs)) (W : World) : Prop :=
  Boxed W w.heap.size 3 (.int .i64 (rowNum n (prs pre))) ∧
  W.heap[w.heap.size + 1]? = some (.cells ((rowFill n (List.replicate zs.length 0) (prs pre)).map (Value.int .i64)).toArray 3 (0, 0)) ∧
  Boxed W (w.heap.size + 2) 26 (.slice (some ⟨w.heap.size + 1, 0, none⟩) zs.length zs.length)

theorem block_kept {A B : World} {row : Option Nat} {k : Nat} {cs : Array Value} {t : TypeId} (h : A.heap[k]? = some (.cells cs t (0, 0))) (hg : A.grownBy B row) (hr : ∀ r, row = some r → ∃ o : Obj, A.heap[r]? = some o ∧ o.isCells = false) : B.heap[k]? = some (.cells cs t (0, 0)) := by
  refine (hg.block k (Array.getElem?_eq_some_iff.1 h).1 (fun e => ?_)).trans h
  obtain ⟨o, ho, hc⟩ := hr k e.symm
  rw [h] at ho
  cases ho
  cases hc
theorem made_zero (n : Nat) : madeCells #[Value.int .i64 0] n = ((List.replicate n (0 : Int)).map (Value.int .i64)).toArray := by
  apply Array.ext
  · simp [madeCells]
  · intro i h1 h2
    simp [madeCells, Nat.mod_one]
theorem blk_old {wc wd : World} {bx : Nat} {o : Obj} (hz : wc.heap[bx]? = some o) (hb : Below wc.heap.size wc wd) : wd.heap[bx]? = some o := (hb.block _ (Array.getElem?_eq_some_iff.1 hz).1).trans hz
theorem rowSt_own (w : World) (zs : List Int) (n : Int) : Own (RowSt w zs n) := fun s A B row hs hg hr => ⟨block_kept hs.1 hg hr, block_kept hs.2.1 hg hr, block_kept hs.2.2 hg hr⟩
theorem rowSt_step {w W : World} {zs : List Int} {n : Int} {pre : List (At zs)} (h : RowSt w zs n pre W) (x : At zs) (hx : x.1.1 < zs.length) :
    RowSt w zs n (pre ++ [x]) ((W.setCell ⟨w.heap.size + 1, x.1.1, none⟩ (.int .i64 (rowNum n (prs pre) % x.1.2))).setCell ⟨w.heap.size, 0, none⟩ (.int .i64 (rowNum n (prs pre) / x.1.2))) := by
  obtain ⟨h1, h2, h3⟩ := h
  have hp : prs (pre ++ [x]) = prs pre ++ [x.1] := by simp [prs]
  refine ⟨?_, ?_, ?_⟩
  · rw [hp, rowNum_snoc]
    have := blk_set ((Below.heap_setCell W ⟨w.heap.size + 1, x.1.1, none⟩ (.int .i64 (rowNum n (prs pre) % x.1.2)) w.heap.size (by show w.heap.size ≠ w.heap.size + 1; omega)).trans h1) 0 (.int .i64 (rowNum n (prs pre) / x.1.2))
    exact this
  · rw [Below.heap_setCell _ ⟨w.heap.size, 0, none⟩ _ _ (by show w.heap.size + 1 ≠ w.heap.size; omega), hp, rowFill_snoc]
    refine (blk_set h2 x.1.1 _).trans ?_
    rw [List.map_set]
    simp
  · unfold Boxed
    rw [Below.heap_setCell _ ⟨w.heap.size, 0, none⟩ _ _ (by show w.heap.size + 2 ≠ w.heap.size; omega), Below.heap_setCell _ ⟨w.heap.size + 1, x.1.1, none⟩ _ _ (by show w.heap.size + 2 ≠ w.heap.size + 1; omega)]
    exact h3

theorem rw_far {w : World} {b rb : Nat} (h : b ≠ rb) (i o : Nat) (u : Value) : (w.setCell ⟨rb, i, none⟩ u).cell? ⟨b, o, none⟩ = w.cell? ⟨b, o, none⟩ := World.cell?_of_block (Below.heap_setCell w ⟨rb, i, none⟩ u b h)
theorem rw_drew {a w : World} {B : Nat} (h : Below B a w) : Below B a w.drew := ⟨h.os, h.tape, h.output, h.size, h.block⟩
theorem row_owns {w : World} {B b : Nat} {xs : List Int} (h : w.heap[b]? = some (.cells (xs.map (Value.int .i64)).toArray 3 (0, 0))) (hB : B ≤ b) (hm : xs.length ≤ 9223372036854775807) : OInts w B (.slice (some ⟨b, 0, none⟩) xs.length xs.length) xs := by
  refine ⟨by simp, .inr ⟨b, _, _, rfl, hB, h, Nat.le_refl _, by rw [maxLen_eq]; exact hm, by simp, ?_⟩⟩
  simp only
  rw [List.take_of_length_le (by simp)]

set_option maxHeartbeats 2000000 in
set_option maxRecDepth 100000 in
theorem rowAt_any (zs : List Int) (n : Int) (w : World) (v : Value) (h : RInts w v zs) (hz : Sizes zs) (hl : zs.length ≤ 4) (h0 : 0 ≤ n) (h1 : n ≤ 1000) :
    Calls Try.prog 61 #[v, .int .i64 n] w fun e w' => ∃ u, e = .returned u ∧ OInts w' w.heap.size u (digM zs n) ∧ Below w.heap.size w w' := by
  have H := Lib.hid h
  have HZ := Lib.hid hz
  obtain ⟨A, c, rfl, -⟩ := h.form
  clear h hz
  have hmk := run_make_row' (P := Try.prog) 26 3 (.int .i64 0) 8 Try.underlying26 Try.tinfo_int rfl .i64 .i64 zs.length (by omega) (by omega)
  refine (callsIn_wide (n := 8)).1 ?_
  refine callsIn_of_wp_marks Try.func61 rfl trivial ?_ rfl
  simp only [Try.ntmps61, List.size_toArray, List.length_cons, List.length_nil, Nat.reduceAdd, Nat.reduceSub, Array.replicate_succ, Array.replicate_zero, List.push_toArray, List.append_toArray, List.nil_append, List.cons_append]
  gi_wp2
  refine ⟨trivial, ?_⟩
  refine (bw_in Fence.wide 7 trivial rfl _ _ _ _).mono ?_
  rintro e w' ⟨rfl, rfl⟩
  have hB0 : Below w.heap.size w ((((w.alloc (.cells #[.int .i64 n] 3)).alloc (.cells (madeCells #[.int .i64 0] zs.length) 3)).alloc (.cells #[.slice (some ⟨w.heap.size + 1, 0, none⟩) zs.length zs.length] 26)).alloc (.cells #[.slice A zs.length c] 26)) :=
    (((below_alloc _ _).alloc (by simp) _).alloc (by simp; omega) _).alloc (by simp; omega) _
  have hS0 : RowSt w zs n [] ((((w.alloc (.cells #[.int .i64 n] 3)).alloc (.cells (madeCells #[.int .i64 0] zs.length) 3)).alloc (.cells #[.slice (some ⟨w.heap.size + 1, 0, none⟩) zs.length zs.length] 26)).alloc (.cells #[.slice A zs.length c] 26)) := by
    refine ⟨?_, ?_, ?_⟩
    · exact (((Boxed.new w 3 (.int .i64 n)).alloc _).alloc _).alloc _
    · have h2 := World.alloc_heap_new (w.alloc (.cells #[.int .i64 n] 3)) (.cells (madeCells #[.int .i64 0] zs.length) 3)
      rw [World.size_alloc] at h2
      have h3 := blk_old (blk_old h2 (below_alloc _ (.cells #[.slice (some ⟨w.heap.size + 1, 0, none⟩) zs.length zs.length] 26))) (below_alloc _ (.cells #[.slice A zs.length c] 26))
      refine h3.trans ?_
      rw [made_zero]
      rfl
    · have h2 := Boxed.new ((w.alloc (.cells #[.int .i64 n] 3)).alloc (.cells (madeCells #[.int .i64 0] zs.length) 3)) 26 (.slice (some ⟨w.heap.size + 1, 0, none⟩) zs.length zs.length)
      simp only [World.size_alloc] at h2
      exact h2.alloc _
  have hbx : ((((w.alloc (.cells #[.int .i64 n] 3)).alloc (.cells (madeCells #[.int .i64 0] zs.length) 3)).alloc (.cells #[.slice (some ⟨w.heap.size + 1, 0, none⟩) zs.length zs.length] 26)).alloc (.cells #[.slice A zs.length c] 26)).cell? ⟨w.heap.size + 3, 0, none⟩ = some (.slice A zs.length c) := by
    have := Boxed.new (((w.alloc (.cells #[.int .i64 n] 3)).alloc (.cells (madeCells #[.int .i64 0] zs.length) 3)).alloc (.cells #[.slice (some ⟨w.heap.size + 1, 0, none⟩) zs.length zs.length] 26)) 26 (.slice A zs.length c)
    simp only [World.size_alloc] at this
    exact this.cell
  have hI : RInts ((((w.alloc (.cells #[.int .i64 n] 3)).alloc (.cells (madeCells #[.int .i64 0] zs.length) 3)).alloc (.cells #[.slice (some ⟨w.heap.size + 1, 0, none⟩) zs.length zs.length] 26)).alloc (.cells #[.slice A zs.length c] 26)) (.slice A zs.length c) zs := H.out.keep hB0
  have hsz4 : ((((w.alloc (.cells #[.int .i64 n] 3)).alloc (.cells (madeCells #[.int .i64 0] zs.length) 3)).alloc (.cells #[.slice (some ⟨w.heap.size + 1, 0, none⟩) zs.length zs.length] 26)).alloc (.cells #[.slice A zs.length c] 26)).heap.size = w.heap.size + 4 := by simp
  have hbs : (((w.alloc (.cells #[.int .i64 n] 3)).alloc (.cells (madeCells #[.int .i64 0] zs.length) 3)).alloc (.cells #[.slice (some ⟨w.heap.size + 1, 0, none⟩) zs.length zs.length] 26)).heap.size = w.heap.size + 3 := by simp
  generalize hW4 : (((w.alloc (.cells #[.int .i64 n] 3)).alloc (.cells (madeCells #[.int .i64 0] zs.length) 3)).alloc (.cells #[.slice (some ⟨w.heap.size + 1, 0, none⟩) zs.length zs.length] 26)).alloc (.cells #[.slice A zs.length c] 26) = W4 at hB0 hS0 hbx hI hsz4 ⊢
  clear hmk hbs
  gi_wp2
  refine wpIn_rangeFunc_ownG rfl (by omega) (gf := 104) (lb := #[.pointer (some ⟨w.heap.size + 1 + 1 + 1, 0, none⟩)]) rfl trivial (enters_of Try.func104 (by kernel_rfl) rfl)
    (bw_stops Fence.wide 7 trivial rfl (by omega) (w.heap.size + 1 + 1 + 1) c A zs (by omega) w H.out W4 hB0 hbx) bwKp_t (bwKp_b (by omega)) (Below.refl _ _) (fun _ => rfl)
    (fun pre W => RowSt w zs n pre W ∧ Below w.heap.size w W)
    (fun _ _ _ => False)
    (OwnFrom.and (Own.from (rowSt_own w zs n) _) (ownFrom_below (Nat.le_refl _) (by omega)))
    (fun _ _ _ _ _ hs _ _ => hs)
    ⟨hS0, hB0⟩
    (fun x => { tmps := #[.slice A zs.length c, .int .i64 n, undef, .pointer (some ⟨w.heap.size, 0, none⟩), .slice none 0 0, .pointer (some ⟨w.heap.size + 1 + 1, 0, none⟩), .int .i64 (x.1.1 : Int), .int .i64 x.1.2, .slice A zs.length c, .int .i64 (zs.length : Int), .slice (some ⟨w.heap.size + 1, 0, none⟩) zs.length zs.length, .slice A zs.length c, .func (.func 104) #[] #[.pointer (some ⟨w.heap.size + 1 + 1 + 1, 0, none⟩)], .int .i64 (x.1.1 : Int), .int .i64 x.1.2, undef, undef, undef, undef, undef, undef, undef, undef, undef, undef], defers := [] }) ?assign ?body ?done ?stop
  case assign =>
    intro l x W K hK
    gi_wp2
    exact hK
  case body =>
    rintro l pre x W ⟨hS, hB⟩ _
    have hx := at_size HZ.out x
    have hq := rowNum_in HZ.out h0 h1 pre
    have HS := Lib.hid hS
    obtain ⟨s1, s2, s3⟩ := hS
    have c1 := s1.cell
    have c2 := s1.frozen
    have c3 := s3.cell
    have hxl : (x.1.1 : Int) < (zs.length : Int) := by omega
    have d1 : W.cell? ⟨w.heap.size + 1, x.1.1, none⟩ = some (.int .i64 ((rowFill n (List.replicate zs.length 0) (prs pre))[x.1.1]'(by rw [rowFill_len]; simp; omega))) := by
      rw [blk_cell s2]; simp
    have d2 := blk_free s2 x.1.1
    generalize (rowFill n (List.replicate zs.length 0) (prs pre))[x.1.1]'(by rw [rowFill_len]; simp; omega) = y at d1
    have HST := Lib.hid (rowSt_step HS.out x hx.1)
    have hw1 : (rowNum n (prs pre)).tmod x.1.2 = rowNum n (prs pre) % x.1.2 := Int.tmod_eq_emod_of_nonneg hq.1
    have hw2 : (rowNum n (prs pre)).tdiv x.1.2 = rowNum n (prs pre) / x.1.2 := Int.tdiv_eq_ediv_of_nonneg hq.1
    have hm0 := Int.emod_nonneg (rowNum n (prs pre)) (show x.1.2 ≠ 0 by omega)
    have hm1 := Int.emod_lt_of_pos (rowNum n (prs pre)) (show 0 < x.1.2 by omega)
    have hd0 : 0 ≤ rowNum n (prs pre) / x.1.2 := Int.ediv_nonneg hq.1 (by omega)
    have hd1 : rowNum n (prs pre) / x.1.2 ≤ rowNum n (prs pre) := Int.ediv_le_self _ hq.1
    have hz0 : ¬ x.1.2 = 0 := by omega
    generalize rowNum n (prs pre) / x.1.2 = qd at hw2 hd0 hd1 HST
    generalize rowNum n (prs pre) % x.1.2 = qm at hw1 hm0 hm1 HST
    generalize rowNum n (prs pre) = q at hw1 hw2 hq hd1 c1 s1
    clear s1 s2 s3
    have hqm : qm ≤ 3 := by omega
    have hqw1 : IntKind.i64.wrap qm = qm := by rw [IntKind.wrap_i64]; omega
    have hqd : qd ≤ 1000 := by omega
    have hqw2 : IntKind.i64.wrap qd = qd := by rw [IntKind.wrap_i64]; omega
    have hmo : Try.prog.follows .mixedOrders = true := by kernel_rfl
    have g1 : (W.drew.setCell ⟨w.heap.size + 1, x.1.1, none⟩ (.int .i64 qm)).cell? ⟨w.heap.size, 0, none⟩ = some (.int .i64 q) := (rw_far (by omega) _ _ _).trans c1
    have g2 : (W.drew.setCell ⟨w.heap.size + 1, x.1.1, none⟩ (.int .i64 qm)).frozen? ⟨w.heap.size, 0, none⟩ = false := by rw [World.frozen?_setCell]; exact c2
    have HK := Lib.hid (show KeepsFrom W4.heap.size W ((W.drew.setCell ⟨w.heap.size + 1, x.1.1, none⟩ (.int .i64 qm)).setCell ⟨w.heap.size, 0, none⟩ (.int .i64 qd)) ∧ BwKp w (w.heap.size + 1 + 1 + 1) (.slice A zs.length c) W ((W.drew.setCell ⟨w.heap.size + 1, x.1.1, none⟩ (.int .i64 qm)).setCell ⟨w.heap.size, 0, none⟩ (.int .i64 qd)) ∧ RowSt w zs n (pre ++ [x]) ((W.drew.setCell ⟨w.heap.size + 1, x.1.1, none⟩ (.int .i64 qm)).setCell ⟨w.heap.size, 0, none⟩ (.int .i64 qd)) ∧ Below w.heap.size w ((W.drew.setCell ⟨w.heap.size + 1, x.1.1, none⟩ (.int .i64 qm)).setCell ⟨w.heap.size, 0, none⟩ (.int .i64 qd)) from
      ⟨(((KeepsOthers.drew W).trans (KeepsOthers.setCell _ _ _)).trans (KeepsOthers.setCell _ _ _)).from _,
       ⟨((rw_drew (Below.refl w.heap.size W)).setCell (p := ⟨w.heap.size + 1, x.1.1, none⟩) (by show w.heap.size ≤ w.heap.size + 1; omega) _).setCell (p := ⟨w.heap.size, 0, none⟩) (Nat.le_refl _) _, fun hc => (rw_far (by omega) _ _ _).trans ((rw_far (by omega) _ _ _).trans hc)⟩,
       HST.out,
       ((rw_drew hB).setCell (p := ⟨w.heap.size + 1, x.1.1, none⟩) (by show w.heap.size ≤ w.heap.size + 1; omega) _).setCell (p := ⟨w.heap.size, 0, none⟩) (Nat.le_refl _) _⟩)
    gi_wp2
    gi_region_with_o (fail)
    all_goals gi_wp2
    all_goals exact HK.out
  case done =>
    rintro D ys W hD rfl ⟨hS, hB⟩ hK
    have HS := Lib.hid hS
    have c3 := hS.2.2.cell
    have hm1 : zs.length ≤ 9223372036854775807 := by omega
    have HR := Lib.hid (row_all HZ.out n)
    clear hS hS0 hbx hI
    gi_wp2
    refine ⟨by simp, .inl ⟨_, _, rfl, run_takeDeferred hK, ?_⟩⟩
    have hk := block_kept HS.out.2.1 (grownBy_putObj' W D (.deferred none)) (fun r e => by cases e; exact ⟨_, hK, rfl⟩)
    rw [HR.out] at hk
    have ho := row_owns (B := w.heap.size) hk (by omega) (by rw [digM_len]; exact hm1)
    rw [digM_len] at ho
    exact ⟨.slice (some ⟨w.heap.size + 1, 0, none⟩) zs.length zs.length, by simp [results, Try.results61, go_sem], _, rfl, ho, hB.trans (belowK_b (w := w) (Nat.le_refl _) W D _ _ (by have := hB0.size; omega) hK rfl rfl)⟩
  case stop =>
    rintro D c pre W _ _ h _
    exact h.elim
end

section
open Go.RowKit
set_option linter.unusedVariables false

theorem RInts.cut {w : World} {b o c k e : Nat} {A : Option Addr} {t : List Int} (h : RInts w (.slice (some ⟨b, o, none⟩) t.length c) t) (hk : k ≤ e) (he : e ≤ t.length) (hA : A = some ⟨b, o + k, none⟩) :
    RInts w (.slice A (e - k) (c - k)) ((t.drop k).take (e - k)) := by
  subst hA
  have hl : ((t.drop k).take (e - k)).length = e - k := by rw [List.length_take, List.length_drop]; omega
  obtain ⟨A', c', e', h1, h2, h3⟩ := h
  cases e'
  refine ⟨some ⟨b, o + k, none⟩, c - k, by rw [hl], by rw [hl]; omega, by omega, fun j x hj => ?_⟩
  rw [List.getElem?_take] at hj
  split at hj
  · rw [List.getElem?_drop] at hj
    obtain ⟨b', o', e', hc⟩ := h3 _ _ hj
    cases e'
    exact ⟨b, o + k, rfl, by rw [← hc]; congr 2; omega⟩
  · cases hj



theorem atM_nil {s : MSig} {vars t : List Int} {k : Int} (h : ¬ (0 ≤ sortM s vars t ∧ 0 ≤ k ∧ k < t.length)) : atM s vars t k = [] := by unfold atM; rw [if_neg h]
theorem atM_yes {s : MSig} {vars t : List Int} {k : Nat} (h : 0 ≤ sortM s vars t) (hk : k < t.length) : atM s vars t k = partM s vars t k := by unfold atM; rw [if_pos ⟨h, by omega, by omega⟩, Int.toNat_natCast]

theorem at_small {s : MSig} {vars t : List Int} {a : Int} (h : Small t) : Small (atM s vars t a) := fun x hx => by
  by_cases hc : 0 ≤ sortM s vars t ∧ 0 ≤ a ∧ a < (t.length : Int)
  · obtain ⟨k, rfl⟩ := Int.eq_ofNat_of_zero_le hc.2.1
    obtain ⟨pre, sub, post, a1, a2, a3, a4, a5, -⟩ := part_of hc.1 (k := k) (by omega)
    rw [atM_yes hc.1 (by omega), a5] at hx
    exact h x (by rw [a1]; simp [hx])
  · rw [atM_nil hc] at hx; simp at hx
/-- a part that there is -/
theorem at_there {s : MSig} {vars t : List Int} {a : Int} (h : atM s vars t a ≠ []) : ∃ (k : Nat) (pre : List Int) (sub : Tm) (post : List Int), a = (k : Int) ∧ k < t.length ∧ t.length ≤ 30 ∧ 0 ≤ sortM s vars t ∧ varsB s vars = true ∧ t = pre ++ sub.row ++ post ∧ pre.length = k ∧ atM s vars t a = sub.row ∧ sortM s vars sub.row = sub.sort ∧ 0 ≤ sub.sort ∧ wfT s vars sub ∧ 1 ≤ sub.row.length ∧
    ∀ u : Tm, wfT s vars u → u.sort = sub.sort → (pre ++ u.row ++ post).length ≤ 30 → sortM s vars (pre ++ u.row ++ post) = sortM s vars t := by
  by_cases hc : 0 ≤ sortM s vars t ∧ 0 ≤ a ∧ a < (t.length : Int)
  · obtain ⟨k, rfl⟩ := Int.eq_ofNat_of_zero_le hc.2.1
    have hk : k < t.length := by omega
    obtain ⟨pre, sub, post, a1, a2, a3, a4, a5, a6, a7, a8⟩ := part_of hc.1 hk
    obtain ⟨tm0, hvo, hl30, -⟩ := sortM_to hc.1
    exact ⟨k, pre, sub, post, rfl, hk, hl30, hc.1, hvo, a1, a2, by rw [atM_yes hc.1 hk, a5], a6, a7, a3, row_pos sub, a8⟩
  · exact absurd (atM_nil hc) h
end

section
open Go.RowKit
set_option linter.unusedVariables false

def putM (s : MSig) (vars t others : List Int) (terms : List (List Int)) : List Int × Bool :=
  if 0 ≤ sortM s vars t ∧ fitsB s others terms vars = true ∧ (putRow terms t).length ≤ 30 then (putRow terms t, true) else ([], false)
def putOne (terms : List (List Int)) (n : Int) : List Int := if 100 ≤ n then terms.getD (n - 100).toNat [] else [n]
theorem putRow_take {terms : List (List Int)} {t : List Int} {k : Nat} (hk : k < t.length) : putRow terms (t.take (k + 1)) = putRow terms (t.take k) ++ putOne terms t[k] := by
  unfold putRow putOne
  rw [List.take_succ_eq_append_getElem hk, List.flatMap_append]; simp
theorem fits_len {s : MSig} {others sorts : List Int} {terms : List (List Int)} (h : fitsB s others terms sorts = true) : terms.length = sorts.length ∧ varsB s others = true ∧ ∀ k (hk : k < terms.length), sortM s others terms[k] = sorts.getD k 0 ∧ 0 ≤ sortM s others terms[k] := by
  rw [fitsB_eq] at h
  simp only [Bool.and_eq_true, decide_eq_true_eq, List.all_eq_true] at h
  refine ⟨h.2.1, h.1, fun k hk => ?_⟩
  have hz : k < (terms.zip sorts).length := by rw [List.length_zip]; omega
  have hp := h.2.2 _ (List.getElem_mem hz)
  rw [List.getElem_zip] at hp
  unfold fitP at hp
  simp only [Bool.and_eq_true, decide_eq_true_eq] at hp
  rw [getD_at _ (by omega)]
  exact ⟨hp.2, by rw [hp.2]; exact hp.1⟩
theorem fits_rows {s : MSig} {others sorts : List Int} {terms : List (List Int)} (h : fitsB s others terms sorts = true) : ∀ k (hk : k < terms.length), 1 ≤ terms[k].length ∧ terms[k].length ≤ 30 := fun k hk => by
  obtain ⟨tm, a, b, c, d, e⟩ := sortM_to ((fits_len h).2.2 k hk).2
  have := row_pos tm
  rw [d] at this
  exact ⟨this, b⟩
theorem sort_nums {s : MSig} {vars t : List Int} (h : 0 ≤ sortM s vars t) : ∀ n ∈ t, n < 100 ∨ (100 ≤ n ∧ n < 100 + (vars.length : Int)) := fun n hn => by
  obtain ⟨tm, a, b, c, d, e⟩ := sortM_to h
  subst d
  have hv := (vars_valid a).1
  rcases nums_t (ops_few hv) tm c n hn with hh | hh
  · have := (valid_sorts hv).2.2; omega
  · exact .inr hh
/-- what the loops of both need: each number an operation or a letter, each row neither empty nor long -/
structure PutOk (t : List Int) (terms : List (List Int)) : Prop where
  few : t.length ≤ 30
  nums : ∀ n ∈ t, n < 100 ∨ (100 ≤ n ∧ n < 100 + (terms.length : Int))
  rows : ∀ k (hk : k < terms.length), 1 ≤ terms[k].length ∧ terms[k].length ≤ 30
theorem putOk_of {s : MSig} {vars t others : List Int} {terms : List (List Int)} (h1 : 0 ≤ sortM s vars t) (h2 : fitsB s others terms vars = true) : PutOk t terms := by
  obtain ⟨tm, a, b, c, d, e⟩ := sortM_to h1
  exact ⟨b, fun n hn => by have := sort_nums h1 n hn; rw [(fits_len h2).1]; exact this, fits_rows h2⟩
theorem PutOk.one {t : List Int} {terms : List (List Int)} (h : PutOk t terms) {n : Int} (hn : n ∈ t) : 1 ≤ (putOne terms n).length ∧ (putOne terms n).length ≤ 30 := by
  unfold putOne
  rcases h.nums n hn with hh | hh
  · rw [if_neg (by omega)]; simp
  · rw [if_pos hh.1, getD_at _ (by omega)]; exact h.rows _ (by omega)
theorem PutOk.short {t : List Int} {terms : List (List Int)} (h : PutOk t terms) : ∀ k, k ≤ t.length → (putRow terms (t.take k)).length ≤ 30 * k := fun k => by
  induction k with
  | zero => intro _; simp [putRow]
  | succ k ih =>
    intro hk
    rw [putRow_take (by omega), List.length_append]
    have := ih (by omega)
    have := (h.one (List.getElem_mem (show k < t.length by omega))).2
    omega
theorem app_ints {w : World} {B m : Nat} {v : Value} {ps rs : List Int} (hm : rs.length = m) (h : w.ownsRow B 3 1 v (ps.length + m) (ps.map (Value.int .i64) ++ rs.map (Value.int .i64))) : OInts w B v (ps ++ rs) := by
  unfold OInts; rw [List.length_append, List.map_append, hm]; exact h
theorem one_new (w : World) (n : Int) : ∀ (j : Nat) (u : Value), ([n].map (Value.int .i64))[j]? = some u → (w.alloc (.cells #[.int .i64 n] 3)).cell? ((⟨w.heap.size, 0, none⟩ : Addr).add j) = some u := by
  intro j u hj
  match j, hj with
  | 0, hj =>
    simp at hj
    subst hj
    rw [show (⟨w.heap.size, 0, none⟩ : Addr).add 0 = ⟨w.heap.size, 0, none⟩ by simp [Addr.add], World.cell?_alloc_at _ _ _ _ rfl]; rfl

theorem putM_no {s : MSig} {vars t others : List Int} {terms : List (List Int)} (h : ¬ (0 ≤ sortM s vars t ∧ fitsB s others terms vars = true ∧ (putRow terms t).length ≤ 30)) : putM s vars t others terms = ([], false) := by unfold putM; rw [if_neg h]
theorem putM_yes {s : MSig} {vars t others : List Int} {terms : List (List Int)} (h : 0 ≤ sortM s vars t ∧ fitsB s others terms vars = true ∧ (putRow terms t).length ≤ 30) : putM s vars t others terms = (putRow terms t, true) := by unfold putM; rw [if_pos h]

/-- what a function that makes a row and tells whether it could answers -/
def PairPost (R : List Int × Bool) (w : World) (e : Ending) (w' : World) : Prop := ∃ u, e = .returned (.tuple #[u, .bool R.2]) ∧ OInts w' w.heap.size u R.1 ∧ Below w.heap.size w w'
end

section
open Go.RowKit
set_option linter.unusedVariables false
set_option linter.unusedSimpArgs false

set_option maxHeartbeats 3200000 in
set_option maxRecDepth 100000 in
theorem failsAt_any (s : MSig) (m : MModel) (e : MEq) (w : World) (v v' v2 : Value) (hsm : SmallE e) (h1 : RSig w v s) (h2 : RModel w v' m) (h3 : REq w v2 e) :
    Calls Try.prog 20 #[v, v', v2] w (PairPost (failsM s m e) w) := by
  obtain ⟨Asa, csa, rfl⟩ := h1.form
  obtain ⟨Ama, cma, Amb, cmb, rfl⟩ := h2.form
  obtain ⟨Aea, cea, Aeb, ceb, Aec, cec, rfl⟩ := h3.form
  have hb : Below w.heap.size w (((w.alloc (.cells #[.int .i64 s.sorts, .slice Asa s.ops.length csa] 25)).alloc (.cells #[.slice Ama m.sizes.length cma, .slice Amb m.tables.length cmb] 28)).alloc (.cells #[.slice Aea e.vars.length cea, .slice Aeb e.left.length ceb, .slice Aec e.right.length cec] 41)) := ((below_alloc _ _).alloc (by simp) _).alloc (by simp; omega) _
  have HB := Lib.hid hb
  have hsz : (((w.alloc (.cells #[.int .i64 s.sorts, .slice Asa s.ops.length csa] 25)).alloc (.cells #[.slice Ama m.sizes.length cma, .slice Amb m.tables.length cmb] 28)).alloc (.cells #[.slice Aea e.vars.length cea, .slice Aeb e.left.length ceb, .slice Aec e.right.length cec] 41)).heap.size = w.heap.size + 3 := by simp
  have Hs := Lib.hid (h1.keep hb)
  have s0 := cell_keep (below_alloc ((w.alloc (.cells #[.int .i64 s.sorts, .slice Asa s.ops.length csa] 25)).alloc (.cells #[.slice Ama m.sizes.length cma, .slice Amb m.tables.length cmb] 28)) (.cells #[.slice Aea e.vars.length cea, .slice Aeb e.left.length ceb, .slice Aec e.right.length cec] 41)) (cell_keep (below_alloc (w.alloc (.cells #[.int .i64 s.sorts, .slice Asa s.ops.length csa] 25)) (.cells #[.slice Ama m.sizes.length cma, .slice Amb m.tables.length cmb] 28)) (bx_at (w) #[.int .i64 s.sorts, .slice Asa s.ops.length csa] 25 (k := 0) rfl))
  have s1 := cell_keep (below_alloc ((w.alloc (.cells #[.int .i64 s.sorts, .slice Asa s.ops.length csa] 25)).alloc (.cells #[.slice Ama m.sizes.length cma, .slice Amb m.tables.length cmb] 28)) (.cells #[.slice Aea e.vars.length cea, .slice Aeb e.left.length ceb, .slice Aec e.right.length cec] 41)) (cell_keep (below_alloc (w.alloc (.cells #[.int .i64 s.sorts, .slice Asa s.ops.length csa] 25)) (.cells #[.slice Ama m.sizes.length cma, .slice Amb m.tables.length cmb] 28)) (bx_at (w) #[.int .i64 s.sorts, .slice Asa s.ops.length csa] 25 (k := 1) rfl))
  have Hm := Lib.hid (h2.keep hb)
  have m0 := cell_keep (below_alloc ((w.alloc (.cells #[.int .i64 s.sorts, .slice Asa s.ops.length csa] 25)).alloc (.cells #[.slice Ama m.sizes.length cma, .slice Amb m.tables.length cmb] 28)) (.cells #[.slice Aea e.vars.length cea, .slice Aeb e.left.length ceb, .slice Aec e.right.length cec] 41)) (bx_at (w.alloc (.cells #[.int .i64 s.sorts, .slice Asa s.ops.length csa] 25)) #[.slice Ama m.sizes.length cma, .slice Amb m.tables.length cmb] 28 (k := 0) rfl)
  have m1 := cell_keep (below_alloc ((w.alloc (.cells #[.int .i64 s.sorts, .slice Asa s.ops.length csa] 25)).alloc (.cells #[.slice Ama m.sizes.length cma, .slice Amb m.tables.length cmb] 28)) (.cells #[.slice Aea e.vars.length cea, .slice Aeb e.left.length ceb, .slice Aec e.right.length cec] 41)) (bx_at (w.alloc (.cells #[.int .i64 s.sorts, .slice Asa s.ops.length csa] 25)) #[.slice Ama m.sizes.length cma, .slice Amb m.tables.length cmb] 28 (k := 1) rfl)
  have He := Lib.hid (h3.keep hb)
  have e0 := bx_at ((w.alloc (.cells #[.int .i64 s.sorts, .slice Asa s.ops.length csa] 25)).alloc (.cells #[.slice Ama m.sizes.length cma, .slice Amb m.tables.length cmb] 28)) #[.slice Aea e.vars.length cea, .slice Aeb e.left.length ceb, .slice Aec e.right.length cec] 41 (k := 0) rfl
  have e1 := bx_at ((w.alloc (.cells #[.int .i64 s.sorts, .slice Asa s.ops.length csa] 25)).alloc (.cells #[.slice Ama m.sizes.length cma, .slice Amb m.tables.length cmb] 28)) #[.slice Aea e.vars.length cea, .slice Aeb e.left.length ceb, .slice Aec e.right.length cec] 41 (k := 1) rfl
  have e2 := bx_at ((w.alloc (.cells #[.int .i64 s.sorts, .slice Asa s.ops.length csa] 25)).alloc (.cells #[.slice Ama m.sizes.length cma, .slice Amb m.tables.length cmb] 28)) #[.slice Aea e.vars.length cea, .slice Aeb e.left.length ceb, .slice Aec e.right.length cec] 41 (k := 2) rfl
  simp only [World.size_alloc] at m0 m1 e0 e1 e2
  generalize hW : ((w.alloc (.cells #[.int .i64 s.sorts, .slice Asa s.ops.length csa] 25)).alloc (.cells #[.slice Ama m.sizes.length cma, .slice Amb m.tables.length cmb] 28)).alloc (.cells #[.slice Aea e.vars.length cea, .slice Aeb e.left.length ceb, .slice Aec e.right.length cec] 41) = W at HB hsz Hs s0 s1 Hm m0 m1 He e0 e1 e2
  clear hb h1 h2 h3
  have HSM := Lib.hid hsm
  clear hsm
  cases hok : eqOkB s e with
  | false =>
    have HOK := Lib.hid hok
    have HE := Lib.hid (fails_no1 (m := m) hok)
    clear hok
    go_enter Try.func20, Try.ntmps20
    go_wp2_with fail
    clear hW
    refine (eqOk_any s e _ _ _ HSM.out Hs.out He.out).mono ?_
    rw [HOK.out]
    rintro x w1 ⟨rfl, hb⟩
    replace HB := Lib.hid (sz_keep HB.out hb)
    replace s0 := cell_keep hb s0
    replace s1 := cell_keep hb s1
    replace m0 := cell_keep hb m0
    replace m1 := cell_keep hb m1
    replace e0 := cell_keep hb e0
    replace e1 := cell_keep hb e1
    replace e2 := cell_keep hb e2
    replace Hs := Lib.hid (Hs.out.keep hb)
    replace Hm := Lib.hid (Hm.out.keep hb)
    replace He := Lib.hid (He.out.keep hb)
    clear hb
    go_wp2
    refine bodyPost_ret (v := .tuple #[.slice none 0 0, .bool false]) (by simp [results, Try.results20, go_sem]) rfl ?_
    rw [HE.out]
    exact ⟨_, rfl, OInts.nil _ _, HB.out⟩
  | true =>
    have HOK := Lib.hid hok
    clear hok
    cases hmo : modelB s m with
    | false =>
      have HMO := Lib.hid hmo
      have HE := Lib.hid (fails_no2 (e := e) hmo)
      clear hmo
      go_enter Try.func20, Try.ntmps20
      go_wp2_with fail
      clear hW
      refine (eqOk_any s e _ _ _ HSM.out Hs.out He.out).mono ?_
      rw [HOK.out]
      rintro x w1 ⟨rfl, hb⟩
      replace HB := Lib.hid (sz_keep HB.out hb)
      replace s0 := cell_keep hb s0
      replace s1 := cell_keep hb s1
      replace m0 := cell_keep hb m0
      replace m1 := cell_keep hb m1
      replace e0 := cell_keep hb e0
      replace e1 := cell_keep hb e1
      replace e2 := cell_keep hb e2
      replace Hs := Lib.hid (Hs.out.keep hb)
      replace Hm := Lib.hid (Hm.out.keep hb)
      replace He := Lib.hid (He.out.keep hb)
      clear hb
      go_wp2_with fail
      refine (modelOk_any s m _ _ _ Hs.out Hm.out).mono ?_
      rw [HMO.out]
      rintro x w2 ⟨rfl, hb⟩
      replace HB := Lib.hid (sz_keep HB.out hb)
      replace s0 := cell_keep hb s0
      replace s1 := cell_keep hb s1
      replace m0 := cell_keep hb m0
      replace m1 := cell_keep hb m1
      replace e0 := cell_keep hb e0
      replace e1 := cell_keep hb e1
      replace e2 := cell_keep hb e2
      replace Hs := Lib.hid (Hs.out.keep hb)
      replace Hm := Lib.hid (Hm.out.keep hb)
      replace He := Lib.hid (He.out.keep hb)
      clear hb
      go_wp2
      refine bodyPost_ret (v := .tuple #[.slice none 0 0, .bool false]) (by simp [results, Try.results20, go_sem]) rfl ?_
      rw [HE.out]
      exact ⟨_, rfl, OInts.nil _ _, HB.out⟩
    | true =>
      have HMO := Lib.hid hmo
      obtain ⟨hvb, l, r, hl, hr, hwl, hwr, -⟩ := eq_terms HOK.out
      have HF := Lib.hid (fails_yes HOK.out hmo hl hr)
      have HMF := Lib.hid (model_facts hmo)
      have HVB := Lib.hid (vars_valid hvb)
      have HVV := Lib.hid hvb
      have HL := Lib.hid hl
      have HR := Lib.hid hr
      have HWL := Lib.hid hwl
      have HWR := Lib.hid hwr
      have HRV : Hid (∀ x ∈ e.vars, 0 ≤ x ∧ x < s.sorts) := fun x hx => by obtain ⟨k, hk, rfl⟩ := List.getElem_of_mem hx; exact HVB.out.2.2 k hk
      have HZS : Hid (Sizes (ledM m.sizes e.vars)) := HMF.out.led HRV.out
      have hv4 := HVB.out.2.1
      clear hmo hvb hl hr hwl hwr
      go_enter Try.func20, Try.ntmps20
      go_wp2_with fail
      clear hW
      refine (eqOk_any s e _ _ _ HSM.out Hs.out He.out).mono ?_
      rw [HOK.out]
      rintro x w1 ⟨rfl, hb⟩
      replace HB := Lib.hid (sz_keep HB.out hb)
      replace s0 := cell_keep hb s0
      replace s1 := cell_keep hb s1
      replace m0 := cell_keep hb m0
      replace m1 := cell_keep hb m1
      replace e0 := cell_keep hb e0
      replace e1 := cell_keep hb e1
      replace e2 := cell_keep hb e2
      replace Hs := Lib.hid (Hs.out.keep hb)
      replace Hm := Lib.hid (Hm.out.keep hb)
      replace He := Lib.hid (He.out.keep hb)
      clear hb
      go_wp2_with fail
      refine (modelOk_any s m _ _ _ Hs.out Hm.out).mono ?_
      rw [HMO.out]
      rintro x w2 ⟨rfl, hb⟩
      replace HB := Lib.hid (sz_keep HB.out hb)
      replace s0 := cell_keep hb s0
      replace s1 := cell_keep hb s1
      replace m0 := cell_keep hb m0
      replace m1 := cell_keep hb m1
      replace e0 := cell_keep hb e0
      replace e1 := cell_keep hb e1
      replace e2 := cell_keep hb e2
      replace Hs := Lib.hid (Hs.out.keep hb)
      replace Hm := Lib.hid (Hm.out.keep hb)
      replace He := Lib.hid (He.out.keep hb)
      clear hb
      go_wp2_with fail
      refine (termOf_any s e.vars e.left _ _ _ _ HSM.out.1 Hs.out He.out.of.1 He.out.of.2.1).mono ?_
      rw [HL.out]
      rintro x w3 ⟨⟨ul, rfl, hul⟩, hb⟩
      have HUL := Lib.hid hul
      obtain ⟨Tl, yl, -, rfl, -⟩ := hul.sorts
      replace HB := Lib.hid (sz_keep HB.out hb)
      replace s0 := cell_keep hb s0
      replace s1 := cell_keep hb s1
      replace m0 := cell_keep hb m0
      replace m1 := cell_keep hb m1
      replace e0 := cell_keep hb e0
      replace e1 := cell_keep hb e1
      replace e2 := cell_keep hb e2
      replace Hs := Lib.hid (Hs.out.keep hb)
      replace Hm := Lib.hid (Hm.out.keep hb)
      replace He := Lib.hid (He.out.keep hb)
      clear hb
      clear hul
      go_wp2_with fail
      refine (termOf_any s e.vars e.right _ _ _ _ HSM.out.2 Hs.out He.out.of.1 He.out.of.2.2).mono ?_
      rw [HR.out]
      rintro x w4 ⟨⟨ur, rfl, hur⟩, hb⟩
      have HUR := Lib.hid hur
      obtain ⟨Tr, yr, -, rfl, -⟩ := hur.sorts
      replace HUL := Lib.hid (HUL.out.below hb)
      replace HB := Lib.hid (sz_keep HB.out hb)
      replace s0 := cell_keep hb s0
      replace s1 := cell_keep hb s1
      replace m0 := cell_keep hb m0
      replace m1 := cell_keep hb m1
      replace e0 := cell_keep hb e0
      replace e1 := cell_keep hb e1
      replace e2 := cell_keep hb e2
      replace Hs := Lib.hid (Hs.out.keep hb)
      replace Hm := Lib.hid (Hm.out.keep hb)
      replace He := Lib.hid (He.out.keep hb)
      clear hb
      clear hur
      go_wp2_with fail
      refine (sizesOf_any m e.vars _ _ _ Hm.out He.out.of.1 (HMF.out.into HRV.out) (by omega)).mono ?_
      rintro x w5 ⟨uz, rfl, hoz, hb⟩
      have HUZ := Lib.hid hoz.reads
      obtain ⟨Az, cz, rfl, -⟩ := hoz.reads.form
      replace HUL := Lib.hid (HUL.out.below hb)
      replace HUR := Lib.hid (HUR.out.below hb)
      replace HB := Lib.hid (sz_keep HB.out hb)
      replace s0 := cell_keep hb s0
      replace s1 := cell_keep hb s1
      replace m0 := cell_keep hb m0
      replace m1 := cell_keep hb m1
      replace e0 := cell_keep hb e0
      replace e1 := cell_keep hb e1
      replace e2 := cell_keep hb e2
      replace Hs := Lib.hid (Hs.out.keep hb)
      replace Hm := Lib.hid (Hm.out.keep hb)
      replace He := Lib.hid (He.out.keep hb)
      clear hb
      clear hoz
      have HLZ := Lib.hid (ledM_len m.sizes e.vars)
      have HDV := Lib.hid (fun n => dig_vals HMF.out HVV.out n)
      generalize hzs : ledM m.sizes e.vars = zs at HZS HUZ HF HLZ HDV
      have hzl : zs.length ≤ 4 := by rw [HLZ.out]; exact hv4
      clear hzs
      go_wp2_with fail
      refine (rowsOf_any zs _ _ HUZ.out HZS.out hzl).mono ?_
      rintro x w6 ⟨rfl, rfl⟩
      have hwp := ways_pos HZS.out
      have hwf := ways_few HZS.out hzl
      obtain ⟨N, hN⟩ : ∃ N : Nat, waysM zs = (N : Int) := ⟨(waysM zs).toNat, by omega⟩
      have HN := Lib.hid (show (waysM zs).toNat = N by omega)
      rw [hN] at hwp hwf ⊢
      have HC := Lib.hid (And.intro m0 m1)
      clear hN s0 s1 m0 m1 e0 e1 e2
      go_wp2
      go_loopw [13, 14, 49] (fun _ _ i wr => ∃ n : Nat, n ≤ N ∧ i = .int .i64 n ∧ NoFail m zs l r n ∧ Below w5.heap.size w5 wr) (fun _ _ i _ => N - (intOf i).toNat)
      case atStart => exact ⟨0, Nat.zero_le _, rfl, noFail_zero _ _ _ _, Below.refl _ _⟩
      case round =>
        obtain ⟨n, hn, rfl, hnf, hd⟩ := hrel
        have HNF := Lib.hid hnf
        have HD := Lib.hid hd
        clear hnf hd
        by_cases hlt : n < N
        · have hlt' : (n : Int) < (N : Int) := by omega
          go_wp2_with fail
          refine (rowAt_any zs (n : Int) _ _ (HUZ.out.keep HD.out) HZS.out hzl (by omega) (by omega)).mono ?_
          rintro x w7 ⟨uv, rfl, hov, hb7⟩
          have HOV := Lib.hid hov
          obtain ⟨Av, cv, rfl, -⟩ := hov.reads.form
          have HX7 := Lib.hid (sz_keep HD.out hb7)
          have HSZ7 := Lib.hid (sz_keep HB.out HX7.out).size
          have HWR7 := Lib.hid (show w.heap.size ≤ wr.heap.size from (sz_keep HB.out HD.out).size)
          have g0 := cell_keep HX7.out HC.out.1
          have g1 := cell_keep HX7.out HC.out.2
          have HVO := Lib.hid (HDV.out (n : Int))
          clear hov hb7
          generalize hds : digM zs (n : Int) = ds at HOV HVO ⊢
          have HDS := Lib.hid hds
          obtain ⟨vl, hvl⟩ : ∃ x, valT m ds l = x := ⟨_, rfl⟩
          obtain ⟨vr, hvr⟩ : ∃ x, valT m ds r = x := ⟨_, rfl⟩
          have HVL := Lib.hid hvl
          have HVR := Lib.hid hvr
          clear hds hvl hvr
          go_wp2_with fail
          refine wp_region_held_drew (S := (fun w' => w'.cell? ⟨w.heap.size + 1, 0, none⟩ = some (.slice Ama m.sizes.length cma) ∧ w'.cell? ⟨w.heap.size + 1, 1, none⟩ = some (.slice Amb m.tables.length cmb))) (by kernel_rfl) ?_ (fun hHeld => ?_)
          · exact ⟨g0, g1⟩
          refine wpAnyH_take (i := 0) (oi := _) (v := ?_) rfl (by kernel_rfl) (by kernel_rfl) (by kernel_rfl) (fun _ _ _ h => h) (Or.inl ⟨by rfl, ?_⟩) (by assumption) ?_
          rotate_left
          · first | (intro w' hSw; (try dsimp only at hSw); go_simp; done) | (intro w' hSw; (try dsimp only at hSw); go_simp; with_reducible rfl)
          try simp only [Act.put, List.getElem_toArray, List.getElem_cons_zero, List.getElem_cons_succ, List.setIfInBounds_toArray, List.set_cons_zero, List.set_cons_succ]
          refine wpAnyH_take (i := 1) (oi := _) (v := ?_) rfl (by kernel_rfl) (by kernel_rfl) (by kernel_rfl) (fun _ _ _ h => h) (Or.inl ⟨by rfl, ?_⟩) (by assumption) ?_
          rotate_left
          · first | (intro w' hSw; (try dsimp only at hSw); go_simp; done) | (intro w' hSw; (try dsimp only at hSw); go_simp; with_reducible rfl)
          try simp only [Act.put, List.getElem_toArray, List.getElem_cons_zero, List.getElem_cons_succ, List.setIfInBounds_toArray, List.set_cons_zero, List.set_cons_succ]
          refine wpAnyH_take (i := 2) (oi := _) (v := ?_) rfl (by kernel_rfl) (by kernel_rfl) (by kernel_rfl) (fun _ _ _ h => h) (Or.inl ⟨by rfl, ?_⟩) (by assumption) ?_
          rotate_left
          · first | (intro w' hSw; (try dsimp only at hSw); go_simp; done) | (intro w' hSw; (try dsimp only at hSw); go_simp; with_reducible rfl)
          try simp only [Act.put, List.getElem_toArray, List.getElem_cons_zero, List.getElem_cons_succ, List.setIfInBounds_toArray, List.set_cons_zero, List.set_cons_succ]
          refine wpAnyH_take (i := 4) (oi := _) (v := ?_) rfl (by kernel_rfl) (by kernel_rfl) (by kernel_rfl) (fun _ _ _ h => h) (Or.inl ⟨by rfl, ?_⟩) (by assumption) ?_
          rotate_left
          · first | (intro w' hSw; (try dsimp only at hSw); go_simp; done) | (intro w' hSw; (try dsimp only at hSw); go_simp; with_reducible rfl)
          try simp only [Act.put, List.getElem_toArray, List.getElem_cons_zero, List.getElem_cons_succ, List.setIfInBounds_toArray, List.set_cons_zero, List.set_cons_succ]
          refine wpAnyH_take (i := 5) (oi := _) (v := ?_) rfl (by kernel_rfl) (by kernel_rfl) (by kernel_rfl) (fun _ _ _ h => h) (Or.inl ⟨by rfl, ?_⟩) (by assumption) ?_
          rotate_left
          · first | (intro w' hSw; (try dsimp only at hSw); go_simp; done) | (intro w' hSw; (try dsimp only at hSw); go_simp; with_reducible rfl)
          try simp only [Act.put, List.getElem_toArray, List.getElem_cons_zero, List.getElem_cons_succ, List.setIfInBounds_toArray, List.set_cons_zero, List.set_cons_succ]
          refine wpAnyH_take (i := 6) (oi := _) (v := ?_) rfl (by kernel_rfl) (by kernel_rfl) (by kernel_rfl) (fun _ _ _ h => h) (Or.inl ⟨by rfl, ?_⟩) (by assumption) ?_
          rotate_left
          · first | (intro w' hSw; (try dsimp only at hSw); go_simp; done) | (intro w' hSw; (try dsimp only at hSw); go_simp; with_reducible rfl)
          try simp only [Act.put, List.getElem_toArray, List.getElem_cons_zero, List.getElem_cons_succ, List.setIfInBounds_toArray, List.set_cons_zero, List.set_cons_succ]
          refine wpAnyH_ready (rs := [3]) (by kernel_rfl) (by simp) ?_
          refine AllReadyH.cons (o := _) rfl (fun K hK => ?_) AllReadyH.nil
          go_simp
          refine (val_any HMF.out HVO.out l HWL.out _ _ _ _ _ ((Hm.out.keep HX7.out).keep (map_drew (Below.refl _ _))) ((HUL.out.below HX7.out).below (map_drew (Below.refl _ _))) (HOV.out.reads.keep (map_drew (Below.refl _ _)))).mono ?_
          rw [HVL.out]
          rintro x w8 ⟨rfl, hb8⟩
          have hx8 := map_undrew hb8
          have HX8 := Lib.hid hx8
          have j0 := cell_keep hx8 g0
          have j1 := cell_keep hx8 g1
          clear hb8 hx8
          go_wp2_with fail
          refine hK.out _ _ ?_ (fun hHeld => ?_)
          · exact ⟨j0, j1⟩
          clear hK K
          try simp only [Act.put, List.getElem_toArray, List.getElem_cons_zero, List.getElem_cons_succ, List.setIfInBounds_toArray, List.set_cons_zero, List.set_cons_succ]
          refine wpAnyH_ready (rs := [7]) (by kernel_rfl) (by simp) ?_
          refine AllReadyH.cons (o := _) rfl (fun K hK => ?_) AllReadyH.nil
          go_simp
          refine (val_any HMF.out HVO.out r HWR.out _ _ _ _ _ ((Hm.out.keep HX7.out).keep HX8.out) ((HUR.out.below HX7.out).below HX8.out) (HOV.out.reads.keep HX8.out)).mono ?_
          rw [HVR.out]
          rintro x w9 ⟨rfl, hb9⟩
          have HX9 := Lib.hid (sz_keep HX8.out hb9)
          have q0 := cell_keep hb9 j0
          have q1 := cell_keep hb9 j1
          clear hb9
          go_wp2_with fail
          refine hK.out _ _ ?_ (fun hHeld => ?_)
          · exact ⟨q0, q1⟩
          clear hK K
          try simp only [Act.put, List.getElem_toArray, List.getElem_cons_zero, List.getElem_cons_succ, List.setIfInBounds_toArray, List.set_cons_zero, List.set_cons_succ]
          refine wpAnyH_take (i := 8) (oi := _) (v := ?_) rfl (by kernel_rfl) (by kernel_rfl) (by kernel_rfl) (fun _ _ _ h => h) (Or.inl ⟨by rfl, ?_⟩) (by assumption) ?_
          rotate_left
          · first | (intro w' hSw; (try dsimp only at hSw); go_simp; done) | (intro w' hSw; (try dsimp only at hSw); go_simp; with_reducible rfl)
          try simp only [Act.put, List.getElem_toArray, List.getElem_cons_zero, List.getElem_cons_succ, List.setIfInBounds_toArray, List.set_cons_zero, List.set_cons_succ]
          refine wpAnyH_done (by kernel_rfl) ?_ _
          clear g0 g1 j0 j1 q0 q1
          by_cases hvv : vl = vr
          · have hne : (vl != vr) = false := by simp [hvv]
            have HST := Lib.hid (HNF.out.step (by rw [HN.out]; exact hlt) (by rw [HDS.out, HVL.out, HVR.out, hvv]))
            clear hvv
            go_wp2
            go_roundw
            case rel => exact ⟨n + 1, by omega, by go_num, HST.out, sz_keep HX7.out HX9.out⟩
            case measure => simp [intOf]; omega
          · have hne : (vl != vr) = true := by simpa using hvv
            have HHT := Lib.hid (HNF.out.hit (by rw [HN.out]; exact hlt) (by rw [HDS.out, HVL.out, HVR.out]; exact hvv))
            clear hvv
            go_wp2
            refine bodyPost_ret (v := .tuple #[.slice Av ds.length cv, .bool true]) (by simp [results, Try.results20, go_sem]) rfl ?_
            rw [HF.out, HHT.out, HDS.out]
            exact ⟨_, rfl, (HOV.out.keep HX9.out).base HWR7.out, sz_keep HB.out (sz_keep HX7.out HX9.out)⟩
        · have hnn : n = N := by omega
          have hlt' : ¬ (n : Int) < (N : Int) := by omega
          have HNO := Lib.hid (HNF.out.none (by rw [HN.out]; exact hnn))
          go_wp2
          refine bodyPost_ret (v := .tuple #[.slice none 0 0, .bool false]) (by simp [results, Try.results20, go_sem]) rfl ?_
          rw [HF.out, HNO.out]
          exact ⟨_, rfl, OInts.nil _ _, sz_keep HB.out HD.out⟩
end

section
open Go.RowKit
set_option linter.unusedVariables false
set_option linter.unusedSimpArgs false

theorem dig_zero (zs : List Int) : digM zs 0 = List.replicate zs.length 0 := by
  induction zs with
  | nil => rfl
  | cons z zs ih => simp [digM, ih, List.replicate_succ]
/-- the number of the row with a number -/
theorem place_dig {zs : List Int} (hz : Sizes zs) : ∀ (p n : Int), 0 ≤ n → placeM p zs (digM zs n) = p * waysM zs + n % waysM zs := by
  induction zs with
  | nil => intro p n _; simp [placeM, digM, waysM, Int.emod_one]
  | cons z zs ih =>
    intro p n hn
    have hz1 := hz z (List.mem_cons_self ..)
    have hw := ways_pos hz.tail
    simp only [digM, placeM, waysM]
    rw [ih hz.tail _ _ hn]
    generalize waysM zs = W at *
    have e1 := Int.emod_add_mul_ediv n W
    have e2 := Int.emod_add_mul_ediv (n / W) z
    have c1 := Int.emod_nonneg (n / W) (show z ≠ 0 by omega)
    have c2 := Int.emod_lt_of_pos (n / W) (show 0 < z by omega)
    have b1 := Int.emod_nonneg n (show W ≠ 0 by omega)
    have b2 := Int.emod_lt_of_pos n (show 0 < W by omega)
    have key : n % (z * W) = W * (n / W % z) + n % W := by
      have c4 : W * (n / W % z) ≤ W * (z - 1) := Int.mul_le_mul_of_nonneg_left (by omega) (by omega)
      have c5 : 0 ≤ W * (n / W % z) := Int.mul_nonneg (by omega) c1
      rw [Int.mul_sub] at c4
      have e : n = (W * (n / W % z) + n % W) + z * W * (n / W / z) := by
        have : W * (n / W) = W * (n / W % z) + z * W * (n / W / z) := by
          conv => lhs; rw [← e2]
          rw [Int.mul_add, Int.mul_comm z W, Int.mul_assoc]
        omega
      conv => lhs; rw [e]
      rw [Int.add_mul_emod_self_left, Int.emod_eq_of_lt (by omega) (by rw [Int.mul_comm z W]; omega)]
    rw [key, Int.add_mul, Int.mul_assoc, Int.mul_comm (n / W % z) W]
    omega
def readRow (w : World) (g : Nat) : List Int := match w.heap[g]? with
  | some (.cells cs _ _) => cs.toList.map intOf
  | _ => []
theorem readRow_own {w : World} {B g : Nat} {xs : List Int} (h : OInts w B (.slice (some ⟨g, 0, none⟩) xs.length xs.length) xs) : readRow w g = xs := by
  rcases h.2 with ⟨e, _⟩ | ⟨g', cap, cur, e, hg, hh, h1, h2, h3, h4⟩
  · cases e
  · injection e with e1 e2 e3
    injection e1 with e1
    injection e1 with e1
    subst e1 e3
    unfold readRow
    rw [hh]
    simp only
    rw [List.take_of_length_le (by simp at h3 ⊢; omega)] at h4
    rw [h4, List.map_map]
    conv => rhs; rw [← List.map_id xs]
    exact List.map_congr_left fun x _ => rfl
/-- how many rows of values are still to come -/
def leftM (zs : List Int) (N g : Nat) (more : Value) (w : World) : Nat := match more with
  | .bool true => N - (placeM 0 zs (readRow w g)).toNat + 1
  | _ => 0

theorem dig_small {zs ds : List Int} (hz : Sizes zs) (h : InAll zs ds) : ∀ x ∈ ds, 0 ≤ x ∧ x ≤ 1000000 := by
  intro x hx
  obtain ⟨k, hk, rfl⟩ := List.getElem_of_mem hx
  have hk' : k < zs.length := by rw [← h.1]; exact hk
  have := h.2 k hk' hk
  have := hz _ (List.getElem_mem hk')
  omega
theorem l4Next_is (zs xs : List Int) (n : Nat) (hn : xs.length = n) (B g c : Nat) (w : World) (lv : Value) (h : OInts w B (.slice (some ⟨g, 0, none⟩) n c) xs) (hs : xs.length ≤ 1000000) (hb : ∀ x ∈ xs, 0 ≤ x ∧ x ≤ 1000000) (hl : ∀ W', w.grownBy W' (some g) → RInts W' lv zs) (hlen : xs.length = zs.length := by assumption) :
    Calls Try.prog 64 #[.slice (some ⟨g, 0, none⟩) n c, lv] w fun e w' => e = .returned (.bool (nextM zs xs).2) ∧ OInts w' B (.slice (some ⟨g, 0, none⟩) n c) (nextM zs xs).1 ∧ w.grownBy w' (some g) ∧ w'.heap.size = w.heap.size := by
  subst hn
  exact l4Next_any zs xs B g c w lv h hlen hs hb hl
end

section
open Go.RowKit
set_option linter.unusedVariables false
set_option linter.unusedSimpArgs false

set_option maxHeartbeats 3200000 in
set_option maxRecDepth 100000 in
theorem specFailsAt_any (s : MSig) (m : MModel) (e : MEq) (w : World) (v v' v2 : Value) (h1 : RSig w v s) (h2 : RModel w v' m) (h3 : REq w v2 e) :
    Calls Try.prog 21 #[v, v', v2] w (PairPost (failsM s m e) w) := by
  obtain ⟨Asa, csa, rfl⟩ := h1.form
  obtain ⟨Ama, cma, Amb, cmb, rfl⟩ := h2.form
  obtain ⟨Aea, cea, Aeb, ceb, Aec, cec, rfl⟩ := h3.form
  have hb : Below w.heap.size w (((w.alloc (.cells #[.int .i64 s.sorts, .slice Asa s.ops.length csa] 25)).alloc (.cells #[.slice Ama m.sizes.length cma, .slice Amb m.tables.length cmb] 28)).alloc (.cells #[.slice Aea e.vars.length cea, .slice Aeb e.left.length ceb, .slice Aec e.right.length cec] 41)) := ((below_alloc _ _).alloc (by simp) _).alloc (by simp; omega) _
  have HB := Lib.hid hb
  have hsz : (((w.alloc (.cells #[.int .i64 s.sorts, .slice Asa s.ops.length csa] 25)).alloc (.cells #[.slice Ama m.sizes.length cma, .slice Amb m.tables.length cmb] 28)).alloc (.cells #[.slice Aea e.vars.length cea, .slice Aeb e.left.length ceb, .slice Aec e.right.length cec] 41)).heap.size = w.heap.size + 3 := by simp
  have Hs := Lib.hid (h1.keep hb)
  have s0 := cell_keep (below_alloc ((w.alloc (.cells #[.int .i64 s.sorts, .slice Asa s.ops.length csa] 25)).alloc (.cells #[.slice Ama m.sizes.length cma, .slice Amb m.tables.length cmb] 28)) (.cells #[.slice Aea e.vars.length cea, .slice Aeb e.left.length ceb, .slice Aec e.right.length cec] 41)) (cell_keep (below_alloc (w.alloc (.cells #[.int .i64 s.sorts, .slice Asa s.ops.length csa] 25)) (.cells #[.slice Ama m.sizes.length cma, .slice Amb m.tables.length cmb] 28)) (bx_at (w) #[.int .i64 s.sorts, .slice Asa s.ops.length csa] 25 (k := 0) rfl))
  have s1 := cell_keep (below_alloc ((w.alloc (.cells #[.int .i64 s.sorts, .slice Asa s.ops.length csa] 25)).alloc (.cells #[.slice Ama m.sizes.length cma, .slice Amb m.tables.length cmb] 28)) (.cells #[.slice Aea e.vars.length cea, .slice Aeb e.left.length ceb, .slice Aec e.right.length cec] 41)) (cell_keep (below_alloc (w.alloc (.cells #[.int .i64 s.sorts, .slice Asa s.ops.length csa] 25)) (.cells #[.slice Ama m.sizes.length cma, .slice Amb m.tables.length cmb] 28)) (bx_at (w) #[.int .i64 s.sorts, .slice Asa s.ops.length csa] 25 (k := 1) rfl))
  have Hm := Lib.hid (h2.keep hb)
  have m0 := cell_keep (below_alloc ((w.alloc (.cells #[.int .i64 s.sorts, .slice Asa s.ops.length csa] 25)).alloc (.cells #[.slice Ama m.sizes.length cma, .slice Amb m.tables.length cmb] 28)) (.cells #[.slice Aea e.vars.length cea, .slice Aeb e.left.length ceb, .slice Aec e.right.length cec] 41)) (bx_at (w.alloc (.cells #[.int .i64 s.sorts, .slice Asa s.ops.length csa] 25)) #[.slice Ama m.sizes.length cma, .slice Amb m.tables.length cmb] 28 (k := 0) rfl)
  have m1 := cell_keep (below_alloc ((w.alloc (.cells #[.int .i64 s.sorts, .slice Asa s.ops.length csa] 25)).alloc (.cells #[.slice Ama m.sizes.length cma, .slice Amb m.tables.length cmb] 28)) (.cells #[.slice Aea e.vars.length cea, .slice Aeb e.left.length ceb, .slice Aec e.right.length cec] 41)) (bx_at (w.alloc (.cells #[.int .i64 s.sorts, .slice Asa s.ops.length csa] 25)) #[.slice Ama m.sizes.length cma, .slice Amb m.tables.length cmb] 28 (k := 1) rfl)
  have He := Lib.hid (h3.keep hb)
  have e0 := bx_at ((w.alloc (.cells #[.int .i64 s.sorts, .slice Asa s.ops.length csa] 25)).alloc (.cells #[.slice Ama m.sizes.length cma, .slice Amb m.tables.length cmb] 28)) #[.slice Aea e.vars.length cea, .slice Aeb e.left.length ceb, .slice Aec e.right.length cec] 41 (k := 0) rfl
  have e1 := bx_at ((w.alloc (.cells #[.int .i64 s.sorts, .slice Asa s.ops.length csa] 25)).alloc (.cells #[.slice Ama m.sizes.length cma, .slice Amb m.tables.length cmb] 28)) #[.slice Aea e.vars.length cea, .slice Aeb e.left.length ceb, .slice Aec e.right.length cec] 41 (k := 1) rfl
  have e2 := bx_at ((w.alloc (.cells #[.int .i64 s.sorts, .slice Asa s.ops.length csa] 25)).alloc (.cells #[.slice Ama m.sizes.length cma, .slice Amb m.tables.length cmb] 28)) #[.slice Aea e.vars.length cea, .slice Aeb e.left.length ceb, .slice Aec e.right.length cec] 41 (k := 2) rfl
  simp only [World.size_alloc] at m0 m1 e0 e1 e2
  generalize hW : ((w.alloc (.cells #[.int .i64 s.sorts, .slice Asa s.ops.length csa] 25)).alloc (.cells #[.slice Ama m.sizes.length cma, .slice Amb m.tables.length cmb] 28)).alloc (.cells #[.slice Aea e.vars.length cea, .slice Aeb e.left.length ceb, .slice Aec e.right.length cec] 41) = W at HB hsz Hs s0 s1 Hm m0 m1 He e0 e1 e2
  clear hb h1 h2 h3
  cases hmo : modelB s m with
  | false =>
    have HMO := Lib.hid hmo
    have HE := Lib.hid (fails_no2 (e := e) hmo)
    clear hmo
    go_enter Try.func21, Try.ntmps21
    go_wp2_with fail
    clear hW
    refine (specModelOk_any s m _ _ _ Hs.out Hm.out).mono ?_
    rw [HMO.out]
    rintro x w2 ⟨rfl, hb⟩
    replace HB := Lib.hid (sz_keep HB.out hb)
    replace s0 := cell_keep hb s0
    replace s1 := cell_keep hb s1
    replace m0 := cell_keep hb m0
    replace m1 := cell_keep hb m1
    replace e0 := cell_keep hb e0
    replace e1 := cell_keep hb e1
    replace e2 := cell_keep hb e2
    replace Hs := Lib.hid (Hs.out.keep hb)
    replace Hm := Lib.hid (Hm.out.keep hb)
    replace He := Lib.hid (He.out.keep hb)
    clear hb
    go_wp2
    refine bodyPost_ret (v := .tuple #[.slice (some ⟨w2.heap.size, 0, none⟩) 0 0, .bool false]) (by simp [results, Try.results21, go_sem]) rfl ?_
    rw [HE.out]
    exact ⟨_, rfl, (own_empty w2).base HB.out.size, HB.out.alloc HB.out.size _⟩
  | true =>
    have HMO := Lib.hid hmo
    cases hok : eqOkB s e with
    | false =>
      have HOK := Lib.hid hok
      have HE := Lib.hid (fails_no1 (m := m) hok)
      clear hok hmo
      go_enter Try.func21, Try.ntmps21
      go_wp2_with fail
      clear hW
      refine (specModelOk_any s m _ _ _ Hs.out Hm.out).mono ?_
      rw [HMO.out]
      rintro x w2 ⟨rfl, hb⟩
      replace HB := Lib.hid (sz_keep HB.out hb)
      replace s0 := cell_keep hb s0
      replace s1 := cell_keep hb s1
      replace m0 := cell_keep hb m0
      replace m1 := cell_keep hb m1
      replace e0 := cell_keep hb e0
      replace e1 := cell_keep hb e1
      replace e2 := cell_keep hb e2
      replace Hs := Lib.hid (Hs.out.keep hb)
      replace Hm := Lib.hid (Hm.out.keep hb)
      replace He := Lib.hid (He.out.keep hb)
      clear hb
      go_wp2_with fail
      refine (specEqOk_any s e _ _ _ Hs.out He.out).mono ?_
      rw [HOK.out]
      rintro x w1 ⟨rfl, hb⟩
      replace HB := Lib.hid (sz_keep HB.out hb)
      replace s0 := cell_keep hb s0
      replace s1 := cell_keep hb s1
      replace m0 := cell_keep hb m0
      replace m1 := cell_keep hb m1
      replace e0 := cell_keep hb e0
      replace e1 := cell_keep hb e1
      replace e2 := cell_keep hb e2
      replace Hs := Lib.hid (Hs.out.keep hb)
      replace Hm := Lib.hid (Hm.out.keep hb)
      replace He := Lib.hid (He.out.keep hb)
      clear hb
      go_wp2
      refine bodyPost_ret (v := .tuple #[.slice (some ⟨w1.heap.size, 0, none⟩) 0 0, .bool false]) (by simp [results, Try.results21, go_sem]) rfl ?_
      rw [HE.out]
      exact ⟨_, rfl, (own_empty w1).base HB.out.size, HB.out.alloc HB.out.size _⟩
    | true =>
      have HOK := Lib.hid hok
      clear hok
      obtain ⟨hvb, l, r, hl, hr, hwl, hwr, hlr, hrr, hll, hrl⟩ := eq_terms HOK.out
      have HF := Lib.hid (fails_yes HOK.out hmo hl hr)
      have HMF := Lib.hid (model_facts hmo)
      have HVB := Lib.hid (vars_valid hvb)
      have HVV := Lib.hid hvb
      have HL := Lib.hid hl
      have HR := Lib.hid hr
      have HWL := Lib.hid hwl
      have HWR := Lib.hid hwr
      have HLR := Lib.hid (show e.left.drop 0 = l.row ++ [] by rw [hlr]; simp)
      have HRR := Lib.hid (show e.right.drop 0 = r.row ++ [] by rw [hrr]; simp)
      have HRV : Hid (∀ x ∈ e.vars, 0 ≤ x ∧ x < s.sorts) := fun x hx => by obtain ⟨k, hk, rfl⟩ := List.getElem_of_mem hx; exact HVB.out.2.2 k hk
      have HZS : Hid (Sizes (ledM m.sizes e.vars)) := HMF.out.led HRV.out
      have HRL : Hid (rowLed m.sizes e.vars = ledM m.sizes e.vars) := rowLed_led fun x hx => by have := HRV.out x hx; have := valid_sorts HMF.out.va; omega
      have hv4 := HVB.out.2.1
      clear hmo hvb hl hr hwl hwr hlr hrr
      go_enter Try.func21, Try.ntmps21
      go_wp2_with fail
      clear hW
      refine (specModelOk_any s m _ _ _ Hs.out Hm.out).mono ?_
      rw [HMO.out]
      rintro x w2 ⟨rfl, hb⟩
      replace HB := Lib.hid (sz_keep HB.out hb)
      replace s0 := cell_keep hb s0
      replace s1 := cell_keep hb s1
      replace m0 := cell_keep hb m0
      replace m1 := cell_keep hb m1
      replace e0 := cell_keep hb e0
      replace e1 := cell_keep hb e1
      replace e2 := cell_keep hb e2
      replace Hs := Lib.hid (Hs.out.keep hb)
      replace Hm := Lib.hid (Hm.out.keep hb)
      replace He := Lib.hid (He.out.keep hb)
      clear hb
      go_wp2_with fail
      refine (specEqOk_any s e _ _ _ Hs.out He.out).mono ?_
      rw [HOK.out]
      rintro x w1 ⟨rfl, hb⟩
      replace HB := Lib.hid (sz_keep HB.out hb)
      replace s0 := cell_keep hb s0
      replace s1 := cell_keep hb s1
      replace m0 := cell_keep hb m0
      replace m1 := cell_keep hb m1
      replace e0 := cell_keep hb e0
      replace e1 := cell_keep hb e1
      replace e2 := cell_keep hb e2
      replace Hs := Lib.hid (Hs.out.keep hb)
      replace Hm := Lib.hid (Hm.out.keep hb)
      replace He := Lib.hid (He.out.keep hb)
      clear hb
      go_wp2_with fail
      refine (l5Limits_any _ _ e.vars m _ Hm.out He.out.of.1 (fun x hx => by have := HRV.out x hx; have := HMF.out.sl; omega) (by omega)).mono ?_
      rw [HRL.out]
      rintro x w5 ⟨uz, rfl, hoz, hb⟩
      have HUZ := Lib.hid hoz.reads
      obtain ⟨Az, cz, rfl, -⟩ := hoz.reads.form
      replace HB := Lib.hid (sz_keep HB.out hb)
      replace s0 := cell_keep hb s0
      replace s1 := cell_keep hb s1
      replace m0 := cell_keep hb m0
      replace m1 := cell_keep hb m1
      replace e0 := cell_keep hb e0
      replace e1 := cell_keep hb e1
      replace e2 := cell_keep hb e2
      replace Hs := Lib.hid (Hs.out.keep hb)
      replace Hm := Lib.hid (Hm.out.keep hb)
      replace He := Lib.hid (He.out.keep hb)
      clear hb
      clear hoz
      have HLZ := Lib.hid (ledM_len m.sizes e.vars)
      have HDV := Lib.hid (fun n => dig_vals HMF.out HVV.out n)
      generalize hzs : ledM m.sizes e.vars = zs at HZS HUZ HF HLZ HDV
      have hzl : zs.length ≤ 4 := by rw [HLZ.out]; exact hv4
      have hwp := ways_pos HZS.out
      have hwf := ways_few HZS.out hzl
      obtain ⟨N, hN⟩ : ∃ N : Nat, waysM zs = (N : Int) := ⟨(waysM zs).toNat, by omega⟩
      have HN := Lib.hid hN
      rw [hN] at hwp hwf
      have hmk := run_make_row' (P := Try.prog) 26 3 (.int .i64 0) 8 Try.underlying26 Try.tinfo_int rfl .i64 .i64 zs.length (by omega) (by omega)
      have hba := below_alloc w5 (.cells (madeCells #[.int .i64 0] zs.length) 3)
      have hbn := World.alloc_heap_new w5 (.cells (madeCells #[.int .i64 0] zs.length) 3)
      have ho0 : OInts (w5.alloc (.cells (madeCells #[.int .i64 0] zs.length) 3)) w5.heap.size (.slice (some ⟨w5.heap.size, 0, none⟩) zs.length zs.length) (digM zs 0) := by
        rw [made_zero, ← dig_zero] at hbn ⊢
        have := row_owns (B := w5.heap.size) hbn (Nat.le_refl _) (by rw [digM_len]; omega)
        rw [digM_len] at this
        exact this
      generalize hW6 : w5.alloc (.cells (madeCells #[.int .i64 0] zs.length) 3) = w6 at hba ho0
      have HBA := Lib.hid hba
      have HO0 := Lib.hid ho0
      have HCS := Lib.hid (And.intro s0 (And.intro s1 (And.intro m0 (And.intro m1 (And.intro e0 (And.intro e1 e2))))))
      clear hzs hN hba ho0 hbn
      go_wp2
      clear hmk hW6 s0 s1 m0 m1 e0 e1 e2
      go_loopw [10, 11, 12, 13, 14] (fun p _ _ _ _ wr => ∃ (b : Bool) (n : Nat), p = .bool b ∧ (b = true → n < N) ∧ (b = false → n = N) ∧ NoFail m zs l r n ∧ (b = true → OInts wr w5.heap.size (.slice (some ⟨w5.heap.size, 0, none⟩) zs.length zs.length) (digM zs n)) ∧ Below w5.heap.size w5 wr) (fun p _ _ _ _ wr => leftM zs N w5.heap.size p wr)
      case atStart => exact ⟨true, 0, rfl, (fun _ => by omega), (fun h => absurd h (by simp)), noFail_zero _ _ _ _, (fun _ => HO0.out), HBA.out⟩
      case round =>
        obtain ⟨b, n, rfl, hlt, heq, hnf, hown, hd⟩ := hrel
        have HNF := Lib.hid hnf
        have HD := Lib.hid hd
        clear hnf
        cases b with
        | false =>
          have HNO := Lib.hid (HNF.out.none (by have := heq rfl; have := HN.out; omega))
          clear hlt heq hown hd
          have HB9 := Lib.hid (sz_keep HB.out HD.out)
          go_wp2
          refine bodyPost_ret (v := .tuple #[.slice (some ⟨wr.heap.size, 0, none⟩) 0 0, .bool false]) (by simp [results, Try.results21, go_sem]) rfl ?_
          rw [HF.out, HNO.out]
          exact ⟨_, rfl, (own_empty wr).base HB9.out.size, HB9.out.alloc HB9.out.size _⟩
        | true =>
          have hn := hlt rfl
          have HO := Lib.hid (hown rfl)
          have HVO := Lib.hid (HDV.out (n : Int))
          have HDL := Lib.hid (digM_len zs (n : Int))
          have HDI := Lib.hid (dig_in HZS.out (n : Int))
          have HND := Lib.hid (next_dig HZS.out (n : Int) (by omega))
          have HPD := Lib.hid (place_dig HZS.out 0 (n : Int) (by omega))
          clear hlt heq hown
          generalize hds : digM zs (n : Int) = ds at HO HVO HDL HDI HND HPD
          have HDS := Lib.hid hds
          clear hds
          obtain ⟨vl, hvl⟩ : ∃ x, valT m ds l = x := ⟨_, rfl⟩
          obtain ⟨vr, hvr⟩ : ∃ x, valT m ds r = x := ⟨_, rfl⟩
          have HVL := Lib.hid hvl
          have HVR := Lib.hid hvr
          have f0 := cell_keep hd HCS.out.1
          have f1 := cell_keep hd HCS.out.2.1
          have f2 := cell_keep hd HCS.out.2.2.1
          have f3 := cell_keep hd HCS.out.2.2.2.1
          have f4 := cell_keep hd HCS.out.2.2.2.2.1
          have f5 := cell_keep hd HCS.out.2.2.2.2.2.1
          have f6 := cell_keep hd HCS.out.2.2.2.2.2.2
          clear hvl hvr hd
          go_wp2_with fail
          refine (l5_any hll HMF.out HVO.out hv4 l HWL.out 0 [] _ _ _ _ _ HLR.out (Hs.out.keep HD.out) (Hm.out.keep HD.out) (He.out.of.2.1.keep HD.out) HO.out.reads).mono ?_
          rw [HVL.out]
          rintro x w7 ⟨rfl, hb7⟩
          have HX7 := Lib.hid hb7
          replace f0 := cell_keep hb7 f0
          replace f1 := cell_keep hb7 f1
          replace f2 := cell_keep hb7 f2
          replace f3 := cell_keep hb7 f3
          replace f4 := cell_keep hb7 f4
          replace f5 := cell_keep hb7 f5
          replace f6 := cell_keep hb7 f6
          clear hb7
          go_wp2_with fail
          refine (l5_any hrl HMF.out HVO.out hv4 r HWR.out 0 [] _ _ _ _ _ HRR.out ((Hs.out.keep HD.out).keep HX7.out) ((Hm.out.keep HD.out).keep HX7.out) ((He.out.of.2.2.keep HD.out).keep HX7.out) (HO.out.reads.keep HX7.out)).mono ?_
          rw [HVR.out]
          rintro x w8 ⟨rfl, hb8⟩
          have HX8 := Lib.hid (sz_keep HX7.out hb8)
          have HD8 := Lib.hid (sz_keep HD.out HX8.out)
          clear hb8 f0 f1 f2 f3 f4 f5 f6
          by_cases hvv : vl = vr
          · have hne : (vl != vr) = false := by simp [hvv]
            have HST := Lib.hid (HNF.out.step (by have := HN.out; omega) (by rw [HDS.out, HVL.out, HVR.out, hvv]))
            have hdl := HDL.out
            clear hvv
            have HSM := Lib.hid (dig_small HZS.out HDI.out)
            go_wp2_with fail
            refine (l4Next_is zs ds zs.length HDL.out w5.heap.size w5.heap.size zs.length _ _ (HO.out.keep HX8.out) (by omega) HSM.out (fun W' hg => HUZ.out.keep (HD8.out.grown hg HD8.out.size (fun k e => by cases e; exact Nat.le_refl _)))).mono ?_
            rw [HND.out]
            simp only
            have hdn : OInts wr w5.heap.size (.slice (some ⟨w5.heap.size, 0, none⟩) ds.length ds.length) ds := by rw [HDL.out]; exact HO.out
            have HM0 := Lib.hid (show leftM zs N w5.heap.size (.bool true) wr = N - n + 1 by
              unfold leftM
              simp only
              rw [readRow_own hdn, HPD.out, HN.out, Int.emod_eq_of_lt (by omega) (by omega)]
              omega)
            clear hdn hdl
            by_cases hlast : n + 1 < N
            · have hflag : (!(((n : Int) + 1) % waysM zs == 0)) = true := by
                rw [HN.out, Int.emod_eq_of_lt (by omega) (by omega)]
                simp; omega
              rw [hflag]
              rintro x w9 ⟨rfl, ho9, hg9, hz9⟩
              have HO9 := Lib.hid ho9
              have HD9 := Lib.hid (HD8.out.grown hg9 HD8.out.size (fun k e => by cases e; exact Nat.le_refl _))
              have hdn : OInts w9 w5.heap.size (.slice (some ⟨w5.heap.size, 0, none⟩) (digM zs ((n : Int) + 1)).length (digM zs ((n : Int) + 1)).length) (digM zs ((n : Int) + 1)) := by rw [digM_len]; exact ho9
              have HM1 := Lib.hid (show leftM zs N w5.heap.size (.bool true) w9 = N - (n + 1) + 1 by
                unfold leftM
                simp only
                rw [readRow_own hdn, place_dig HZS.out 0 ((n : Int) + 1) (by omega), HN.out, Int.emod_eq_of_lt (by omega) (by omega)]
                omega)
              clear ho9 hg9 hz9 hflag hdn
              go_wp2
              go_roundw
              case rel => exact ⟨true, n + 1, rfl, (fun _ => hlast), (fun h => absurd h (by simp)), HST.out, (fun _ => by have := HO9.out; simpa using this), HD9.out⟩
              case measure => rw [HM0.out, HM1.out]; omega
            · have hflag : (!(((n : Int) + 1) % waysM zs == 0)) = false := by
                rw [HN.out, show (n : Int) + 1 = (N : Int) by omega, Int.emod_self]
                rfl
              rw [hflag]
              rintro x w9 ⟨rfl, ho9, hg9, hz9⟩
              have HD9 := Lib.hid (HD8.out.grown hg9 HD8.out.size (fun k e => by cases e; exact Nat.le_refl _))
              clear ho9 hg9 hz9 hflag
              go_wp2
              go_roundw
              case rel => exact ⟨false, n + 1, rfl, (fun h => absurd h (by simp)), (fun _ => by omega), HST.out, (fun h => absurd h (by simp)), HD9.out⟩
              case measure => rw [HM0.out]; unfold leftM; simp only; omega
          · have hne : (vl != vr) = true := by simpa using hvv
            have HHT := Lib.hid (HNF.out.hit (by have := HN.out; omega) (by rw [HDS.out, HVL.out, HVR.out]; exact hvv))
            clear hvv
            go_wp2
            refine bodyPost_ret (v := .tuple #[.slice (some ⟨w5.heap.size, 0, none⟩) zs.length zs.length, .bool true]) (by simp [results, Try.results21, go_sem]) rfl ?_
            rw [HF.out, HHT.out, HDS.out]
            exact ⟨_, rfl, (HO.out.keep HX8.out).base HB.out.size, sz_keep HB.out HD8.out⟩
end

section
open Go.RowKit
set_option linter.unusedVariables false
set_option linter.unusedSimpArgs false

theorem holds_no1 {s : MSig} {m : MModel} {e : MEq} (h : eqOkB s e = false) : holdsB s m e = false := by unfold holdsB; simp [h]
theorem holds_no2 {s : MSig} {m : MModel} {e : MEq} (h : modelB s m = false) : holdsB s m e = false := by unfold holdsB; simp [h]
theorem holds_yes {s : MSig} {m : MModel} {e : MEq} (h1 : eqOkB s e = true) (h2 : modelB s m = true) : holdsB s m e = !(failsM s m e).2 := by unfold holdsB; simp [h1, h2]

set_option maxHeartbeats 1600000 in
set_option maxRecDepth 100000 in
theorem holds_any (s : MSig) (m : MModel) (e : MEq) (w : World) (v v' v2 : Value) (hsm : SmallE e) (h1 : RSig w v s) (h2 : RModel w v' m) (h3 : REq w v2 e) :
    Calls Try.prog 24 #[v, v', v2] w fun x w' => x = .returned (.bool (holdsB s m e)) ∧ Below w.heap.size w w' := by
  obtain ⟨Asa, csa, rfl⟩ := h1.form
  obtain ⟨Ama, cma, Amb, cmb, rfl⟩ := h2.form
  obtain ⟨Aea, cea, Aeb, ceb, Aec, cec, rfl⟩ := h3.form
  have hb : Below w.heap.size w (((w.alloc (.cells #[.int .i64 s.sorts, .slice Asa s.ops.length csa] 25)).alloc (.cells #[.slice Ama m.sizes.length cma, .slice Amb m.tables.length cmb] 28)).alloc (.cells #[.slice Aea e.vars.length cea, .slice Aeb e.left.length ceb, .slice Aec e.right.length cec] 41)) := ((below_alloc _ _).alloc (by simp) _).alloc (by simp; omega) _
  have HB := Lib.hid hb
  have hsz : (((w.alloc (.cells #[.int .i64 s.sorts, .slice Asa s.ops.length csa] 25)).alloc (.cells #[.slice Ama m.sizes.length cma, .slice Amb m.tables.length cmb] 28)).alloc (.cells #[.slice Aea e.vars.length cea, .slice Aeb e.left.length ceb, .slice Aec e.right.length cec] 41)).heap.size = w.heap.size + 3 := by simp
  have Hs := Lib.hid (h1.keep hb)
  have s0 := cell_keep (below_alloc ((w.alloc (.cells #[.int .i64 s.sorts, .slice Asa s.ops.length csa] 25)).alloc (.cells #[.slice Ama m.sizes.length cma, .slice Amb m.tables.length cmb] 28)) (.cells #[.slice Aea e.vars.length cea, .slice Aeb e.left.length ceb, .slice Aec e.right.length cec] 41)) (cell_keep (below_alloc (w.alloc (.cells #[.int .i64 s.sorts, .slice Asa s.ops.length csa] 25)) (.cells #[.slice Ama m.sizes.length cma, .slice Amb m.tables.length cmb] 28)) (bx_at (w) #[.int .i64 s.sorts, .slice Asa s.ops.length csa] 25 (k := 0) rfl))
  have s1 := cell_keep (below_alloc ((w.alloc (.cells #[.int .i64 s.sorts, .slice Asa s.ops.length csa] 25)).alloc (.cells #[.slice Ama m.sizes.length cma, .slice Amb m.tables.length cmb] 28)) (.cells #[.slice Aea e.vars.length cea, .slice Aeb e.left.length ceb, .slice Aec e.right.length cec] 41)) (cell_keep (below_alloc (w.alloc (.cells #[.int .i64 s.sorts, .slice Asa s.ops.length csa] 25)) (.cells #[.slice Ama m.sizes.length cma, .slice Amb m.tables.length cmb] 28)) (bx_at (w) #[.int .i64 s.sorts, .slice Asa s.ops.length csa] 25 (k := 1) rfl))
  have Hm := Lib.hid (h2.keep hb)
  have m0 := cell_keep (below_alloc ((w.alloc (.cells #[.int .i64 s.sorts, .slice Asa s.ops.length csa] 25)).alloc (.cells #[.slice Ama m.sizes.length cma, .slice Amb m.tables.length cmb] 28)) (.cells #[.slice Aea e.vars.length cea, .slice Aeb e.left.length ceb, .slice Aec e.right.length cec] 41)) (bx_at (w.alloc (.cells #[.int .i64 s.sorts, .slice Asa s.ops.length csa] 25)) #[.slice Ama m.sizes.length cma, .slice Amb m.tables.length cmb] 28 (k := 0) rfl)
  have m1 := cell_keep (below_alloc ((w.alloc (.cells #[.int .i64 s.sorts, .slice Asa s.ops.length csa] 25)).alloc (.cells #[.slice Ama m.sizes.length cma, .slice Amb m.tables.length cmb] 28)) (.cells #[.slice Aea e.vars.length cea, .slice Aeb e.left.length ceb, .slice Aec e.right.length cec] 41)) (bx_at (w.alloc (.cells #[.int .i64 s.sorts, .slice Asa s.ops.length csa] 25)) #[.slice Ama m.sizes.length cma, .slice Amb m.tables.length cmb] 28 (k := 1) rfl)
  have He := Lib.hid (h3.keep hb)
  have e0 := bx_at ((w.alloc (.cells #[.int .i64 s.sorts, .slice Asa s.ops.length csa] 25)).alloc (.cells #[.slice Ama m.sizes.length cma, .slice Amb m.tables.length cmb] 28)) #[.slice Aea e.vars.length cea, .slice Aeb e.left.length ceb, .slice Aec e.right.length cec] 41 (k := 0) rfl
  have e1 := bx_at ((w.alloc (.cells #[.int .i64 s.sorts, .slice Asa s.ops.length csa] 25)).alloc (.cells #[.slice Ama m.sizes.length cma, .slice Amb m.tables.length cmb] 28)) #[.slice Aea e.vars.length cea, .slice Aeb e.left.length ceb, .slice Aec e.right.length cec] 41 (k := 1) rfl
  have e2 := bx_at ((w.alloc (.cells #[.int .i64 s.sorts, .slice Asa s.ops.length csa] 25)).alloc (.cells #[.slice Ama m.sizes.length cma, .slice Amb m.tables.length cmb] 28)) #[.slice Aea e.vars.length cea, .slice Aeb e.left.length ceb, .slice Aec e.right.length cec] 41 (k := 2) rfl
  simp only [World.size_alloc] at m0 m1 e0 e1 e2
  generalize hW : ((w.alloc (.cells #[.int .i64 s.sorts, .slice Asa s.ops.length csa] 25)).alloc (.cells #[.slice Ama m.sizes.length cma, .slice Amb m.tables.length cmb] 28)).alloc (.cells #[.slice Aea e.vars.length cea, .slice Aeb e.left.length ceb, .slice Aec e.right.length cec] 41) = W at HB hsz Hs s0 s1 Hm m0 m1 He e0 e1 e2
  clear hb h1 h2 h3
  have HSM := Lib.hid hsm
  clear hsm
  go_enter Try.func24, Try.ntmps24
  go_wp2_with fail
  clear hW
  refine (failsAt_any s m e _ _ _ _ HSM.out Hs.out Hm.out He.out).mono ?_
  rintro x w1 ⟨u, rfl, ho, hb⟩
  obtain ⟨Au, cu, rfl, -⟩ := ho.reads.form
  replace HB := Lib.hid (sz_keep HB.out hb)
  replace s0 := cell_keep hb s0
  replace s1 := cell_keep hb s1
  replace m0 := cell_keep hb m0
  replace m1 := cell_keep hb m1
  replace e0 := cell_keep hb e0
  replace e1 := cell_keep hb e1
  replace e2 := cell_keep hb e2
  replace Hs := Lib.hid (Hs.out.keep hb)
  replace Hm := Lib.hid (Hm.out.keep hb)
  replace He := Lib.hid (He.out.keep hb)
  clear hb
  clear ho
  generalize hfl : (failsM s m e).2 = fl
  have HFL := Lib.hid hfl
  generalize (failsM s m e).1.length = nl
  clear hfl
  cases hok : eqOkB s e with
  | false =>
    have HOK := Lib.hid hok
    have HE := Lib.hid (holds_no1 (m := m) hok)
    clear hok
    go_wp2_with fail
    refine (eqOk_any s e _ _ _ HSM.out Hs.out He.out).mono ?_
    rw [HOK.out]
    rintro x w2 ⟨rfl, hb⟩
    replace HB := Lib.hid (sz_keep HB.out hb)
    replace s0 := cell_keep hb s0
    replace s1 := cell_keep hb s1
    replace m0 := cell_keep hb m0
    replace m1 := cell_keep hb m1
    replace e0 := cell_keep hb e0
    replace e1 := cell_keep hb e1
    replace e2 := cell_keep hb e2
    replace Hs := Lib.hid (Hs.out.keep hb)
    replace Hm := Lib.hid (Hm.out.keep hb)
    replace He := Lib.hid (He.out.keep hb)
    clear hb
    go_wp2
    go_ret
    exact ⟨ret_bool HE.out.symm, HB.out⟩
  | true =>
    have HOK := Lib.hid hok
    clear hok
    cases hmo : modelB s m with
    | false =>
      have HMO := Lib.hid hmo
      have HE := Lib.hid (holds_no2 (e := e) hmo)
      clear hmo
      go_wp2_with fail
      refine (eqOk_any s e _ _ _ HSM.out Hs.out He.out).mono ?_
      rw [HOK.out]
      rintro x w2 ⟨rfl, hb⟩
      replace HB := Lib.hid (sz_keep HB.out hb)
      replace s0 := cell_keep hb s0
      replace s1 := cell_keep hb s1
      replace m0 := cell_keep hb m0
      replace m1 := cell_keep hb m1
      replace e0 := cell_keep hb e0
      replace e1 := cell_keep hb e1
      replace e2 := cell_keep hb e2
      replace Hs := Lib.hid (Hs.out.keep hb)
      replace Hm := Lib.hid (Hm.out.keep hb)
      replace He := Lib.hid (He.out.keep hb)
      clear hb
      go_wp2_with fail
      refine (modelOk_any s m _ _ _ Hs.out Hm.out).mono ?_
      rw [HMO.out]
      rintro x w3 ⟨rfl, hb⟩
      replace HB := Lib.hid (sz_keep HB.out hb)
      replace s0 := cell_keep hb s0
      replace s1 := cell_keep hb s1
      replace m0 := cell_keep hb m0
      replace m1 := cell_keep hb m1
      replace e0 := cell_keep hb e0
      replace e1 := cell_keep hb e1
      replace e2 := cell_keep hb e2
      replace Hs := Lib.hid (Hs.out.keep hb)
      replace Hm := Lib.hid (Hm.out.keep hb)
      replace He := Lib.hid (He.out.keep hb)
      clear hb
      go_wp2
      go_ret
      exact ⟨ret_bool HE.out.symm, HB.out⟩
    | true =>
      have HMO := Lib.hid hmo
      have HE := Lib.hid (holds_yes HOK.out hmo)
      rw [HFL.out] at HE
      clear hmo
      go_wp2_with fail
      refine (eqOk_any s e _ _ _ HSM.out Hs.out He.out).mono ?_
      rw [HOK.out]
      rintro x w2 ⟨rfl, hb⟩
      replace HB := Lib.hid (sz_keep HB.out hb)
      replace s0 := cell_keep hb s0
      replace s1 := cell_keep hb s1
      replace m0 := cell_keep hb m0
      replace m1 := cell_keep hb m1
      replace e0 := cell_keep hb e0
      replace e1 := cell_keep hb e1
      replace e2 := cell_keep hb e2
      replace Hs := Lib.hid (Hs.out.keep hb)
      replace Hm := Lib.hid (Hm.out.keep hb)
      replace He := Lib.hid (He.out.keep hb)
      clear hb
      go_wp2_with fail
      refine (modelOk_any s m _ _ _ Hs.out Hm.out).mono ?_
      rw [HMO.out]
      rintro x w3 ⟨rfl, hb⟩
      replace HB := Lib.hid (sz_keep HB.out hb)
      replace s0 := cell_keep hb s0
      replace s1 := cell_keep hb s1
      replace m0 := cell_keep hb m0
      replace m1 := cell_keep hb m1
      replace e0 := cell_keep hb e0
      replace e1 := cell_keep hb e1
      replace e2 := cell_keep hb e2
      replace Hs := Lib.hid (Hs.out.keep hb)
      replace Hm := Lib.hid (Hm.out.keep hb)
      replace He := Lib.hid (He.out.keep hb)
      clear hb
      go_wp2
      go_ret
      exact ⟨ret_bool HE.out.symm, HB.out⟩

set_option maxHeartbeats 1600000 in
set_option maxRecDepth 100000 in
theorem specHolds_any (s : MSig) (m : MModel) (e : MEq) (w : World) (v v' v2 : Value) (h1 : RSig w v s) (h2 : RModel w v' m) (h3 : REq w v2 e) :
    Calls Try.prog 27 #[v, v', v2] w fun x w' => x = .returned (.bool (holdsB s m e)) ∧ Below w.heap.size w w' := by
  obtain ⟨Asa, csa, rfl⟩ := h1.form
  obtain ⟨Ama, cma, Amb, cmb, rfl⟩ := h2.form
  obtain ⟨Aea, cea, Aeb, ceb, Aec, cec, rfl⟩ := h3.form
  have hb : Below w.heap.size w (((w.alloc (.cells #[.int .i64 s.sorts, .slice Asa s.ops.length csa] 25)).alloc (.cells #[.slice Ama m.sizes.length cma, .slice Amb m.tables.length cmb] 28)).alloc (.cells #[.slice Aea e.vars.length cea, .slice Aeb e.left.length ceb, .slice Aec e.right.length cec] 41)) := ((below_alloc _ _).alloc (by simp) _).alloc (by simp; omega) _
  have HB := Lib.hid hb
  have hsz : (((w.alloc (.cells #[.int .i64 s.sorts, .slice Asa s.ops.length csa] 25)).alloc (.cells #[.slice Ama m.sizes.length cma, .slice Amb m.tables.length cmb] 28)).alloc (.cells #[.slice Aea e.vars.length cea, .slice Aeb e.left.length ceb, .slice Aec e.right.length cec] 41)).heap.size = w.heap.size + 3 := by simp
  have Hs := Lib.hid (h1.keep hb)
  have s0 := cell_keep (below_alloc ((w.alloc (.cells #[.int .i64 s.sorts, .slice Asa s.ops.length csa] 25)).alloc (.cells #[.slice Ama m.sizes.length cma, .slice Amb m.tables.length cmb] 28)) (.cells #[.slice Aea e.vars.length cea, .slice Aeb e.left.length ceb, .slice Aec e.right.length cec] 41)) (cell_keep (below_alloc (w.alloc (.cells #[.int .i64 s.sorts, .slice Asa s.ops.length csa] 25)) (.cells #[.slice Ama m.sizes.length cma, .slice Amb m.tables.length cmb] 28)) (bx_at (w) #[.int .i64 s.sorts, .slice Asa s.ops.length csa] 25 (k := 0) rfl))
  have s1 := cell_keep (below_alloc ((w.alloc (.cells #[.int .i64 s.sorts, .slice Asa s.ops.length csa] 25)).alloc (.cells #[.slice Ama m.sizes.length cma, .slice Amb m.tables.length cmb] 28)) (.cells #[.slice Aea e.vars.length cea, .slice Aeb e.left.length ceb, .slice Aec e.right.length cec] 41)) (cell_keep (below_alloc (w.alloc (.cells #[.int .i64 s.sorts, .slice Asa s.ops.length csa] 25)) (.cells #[.slice Ama m.sizes.length cma, .slice Amb m.tables.length cmb] 28)) (bx_at (w) #[.int .i64 s.sorts, .slice Asa s.ops.length csa] 25 (k := 1) rfl))
  have Hm := Lib.hid (h2.keep hb)
  have m0 := cell_keep (below_alloc ((w.alloc (.cells #[.int .i64 s.sorts, .slice Asa s.ops.length csa] 25)).alloc (.cells #[.slice Ama m.sizes.length cma, .slice Amb m.tables.length cmb] 28)) (.cells #[.slice Aea e.vars.length cea, .slice Aeb e.left.length ceb, .slice Aec e.right.length cec] 41)) (bx_at (w.alloc (.cells #[.int .i64 s.sorts, .slice Asa s.ops.length csa] 25)) #[.slice Ama m.sizes.length cma, .slice Amb m.tables.length cmb] 28 (k := 0) rfl)
  have m1 := cell_keep (below_alloc ((w.alloc (.cells #[.int .i64 s.sorts, .slice Asa s.ops.length csa] 25)).alloc (.cells #[.slice Ama m.sizes.length cma, .slice Amb m.tables.length cmb] 28)) (.cells #[.slice Aea e.vars.length cea, .slice Aeb e.left.length ceb, .slice Aec e.right.length cec] 41)) (bx_at (w.alloc (.cells #[.int .i64 s.sorts, .slice Asa s.ops.length csa] 25)) #[.slice Ama m.sizes.length cma, .slice Amb m.tables.length cmb] 28 (k := 1) rfl)
  have He := Lib.hid (h3.keep hb)
  have e0 := bx_at ((w.alloc (.cells #[.int .i64 s.sorts, .slice Asa s.ops.length csa] 25)).alloc (.cells #[.slice Ama m.sizes.length cma, .slice Amb m.tables.length cmb] 28)) #[.slice Aea e.vars.length cea, .slice Aeb e.left.length ceb, .slice Aec e.right.length cec] 41 (k := 0) rfl
  have e1 := bx_at ((w.alloc (.cells #[.int .i64 s.sorts, .slice Asa s.ops.length csa] 25)).alloc (.cells #[.slice Ama m.sizes.length cma, .slice Amb m.tables.length cmb] 28)) #[.slice Aea e.vars.length cea, .slice Aeb e.left.length ceb, .slice Aec e.right.length cec] 41 (k := 1) rfl
  have e2 := bx_at ((w.alloc (.cells #[.int .i64 s.sorts, .slice Asa s.ops.length csa] 25)).alloc (.cells #[.slice Ama m.sizes.length cma, .slice Amb m.tables.length cmb] 28)) #[.slice Aea e.vars.length cea, .slice Aeb e.left.length ceb, .slice Aec e.right.length cec] 41 (k := 2) rfl
  simp only [World.size_alloc] at m0 m1 e0 e1 e2
  generalize hW : ((w.alloc (.cells #[.int .i64 s.sorts, .slice Asa s.ops.length csa] 25)).alloc (.cells #[.slice Ama m.sizes.length cma, .slice Amb m.tables.length cmb] 28)).alloc (.cells #[.slice Aea e.vars.length cea, .slice Aeb e.left.length ceb, .slice Aec e.right.length cec] 41) = W at HB hsz Hs s0 s1 Hm m0 m1 He e0 e1 e2
  clear hb h1 h2 h3
  go_enter Try.func27, Try.ntmps27
  go_wp2_with fail
  clear hW
  refine (specFailsAt_any s m e _ _ _ _ Hs.out Hm.out He.out).mono ?_
  rintro x w1 ⟨u, rfl, ho, hb⟩
  obtain ⟨Au, cu, rfl, -⟩ := ho.reads.form
  replace HB := Lib.hid (sz_keep HB.out hb)
  replace s0 := cell_keep hb s0
  replace s1 := cell_keep hb s1
  replace m0 := cell_keep hb m0
  replace m1 := cell_keep hb m1
  replace e0 := cell_keep hb e0
  replace e1 := cell_keep hb e1
  replace e2 := cell_keep hb e2
  replace Hs := Lib.hid (Hs.out.keep hb)
  replace Hm := Lib.hid (Hm.out.keep hb)
  replace He := Lib.hid (He.out.keep hb)
  clear hb
  clear ho
  generalize hfl : (failsM s m e).2 = fl
  have HFL := Lib.hid hfl
  generalize (failsM s m e).1.length = nl
  clear hfl
  cases hmo : modelB s m with
  | false =>
    have HMO := Lib.hid hmo
    have HE := Lib.hid (holds_no2 (e := e) hmo)
    clear hmo
    go_wp2_with fail
    refine (specModelOk_any s m _ _ _ Hs.out Hm.out).mono ?_
    rw [HMO.out]
    rintro x w3 ⟨rfl, hb⟩
    replace HB := Lib.hid (sz_keep HB.out hb)
    replace s0 := cell_keep hb s0
    replace s1 := cell_keep hb s1
    replace m0 := cell_keep hb m0
    replace m1 := cell_keep hb m1
    replace e0 := cell_keep hb e0
    replace e1 := cell_keep hb e1
    replace e2 := cell_keep hb e2
    replace Hs := Lib.hid (Hs.out.keep hb)
    replace Hm := Lib.hid (Hm.out.keep hb)
    replace He := Lib.hid (He.out.keep hb)
    clear hb
    go_wp2
    go_ret
    exact ⟨ret_bool HE.out.symm, HB.out⟩
  | true =>
    have HMO := Lib.hid hmo
    clear hmo
    cases hok : eqOkB s e with
    | false =>
      have HOK := Lib.hid hok
      have HE := Lib.hid (holds_no1 (m := m) hok)
      clear hok
      go_wp2_with fail
      refine (specModelOk_any s m _ _ _ Hs.out Hm.out).mono ?_
      rw [HMO.out]
      rintro x w3 ⟨rfl, hb⟩
      replace HB := Lib.hid (sz_keep HB.out hb)
      replace s0 := cell_keep hb s0
      replace s1 := cell_keep hb s1
      replace m0 := cell_keep hb m0
      replace m1 := cell_keep hb m1
      replace e0 := cell_keep hb e0
      replace e1 := cell_keep hb e1
      replace e2 := cell_keep hb e2
      replace Hs := Lib.hid (Hs.out.keep hb)
      replace Hm := Lib.hid (Hm.out.keep hb)
      replace He := Lib.hid (He.out.keep hb)
      clear hb
      go_wp2_with fail
      refine (specEqOk_any s e _ _ _ Hs.out He.out).mono ?_
      rw [HOK.out]
      rintro x w2 ⟨rfl, hb⟩
      replace HB := Lib.hid (sz_keep HB.out hb)
      replace s0 := cell_keep hb s0
      replace s1 := cell_keep hb s1
      replace m0 := cell_keep hb m0
      replace m1 := cell_keep hb m1
      replace e0 := cell_keep hb e0
      replace e1 := cell_keep hb e1
      replace e2 := cell_keep hb e2
      replace Hs := Lib.hid (Hs.out.keep hb)
      replace Hm := Lib.hid (Hm.out.keep hb)
      replace He := Lib.hid (He.out.keep hb)
      clear hb
      go_wp2
      go_ret
      exact ⟨ret_bool HE.out.symm, HB.out⟩
    | true =>
      have HOK := Lib.hid hok
      have HE := Lib.hid (holds_yes hok HMO.out)
      rw [HFL.out] at HE
      clear hok
      go_wp2_with fail
      refine (specModelOk_any s m _ _ _ Hs.out Hm.out).mono ?_
      rw [HMO.out]
      rintro x w3 ⟨rfl, hb⟩
      replace HB := Lib.hid (sz_keep HB.out hb)
      replace s0 := cell_keep hb s0
      replace s1 := cell_keep hb s1
      replace m0 := cell_keep hb m0
      replace m1 := cell_keep hb m1
      replace e0 := cell_keep hb e0
      replace e1 := cell_keep hb e1
      replace e2 := cell_keep hb e2
      replace Hs := Lib.hid (Hs.out.keep hb)
      replace Hm := Lib.hid (Hm.out.keep hb)
      replace He := Lib.hid (He.out.keep hb)
      clear hb
      go_wp2_with fail
      refine (specEqOk_any s e _ _ _ Hs.out He.out).mono ?_
      rw [HOK.out]
      rintro x w2 ⟨rfl, hb⟩
      replace HB := Lib.hid (sz_keep HB.out hb)
      replace s0 := cell_keep hb s0
      replace s1 := cell_keep hb s1
      replace m0 := cell_keep hb m0
      replace m1 := cell_keep hb m1
      replace e0 := cell_keep hb e0
      replace e1 := cell_keep hb e1
      replace e2 := cell_keep hb e2
      replace Hs := Lib.hid (Hs.out.keep hb)
      replace Hm := Lib.hid (Hm.out.keep hb)
      replace He := Lib.hid (He.out.keep hb)
      clear hb
      go_wp2
      go_ret
      exact ⟨ret_bool HE.out.symm, HB.out⟩
end
end Go.Proofs.Ytkhabmoidpgapaa
