/- rowAt of package impl: a row of values by its number. · numberOf of package impl; two rows that are filled at once. · takesAndLeaves, ledValues of package impl. · opsGoAlong of package impl. · tableOk of package impl. -/
import Derived.Test.YtfomeommkfemkaaKd5843744
import Derived.Shelf.RegionOpen
import Derived.RangeFuncCalls
import Derived.Deep.AppendLies
namespace Go.Proofs.Ytfomeommkfemkaa
section
open Go.RowKit Go.Shelf
set_option linter.unusedVariables false
attribute [local go_sem] Oper.semAt_some

/-- the number left, and the row, when pairs have come -/
def rowNum (n : Int) (pre : List (Nat × Int)) : Int := pre.foldl (fun q p => q / p.2) n
def rowFill : Int → List Int → List (Nat × Int) → List Int
  | _, row, [] => row
  | n, row, p :: ps => rowFill (n / p.2) (row.set p.1 (n % p.2)) ps
theorem rowNum_snoc (n : Int) (pre : List (Nat × Int)) (p : Nat × Int) : rowNum n (pre ++ [p]) = rowNum n pre / p.2 := by simp [rowNum]
theorem rowFill_snoc : ∀ (n : Int) (row : List Int) (pre : List (Nat × Int)) (p : Nat × Int), rowFill n row (pre ++ [p]) = (rowFill n row pre).set p.1 (rowNum n pre % p.2)
  | n, row, [], p => by simp [rowFill, rowNum]
  | n, row, q :: pre, p => by
    simp only [List.cons_append, rowFill]
    rw [rowFill_snoc (n / q.2) _ pre p]
    rfl
theorem rowFill_len : ∀ (n : Int) (row : List Int) (pre : List (Nat × Int)), (rowFill n row pre).length = row.length
  | n, row, [] => rfl
  | n, row, q :: pre => by simp only [rowFill]; rw [rowFill_len]; simp
def prs {zs : List Int} (pre : List (At zs)) : List (Nat × Int) := pre.map Subtype.val
theorem at_size {zs : List Int} (hz : Sizes zs) (x : At zs) : x.1.1 < zs.length ∧ 1 ≤ x.1.2 ∧ x.1.2 ≤ 3 := by
  obtain ⟨h, e⟩ := List.getElem?_eq_some_iff.1 x.2
  have := hz _ (List.getElem_mem h)
  rw [e] at this
  exact ⟨h, this⟩
theorem rowNum_in {zs : List Int} (hz : Sizes zs) {n N : Int} (h0 : 0 ≤ n) (h1 : n ≤ N) : ∀ pre : List (At zs), 0 ≤ rowNum n (prs pre) ∧ rowNum n (prs pre) ≤ N := by
  intro pre
  induction pre generalizing n with
  | nil => exact ⟨h0, h1⟩
  | cons x pre ih =>
    have hx := at_size hz x
    have a : 0 ≤ n / x.1.2 := Int.ediv_nonneg h0 (by omega)
    have b : n / x.1.2 ≤ n := Int.ediv_le_self _ h0
    exact ih (n := n / x.1.2) a (by omega)
/-- when k of them have come, from the last one on -/
theorem row_part {zs : List Int} (hz : Sizes zs) (n : Int) : ∀ k, k ≤ zs.length → rowNum n (prs ((bwd zs).take k)) = n / waysM (zs.drop (zs.length - k)) ∧
    ∀ j, zs.length - k ≤ j → j < zs.length → (rowFill n (List.replicate zs.length 0) (prs ((bwd zs).take k)))[j]? = (digM zs n)[j]? := by
  intro k
  induction k with
  | zero =>
    intro _
    refine ⟨?_, fun j h1 h2 => by omega⟩
    simp [prs, rowNum, waysM]
  | succ k ih =>
    intro hk
    obtain ⟨i1, i2⟩ := ih (by omega)
    have hkl : k < (bwd zs).length := by rw [bwd_len]; omega
    have hm : zs.length - 1 - k < zs.length := by omega
    have hat := bwd_at (zs := zs) (k := k) (m := zs.length - 1 - k) (by omega) hkl
    have htk : prs ((bwd zs).take (k + 1)) = prs ((bwd zs).take k) ++ [(zs.length - 1 - k, zs[zs.length - 1 - k])] := by
      rw [bwd_take hkl, hat]; simp [prs]
    have e1 : zs.length - (k + 1) = zs.length - 1 - k := by omega
    have e2 : zs.length - k = zs.length - 1 - k + 1 := by omega
    rw [htk, rowNum_snoc, rowFill_snoc, i1, e1]
    refine ⟨?_, fun j h1 h2 => ?_⟩
    · rw [e2]; exact dig_left hz hm
    · by_cases hj : zs.length - 1 - k = j
      · subst hj
        rw [List.getElem?_set_self (by rw [rowFill_len]; simp; omega), digM_at hm, e2]
      · rw [List.getElem?_set_ne hj]
        exact i2 j (by omega) h2
theorem row_all {zs : List Int} (hz : Sizes zs) (n : Int) : rowFill n (List.replicate zs.length 0) (prs (bwd zs)) = digM zs n := by
  have h := (row_part hz n zs.length (Nat.le_refl _)).2
  rw [List.take_of_length_le (by rw [bwd_len]; omega)] at h
  apply List.ext_getElem?
  intro j
  by_cases hj : j < zs.length
  · exact h j (by omega) hj
  · rw [List.getElem?_eq_none (by rw [rowFill_len]; simp; omega), List.getElem?_eq_none (by rw [digM_len]; omega)]

/-- the three blocks of the call: the number, the row's cells, the row -/
def RowSt (w : World) (zs : List Int) (n : Int) (pre : List (At zs)) (W : World) : Prop :=
  Boxed W w.heap.size 3 (.int .i64 (rowNum n (prs pre))) ∧
  W.heap[w.heap.size + 1]? = some (.cells ((rowFill n (List.replicate zs.length 0) (prs pre)).map (Value.int .i64)).toArray 3 (0, 0)) ∧
  Boxed W (w.heap.size + 2) 25 (.slice (some ⟨w.heap.size + 1, 0, none⟩) zs.length zs.length)

theorem block_kept {A B : World} {row : Option Nat} {k : Nat} {cs : Array Value} {t : TypeId} (h : A.heap[k]? = some (.cells cs t (0, 0))) (hg : A.grownBy B row) (hr : ∀ r, row = some r → ∃ o : Obj, A.heap[r]? = some o ∧ o.isCells = false) : B.heap[k]? = some (.cells cs t (0, 0)) := by
  refine (hg.block k (Array.getElem?_eq_some_iff.1 h).1 (fun e => ?_)).trans h
  obtain ⟨o, ho, hc⟩ := hr k e.symm
  rw [h] at ho
  cases ho
  cases hc
theorem made_zero (n : Nat) : madeCells #[Value.int .i64 0] n = ((List.replicate n (0 : Int)).map (Value.int .i64)).toArray := by
  apply Array.ext
  · simp [madeCells]
  · intro i h1 h2
    simp [madeCells, Nat.mod_one]
theorem blk_old {wc wd : World} {bx : Nat} {o : Obj} (hz : wc.heap[bx]? = some o) (hb : Below wc.heap.size wc wd) : wd.heap[bx]? = some o := (hb.block _ (Array.getElem?_eq_some_iff.1 hz).1).trans hz
theorem rowSt_own (w : World) (zs : List Int) (n : Int) : Own (RowSt w zs n) := fun s A B row hs hg hr => ⟨block_kept hs.1 hg hr, block_kept hs.2.1 hg hr, block_kept hs.2.2 hg hr⟩
theorem rowSt_step {w W : World} {zs : List Int} {n : Int} {pre : List (At zs)} (h : RowSt w zs n pre W) (x : At zs) (hx : x.1.1 < zs.length) :
    RowSt w zs n (pre ++ [x]) ((W.setCell ⟨w.heap.size + 1, x.1.1, none⟩ (.int .i64 (rowNum n (prs pre) % x.1.2))).setCell ⟨w.heap.size, 0, none⟩ (.int .i64 (rowNum n (prs pre) / x.1.2))) := by
  obtain ⟨h1, h2, h3⟩ := h
  have hp : prs (pre ++ [x]) = prs pre ++ [x.1] := by simp [prs]
  refine ⟨?_, ?_, ?_⟩
  · rw [hp, rowNum_snoc]
    have := blk_set ((Below.heap_setCell W ⟨w.heap.size + 1, x.1.1, none⟩ (.int .i64 (rowNum n (prs pre) % x.1.2)) w.heap.size (by show w.heap.size ≠ w.heap.size + 1; omega)).trans h1) 0 (.int .i64 (rowNum n (prs pre) / x.1.2))
    exact this
  · rw [Below.heap_setCell _ ⟨w.heap.size, 0, none⟩ _ _ (by show w.heap.size + 1 ≠ w.heap.size; omega), hp, rowFill_snoc]
    refine (blk_set h2 x.1.1 _).trans ?_
    rw [List.map_set]
    simp
  · unfold Boxed
    rw [Below.heap_setCell _ ⟨w.heap.size, 0, none⟩ _ _ (by show w.heap.size + 2 ≠ w.heap.size; omega), Below.heap_setCell _ ⟨w.heap.size + 1, x.1.1, none⟩ _ _ (by show w.heap.size + 2 ≠ w.heap.size + 1; omega)]
    exact h3

theorem rw_far {w : World} {b rb : Nat} (h : b ≠ rb) (i o : Nat) (u : Value) : (w.setCell ⟨rb, i, none⟩ u).cell? ⟨b, o, none⟩ = w.cell? ⟨b, o, none⟩ := World.cell?_of_block (Below.heap_setCell w ⟨rb, i, none⟩ u b h)
theorem rw_drew {a w : World} {B : Nat} (h : Below B a w) : Below B a w.drew := ⟨h.os, h.tape, h.output, h.size, h.block⟩
theorem row_owns {w : World} {B b : Nat} {xs : List Int} (h : w.heap[b]? = some (.cells (xs.map (Value.int .i64)).toArray 3 (0, 0))) (hB : B ≤ b) (hm : xs.length ≤ 9223372036854775807) : OInts w B (.slice (some ⟨b, 0, none⟩) xs.length xs.length) xs := by
  refine ⟨by simp, .inr ⟨b, _, _, rfl, hB, h, Nat.le_refl _, by rw [maxLen_eq]; exact hm, by simp, ?_⟩⟩
  simp only
  rw [List.take_of_length_le (by simp)]

set_option maxHeartbeats 2000000 in
set_option maxRecDepth 100000 in
theorem rowAt_any (zs : List Int) (n : Int) (w : World) (v : Value) (h : RInts w v zs) (hz : Sizes zs) (hl : zs.length ≤ 4) (h0 : 0 ≤ n) (h1 : n ≤ 1000) :
    Calls Try.prog 67 #[v, .int .i64 n] w fun e w' => ∃ u, e = .returned u ∧ OInts w' w.heap.size u (digM zs n) ∧ Below w.heap.size w w' := by
  have H := Lib.hid h
  have HZ := Lib.hid hz
  obtain ⟨A, c, rfl, -⟩ := h.form
  clear h hz
  have hmk := run_make_row' (P := Try.prog) 25 3 (.int .i64 0) 8 Try.underlying25 Try.tinfo_int rfl .i64 .i64 zs.length (by omega) (by omega)
  refine (callsIn_wide (n := 8)).1 ?_
  refine callsIn_of_wp_marks Try.func67 rfl trivial ?_ rfl
  simp only [Try.ntmps67, List.size_toArray, List.length_cons, List.length_nil, Nat.reduceAdd, Nat.reduceSub, Array.replicate_succ, Array.replicate_zero, List.push_toArray, List.append_toArray, List.nil_append, List.cons_append]
  gi_wp2
  refine ⟨trivial, ?_⟩
  refine (bw_in Fence.wide 7 trivial rfl _ _ _ _).mono ?_
  rintro e w' ⟨rfl, rfl⟩
  have hB0 : Below w.heap.size w ((((w.alloc (.cells #[.int .i64 n] 3)).alloc (.cells (madeCells #[.int .i64 0] zs.length) 3)).alloc (.cells #[.slice (some ⟨w.heap.size + 1, 0, none⟩) zs.length zs.length] 25)).alloc (.cells #[.slice A zs.length c] 25)) :=
    (((below_alloc _ _).alloc (by simp) _).alloc (by simp; omega) _).alloc (by simp; omega) _
  have hS0 : RowSt w zs n [] ((((w.alloc (.cells #[.int .i64 n] 3)).alloc (.cells (madeCells #[.int .i64 0] zs.length) 3)).alloc (.cells #[.slice (some ⟨w.heap.size + 1, 0, none⟩) zs.length zs.length] 25)).alloc (.cells #[.slice A zs.length c] 25)) := by
    refine ⟨?_, ?_, ?_⟩
    · exact (((Boxed.new w 3 (.int .i64 n)).alloc _).alloc _).alloc _
    · have h2 := World.alloc_heap_new (w.alloc (.cells #[.int .i64 n] 3)) (.cells (madeCells #[.int .i64 0] zs.length) 3)
      rw [World.size_alloc] at h2
      have h3 := blk_old (blk_old h2 (below_alloc _ (.cells #[.slice (some ⟨w.heap.size + 1, 0, none⟩) zs.length zs.length] 25))) (below_alloc _ (.cells #[.slice A zs.length c] 25))
      refine h3.trans ?_
      rw [made_zero]
      rfl
    · have h2 := Boxed.new ((w.alloc (.cells #[.int .i64 n] 3)).alloc (.cells (madeCells #[.int .i64 0] zs.length) 3)) 25 (.slice (some ⟨w.heap.size + 1, 0, none⟩) zs.length zs.length)
      simp only [World.size_alloc] at h2
      exact h2.alloc _
  have hbx : ((((w.alloc (.cells #[.int .i64 n] 3)).alloc (.cells (madeCells #[.int .i64 0] zs.length) 3)).alloc (.cells #[.slice (some ⟨w.heap.size + 1, 0, none⟩) zs.length zs.length] 25)).alloc (.cells #[.slice A zs.length c] 25)).cell? ⟨w.heap.size + 3, 0, none⟩ = some (.slice A zs.length c) := by
    have := Boxed.new (((w.alloc (.cells #[.int .i64 n] 3)).alloc (.cells (madeCells #[.int .i64 0] zs.length) 3)).alloc (.cells #[.slice (some ⟨w.heap.size + 1, 0, none⟩) zs.length zs.length] 25)) 25 (.slice A zs.length c)
    simp only [World.size_alloc] at this
    exact this.cell
  have hI : RInts ((((w.alloc (.cells #[.int .i64 n] 3)).alloc (.cells (madeCells #[.int .i64 0] zs.length) 3)).alloc (.cells #[.slice (some ⟨w.heap.size + 1, 0, none⟩) zs.length zs.length] 25)).alloc (.cells #[.slice A zs.length c] 25)) (.slice A zs.length c) zs := H.out.keep hB0
  have hsz4 : ((((w.alloc (.cells #[.int .i64 n] 3)).alloc (.cells (madeCells #[.int .i64 0] zs.length) 3)).alloc (.cells #[.slice (some ⟨w.heap.size + 1, 0, none⟩) zs.length zs.length] 25)).alloc (.cells #[.slice A zs.length c] 25)).heap.size = w.heap.size + 4 := by simp
  have hbs : (((w.alloc (.cells #[.int .i64 n] 3)).alloc (.cells (madeCells #[.int .i64 0] zs.length) 3)).alloc (.cells #[.slice (some ⟨w.heap.size + 1, 0, none⟩) zs.length zs.length] 25)).heap.size = w.heap.size + 3 := by simp
  generalize hW4 : (((w.alloc (.cells #[.int .i64 n] 3)).alloc (.cells (madeCells #[.int .i64 0] zs.length) 3)).alloc (.cells #[.slice (some ⟨w.heap.size + 1, 0, none⟩) zs.length zs.length] 25)).alloc (.cells #[.slice A zs.length c] 25) = W4 at hB0 hS0 hbx hI hsz4 ⊢
  clear hmk hbs
  gi_wp2
  refine wpIn_rangeFunc_ownG rfl (by omega) (gf := 76) (lb := #[.pointer (some ⟨w.heap.size + 1 + 1 + 1, 0, none⟩)]) rfl trivial (enters_of Try.func76 (by kernel_rfl) rfl)
    (bw_stops Fence.wide 7 trivial rfl (by omega) (w.heap.size + 1 + 1 + 1) c A zs (by omega) w H.out W4 hB0 hbx) bwKp_t (bwKp_b (by omega)) (Below.refl _ _) (fun _ => rfl)
    (fun pre W => RowSt w zs n pre W ∧ Below w.heap.size w W)
    (fun _ _ _ => False)
    (OwnFrom.and (Own.from (rowSt_own w zs n) _) (ownFrom_below (Nat.le_refl _) (by omega)))
    (fun _ _ _ _ _ hs _ _ => hs)
    ⟨hS0, hB0⟩
    (fun x => { tmps := #[.slice A zs.length c, .int .i64 n, undef, .pointer (some ⟨w.heap.size, 0, none⟩), .slice none 0 0, .pointer (some ⟨w.heap.size + 1 + 1, 0, none⟩), .int .i64 (x.1.1 : Int), .int .i64 x.1.2, .slice A zs.length c, .int .i64 (zs.length : Int), .slice (some ⟨w.heap.size + 1, 0, none⟩) zs.length zs.length, .slice A zs.length c, .func (.func 76) #[] #[.pointer (some ⟨w.heap.size + 1 + 1 + 1, 0, none⟩)], .int .i64 (x.1.1 : Int), .int .i64 x.1.2, undef, undef, undef, undef, undef, undef, undef, undef, undef, undef], defers := [] }) ?assign ?body ?done ?stop
  case assign =>
    intro l x W K hK
    gi_wp2
    exact hK
  case body =>
    rintro l pre x W ⟨hS, hB⟩ _
    have hx := at_size HZ.out x
    have hq := rowNum_in HZ.out h0 h1 pre
    have HS := Lib.hid hS
    obtain ⟨s1, s2, s3⟩ := hS
    have c1 := s1.cell
    have c2 := s1.frozen
    have c3 := s3.cell
    have hxl : (x.1.1 : Int) < (zs.length : Int) := by omega
    have d1 : W.cell? ⟨w.heap.size + 1, x.1.1, none⟩ = some (.int .i64 ((rowFill n (List.replicate zs.length 0) (prs pre))[x.1.1]'(by rw [rowFill_len]; simp; omega))) := by
      rw [blk_cell s2]; simp
    have d2 := blk_free s2 x.1.1
    generalize (rowFill n (List.replicate zs.length 0) (prs pre))[x.1.1]'(by rw [rowFill_len]; simp; omega) = y at d1
    have HST := Lib.hid (rowSt_step HS.out x hx.1)
    have hw1 : (rowNum n (prs pre)).tmod x.1.2 = rowNum n (prs pre) % x.1.2 := Int.tmod_eq_emod_of_nonneg hq.1
    have hw2 : (rowNum n (prs pre)).tdiv x.1.2 = rowNum n (prs pre) / x.1.2 := Int.tdiv_eq_ediv_of_nonneg hq.1
    have hm0 := Int.emod_nonneg (rowNum n (prs pre)) (show x.1.2 ≠ 0 by omega)
    have hm1 := Int.emod_lt_of_pos (rowNum n (prs pre)) (show 0 < x.1.2 by omega)
    have hd0 : 0 ≤ rowNum n (prs pre) / x.1.2 := Int.ediv_nonneg hq.1 (by omega)
    have hd1 : rowNum n (prs pre) / x.1.2 ≤ rowNum n (prs pre) := Int.ediv_le_self _ hq.1
    have hz0 : ¬ x.1.2 = 0 := by omega
    generalize rowNum n (prs pre) / x.1.2 = qd at hw2 hd0 hd1 HST
    generalize rowNum n (prs pre) % x.1.2 = qm at hw1 hm0 hm1 HST
    generalize rowNum n (prs pre) = q at hw1 hw2 hq hd1 c1 s1
    clear s1 s2 s3
    have hqm : qm ≤ 3 := by omega
    have hqw1 : IntKind.i64.wrap qm = qm := by rw [IntKind.wrap_i64]; omega
    have hqd : qd ≤ 1000 := by omega
    have hqw2 : IntKind.i64.wrap qd = qd := by rw [IntKind.wrap_i64]; omega
    have hmo : Try.prog.follows .mixedOrders = true := by kernel_rfl
    have g1 : (W.drew.setCell ⟨w.heap.size + 1, x.1.1, none⟩ (.int .i64 qm)).cell? ⟨w.heap.size, 0, none⟩ = some (.int .i64 q) := (rw_far (by omega) _ _ _).trans c1
    have g2 : (W.drew.setCell ⟨w.heap.size + 1, x.1.1, none⟩ (.int .i64 qm)).frozen? ⟨w.heap.size, 0, none⟩ = false := by rw [World.frozen?_setCell]; exact c2
    have HK := Lib.hid (show KeepsFrom W4.heap.size W ((W.drew.setCell ⟨w.heap.size + 1, x.1.1, none⟩ (.int .i64 qm)).setCell ⟨w.heap.size, 0, none⟩ (.int .i64 qd)) ∧ BwKp w (w.heap.size + 1 + 1 + 1) (.slice A zs.length c) W ((W.drew.setCell ⟨w.heap.size + 1, x.1.1, none⟩ (.int .i64 qm)).setCell ⟨w.heap.size, 0, none⟩ (.int .i64 qd)) ∧ RowSt w zs n (pre ++ [x]) ((W.drew.setCell ⟨w.heap.size + 1, x.1.1, none⟩ (.int .i64 qm)).setCell ⟨w.heap.size, 0, none⟩ (.int .i64 qd)) ∧ Below w.heap.size w ((W.drew.setCell ⟨w.heap.size + 1, x.1.1, none⟩ (.int .i64 qm)).setCell ⟨w.heap.size, 0, none⟩ (.int .i64 qd)) from
      ⟨(((KeepsOthers.drew W).trans (KeepsOthers.setCell _ _ _)).trans (KeepsOthers.setCell _ _ _)).from _,
       ⟨((rw_drew (Below.refl w.heap.size W)).setCell (p := ⟨w.heap.size + 1, x.1.1, none⟩) (by show w.heap.size ≤ w.heap.size + 1; omega) _).setCell (p := ⟨w.heap.size, 0, none⟩) (Nat.le_refl _) _, fun hc => (rw_far (by omega) _ _ _).trans ((rw_far (by omega) _ _ _).trans hc)⟩,
       HST.out,
       ((rw_drew hB).setCell (p := ⟨w.heap.size + 1, x.1.1, none⟩) (by show w.heap.size ≤ w.heap.size + 1; omega) _).setCell (p := ⟨w.heap.size, 0, none⟩) (Nat.le_refl _) _⟩)
    gi_wp2
    gi_region_with_o (fail)
    all_goals gi_wp2
    all_goals exact HK.out
  case done =>
    rintro D ys W hD rfl ⟨hS, hB⟩ hK
    have HS := Lib.hid hS
    have c3 := hS.2.2.cell
    have hm1 : zs.length ≤ 9223372036854775807 := by omega
    have HR := Lib.hid (row_all HZ.out n)
    clear hS hS0 hbx hI
    gi_wp2
    refine ⟨by simp, .inl ⟨_, _, rfl, run_takeDeferred hK, ?_⟩⟩
    have hk := block_kept HS.out.2.1 (grownBy_putObj' W D (.deferred none)) (fun r e => by cases e; exact ⟨_, hK, rfl⟩)
    rw [HR.out] at hk
    have ho := row_owns (B := w.heap.size) hk (by omega) (by rw [digM_len]; exact hm1)
    rw [digM_len] at ho
    exact ⟨.slice (some ⟨w.heap.size + 1, 0, none⟩) zs.length zs.length, by simp [results, Try.results67, go_sem], _, rfl, ho, hB.trans (belowK_b (w := w) (Nat.le_refl _) W D _ _ (by have := hB0.size; omega) hK rfl rfl)⟩
  case stop =>
    rintro D c pre W _ _ h _
    exact h.elim
end

section
open Go.RowKit
set_option linter.unusedVariables false
set_option linter.unusedSimpArgs false

theorem vb_alloc {a w : World} (h : Below a.heap.size a w) (o : Obj) : Below a.heap.size a (w.alloc o) := h.alloc h.size o
theorem vb_drew {a w : World} (h : Below a.heap.size a w) : Below a.heap.size a w.drew := ⟨h.os, h.tape, h.output, h.size, h.block⟩
theorem vb_undrew {w w' : World} (h : Below w.drew.heap.size w.drew w') : Below w.heap.size w w' := ⟨h.os, h.tape, h.output, h.size, h.block⟩
theorem va_far {w : World} {b rb : Nat} (h : b ≠ rb) (i o : Nat) (u : Value) : (w.setCell ⟨rb, i, none⟩ u).cell? ⟨b, o, none⟩ = w.cell? ⟨b, o, none⟩ := World.cell?_of_block (Below.heap_setCell w ⟨rb, i, none⟩ u b h)
theorem place_wrap {zs vs : List Int} (hz : Sizes zs) (hl : zs.length ≤ 4) (h : InAll zs vs) {k : Nat} (hk : k < zs.length) (hk' : k < vs.length) :
    ∃ a, IntKind.i64.wrap (placeM 0 (zs.take k) (vs.take k) * zs[k]) = a ∧ IntKind.i64.wrap (a + vs[k]) = placeM 0 (zs.take (k + 1)) (vs.take (k + 1)) := by
  have h1 := ways_few (hz.take (k + 1)) (by simp; omega)
  obtain ⟨h2, h3⟩ := place_in (hz.take (k + 1)) (h.take (k + 1))
  have h4 := h.2 k hk hk'
  have h5 := hz _ (List.getElem_mem hk)
  rw [placeM_take hk hk'] at h2 h3 ⊢
  generalize placeM 0 (zs.take k) (vs.take k) * zs[k] = q at h2 h3 ⊢
  generalize vs[k] = v at h2 h3 h4 ⊢
  refine ⟨q, ?_, ?_⟩ <;> (rw [IntKind.wrap_i64]; omega)

set_option maxRecDepth 100000 in
theorem numberOf_any (zs vs : List Int) (w : World) (v v' : Value) (h : RInts w v zs) (h' : RInts w v' vs) (hz : Sizes zs) (hl : zs.length ≤ 4) (hin : InAll zs vs) :
    Calls Try.prog 68 #[v, v'] w fun e w' => e = .returned (.int .i64 (placeM 0 zs vs)) ∧ w = w' := by
  have H := Lib.hid h
  have H' := Lib.hid h'
  obtain ⟨A, c, rfl, -⟩ := h.form
  obtain ⟨A', c', rfl, -⟩ := h'.form
  have HW := Lib.hid (fun (k : Nat) (hk : k < zs.length) (hk' : k < vs.length) => place_wrap hz hl hin hk hk')
  have HL := Lib.hid hin.1
  have hvl : vs.length ≤ 4 := by rw [hin.1]; exact hl
  clear h h' hz hin
  go_enter Try.func68, Try.ntmps68
  go_wp2
  go_loopw [5, 6, 7, 10] (fun p _ _ i wr => ∃ k : Nat, k ≤ vs.length ∧ i = .int .i64 k ∧ p = .int .i64 (placeM 0 (zs.take k) (vs.take k)) ∧ w = wr) (fun _ _ _ i _ => vs.length - (intOf i).toNat)
  case atStart => exact ⟨0, Nat.zero_le _, rfl, rfl, rfl⟩
  case round =>
    obtain ⟨k, hk, rfl, rfl, rfl⟩ := hrel
    by_cases hlt : k < vs.length
    · obtain ⟨b, o, c2, e, hx⟩ := H'.out.at_ hlt
      cases e
      have hlt' : (k : Int) < (vs.length : Int) := by omega
      have hkz : k < zs.length := by rw [← HL.out]; exact hlt
      have hkz' : (k : Int) < (zs.length : Int) := by omega
      obtain ⟨b2, o2, c3, e, hy⟩ := H.out.at_ hkz
      cases e
      obtain ⟨a, hw1, hw2⟩ := HW.out k hkz hlt
      generalize vs[k] = x at hx hw2
      generalize zs[k] = z at hy hw1
      generalize hq : placeM 0 (zs.take (k + 1)) (vs.take (k + 1)) = q at hw2
      have HQ := Lib.hid hq
      clear hq
      go_wp2
      go_roundw
      case rel => exact ⟨k + 1, by omega, by go_num, by rw [HQ.out], by first | trivial | rfl⟩
      case measure => simp [intOf]; omega
    · have hkn : k = vs.length := by omega
      have hlt' : ¬ (k : Int) < (vs.length : Int) := by omega
      have HT := Lib.hid (show zs.take k = zs from take_all (by rw [← HL.out]; omega))
      have HT2 := Lib.hid (show vs.take k = vs from take_all (by omega))
      rw [HT.out, HT2.out]
      go_wp2
      go_ret
      exact ⟨rfl, rfl⟩

/-- two rows that are being filled at once: k of their places are done -/
def TwoAt (W2 wr : World) (bs bt n : Nat) (xs ys : List Int) (k : Nat) : Prop :=
  ∃ cs ds : Array Value, wr.heap[bs]? = some (.cells cs 3 (0, 0)) ∧ wr.heap[bt]? = some (.cells ds 3 (0, 0)) ∧ cs.size = n ∧ ds.size = n ∧ (∀ j, j < k → cs[j]? = (xs[j]?).map (Value.int .i64)) ∧ (∀ j, j < k → ds[j]? = (ys[j]?).map (Value.int .i64)) ∧
    bs ≠ bt ∧ W2.heap.size ≤ bs ∧ W2.heap.size ≤ bt ∧ Below W2.heap.size W2 wr
section
variable {W2 wr w6 : World} {bs bt n k : Nat} {xs ys : List Int} {x y : Int}
theorem TwoAt.bel (h : TwoAt W2 wr bs bt n xs ys k) : Below W2.heap.size W2 wr := by obtain ⟨_, _, _, _, _, _, _, _, _, _, _, hb⟩ := h; exact hb
theorem TwoAt.ne (h : TwoAt W2 wr bs bt n xs ys k) : bs ≠ bt ∧ W2.heap.size ≤ bs ∧ W2.heap.size ≤ bt := by obtain ⟨_, _, _, _, _, _, _, _, a, b, c, _⟩ := h; exact ⟨a, b, c⟩
theorem two_put {cs : Array Value} {zs : List Int} {z : Int} (hs : cs.size = n) (hk : k < n) (hd : ∀ j, j < k → cs[j]? = (zs[j]?).map (Value.int .i64)) (hz : zs[k]? = some z) : ∀ j, j < k + 1 → (cs.setIfInBounds k (.int .i64 z))[j]? = (zs[j]?).map (Value.int .i64) := by
  intro j hj
  rw [Array.getElem?_setIfInBounds]
  by_cases hjk : k = j
  · subst hjk
    rw [if_pos rfl, if_pos (by omega), hz]
    rfl
  · rw [if_neg hjk]
    exact hd j (by omega)
theorem TwoAt.step (h : TwoAt W2 wr bs bt n xs ys k) (hb : Below wr.heap.size wr w6) (hk : k < n) (hx : xs[k]? = some x) (hy : ys[k]? = some y) :
    TwoAt W2 ((w6.setCell ⟨bs, k, none⟩ (.int .i64 x)).setCell ⟨bt, k, none⟩ (.int .i64 y)) bs bt n xs ys (k + 1) := by
  obtain ⟨cs, ds, a1, a2, a3, a4, a5, a6, a7, a8, a9, a10⟩ := h
  have b1 := (hb.block _ (Array.getElem?_eq_some_iff.1 a1).1).trans a1
  have b2 := (hb.block _ (Array.getElem?_eq_some_iff.1 a2).1).trans a2
  refine ⟨_, _, (Below.heap_setCell _ ⟨bt, k, none⟩ _ bs (by show bs ≠ bt; exact a7)).trans (blk_set b1 k _), blk_set ((Below.heap_setCell _ ⟨bs, k, none⟩ _ bt (by show bt ≠ bs; exact fun e => a7 e.symm)).trans b2) k _, by simpa using a3, by simpa using a4, two_put a3 hk a5 hx, two_put a4 hk a6 hy, a7, a8, a9,
    ((a10.trans (hb.mono a10.size)).setCell (p := ⟨bs, k, none⟩) a8 _).setCell (p := ⟨bt, k, none⟩) a9 _⟩
theorem TwoAt.cells (h : TwoAt W2 wr bs bt n xs ys k) (hb : Below wr.heap.size wr w6) (hk : k < n) (X : Value) :
    (∃ u, w6.cell? ⟨bs, k, none⟩ = some u) ∧ w6.frozen? ⟨bs, k, none⟩ = false ∧ (∃ u, (w6.setCell ⟨bs, k, none⟩ X).cell? ⟨bt, k, none⟩ = some u) ∧ (w6.setCell ⟨bs, k, none⟩ X).frozen? ⟨bt, k, none⟩ = false := by
  obtain ⟨cs, ds, a1, a2, a3, a4, a5, a6, a7, a8, a9, a10⟩ := h
  have b1 := (hb.block _ (Array.getElem?_eq_some_iff.1 a1).1).trans a1
  have b2 := (hb.block _ (Array.getElem?_eq_some_iff.1 a2).1).trans a2
  have b3 := (Below.heap_setCell w6 ⟨bs, k, none⟩ X bt (by show bt ≠ bs; exact fun e => a7 e.symm)).trans b2
  exact ⟨⟨cs[k]'(by omega), (blk_cell b1 k).trans (Array.getElem?_eq_getElem (by omega))⟩, blk_free b1 k, ⟨ds[k]'(by omega), (blk_cell b3 k).trans (Array.getElem?_eq_getElem (by omega))⟩, blk_free b3 k⟩
theorem TwoAt.done (h : TwoAt W2 wr bs bt n xs ys n) (hx : xs.length = n) (hy : ys.length = n) (hm : n ≤ 9223372036854775807) : RInts wr (.slice (some ⟨bs, 0, none⟩) n n) xs ∧ RInts wr (.slice (some ⟨bt, 0, none⟩) n n) ys := by
  obtain ⟨cs, ds, a1, a2, a3, a4, a5, a6, a7, a8, a9, a10⟩ := h
  refine ⟨⟨_, n, by rw [hx], by omega, by rw [maxLen_eq]; exact hm, fun j x hj => ⟨bs, 0, rfl, ?_⟩⟩, ⟨_, n, by rw [hy], by omega, by rw [maxLen_eq]; exact hm, fun j x hj => ⟨bt, 0, rfl, ?_⟩⟩⟩
  · have hl := (List.getElem?_eq_some_iff.1 hj).1
    rw [Nat.zero_add, blk_cell a1, a5 j (by omega), hj]; rfl
  · have hl := (List.getElem?_eq_some_iff.1 hj).1
    rw [Nat.zero_add, blk_cell a2, a6 j (by omega), hj]; rfl
theorem two_start {W wx : World} {o : Array Value} (hh : wx.heap = ((W.alloc (.cells o 3)).alloc (.cells o 3)).heap) (ho : wx.os = W.os) (ht : wx.tape = W.tape) (hp : wx.output = W.output) (hn : o.size = n) (xs ys : List Int) :
    TwoAt W wx W.heap.size (W.heap.size + 1) n xs ys 0 ∧ TwoAt W wx (W.heap.size + 1) W.heap.size n xs ys 0 := by
  have h1 : ((W.alloc (.cells o 3)).alloc (.cells o 3)).heap[W.heap.size]? = some (.cells o 3 (0, 0)) := by
    rw [heap_alloc_old _ _ (by simp)]; exact heap_alloc_new W _
  have h2 : ((W.alloc (.cells o 3)).alloc (.cells o 3)).heap[W.heap.size + 1]? = some (.cells o 3 (0, 0)) :=
    (congrArg (fun i => ((W.alloc (.cells o 3)).alloc (.cells o 3)).heap[i]?) (by simp)).trans (heap_alloc_new (W.alloc (.cells o 3)) _)
  have hb : Below W.heap.size W ((W.alloc (.cells o 3)).alloc (.cells o 3)) := (below_alloc _ _).alloc (by simp) _
  have hb' : Below W.heap.size W wx := ⟨ho, ht, hp, by rw [hh]; exact hb.size, fun n hn => by rw [hh]; exact hb.block n hn⟩
  rw [← hh] at h1 h2
  exact ⟨⟨o, o, h1, h2, hn, hn, fun j hj => by omega, fun j hj => by omega, by omega, by omega, by omega, hb'⟩, ⟨o, o, h2, h1, hn, hn, fun j hj => by omega, fun j hj => by omega, by omega, by omega, by omega, hb'⟩⟩
end
end

section
open Go.RowKit
set_option linter.unusedVariables false
set_option linter.unusedSimpArgs false

set_option maxRecDepth 100000 in
theorem takesAndLeaves_any (s : MSig) (k : Nat) (w : World) (v : Value) (h : RSig w v s) (hv : validB s = true) (hk : k < s.ops.length) :
    Calls Try.prog 64 #[v, .int .i64 k] w fun e w' => ∃ u, e = .returned (.tuple #[u, .int .i64 ((opRow s k).getLastD (-1))]) ∧ RInts w' u (opRow s k).dropLast ∧ Below w.heap.size w w' := by
  obtain ⟨Asa, csa, rfl⟩ := h.form
  have hb : Below w.heap.size w (w.alloc (.cells #[.int .i64 s.sorts, .slice Asa s.ops.length csa] 32)) := below_alloc _ _
  have HB := Lib.hid hb
  have hsz : (w.alloc (.cells #[.int .i64 s.sorts, .slice Asa s.ops.length csa] 32)).heap.size = w.heap.size + 1 := by simp
  have Hs := Lib.hid (h.keep hb)
  have s0 := bx_at (w) #[.int .i64 s.sorts, .slice Asa s.ops.length csa] 32 (k := 0) rfl
  have s1 := bx_at (w) #[.int .i64 s.sorts, .slice Asa s.ops.length csa] 32 (k := 1) rfl
  generalize hW : w.alloc (.cells #[.int .i64 s.sorts, .slice Asa s.ops.length csa] 32) = W at HB hsz Hs s0 s1
  clear hb h
  have hk' : (k : Int) < (s.ops.length : Int) := by omega
  obtain ⟨r1, r2, -⟩ := opRow_valid hv hk
  obtain ⟨b, o, c, u, e, hx, hr⟩ := Hs.out.of.2.at_ hk
  cases e
  have HR : Hid (RInts W u (opRow s k)) := by rw [opRow_at hk]; exact hr
  clear hr hv
  generalize opRow s k = row at HR r1 r2
  obtain ⟨n, hn⟩ : ∃ n : Nat, row.length = n + 1 := ⟨row.length - 1, by omega⟩
  have hne : n < row.length := by omega
  obtain ⟨b1, o1, c1, rfl, hy⟩ := HR.out.at_ hne
  have hcap : n ≤ c1 := by
    obtain ⟨A9, c9, e, h9, -⟩ := HR.out.form
    cases e
    omega
  have HLS : Hid (row.getLastD (-1) = row[n]) := by
    have := last_at (row := row) (by omega)
    simp only [hn, Nat.add_sub_cancel] at this
    exact this
  have HD := Lib.hid HR.out.dropLast
  rw [hn] at HD
  simp only [Nat.add_sub_cancel] at HD
  rw [HLS.out]
  generalize row[n] = last at hy
  have hw0 : IntKind.i64.wrap (((n + 1 : Nat) : Int) - 1) = (n : Int) := by rw [IntKind.wrap_i64]; omega
  have hnn : (n : Int) < (n : Int) + 1 := by omega
  rw [hn] at hx
  clear HR HLS hne
  go_enter Try.func64, Try.ntmps64
  go_wp2_with fail
  clear hW
  refine wp_region_held_drew (S := (fun w' => w'.cell? ⟨b1, o1 + n, none⟩ = some (.int .i64 last))) (by kernel_rfl) ?_ (fun hHeld => ?_)
  · exact hy
  refine wpAnyH_take (i := 0) (oi := _) (v := ?_) rfl (by kernel_rfl) (by kernel_rfl) (by kernel_rfl) (fun _ _ _ h => h) (Or.inl ⟨by rfl, ?_⟩) (by assumption) ?_
  rotate_left
  · first | (intro w' hSw; (try dsimp only at hSw); go_simp; done) | (intro w' hSw; (try dsimp only at hSw); go_simp; with_reducible rfl)
  try simp only [Act.put, List.getElem_toArray, List.getElem_cons_zero, List.getElem_cons_succ, List.setIfInBounds_toArray, List.set_cons_zero, List.set_cons_succ]
  refine wpAnyH_take (i := 1) (oi := _) (v := ?_) rfl (by kernel_rfl) (by kernel_rfl) (by kernel_rfl) (fun _ _ _ h => h) (Or.inl ⟨by rfl, ?_⟩) (by assumption) ?_
  rotate_left
  · first | (intro w' hSw; (try dsimp only at hSw); go_simp; done) | (intro w' hSw; (try dsimp only at hSw); go_simp; with_reducible rfl)
  try simp only [Act.put, List.getElem_toArray, List.getElem_cons_zero, List.getElem_cons_succ, List.setIfInBounds_toArray, List.set_cons_zero, List.set_cons_succ]
  refine wpAnyH_take (i := 2) (oi := _) (v := ?_) rfl (by kernel_rfl) (by kernel_rfl) (by kernel_rfl) (fun _ _ _ h => h) (Or.inl ⟨by rfl, ?_⟩) (by assumption) ?_
  rotate_left
  · first | (intro w' hSw; (try dsimp only at hSw); go_simp; done) | (intro w' hSw; (try dsimp only at hSw); go_simp; with_reducible rfl)
  try simp only [Act.put, List.getElem_toArray, List.getElem_cons_zero, List.getElem_cons_succ, List.setIfInBounds_toArray, List.set_cons_zero, List.set_cons_succ]
  refine wpAnyH_take (i := 3) (oi := _) (v := ?_) rfl (by kernel_rfl) (by kernel_rfl) (by kernel_rfl) (fun _ _ _ h => h) (Or.inl ⟨by rfl, ?_⟩) (by assumption) ?_
  rotate_left
  · first | (intro w' hSw; (try dsimp only at hSw); go_simp; done) | (intro w' hSw; (try dsimp only at hSw); go_simp; with_reducible rfl)
  try simp only [Act.put, List.getElem_toArray, List.getElem_cons_zero, List.getElem_cons_succ, List.setIfInBounds_toArray, List.set_cons_zero, List.set_cons_succ]
  refine wpAnyH_take (i := 4) (oi := _) (v := ?_) rfl (by kernel_rfl) (by kernel_rfl) (by kernel_rfl) (fun _ _ _ h => h) (Or.inl ⟨by rfl, ?_⟩) (by assumption) ?_
  rotate_left
  · first | (intro w' hSw; (try dsimp only at hSw); go_simp; done) | (intro w' hSw; (try dsimp only at hSw); go_simp; with_reducible rfl)
  try simp only [Act.put, List.getElem_toArray, List.getElem_cons_zero, List.getElem_cons_succ, List.setIfInBounds_toArray, List.set_cons_zero, List.set_cons_succ]
  refine wpAnyH_take (i := 5) (oi := _) (v := ?_) rfl (by kernel_rfl) (by kernel_rfl) (by kernel_rfl) (fun _ _ _ h => h) (Or.inl ⟨by rfl, ?_⟩) (by assumption) ?_
  rotate_left
  · first | (intro w' hSw; (try dsimp only at hSw); go_simp; done) | (intro w' hSw; (try dsimp only at hSw); go_simp; with_reducible rfl)
  try simp only [Act.put, List.getElem_toArray, List.getElem_cons_zero, List.getElem_cons_succ, List.setIfInBounds_toArray, List.set_cons_zero, List.set_cons_succ]
  refine wpAnyH_take (i := 6) (oi := _) (v := ?_) rfl (by kernel_rfl) (by kernel_rfl) (by kernel_rfl) (fun _ _ _ h => h) (Or.inl ⟨by rfl, ?_⟩) (by assumption) ?_
  rotate_left
  · first | (intro w' hSw; (try dsimp only at hSw); go_simp; done) | (intro w' hSw; (try dsimp only at hSw); go_simp; with_reducible rfl)
  try simp only [Act.put, List.getElem_toArray, List.getElem_cons_zero, List.getElem_cons_succ, List.setIfInBounds_toArray, List.set_cons_zero, List.set_cons_succ]
  refine wpAnyH_take (i := 7) (oi := _) (v := ?_) rfl (by kernel_rfl) (by kernel_rfl) (by kernel_rfl) (fun _ _ _ h => h) (Or.inl ⟨by rfl, ?_⟩) (by assumption) ?_
  rotate_left
  · first | (intro w' hSw; (try dsimp only at hSw); go_simp; done) | (intro w' hSw; (try dsimp only at hSw); go_simp; with_reducible rfl)
  try simp only [Act.put, List.getElem_toArray, List.getElem_cons_zero, List.getElem_cons_succ, List.setIfInBounds_toArray, List.set_cons_zero, List.set_cons_succ]
  refine wpAnyH_take (i := 8) (oi := _) (v := ?_) rfl (by kernel_rfl) (by kernel_rfl) (by kernel_rfl) (fun _ _ _ h => h) (Or.inl ⟨by rfl, ?_⟩) (by assumption) ?_
  rotate_left
  · first | (intro w' hSw; (try dsimp only at hSw); go_simp; done) | (intro w' hSw; (try dsimp only at hSw); go_simp; with_reducible rfl)
  try simp only [Act.put, List.getElem_toArray, List.getElem_cons_zero, List.getElem_cons_succ, List.setIfInBounds_toArray, List.set_cons_zero, List.set_cons_succ]
  refine wpAnyH_done (by kernel_rfl) ?_ _
  clear hx hy s0 s1
  go_wp2
  refine bodyPost_ret (v := .tuple #[.slice (some ⟨b1, o1, none⟩) n c1, .int .i64 last]) (by simp [results, Try.results64, go_sem]) rfl ?_
  exact ⟨_, rfl, HD.out.keep (map_drew (Below.refl _ _)), map_drew HB.out⟩

set_option maxRecDepth 100000 in
theorem ledValues_any (h : List (List Int)) (sorts vals : List Int) (w : World) (v v1 v2 : Value) (hh : RRows w v h) (h1 : RInts w v1 sorts) (h2 : RInts w v2 vals) (hin : VIn h sorts vals) (hs : vals.length ≤ 1000000) :
    Calls Try.prog 66 #[v, v1, v2] w fun e w' => ∃ u, e = .returned u ∧ OInts w' w.heap.size u (ledV h sorts vals) ∧ Below w.heap.size w w' := by
  have HH := Lib.hid hh
  have H1 := Lib.hid h1
  have H2 := Lib.hid h2
  have HIN := Lib.hid hin
  obtain ⟨A, c, rfl, -⟩ := hh.form
  obtain ⟨A1, c1, rfl, -⟩ := h1.form
  obtain ⟨A2, c2, rfl, -⟩ := h2.form
  have HRL := Lib.hid (ledV_len (h := h) hin.1)
  have hle : sorts.length = vals.length := hin.1.symm
  have HLE := Lib.hid hle
  clear hh h1 h2 hin hle
  have hmk := run_make_row' (P := Try.prog) 25 3 (.int .i64 0) 8 Try.underlying25 Try.tinfo_int rfl .i64 .i64 vals.length (by omega) (by omega)
  go_enter Try.func66, Try.ntmps66
  go_wp2
  go_loopw [8, 9, 15] (fun a b i wr => ∃ k : Nat, k ≤ vals.length ∧ i = .int .i64 k ∧ Filling w wr (ledV h sorts vals) k) (fun _ _ i _ => vals.length - (intOf i).toNat)
  case atStart => exact ⟨0, Nat.zero_le _, rfl, Filling.start w _ _ (by rw [HRL.out]; simp [madeCells])⟩
  case round =>
    obtain ⟨k, hk, rfl, hf⟩ := hrel
    have HF := Lib.hid hf
    have HB := Lib.hid (filling_below hf)
    clear hf hmk
    by_cases hlt : k < vals.length
    · have hlt' : (k : Int) < (vals.length : Int) := by omega
      have hks : k < sorts.length := by have := HLE.out; omega
      have hks' : (k : Int) < (sorts.length : Int) := by omega
      obtain ⟨b, o, c', e, hx⟩ := (H2.out.keep HB.out).at_ hlt
      cases e
      obtain ⟨b1, o1, c1', e, hy⟩ := (H1.out.keep HB.out).at_ hks
      cases e
      have HX := Lib.hid (ledV_at hks hlt (by rw [HRL.out]; exact hlt))
      obtain ⟨q1, q2, q3, q4⟩ := HIN.out.2 k hks hlt
      obtain ⟨u, g1, g2⟩ := HF.out.cell (by rw [HRL.out]; exact hlt)
      generalize sorts[k] = sk at *
      generalize vals[k] = vk at *
      obtain ⟨i, rfl⟩ : ∃ i : Nat, sk = (i : Int) := ⟨sk.toNat, by omega⟩
      obtain ⟨j, rfl⟩ : ∃ j : Nat, vk = (j : Int) := ⟨vk.toNat, by omega⟩
      have hi : i < h.length := by omega
      unfold ledOne at HX
      rw [Int.toNat_natCast] at HX q4
      rw [getD_at _ hi] at HX q4
      obtain ⟨b2, o2, c2', u2, e, hz, hr⟩ := (HH.out.keep HB.out).at_ hi
      cases e
      generalize h[i] = hrow at *
      have hj : j < hrow.length := by omega
      rw [Int.toNat_natCast, getD_at _ hj] at HX
      obtain ⟨b3, o3, c3', rfl, ht⟩ := hr.at_ hj
      generalize hrow[j] = out at *
      clear hr
      go_wp2
      go_roundw
      case rel => exact ⟨k + 1, by omega, by go_num, HF.out.step (by rw [HRL.out]; exact hlt) HX.out⟩
      case measure => simp [intOf]; omega
    · go_wp2
      go_ret
      obtain ⟨r1, r2⟩ := HF.out.done (by rw [HRL.out]; omega) (by omega)
      have hkn : k = vals.length := by omega
      subst hkn
      exact ⟨_, rfl, r1, r2⟩
end

section
open Go.RowKit
set_option linter.unusedVariables false
set_option linter.unusedSimpArgs false

theorem homOp_at {s : MSig} {m n : MModel} {h : List (List Int)} {k j : Nat} (hj : j < (m.tables.getD k []).length) (e : homAt s m n h k j = false) : homOp s m n h k = false := allN_bad hj e

set_option maxHeartbeats 3200000 in
set_option maxRecDepth 100000 in
theorem opsGoAlong_any (s : MSig) (m n : MModel) (h : List (List Int)) (r : HomRows s m n h) (w : World) (v va vb vh : Value) (h1 : RSig w v s) (h2 : RModel w va m) (h3 : RModel w vb n) (h4 : RRows w vh h) :
    Calls Try.prog 47 #[v, va, vb, vh] w fun e w' => e = .returned (.bool (homOps s m n h)) ∧ Below w.heap.size w w' := by
  obtain ⟨Asa, csa, rfl⟩ := h1.form
  obtain ⟨Ama, cma, Amb, cmb, rfl⟩ := h2.form
  obtain ⟨Ana, cna, Anb, cnb, rfl⟩ := h3.form
  have hb : Below w.heap.size w (((w.alloc (.cells #[.int .i64 s.sorts, .slice Asa s.ops.length csa] 32)).alloc (.cells #[.slice Ama m.sizes.length cma, .slice Amb m.tables.length cmb] 34)).alloc (.cells #[.slice Ana n.sizes.length cna, .slice Anb n.tables.length cnb] 34)) := ((below_alloc _ _).alloc (by simp) _).alloc (by simp; omega) _
  have HB := Lib.hid hb
  have hsz : (((w.alloc (.cells #[.int .i64 s.sorts, .slice Asa s.ops.length csa] 32)).alloc (.cells #[.slice Ama m.sizes.length cma, .slice Amb m.tables.length cmb] 34)).alloc (.cells #[.slice Ana n.sizes.length cna, .slice Anb n.tables.length cnb] 34)).heap.size = w.heap.size + 3 := by simp
  have Hs := Lib.hid (h1.keep hb)
  have s0 := cell_keep (below_alloc ((w.alloc (.cells #[.int .i64 s.sorts, .slice Asa s.ops.length csa] 32)).alloc (.cells #[.slice Ama m.sizes.length cma, .slice Amb m.tables.length cmb] 34)) (.cells #[.slice Ana n.sizes.length cna, .slice Anb n.tables.length cnb] 34)) (cell_keep (below_alloc (w.alloc (.cells #[.int .i64 s.sorts, .slice Asa s.ops.length csa] 32)) (.cells #[.slice Ama m.sizes.length cma, .slice Amb m.tables.length cmb] 34)) (bx_at (w) #[.int .i64 s.sorts, .slice Asa s.ops.length csa] 32 (k := 0) rfl))
  have s1 := cell_keep (below_alloc ((w.alloc (.cells #[.int .i64 s.sorts, .slice Asa s.ops.length csa] 32)).alloc (.cells #[.slice Ama m.sizes.length cma, .slice Amb m.tables.length cmb] 34)) (.cells #[.slice Ana n.sizes.length cna, .slice Anb n.tables.length cnb] 34)) (cell_keep (below_alloc (w.alloc (.cells #[.int .i64 s.sorts, .slice Asa s.ops.length csa] 32)) (.cells #[.slice Ama m.sizes.length cma, .slice Amb m.tables.length cmb] 34)) (bx_at (w) #[.int .i64 s.sorts, .slice Asa s.ops.length csa] 32 (k := 1) rfl))
  have Hm := Lib.hid (h2.keep hb)
  have m0 := cell_keep (below_alloc ((w.alloc (.cells #[.int .i64 s.sorts, .slice Asa s.ops.length csa] 32)).alloc (.cells #[.slice Ama m.sizes.length cma, .slice Amb m.tables.length cmb] 34)) (.cells #[.slice Ana n.sizes.length cna, .slice Anb n.tables.length cnb] 34)) (bx_at (w.alloc (.cells #[.int .i64 s.sorts, .slice Asa s.ops.length csa] 32)) #[.slice Ama m.sizes.length cma, .slice Amb m.tables.length cmb] 34 (k := 0) rfl)
  have m1 := cell_keep (below_alloc ((w.alloc (.cells #[.int .i64 s.sorts, .slice Asa s.ops.length csa] 32)).alloc (.cells #[.slice Ama m.sizes.length cma, .slice Amb m.tables.length cmb] 34)) (.cells #[.slice Ana n.sizes.length cna, .slice Anb n.tables.length cnb] 34)) (bx_at (w.alloc (.cells #[.int .i64 s.sorts, .slice Asa s.ops.length csa] 32)) #[.slice Ama m.sizes.length cma, .slice Amb m.tables.length cmb] 34 (k := 1) rfl)
  have Hn := Lib.hid (h3.keep hb)
  have n0 := bx_at ((w.alloc (.cells #[.int .i64 s.sorts, .slice Asa s.ops.length csa] 32)).alloc (.cells #[.slice Ama m.sizes.length cma, .slice Amb m.tables.length cmb] 34)) #[.slice Ana n.sizes.length cna, .slice Anb n.tables.length cnb] 34 (k := 0) rfl
  have n1 := bx_at ((w.alloc (.cells #[.int .i64 s.sorts, .slice Asa s.ops.length csa] 32)).alloc (.cells #[.slice Ama m.sizes.length cma, .slice Amb m.tables.length cmb] 34)) #[.slice Ana n.sizes.length cna, .slice Anb n.tables.length cnb] 34 (k := 1) rfl
  simp only [World.size_alloc] at m0 m1 n0 n1
  generalize hW : ((w.alloc (.cells #[.int .i64 s.sorts, .slice Asa s.ops.length csa] 32)).alloc (.cells #[.slice Ama m.sizes.length cma, .slice Amb m.tables.length cmb] 34)).alloc (.cells #[.slice Ana n.sizes.length cna, .slice Anb n.tables.length cnb] 34) = W at HB hsz Hs s0 s1 Hm m0 m1 Hn n0 n1
  clear hb h1 h2 h3
  have HH := Lib.hid (h4.keep HB.out)
  have HRO := Lib.hid r
  obtain ⟨Ah, ch, rfl, -⟩ := h4.form
  have HCX := Lib.hid (And.intro s0 (And.intro s1 (And.intro m0 (And.intro m1 (And.intro n0 n1)))))
  have HTL0 := Lib.hid r.fa.tl
  have hto := (valid_sorts r.fa.va).2.2
  clear h4 r
  go_enter Try.func47, Try.ntmps47
  go_wp2
  clear hW s0 s1 m0 m1 n0 n1
  go_loopw [9, 10, 11, 12, 13, 14, 15, 16, 17, 21] (fun _ _ _ _ _ _ _ _ _ i wr => ∃ k : Nat, k ≤ m.tables.length ∧ i = .int .i64 k ∧ allN (homOp s m n h) k = true ∧ Below W.heap.size W wr) (fun _ _ _ _ _ _ _ _ _ i _ => m.tables.length - (intOf i).toNat)
  case atStart => exact ⟨0, Nat.zero_le _, rfl, rfl, Below.refl _ _⟩
  case round =>
    obtain ⟨k, hk, rfl, hall, hd⟩ := hrel
    have HALL := Lib.hid hall
    have HD := Lib.hid hd
    have f0 := cell_keep hd HCX.out.1
    have f1 := cell_keep hd HCX.out.2.1
    have f2 := cell_keep hd HCX.out.2.2.1
    have f3 := cell_keep hd HCX.out.2.2.2.1
    have f4 := cell_keep hd HCX.out.2.2.2.2.1
    have f5 := cell_keep hd HCX.out.2.2.2.2.2
    clear hall hd
    by_cases hlt : k < m.tables.length
    · have hlt' : (k : Int) < (m.tables.length : Int) := by omega
      have hks : k < s.ops.length := by have := HTL0.out; omega
      obtain ⟨b4, o4, c4, u4, e, hx, hr4⟩ := (Hm.out.of.2.keep HD.out).at_ hlt
      cases e
      have HTB : Hid (RInts wr u4 (m.tables.getD k [])) := by rw [getD_at _ hlt]; exact hr4
      have HTS := Lib.hid (allN_succ (homOp s m n h) k)
      have HTN := Lib.hid (fun e => allN_bad (p := homOp s m n h) hks e)
      obtain ⟨A5, c5, rfl, hl5, -⟩ := HTB.out.form
      have HOA := Lib.hid (HRO.out.fa.op hks)
      have HOB := Lib.hid (HRO.out.fb.op hks)
      have HIN := Lib.hid (fun j : Int => HRO.out.in_ hks j)
      have HTA := Lib.hid (takesAndLeaves_any s k wr _ (Hs.out.keep HD.out) HRO.out.fa.va hks)
      have HLH := Lib.hid (HRO.out.le)
      have hkn2 : k < n.tables.length := by have := HRO.out.fb.tl; omega
      obtain ⟨bn, on, cn, un, e, hyn, hrn⟩ := (Hn.out.of.2.keep HD.out).at_ hkn2
      cases e
      have HNB : Hid (RInts wr un (n.tables.getD k [])) := by rw [getD_at _ hkn2]; exact hrn
      obtain ⟨An, dn, rfl, -, -⟩ := HNB.out.form
      have HAT := Lib.hid (fun j (hj : j < (m.tables.getD k []).length) e => homOp_at (s := s) (m := m) (n := n) (h := h) hj e)
      have HAS : Hid (homOp s m n h k = allN (homAt s m n h k) (m.tables.getD k []).length) := Lib.hid rfl
      rw [homAt_to] at HAT HAS
      clear hrn hr4
      generalize (opRow s k).dropLast = takes at HOA HOB HIN HTA HAT HAS
      generalize (opRow s k).getLastD (-1) = last at HOA HOB HTA HAT HAS
      generalize m.tables.getD k [] = table at HTB HOA hx HAT HAS hl5
      generalize n.tables.getD k [] = tableN at HNB HOB hyn HAT HAS
      go_wp2_with fail
      refine HTA.out.mono ?_
      rintro x w2 ⟨ut, rfl, hut, hb⟩
      have HUT := Lib.hid hut
      obtain ⟨At, ct, rfl, -⟩ := hut.form
      replace HTB := Lib.hid (HTB.out.keep hb)
      replace f0 := cell_keep hb f0
      replace f1 := cell_keep hb f1
      replace f2 := cell_keep hb f2
      replace f3 := cell_keep hb f3
      replace f4 := cell_keep hb f4
      replace f5 := cell_keep hb f5
      replace HD := Lib.hid (sz_keep HD.out hb)
      replace HNB := Lib.hid (HNB.out.keep hb)
      replace hyn := cell_keep hb hyn
      clear hut hb hx
      go_wp2_with fail
      refine wp_region_held_drew (S := (fun w' => w'.cell? ⟨w.heap.size + 1, 0, none⟩ = some (.slice Ama m.sizes.length cma) ∧ w'.cell? ⟨w.heap.size + 1, 1, none⟩ = some (.slice (some ⟨b4, o4, none⟩) m.tables.length cmb) ∧ w'.cell? ⟨w.heap.size + 1 + 1, 0, none⟩ = some (.slice Ana n.sizes.length cna) ∧ w'.cell? ⟨w.heap.size + 1 + 1, 1, none⟩ = some (.slice (some ⟨bn, on, none⟩) n.tables.length cnb))) (by kernel_rfl) ?_ (fun hHeld => ?_)
      · exact ⟨f2, f3, f4, f5⟩
      refine wpAnyH_take (i := 0) (oi := _) (v := ?_) rfl (by kernel_rfl) (by kernel_rfl) (by kernel_rfl) (fun _ _ _ h => h) (Or.inl ⟨by rfl, ?_⟩) (by assumption) ?_
      rotate_left
      · first | (intro w' hSw; (try dsimp only at hSw); go_simp; done) | (intro w' hSw; (try dsimp only at hSw); go_simp; with_reducible rfl)
      try simp only [Act.put, List.getElem_toArray, List.getElem_cons_zero, List.getElem_cons_succ, List.setIfInBounds_toArray, List.set_cons_zero, List.set_cons_succ]
      refine wpAnyH_take (i := 1) (oi := _) (v := ?_) rfl (by kernel_rfl) (by kernel_rfl) (by kernel_rfl) (fun _ _ _ h => h) (Or.inl ⟨by rfl, ?_⟩) (by assumption) ?_
      rotate_left
      · first | (intro w' hSw; (try dsimp only at hSw); go_simp; done) | (intro w' hSw; (try dsimp only at hSw); go_simp; with_reducible rfl)
      try simp only [Act.put, List.getElem_toArray, List.getElem_cons_zero, List.getElem_cons_succ, List.setIfInBounds_toArray, List.set_cons_zero, List.set_cons_succ]
      refine wpAnyH_take (i := 3) (oi := _) (v := ?_) rfl (by kernel_rfl) (by kernel_rfl) (by kernel_rfl) (fun _ _ _ h => h) (Or.inl ⟨by rfl, ?_⟩) (by assumption) ?_
      rotate_left
      · first | (intro w' hSw; (try dsimp only at hSw); go_simp; done) | (intro w' hSw; (try dsimp only at hSw); go_simp; with_reducible rfl)
      try simp only [Act.put, List.getElem_toArray, List.getElem_cons_zero, List.getElem_cons_succ, List.setIfInBounds_toArray, List.set_cons_zero, List.set_cons_succ]
      refine wpAnyH_take (i := 4) (oi := _) (v := ?_) rfl (by kernel_rfl) (by kernel_rfl) (by kernel_rfl) (fun _ _ _ h => h) (Or.inl ⟨by rfl, ?_⟩) (by assumption) ?_
      rotate_left
      · first | (intro w' hSw; (try dsimp only at hSw); go_simp; done) | (intro w' hSw; (try dsimp only at hSw); go_simp; with_reducible rfl)
      try simp only [Act.put, List.getElem_toArray, List.getElem_cons_zero, List.getElem_cons_succ, List.setIfInBounds_toArray, List.set_cons_zero, List.set_cons_succ]
      refine wpAnyH_ready (rs := [2]) (by kernel_rfl) (by simp) ?_
      refine AllReadyH.cons (o := _) rfl (fun K hK => ?_) AllReadyH.nil
      go_simp
      refine (sizesOf_any m takes _ _ _ ((Hm.out.keep HD.out).keep (map_drew (Below.refl _ _))) (HUT.out.keep (map_drew (Below.refl _ _))) HOA.out.into (by have := HOA.out.tsm; omega)).mono ?_
      rintro x w4 ⟨u4, rfl, ho4, hb4⟩
      have hx4 := map_undrew hb4
      obtain ⟨A4, c4, rfl, -⟩ := ho4.reads.form
      have HO4 := Lib.hid ho4.reads
      have HX4 := Lib.hid hx4
      have j2 := cell_keep hx4 f2
      have j3 := cell_keep hx4 f3
      have j4 := cell_keep hx4 f4
      have j5 := cell_keep hx4 f5
      clear ho4 hb4 hx4
      go_wp2_with fail
      refine hK.out _ _ ?_ (fun hHeld => ?_)
      · exact ⟨j2, j3, j4, j5⟩
      clear hK K
      try simp only [Act.put, List.getElem_toArray, List.getElem_cons_zero, List.getElem_cons_succ, List.setIfInBounds_toArray, List.set_cons_zero, List.set_cons_succ]
      refine wpAnyH_ready (rs := [5]) (by kernel_rfl) (by simp) ?_
      refine AllReadyH.cons (o := _) rfl (fun K hK => ?_) AllReadyH.nil
      go_simp
      refine (sizesOf_any n takes _ _ _ ((Hn.out.keep HD.out).keep HX4.out) (HUT.out.keep HX4.out) HOB.out.into (by have := HOA.out.tsm; omega)).mono ?_
      rintro x w6 ⟨u6, rfl, ho6, hb6⟩
      obtain ⟨A6, c6, rfl, -⟩ := ho6.reads.form
      have HO6 := Lib.hid ho6.reads
      replace HO4 := Lib.hid (HO4.out.keep hb6)
      have HX6 := Lib.hid (sz_keep HX4.out hb6)
      have q2 := cell_keep hb6 j2
      have q3 := cell_keep hb6 j3
      have q4 := cell_keep hb6 j4
      have q5 := cell_keep hb6 j5
      clear ho6 hb6
      go_wp2_with fail
      refine hK.out _ _ ?_ (fun hHeld => ?_)
      · exact ⟨q2, q3, q4, q5⟩
      clear hK K
      try simp only [Act.put, List.getElem_toArray, List.getElem_cons_zero, List.getElem_cons_succ, List.setIfInBounds_toArray, List.set_cons_zero, List.set_cons_succ]
      refine wpAnyH_take (i := 6) (oi := _) (v := ?_) rfl (by kernel_rfl) (by kernel_rfl) (by kernel_rfl) (fun _ _ _ h => h) (Or.inl ⟨by rfl, ?_⟩) (by assumption) ?_
      rotate_left
      · first | (intro w' hSw; (try dsimp only at hSw); go_simp; done) | (intro w' hSw; (try dsimp only at hSw); go_simp; with_reducible rfl)
      try simp only [Act.put, List.getElem_toArray, List.getElem_cons_zero, List.getElem_cons_succ, List.setIfInBounds_toArray, List.set_cons_zero, List.set_cons_succ]
      refine wpAnyH_take (i := 7) (oi := _) (v := ?_) rfl (by kernel_rfl) (by kernel_rfl) (by kernel_rfl) (fun _ _ _ h => h) (Or.inl ⟨by rfl, ?_⟩) (by assumption) ?_
      rotate_left
      · first | (intro w' hSw; (try dsimp only at hSw); go_simp; done) | (intro w' hSw; (try dsimp only at hSw); go_simp; with_reducible rfl)
      try simp only [Act.put, List.getElem_toArray, List.getElem_cons_zero, List.getElem_cons_succ, List.setIfInBounds_toArray, List.set_cons_zero, List.set_cons_succ]
      refine wpAnyH_done (by kernel_rfl) ?_ _
      clear f0 f1 f2 f3 f4 f5 j2 j3 j4 j5 q2 q3 q4 q5
      have HD6 := Lib.hid (sz_keep HD.out HX6.out)
      have HTB6 := Lib.hid (HTB.out.keep HX6.out)
      have HUT6 := Lib.hid (HUT.out.keep HX6.out)
      have HNB6 := Lib.hid (HNB.out.keep HX6.out)
      have HYN6 := Lib.hid (cell_keep HX6.out hyn)
      have HZ4 := Lib.hid HOA.out.zlen
      have HZ6 := Lib.hid HOB.out.zlen
      have HFW := Lib.hid HOA.out.few
      have HSA := Lib.hid HOA.out.siz
      have HSB := Lib.hid HOB.out.siz
      have HLA := Lib.hid HOA.out.len
      have HLB := Lib.hid HOB.out.len
      have HL6 := Lib.hid (show takes.length ≤ 2 from HOA.out.tsm)
      have HVL := Lib.hid HOA.out.val
      have HLI := Lib.hid HOA.out.lin
      have HTO := Lib.hid (fun j => (show homTo m n h takes last table tableN j = decide (tableN.getD (placeM 0 (ledM n.sizes takes) (ledV h takes (digM (ledM m.sizes takes) j))).toNat 0 = ledOne h last (table.getD j 0)) from rfl))
      generalize ledM m.sizes takes = zs at HO4 HIN HZ4 HSA HLA HTO
      generalize ledM n.sizes takes = ys at HO6 HIN HZ6 HSB HLB HTO
      obtain ⟨p, hp⟩ : ∃ p, homTo m n h takes last table tableN = p := ⟨_, rfl⟩
      rw [hp] at HAT HAS HTO
      clear hp hyn
      go_wp2
      go_loopw [15, 16, 17, 40] (fun _ _ _ i wk => ∃ j : Nat, j ≤ table.length ∧ i = .int .i64 j ∧ allN p j = true ∧ Below w6.heap.size w6 wk) (fun _ _ _ i _ => table.length - (intOf i).toNat)
      case atStart => exact ⟨0, Nat.zero_le _, rfl, rfl, Below.refl _ _⟩
      case round =>
        obtain ⟨j, hj, rfl, hpj, hdk⟩ := hrel
        have HPJ := Lib.hid hpj
        have HDK := Lib.hid hdk
        clear hpj hdk
        by_cases hjt : j < table.length
        · have hjt' : (j : Int) < (table.length : Int) := by omega
          have hfw := HFW.out
          obtain ⟨b7, o7, c7, e, hv7⟩ := (HTB6.out.keep HDK.out).at_ hjt
          cases e
          have HPS := Lib.hid (allN_succ p j)
          have HGT := Lib.hid (show table.getD j 0 = table[j] from getD_at _ hjt)
          have HVJ := Lib.hid (HVL.out _ (List.getElem_mem hjt))
          generalize table[j] = x7 at hv7 HGT HVJ
          obtain ⟨hvi, hia⟩ := HIN.out (j : Int)
          have HVI := Lib.hid hvi
          have HIA := Lib.hid hia
          clear hvi hia
          have HPTO := Lib.hid (HTO.out j)
          rw [HGT.out] at HPTO
          have HDL := Lib.hid (digM_len zs (j : Int))
          go_wp2_with fail
          refine (rowAt_any zs (j : Int) _ _ (HO4.out.keep HDK.out) HSA.out HZ4.out (by omega) (by have := HFW.out; omega)).mono ?_
          rintro x w8 ⟨u8, rfl, ho8, hb8⟩
          have HO8 := Lib.hid ho8.reads
          obtain ⟨A8, c8, rfl, -⟩ := ho8.reads.form
          replace hv7 := cell_keep hb8 hv7
          have HX8 := Lib.hid (sz_keep HDK.out hb8)
          clear ho8 hb8
          generalize digM zs (j : Int) = ds at HO8 HVI HIA HPTO HDL
          go_wp2_with fail
          refine (ledValues_any h takes ds _ _ _ _ (HH.out.keep (sz_keep HD6.out HX8.out)) (HUT6.out.keep HX8.out) HO8.out HVI.out (by rw [HVI.out.1]; have := HL6.out; omega)).mono ?_
          rintro x w9 ⟨u9, rfl, ho9, hb9⟩
          have HO9 := Lib.hid ho9.reads
          obtain ⟨A9, c9, rfl, -⟩ := ho9.reads.form
          replace hv7 := cell_keep hb9 hv7
          have HX9 := Lib.hid (sz_keep HX8.out hb9)
          have HPI := Lib.hid (place_in HSB.out HIA.out)
          clear ho9 hb9
          generalize ledV h takes ds = ls at HO9 HIA HPTO HPI
          generalize hpl : placeM 0 ys ls = pl at HPTO HPI
          have HPL := Lib.hid hpl
          clear hpl
          obtain ⟨q, rfl⟩ : ∃ q : Nat, pl = (q : Int) := ⟨pl.toNat, by have := HPI.out; omega⟩
          have hq : q < tableN.length := by have := HPI.out; have := HLB.out; omega
          have hq' : (q : Int) < (tableN.length : Int) := by omega
          have hq0 : (0 : Int) ≤ (q : Int) := by omega
          have f5 := cell_keep (sz_keep HD6.out HX9.out) HCX.out.2.2.2.2.2
          have hyn9 := cell_keep HX9.out HYN6.out
          obtain ⟨b10, o10, c10, e, hv10⟩ := (HNB6.out.keep HX9.out).at_ hq
          cases e
          have HG2 := Lib.hid (show tableN.getD ((q : Nat) : Int).toNat 0 = tableN[q] by rw [Int.toNat_natCast, getD_at _ hq])
          generalize tableN[q] = y7 at hv10 HG2
          obtain ⟨l, hl⟩ : ∃ l : Nat, last = (l : Int) := ⟨last.toNat, by have := HLI.out; omega⟩
          subst hl
          have hlm : l < m.sizes.length := by have := HLI.out; omega
          have hlh : l < h.length := by have := HLH.out.1; omega
          have hlh' : (l : Int) < (h.length : Int) := by omega
          have hl0 : (0 : Int) ≤ (l : Int) := by omega
          obtain ⟨b11, o11, c11, u11, e, hv11, hr11⟩ := (HH.out.keep (sz_keep HD6.out HX9.out)).at_ hlh
          cases e
          obtain ⟨i7, rfl⟩ : ∃ i : Nat, x7 = (i : Int) := ⟨x7.toNat, by have := HVJ.out; omega⟩
          have HLE := Lib.hid (HLH.out.2 l hlm)
          have HG3 := Lib.hid (show ledOne h (l : Int) (i7 : Int) = (h.getD l []).getD i7 0 by unfold ledOne; rw [Int.toNat_natCast, Int.toNat_natCast])
          have HVJ2 := Lib.hid HVJ.out
          rw [Int.toNat_natCast, getD_at _ hlm] at HVJ2
          rw [getD_at _ hlh] at HLE HG3
          generalize h[l] = hrow at hr11 HLE HG3 hv11
          have hrl : i7 < hrow.length := by have := HVJ2.out; have := HLE.out; omega
          rw [getD_at _ hrl] at HG3
          obtain ⟨b12, o12, c12, rfl, hv12⟩ := hr11.at_ hrl
          generalize hrow[i7] = z7 at hv12 HG3
          have hrl' : (i7 : Int) < (hrow.length : Int) := by omega
          have hi0 : (0 : Int) ≤ (i7 : Int) := by omega
          have hkn2' : (k : Int) < (n.tables.length : Int) := by omega
          rw [HG2.out, HG3.out] at HPTO
          have HNO := Lib.hid (numberOf_any ys ls)
          clear hr11
          go_wp2_with fail
          refine wp_region_held_drew (S := (fun w' => w'.cell? ⟨w.heap.size + 1 + 1, 1, none⟩ = some (.slice (some ⟨bn, on, none⟩) n.tables.length cnb) ∧ w'.cell? ⟨bn, on + k, none⟩ = some (.slice (some ⟨b10, o10, none⟩) tableN.length dn) ∧ w'.cell? ⟨b10, o10 + q, none⟩ = some (.int .i64 y7) ∧ w'.cell? ⟨b11, o11 + l, none⟩ = some (.slice (some ⟨b12, o12, none⟩) hrow.length c12) ∧ w'.cell? ⟨b12, o12 + i7, none⟩ = some (.int .i64 z7))) (by kernel_rfl) ?_ (fun hHeld => ?_)
          · exact ⟨f5, hyn9, hv10, hv11, hv12⟩
          refine wpAnyH_take (i := 0) (oi := _) (v := ?_) rfl (by kernel_rfl) (by kernel_rfl) (by kernel_rfl) (fun _ _ _ h => h) (Or.inl ⟨by rfl, ?_⟩) (by assumption) ?_
          rotate_left
          · first | (intro w' hSw; (try dsimp only at hSw); go_simp; done) | (intro w' hSw; (try dsimp only at hSw); go_simp; with_reducible rfl)
          try simp only [Act.put, List.getElem_toArray, List.getElem_cons_zero, List.getElem_cons_succ, List.setIfInBounds_toArray, List.set_cons_zero, List.set_cons_succ]
          refine wpAnyH_take (i := 1) (oi := _) (v := ?_) rfl (by kernel_rfl) (by kernel_rfl) (by kernel_rfl) (fun _ _ _ h => h) (Or.inl ⟨by rfl, ?_⟩) (by assumption) ?_
          rotate_left
          · first | (intro w' hSw; (try dsimp only at hSw); go_simp; done) | (intro w' hSw; (try dsimp only at hSw); go_simp; with_reducible rfl)
          try simp only [Act.put, List.getElem_toArray, List.getElem_cons_zero, List.getElem_cons_succ, List.setIfInBounds_toArray, List.set_cons_zero, List.set_cons_succ]
          refine wpAnyH_take (i := 2) (oi := _) (v := ?_) rfl (by kernel_rfl) (by kernel_rfl) (by kernel_rfl) (fun _ _ _ h => h) (Or.inl ⟨by rfl, ?_⟩) (by assumption) ?_
          rotate_left
          · first | (intro w' hSw; (try dsimp only at hSw); go_simp; done) | (intro w' hSw; (try dsimp only at hSw); go_simp; with_reducible rfl)
          try simp only [Act.put, List.getElem_toArray, List.getElem_cons_zero, List.getElem_cons_succ, List.setIfInBounds_toArray, List.set_cons_zero, List.set_cons_succ]
          refine wpAnyH_take (i := 3) (oi := _) (v := ?_) rfl (by kernel_rfl) (by kernel_rfl) (by kernel_rfl) (fun _ _ _ h => h) (Or.inl ⟨by rfl, ?_⟩) (by assumption) ?_
          rotate_left
          · first | (intro w' hSw; (try dsimp only at hSw); go_simp; done) | (intro w' hSw; (try dsimp only at hSw); go_simp; with_reducible rfl)
          try simp only [Act.put, List.getElem_toArray, List.getElem_cons_zero, List.getElem_cons_succ, List.setIfInBounds_toArray, List.set_cons_zero, List.set_cons_succ]
          refine wpAnyH_take (i := 4) (oi := _) (v := ?_) rfl (by kernel_rfl) (by kernel_rfl) (by kernel_rfl) (fun _ _ _ h => h) (Or.inl ⟨by rfl, ?_⟩) (by assumption) ?_
          rotate_left
          · first | (intro w' hSw; (try dsimp only at hSw); go_simp; done) | (intro w' hSw; (try dsimp only at hSw); go_simp; with_reducible rfl)
          try simp only [Act.put, List.getElem_toArray, List.getElem_cons_zero, List.getElem_cons_succ, List.setIfInBounds_toArray, List.set_cons_zero, List.set_cons_succ]
          refine wpAnyH_take (i := 5) (oi := _) (v := ?_) rfl (by kernel_rfl) (by kernel_rfl) (by kernel_rfl) (fun _ _ _ h => h) (Or.inl ⟨by rfl, ?_⟩) (by assumption) ?_
          rotate_left
          · first | (intro w' hSw; (try dsimp only at hSw); go_simp; done) | (intro w' hSw; (try dsimp only at hSw); go_simp; with_reducible rfl)
          try simp only [Act.put, List.getElem_toArray, List.getElem_cons_zero, List.getElem_cons_succ, List.setIfInBounds_toArray, List.set_cons_zero, List.set_cons_succ]
          refine wpAnyH_take (i := 6) (oi := _) (v := ?_) rfl (by kernel_rfl) (by kernel_rfl) (by kernel_rfl) (fun _ _ _ h => h) (Or.inl ⟨by rfl, ?_⟩) (by assumption) ?_
          rotate_left
          · first | (intro w' hSw; (try dsimp only at hSw); go_simp; done) | (intro w' hSw; (try dsimp only at hSw); go_simp; with_reducible rfl)
          try simp only [Act.put, List.getElem_toArray, List.getElem_cons_zero, List.getElem_cons_succ, List.setIfInBounds_toArray, List.set_cons_zero, List.set_cons_succ]
          refine wpAnyH_take (i := 10) (oi := _) (v := ?_) rfl (by kernel_rfl) (by kernel_rfl) (by kernel_rfl) (fun _ _ _ h => h) (Or.inl ⟨by rfl, ?_⟩) (by assumption) ?_
          rotate_left
          · first | (intro w' hSw; (try dsimp only at hSw); go_simp; done) | (intro w' hSw; (try dsimp only at hSw); go_simp; with_reducible rfl)
          try simp only [Act.put, List.getElem_toArray, List.getElem_cons_zero, List.getElem_cons_succ, List.setIfInBounds_toArray, List.set_cons_zero, List.set_cons_succ]
          refine wpAnyH_take (i := 11) (oi := _) (v := ?_) rfl (by kernel_rfl) (by kernel_rfl) (by kernel_rfl) (fun _ _ _ h => h) (Or.inl ⟨by rfl, ?_⟩) (by assumption) ?_
          rotate_left
          · first | (intro w' hSw; (try dsimp only at hSw); go_simp; done) | (intro w' hSw; (try dsimp only at hSw); go_simp; with_reducible rfl)
          try simp only [Act.put, List.getElem_toArray, List.getElem_cons_zero, List.getElem_cons_succ, List.setIfInBounds_toArray, List.set_cons_zero, List.set_cons_succ]
          refine wpAnyH_take (i := 12) (oi := _) (v := ?_) rfl (by kernel_rfl) (by kernel_rfl) (by kernel_rfl) (fun _ _ _ h => h) (Or.inl ⟨by rfl, ?_⟩) (by assumption) ?_
          rotate_left
          · first | (intro w' hSw; (try dsimp only at hSw); go_simp; done) | (intro w' hSw; (try dsimp only at hSw); go_simp; with_reducible rfl)
          try simp only [Act.put, List.getElem_toArray, List.getElem_cons_zero, List.getElem_cons_succ, List.setIfInBounds_toArray, List.set_cons_zero, List.set_cons_succ]
          refine wpAnyH_take (i := 13) (oi := _) (v := ?_) rfl (by kernel_rfl) (by kernel_rfl) (by kernel_rfl) (fun _ _ _ h => h) (Or.inl ⟨by rfl, ?_⟩) (by assumption) ?_
          rotate_left
          · first | (intro w' hSw; (try dsimp only at hSw); go_simp; done) | (intro w' hSw; (try dsimp only at hSw); go_simp; with_reducible rfl)
          try simp only [Act.put, List.getElem_toArray, List.getElem_cons_zero, List.getElem_cons_succ, List.setIfInBounds_toArray, List.set_cons_zero, List.set_cons_succ]
          refine wpAnyH_take (i := 14) (oi := _) (v := ?_) rfl (by kernel_rfl) (by kernel_rfl) (by kernel_rfl) (fun _ _ _ h => h) (Or.inl ⟨by rfl, ?_⟩) (by assumption) ?_
          rotate_left
          · first | (intro w' hSw; (try dsimp only at hSw); go_simp; done) | (intro w' hSw; (try dsimp only at hSw); go_simp; with_reducible rfl)
          try simp only [Act.put, List.getElem_toArray, List.getElem_cons_zero, List.getElem_cons_succ, List.setIfInBounds_toArray, List.set_cons_zero, List.set_cons_succ]
          refine wpAnyH_take (i := 15) (oi := _) (v := ?_) rfl (by kernel_rfl) (by kernel_rfl) (by kernel_rfl) (fun _ _ _ h => h) (Or.inl ⟨by rfl, ?_⟩) (by assumption) ?_
          rotate_left
          · first | (intro w' hSw; (try dsimp only at hSw); go_simp; done) | (intro w' hSw; (try dsimp only at hSw); go_simp; with_reducible rfl)
          try simp only [Act.put, List.getElem_toArray, List.getElem_cons_zero, List.getElem_cons_succ, List.setIfInBounds_toArray, List.set_cons_zero, List.set_cons_succ]
          refine wpAnyH_take (i := 16) (oi := _) (v := ?_) rfl (by kernel_rfl) (by kernel_rfl) (by kernel_rfl) (fun _ _ _ h => h) (Or.inl ⟨by rfl, ?_⟩) (by assumption) ?_
          rotate_left
          · first | (intro w' hSw; (try dsimp only at hSw); go_simp; done) | (intro w' hSw; (try dsimp only at hSw); go_simp; with_reducible rfl)
          try simp only [Act.put, List.getElem_toArray, List.getElem_cons_zero, List.getElem_cons_succ, List.setIfInBounds_toArray, List.set_cons_zero, List.set_cons_succ]
          refine wpAnyH_ready (rs := [7]) (by kernel_rfl) (by simp) ?_
          refine AllReadyH.cons (o := _) rfl (fun K hK => ?_) AllReadyH.nil
          go_simp
          refine (numberOf_any ys ls _ _ _ ((HO6.out.keep HX9.out).keep (map_drew (Below.refl _ _))) (HO9.out.keep (map_drew (Below.refl _ _))) HSB.out HZ6.out HIA.out).mono ?_
          rw [HPL.out]
          rintro x w10 ⟨rfl, rfl⟩
          go_wp2_with fail
          refine hK.out _ _ ?_ (fun hHeld => ?_)
          · exact ⟨f5, hyn9, hv10, hv11, hv12⟩
          clear hK K
          try simp only [Act.put, List.getElem_toArray, List.getElem_cons_zero, List.getElem_cons_succ, List.setIfInBounds_toArray, List.set_cons_zero, List.set_cons_succ]
          refine wpAnyH_take (i := 8) (oi := _) (v := ?_) rfl (by kernel_rfl) (by kernel_rfl) (by kernel_rfl) (fun _ _ _ h => h) (Or.inl ⟨by rfl, ?_⟩) (by assumption) ?_
          rotate_left
          · first | (intro w' hSw; (try dsimp only at hSw); go_simp; done) | (intro w' hSw; (try dsimp only at hSw); go_simp; with_reducible rfl)
          try simp only [Act.put, List.getElem_toArray, List.getElem_cons_zero, List.getElem_cons_succ, List.setIfInBounds_toArray, List.set_cons_zero, List.set_cons_succ]
          refine wpAnyH_take (i := 9) (oi := _) (v := ?_) rfl (by kernel_rfl) (by kernel_rfl) (by kernel_rfl) (fun _ _ _ h => h) (Or.inl ⟨by rfl, ?_⟩) (by assumption) ?_
          rotate_left
          · first | (intro w' hSw; (try dsimp only at hSw); go_simp; done) | (intro w' hSw; (try dsimp only at hSw); go_simp; with_reducible rfl)
          try simp only [Act.put, List.getElem_toArray, List.getElem_cons_zero, List.getElem_cons_succ, List.setIfInBounds_toArray, List.set_cons_zero, List.set_cons_succ]
          refine wpAnyH_take (i := 17) (oi := _) (v := ?_) rfl (by kernel_rfl) (by kernel_rfl) (by kernel_rfl) (fun _ _ _ h => h) (Or.inl ⟨by rfl, ?_⟩) (by assumption) ?_
          rotate_left
          · first | (intro w' hSw; (try dsimp only at hSw); go_simp; done) | (intro w' hSw; (try dsimp only at hSw); go_simp; with_reducible rfl)
          try simp only [Act.put, List.getElem_toArray, List.getElem_cons_zero, List.getElem_cons_succ, List.setIfInBounds_toArray, List.set_cons_zero, List.set_cons_succ]
          refine wpAnyH_done (by kernel_rfl) ?_ _
          clear f5 hyn9 hv10 hv11 hv12 hv7
          by_cases hyz : y7 = z7
          · have hne : (y7 != z7) = false := by simp [hyz]
            have HPJ1 := Lib.hid (show allN p (j + 1) = true by rw [HPS.out, HPJ.out, HPTO.out, hyz]; simp)
            clear hyz
            go_wp2
            go_roundw
            case rel => exact ⟨j + 1, by omega, by go_num, HPJ1.out, map_drew HX9.out⟩
            case measure => simp [intOf]; omega
          · have hne : (y7 != z7) = true := by simpa using hyz
            have HF : Hid (homOps s m n h = false) := HTN.out (HAT.out j hjt (by rw [HPTO.out]; simpa using hyz))
            clear hyz
            go_wp2
            go_ret
            exact ⟨ret_bool HF.out.symm, sz_keep HB.out (sz_keep HD6.out (map_drew HX9.out))⟩
        · have hjn : j = table.length := by omega
          have hjt' : ¬ (j : Int) < (table.length : Int) := by omega
          have HPE : Hid (homOp s m n h k = true) := by have := HPJ.out; rw [hjn] at this; exact HAS.out.trans this
          go_wp2
          go_roundw
          case rel => exact ⟨k + 1, by omega, by go_num, by rw [HTS.out, HALL.out, HPE.out]; rfl, sz_keep HD6.out HDK.out⟩
          case measure => simp [intOf]; omega
    · have hkn : k = s.ops.length := by have := HTL0.out; omega
      have hlt' : ¬ (k : Int) < (m.tables.length : Int) := by omega
      subst hkn
      have HF : Hid (homOps s m n h = true) := HALL.out
      go_wp2
      go_ret
      exact ⟨ret_bool HF.out.symm, sz_keep HB.out HD.out⟩
end

section
open Go.RowKit
set_option linter.unusedVariables false
set_option linter.unusedSimpArgs false

theorem tableB_len {sizes row table : List Int} (h : ¬ (table.length : Int) = waysM (ledM sizes row.dropLast)) : tableB sizes row table = false := by unfold tableB; simp [h]
theorem tableB_val {sizes row table : List Int} (h : belowB table (sizes.getD (row.getLastD (-1)).toNat 0) = false) : tableB sizes row table = false := by unfold tableB; rw [h, Bool.and_false]
theorem tableB_yes {sizes row table : List Int} (h1 : (table.length : Int) = waysM (ledM sizes row.dropLast)) (h : belowB table (sizes.getD (row.getLastD (-1)).toNat 0) = true) : tableB sizes row table = true := by unfold tableB; rw [h]; simp [h1]

set_option maxHeartbeats 1600000 in
set_option maxRecDepth 100000 in
theorem tableOk_any (m : MModel) (row table : List Int) (w : World) (v v1 v2 : Value) (h : RModel w v m) (h1 : RInts w v1 row) (h2 : RInts w v2 table) (hr1 : 1 ≤ row.length) (hr3 : row.length ≤ 3) (hz : Sizes m.sizes) (hin : ∀ x ∈ row, 0 ≤ x ∧ x < (m.sizes.length : Int)) (hms : m.sizes.length ≤ 3) :
    Calls Try.prog 63 #[v, v1, v2] w fun e w' => e = .returned (.bool (tableB m.sizes row table)) ∧ Below w.heap.size w w' := by
  obtain ⟨Ama, cma, Amb, cmb, rfl⟩ := h.form
  have hb : Below w.heap.size w (w.alloc (.cells #[.slice Ama m.sizes.length cma, .slice Amb m.tables.length cmb] 34)) := below_alloc _ _
  have HB := Lib.hid hb
  have hsz : (w.alloc (.cells #[.slice Ama m.sizes.length cma, .slice Amb m.tables.length cmb] 34)).heap.size = w.heap.size + 1 := by simp
  have Hm := Lib.hid (h.keep hb)
  have m0 := bx_at (w) #[.slice Ama m.sizes.length cma, .slice Amb m.tables.length cmb] 34 (k := 0) rfl
  have m1 := bx_at (w) #[.slice Ama m.sizes.length cma, .slice Amb m.tables.length cmb] 34 (k := 1) rfl
  generalize hW : w.alloc (.cells #[.slice Ama m.sizes.length cma, .slice Amb m.tables.length cmb] 34) = W at HB hsz Hm m0 m1
  clear hb h
  have H1 := Lib.hid (h1.keep HB.out)
  have H2 := Lib.hid (h2.keep HB.out)
  have hl2 := h2.len
  obtain ⟨n, hn⟩ : ∃ n : Nat, row.length = n + 1 := ⟨row.length - 1, by omega⟩
  have hne : n < row.length := by omega
  obtain ⟨b1, o1, c1, e, hx⟩ := H1.out.at_ hne
  obtain ⟨A2, c2, e2, -⟩ := H2.out.form
  cases e
  cases e2
  have hcap : n ≤ c1 := by
    obtain ⟨A9, c9, e, h9, -⟩ := H1.out.form
    cases e
    omega
  have HLB := Lib.hid (last_at (row := row) (by omega))
  have HLS : Hid (row.getLastD (-1) = row[n]) := by
    have := HLB.out
    simp only [hn, Nat.add_sub_cancel] at this
    exact this
  have HIL := Lib.hid (hin _ (List.getElem_mem hne))
  have HD := Lib.hid H1.out.dropLast
  rw [hn] at HD
  simp only [Nat.add_sub_cancel] at HD
  have HSZ : Hid (Sizes (ledM m.sizes row.dropLast)) := sizes_led hz fun x hx => by have := hin x (List.mem_of_mem_dropLast' hx); omega
  have HIN : Hid (InTo m.sizes row.dropLast) := fun x hx _ => hin x (List.mem_of_mem_dropLast' hx)
  have hdl : row.dropLast.length = n := by rw [List.length_dropLast, hn]; rfl
  have HDL := Lib.hid hdl
  generalize row[n] = last at hx HLS HIL
  have hw0 : IntKind.i64.wrap (((n + 1 : Nat) : Int) - 1) = (n : Int) := by rw [IntKind.wrap_i64]; omega
  have HCX := Lib.hid (And.intro m0 (And.intro m1 hx))
  obtain ⟨q, hq⟩ : ∃ q, waysM (ledM m.sizes row.dropLast) = q := ⟨_, rfl⟩
  have HQ := Lib.hid hq
  have hn3 : n ≤ 2 := by omega
  have hnn : (n : Int) < (n : Int) + 1 := by omega
  rw [hn]
  clear h1 h2 HLB hz hin hq hdl hne
  by_cases hlen : (table.length : Int) = q
  · have HLEN := Lib.hid hlen
    have e1 : ((table.length : Int) != q) = false := by simp [hlen]
    clear hlen
    go_enter Try.func63, Try.ntmps63
    go_wp2_with fail
    clear hW
    refine wp_region_held_drew (S := (fun w' => w'.cell? ⟨w.heap.size, 0, none⟩ = some (.slice Ama m.sizes.length cma) ∧ w'.cell? ⟨w.heap.size, 1, none⟩ = some (.slice Amb m.tables.length cmb))) (by kernel_rfl) ?_ (fun hHeld => ?_)
    · exact ⟨m0, m1⟩
    refine wpAnyH_take (i := 0) (oi := _) (v := ?_) rfl (by kernel_rfl) (by kernel_rfl) (by kernel_rfl) (fun _ _ _ h => h) (Or.inl ⟨by rfl, ?_⟩) (by assumption) ?_
    rotate_left
    · first | (intro w' hSw; (try dsimp only at hSw); go_simp; done) | (intro w' hSw; (try dsimp only at hSw); go_simp; with_reducible rfl)
    try simp only [Act.put, List.getElem_toArray, List.getElem_cons_zero, List.getElem_cons_succ, List.setIfInBounds_toArray, List.set_cons_zero, List.set_cons_succ]
    refine wpAnyH_take (i := 1) (oi := _) (v := ?_) rfl (by kernel_rfl) (by kernel_rfl) (by kernel_rfl) (fun _ _ _ h => h) (Or.inl ⟨by rfl, ?_⟩) (by assumption) ?_
    rotate_left
    · first | (intro w' hSw; (try dsimp only at hSw); go_simp; done) | (intro w' hSw; (try dsimp only at hSw); go_simp; with_reducible rfl)
    try simp only [Act.put, List.getElem_toArray, List.getElem_cons_zero, List.getElem_cons_succ, List.setIfInBounds_toArray, List.set_cons_zero, List.set_cons_succ]
    refine wpAnyH_take (i := 2) (oi := _) (v := ?_) rfl (by kernel_rfl) (by kernel_rfl) (by kernel_rfl) (fun _ _ _ h => h) (Or.inl ⟨by rfl, ?_⟩) (by assumption) ?_
    rotate_left
    · first | (intro w' hSw; (try dsimp only at hSw); go_simp; done) | (intro w' hSw; (try dsimp only at hSw); go_simp; with_reducible rfl)
    try simp only [Act.put, List.getElem_toArray, List.getElem_cons_zero, List.getElem_cons_succ, List.setIfInBounds_toArray, List.set_cons_zero, List.set_cons_succ]
    refine wpAnyH_take (i := 3) (oi := _) (v := ?_) rfl (by kernel_rfl) (by kernel_rfl) (by kernel_rfl) (fun _ _ _ h => h) (Or.inl ⟨by rfl, ?_⟩) (by assumption) ?_
    rotate_left
    · first | (intro w' hSw; (try dsimp only at hSw); go_simp; done) | (intro w' hSw; (try dsimp only at hSw); go_simp; with_reducible rfl)
    try simp only [Act.put, List.getElem_toArray, List.getElem_cons_zero, List.getElem_cons_succ, List.setIfInBounds_toArray, List.set_cons_zero, List.set_cons_succ]
    refine wpAnyH_take (i := 4) (oi := _) (v := ?_) rfl (by kernel_rfl) (by kernel_rfl) (by kernel_rfl) (fun _ _ _ h => h) (Or.inl ⟨by rfl, ?_⟩) (by assumption) ?_
    rotate_left
    · first | (intro w' hSw; (try dsimp only at hSw); go_simp; done) | (intro w' hSw; (try dsimp only at hSw); go_simp; with_reducible rfl)
    try simp only [Act.put, List.getElem_toArray, List.getElem_cons_zero, List.getElem_cons_succ, List.setIfInBounds_toArray, List.set_cons_zero, List.set_cons_succ]
    refine wpAnyH_take (i := 5) (oi := _) (v := ?_) rfl (by kernel_rfl) (by kernel_rfl) (by kernel_rfl) (fun _ _ _ h => h) (Or.inl ⟨by rfl, ?_⟩) (by assumption) ?_
    rotate_left
    · first | (intro w' hSw; (try dsimp only at hSw); go_simp; done) | (intro w' hSw; (try dsimp only at hSw); go_simp; with_reducible rfl)
    try simp only [Act.put, List.getElem_toArray, List.getElem_cons_zero, List.getElem_cons_succ, List.setIfInBounds_toArray, List.set_cons_zero, List.set_cons_succ]
    refine wpAnyH_ready (rs := [6]) (by kernel_rfl) (by simp) ?_
    refine AllReadyH.cons (o := _) rfl (fun K hK => ?_) AllReadyH.nil
    go_simp
    refine (sizesOf_any m row.dropLast _ _ _ (Hm.out.keep (map_drew (Below.refl _ _))) (HD.out.keep (map_drew (Below.refl _ _))) HIN.out (by rw [HDL.out]; omega)).mono ?_
    rintro x w4 ⟨u4, rfl, ho4, hb4⟩
    have hx4 := map_undrew hb4
    obtain ⟨A4, c4, rfl, -⟩ := ho4.reads.form
    have HO4 := Lib.hid ho4.reads
    have HX4 := Lib.hid hx4
    have j1 := cell_keep hx4 m0
    have j2 := cell_keep hx4 m1
    clear ho4 hb4 hx4
    go_wp2_with fail
    refine hK.out _ _ ?_ (fun hHeld => ?_)
    · exact ⟨j1, j2⟩
    clear hK K
    try simp only [Act.put, List.getElem_toArray, List.getElem_cons_zero, List.getElem_cons_succ, List.setIfInBounds_toArray, List.set_cons_zero, List.set_cons_succ]
    refine wpAnyH_ready (rs := [7]) (by kernel_rfl) (by simp) ?_
    refine AllReadyH.cons (o := _) rfl (fun K hK => ?_) AllReadyH.nil
    go_simp
    refine (rowsOf_any _ w4 _ HO4.out HSZ.out (by rw [ledM_len, HDL.out]; omega)).mono ?_
    rw [HQ.out]
    rintro x w5 ⟨rfl, rfl⟩
    go_wp2_with fail
    refine hK.out _ _ ?_ (fun hHeld => ?_)
    · exact ⟨j1, j2⟩
    clear hK K
    try simp only [Act.put, List.getElem_toArray, List.getElem_cons_zero, List.getElem_cons_succ, List.setIfInBounds_toArray, List.set_cons_zero, List.set_cons_succ]
    refine wpAnyH_take (i := 8) (oi := _) (v := ?_) rfl (by kernel_rfl) (by kernel_rfl) (by kernel_rfl) (fun _ _ _ h => h) (Or.inl ⟨by rfl, ?_⟩) (by assumption) ?_
    rotate_left
    · first | (intro w' hSw; (try dsimp only at hSw); go_simp; done) | (intro w' hSw; (try dsimp only at hSw); go_simp; with_reducible rfl)
    try simp only [Act.put, List.getElem_toArray, List.getElem_cons_zero, List.getElem_cons_succ, List.setIfInBounds_toArray, List.set_cons_zero, List.set_cons_succ]
    refine wpAnyH_done (by kernel_rfl) ?_ _
    clear m0 m1 j1 j2 hx
    go_wp2
    go_loopw [9, 24] (fun p i wr => ∃ k : Nat, k ≤ table.length ∧ i = .int .i64 k ∧ belowB (table.take k) (m.sizes.getD last.toNat 0) = true ∧ Below W.heap.size W wr) (fun _ i _ => table.length - (intOf i).toNat)
    case atStart => exact ⟨0, Nat.zero_le _, rfl, rfl, HX4.out⟩
    case round =>
      obtain ⟨k, hk, rfl, hb0, hd⟩ := hrel
      have HB0 := Lib.hid hb0
      have HBW := Lib.hid hd
      have f0 := cell_keep hd HCX.out.1
      have f1 := cell_keep hd HCX.out.2.1
      have f2 := cell_keep hd HCX.out.2.2
      clear hb0 hd
      by_cases hlt : k < table.length
      · obtain ⟨b3, o3, c3, e, hy⟩ := (H2.out.keep HBW.out).at_ hlt
        cases e
        have hlt' : (k : Int) < (table.length : Int) := by omega
        have HT := Lib.hid (belowB_step (z := m.sizes.getD last.toNat 0) hlt)
        have HN := Lib.hid (belowB_no (z := m.sizes.getD last.toNat 0) hlt)
        generalize table[k] = y at hy HT HN
        obtain ⟨r, hr⟩ : ∃ r, inSize (m.sizes.getD last.toNat 0) y = r := ⟨_, rfl⟩
        have HR := Lib.hid hr
        have hil := HIL.out
        clear hr
        go_wp2_with fail
        refine wp_region_held_drew (S := (fun w' => w'.cell? ⟨w.heap.size, 0, none⟩ = some (.slice Ama m.sizes.length cma) ∧ w'.cell? ⟨w.heap.size, 1, none⟩ = some (.slice Amb m.tables.length cmb) ∧ w'.cell? ⟨b1, o1 + n, none⟩ = some (.int .i64 last))) (by kernel_rfl) ?_ (fun hHeld => ?_)
        · exact ⟨f0, f1, f2⟩
        refine wpAnyH_take (i := 0) (oi := _) (v := ?_) rfl (by kernel_rfl) (by kernel_rfl) (by kernel_rfl) (fun _ _ _ h => h) (Or.inl ⟨by rfl, ?_⟩) (by assumption) ?_
        rotate_left
        · first | (intro w' hSw; (try dsimp only at hSw); go_simp; done) | (intro w' hSw; (try dsimp only at hSw); go_simp; with_reducible rfl)
        try simp only [Act.put, List.getElem_toArray, List.getElem_cons_zero, List.getElem_cons_succ, List.setIfInBounds_toArray, List.set_cons_zero, List.set_cons_succ]
        refine wpAnyH_take (i := 1) (oi := _) (v := ?_) rfl (by kernel_rfl) (by kernel_rfl) (by kernel_rfl) (fun _ _ _ h => h) (Or.inl ⟨by rfl, ?_⟩) (by assumption) ?_
        rotate_left
        · first | (intro w' hSw; (try dsimp only at hSw); go_simp; done) | (intro w' hSw; (try dsimp only at hSw); go_simp; with_reducible rfl)
        try simp only [Act.put, List.getElem_toArray, List.getElem_cons_zero, List.getElem_cons_succ, List.setIfInBounds_toArray, List.set_cons_zero, List.set_cons_succ]
        refine wpAnyH_take (i := 2) (oi := _) (v := ?_) rfl (by kernel_rfl) (by kernel_rfl) (by kernel_rfl) (fun _ _ _ h => h) (Or.inl ⟨by rfl, ?_⟩) (by assumption) ?_
        rotate_left
        · first | (intro w' hSw; (try dsimp only at hSw); go_simp; done) | (intro w' hSw; (try dsimp only at hSw); go_simp; with_reducible rfl)
        try simp only [Act.put, List.getElem_toArray, List.getElem_cons_zero, List.getElem_cons_succ, List.setIfInBounds_toArray, List.set_cons_zero, List.set_cons_succ]
        refine wpAnyH_take (i := 3) (oi := _) (v := ?_) rfl (by kernel_rfl) (by kernel_rfl) (by kernel_rfl) (fun _ _ _ h => h) (Or.inl ⟨by rfl, ?_⟩) (by assumption) ?_
        rotate_left
        · first | (intro w' hSw; (try dsimp only at hSw); go_simp; done) | (intro w' hSw; (try dsimp only at hSw); go_simp; with_reducible rfl)
        try simp only [Act.put, List.getElem_toArray, List.getElem_cons_zero, List.getElem_cons_succ, List.setIfInBounds_toArray, List.set_cons_zero, List.set_cons_succ]
        refine wpAnyH_take (i := 4) (oi := _) (v := ?_) rfl (by kernel_rfl) (by kernel_rfl) (by kernel_rfl) (fun _ _ _ h => h) (Or.inl ⟨by rfl, ?_⟩) (by assumption) ?_
        rotate_left
        · first | (intro w' hSw; (try dsimp only at hSw); go_simp; done) | (intro w' hSw; (try dsimp only at hSw); go_simp; with_reducible rfl)
        try simp only [Act.put, List.getElem_toArray, List.getElem_cons_zero, List.getElem_cons_succ, List.setIfInBounds_toArray, List.set_cons_zero, List.set_cons_succ]
        refine wpAnyH_take (i := 5) (oi := _) (v := ?_) rfl (by kernel_rfl) (by kernel_rfl) (by kernel_rfl) (fun _ _ _ h => h) (Or.inl ⟨by rfl, ?_⟩) (by assumption) ?_
        rotate_left
        · first | (intro w' hSw; (try dsimp only at hSw); go_simp; done) | (intro w' hSw; (try dsimp only at hSw); go_simp; with_reducible rfl)
        try simp only [Act.put, List.getElem_toArray, List.getElem_cons_zero, List.getElem_cons_succ, List.setIfInBounds_toArray, List.set_cons_zero, List.set_cons_succ]
        refine wpAnyH_ready (rs := [6]) (by kernel_rfl) (by simp) ?_
        refine AllReadyH.cons (o := _) rfl (fun K hK => ?_) AllReadyH.nil
        go_simp
        refine (isValue_any m last y _ _ ((Hm.out.keep HBW.out).keep (map_drew (Below.refl _ _))) hil.1 hil.2).mono ?_
        rw [HR.out]
        rintro x w6 ⟨rfl, hb6⟩
        have hx6 := map_undrew hb6
        have HX6 := Lib.hid (sz_keep HBW.out hx6)
        have j1 := cell_keep hx6 f0
        have j2 := cell_keep hx6 f1
        have j3 := cell_keep hx6 f2
        clear hb6 hx6
        go_wp2_with fail
        refine hK.out _ _ ?_ (fun hHeld => ?_)
        · exact ⟨j1, j2, j3⟩
        clear hK K
        try simp only [Act.put, List.getElem_toArray, List.getElem_cons_zero, List.getElem_cons_succ, List.setIfInBounds_toArray, List.set_cons_zero, List.set_cons_succ]
        refine wpAnyH_take (i := 7) (oi := _) (v := ?_) rfl (by kernel_rfl) (by kernel_rfl) (by kernel_rfl) (fun _ _ _ h => h) (Or.inl ⟨by rfl, ?_⟩) (by assumption) ?_
        rotate_left
        · first | (intro w' hSw; (try dsimp only at hSw); go_simp; done) | (intro w' hSw; (try dsimp only at hSw); go_simp; with_reducible rfl)
        try simp only [Act.put, List.getElem_toArray, List.getElem_cons_zero, List.getElem_cons_succ, List.setIfInBounds_toArray, List.set_cons_zero, List.set_cons_succ]
        refine wpAnyH_done (by kernel_rfl) ?_ _
        clear f0 f1 f2 j1 j2 j3 hy hil
        cases r with
        | true =>
          go_wp2
          go_roundw
          case rel => exact ⟨k + 1, by omega, by go_num, by rw [HT.out, HB0.out, HR.out]; rfl, HX6.out⟩
          case measure => simp [intOf]; omega
        | false =>
          have HF := Lib.hid (tableB_val (row := row) (by rw [HLS.out]; exact HN.out HR.out))
          go_wp2
          go_ret
          exact ⟨ret_bool HF.out.symm, sz_keep HB.out HX6.out⟩
      · have hkn : k = table.length := by omega
        have hlt' : ¬ (k : Int) < (table.length : Int) := by omega
        have HT := Lib.hid (show table.take k = table from take_all (by omega))
        rw [HT.out] at HB0
        have HF := Lib.hid (tableB_yes (sizes := m.sizes) (row := row) (by rw [HQ.out]; exact HLEN.out) (by rw [HLS.out]; exact HB0.out))
        clear f0 f1 f2
        go_wp2
        go_ret
        exact ⟨ret_bool HF.out.symm, sz_keep HB.out HBW.out⟩
  · have HF := Lib.hid (tableB_len (by rw [HQ.out]; exact hlen))
    have e1 : ((table.length : Int) != q) = true := by simpa using hlen
    clear hlen
    go_enter Try.func63, Try.ntmps63
    go_wp2_with fail
    clear hW
    refine wp_region_held_drew (S := (fun w' => w'.cell? ⟨w.heap.size, 0, none⟩ = some (.slice Ama m.sizes.length cma) ∧ w'.cell? ⟨w.heap.size, 1, none⟩ = some (.slice Amb m.tables.length cmb))) (by kernel_rfl) ?_ (fun hHeld => ?_)
    · exact ⟨m0, m1⟩
    refine wpAnyH_take (i := 0) (oi := _) (v := ?_) rfl (by kernel_rfl) (by kernel_rfl) (by kernel_rfl) (fun _ _ _ h => h) (Or.inl ⟨by rfl, ?_⟩) (by assumption) ?_
    rotate_left
    · first | (intro w' hSw; (try dsimp only at hSw); go_simp; done) | (intro w' hSw; (try dsimp only at hSw); go_simp; with_reducible rfl)
    try simp only [Act.put, List.getElem_toArray, List.getElem_cons_zero, List.getElem_cons_succ, List.setIfInBounds_toArray, List.set_cons_zero, List.set_cons_succ]
    refine wpAnyH_take (i := 1) (oi := _) (v := ?_) rfl (by kernel_rfl) (by kernel_rfl) (by kernel_rfl) (fun _ _ _ h => h) (Or.inl ⟨by rfl, ?_⟩) (by assumption) ?_
    rotate_left
    · first | (intro w' hSw; (try dsimp only at hSw); go_simp; done) | (intro w' hSw; (try dsimp only at hSw); go_simp; with_reducible rfl)
    try simp only [Act.put, List.getElem_toArray, List.getElem_cons_zero, List.getElem_cons_succ, List.setIfInBounds_toArray, List.set_cons_zero, List.set_cons_succ]
    refine wpAnyH_take (i := 2) (oi := _) (v := ?_) rfl (by kernel_rfl) (by kernel_rfl) (by kernel_rfl) (fun _ _ _ h => h) (Or.inl ⟨by rfl, ?_⟩) (by assumption) ?_
    rotate_left
    · first | (intro w' hSw; (try dsimp only at hSw); go_simp; done) | (intro w' hSw; (try dsimp only at hSw); go_simp; with_reducible rfl)
    try simp only [Act.put, List.getElem_toArray, List.getElem_cons_zero, List.getElem_cons_succ, List.setIfInBounds_toArray, List.set_cons_zero, List.set_cons_succ]
    refine wpAnyH_take (i := 3) (oi := _) (v := ?_) rfl (by kernel_rfl) (by kernel_rfl) (by kernel_rfl) (fun _ _ _ h => h) (Or.inl ⟨by rfl, ?_⟩) (by assumption) ?_
    rotate_left
    · first | (intro w' hSw; (try dsimp only at hSw); go_simp; done) | (intro w' hSw; (try dsimp only at hSw); go_simp; with_reducible rfl)
    try simp only [Act.put, List.getElem_toArray, List.getElem_cons_zero, List.getElem_cons_succ, List.setIfInBounds_toArray, List.set_cons_zero, List.set_cons_succ]
    refine wpAnyH_take (i := 4) (oi := _) (v := ?_) rfl (by kernel_rfl) (by kernel_rfl) (by kernel_rfl) (fun _ _ _ h => h) (Or.inl ⟨by rfl, ?_⟩) (by assumption) ?_
    rotate_left
    · first | (intro w' hSw; (try dsimp only at hSw); go_simp; done) | (intro w' hSw; (try dsimp only at hSw); go_simp; with_reducible rfl)
    try simp only [Act.put, List.getElem_toArray, List.getElem_cons_zero, List.getElem_cons_succ, List.setIfInBounds_toArray, List.set_cons_zero, List.set_cons_succ]
    refine wpAnyH_take (i := 5) (oi := _) (v := ?_) rfl (by kernel_rfl) (by kernel_rfl) (by kernel_rfl) (fun _ _ _ h => h) (Or.inl ⟨by rfl, ?_⟩) (by assumption) ?_
    rotate_left
    · first | (intro w' hSw; (try dsimp only at hSw); go_simp; done) | (intro w' hSw; (try dsimp only at hSw); go_simp; with_reducible rfl)
    try simp only [Act.put, List.getElem_toArray, List.getElem_cons_zero, List.getElem_cons_succ, List.setIfInBounds_toArray, List.set_cons_zero, List.set_cons_succ]
    refine wpAnyH_ready (rs := [6]) (by kernel_rfl) (by simp) ?_
    refine AllReadyH.cons (o := _) rfl (fun K hK => ?_) AllReadyH.nil
    go_simp
    refine (sizesOf_any m row.dropLast _ _ _ (Hm.out.keep (map_drew (Below.refl _ _))) (HD.out.keep (map_drew (Below.refl _ _))) HIN.out (by rw [HDL.out]; omega)).mono ?_
    rintro x w4 ⟨u4, rfl, ho4, hb4⟩
    have hx4 := map_undrew hb4
    obtain ⟨A4, c4, rfl, -⟩ := ho4.reads.form
    have HO4 := Lib.hid ho4.reads
    have HX4 := Lib.hid hx4
    have j1 := cell_keep hx4 m0
    have j2 := cell_keep hx4 m1
    clear ho4 hb4 hx4
    go_wp2_with fail
    refine hK.out _ _ ?_ (fun hHeld => ?_)
    · exact ⟨j1, j2⟩
    clear hK K
    try simp only [Act.put, List.getElem_toArray, List.getElem_cons_zero, List.getElem_cons_succ, List.setIfInBounds_toArray, List.set_cons_zero, List.set_cons_succ]
    refine wpAnyH_ready (rs := [7]) (by kernel_rfl) (by simp) ?_
    refine AllReadyH.cons (o := _) rfl (fun K hK => ?_) AllReadyH.nil
    go_simp
    refine (rowsOf_any _ w4 _ HO4.out HSZ.out (by rw [ledM_len, HDL.out]; omega)).mono ?_
    rw [HQ.out]
    rintro x w5 ⟨rfl, rfl⟩
    go_wp2_with fail
    refine hK.out _ _ ?_ (fun hHeld => ?_)
    · exact ⟨j1, j2⟩
    clear hK K
    try simp only [Act.put, List.getElem_toArray, List.getElem_cons_zero, List.getElem_cons_succ, List.setIfInBounds_toArray, List.set_cons_zero, List.set_cons_succ]
    refine wpAnyH_take (i := 8) (oi := _) (v := ?_) rfl (by kernel_rfl) (by kernel_rfl) (by kernel_rfl) (fun _ _ _ h => h) (Or.inl ⟨by rfl, ?_⟩) (by assumption) ?_
    rotate_left
    · first | (intro w' hSw; (try dsimp only at hSw); go_simp; done) | (intro w' hSw; (try dsimp only at hSw); go_simp; with_reducible rfl)
    try simp only [Act.put, List.getElem_toArray, List.getElem_cons_zero, List.getElem_cons_succ, List.setIfInBounds_toArray, List.set_cons_zero, List.set_cons_succ]
    refine wpAnyH_done (by kernel_rfl) ?_ _
    clear m0 m1 j1 j2 hx
    go_wp2
    go_ret
    exact ⟨ret_bool HF.out.symm, sz_keep HB.out HX4.out⟩
end
end Go.Proofs.Ytfomeommkfemkaa
