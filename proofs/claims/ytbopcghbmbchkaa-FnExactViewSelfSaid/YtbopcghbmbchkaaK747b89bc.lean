/- Small words that the exact laws share. · What the made proofs of the exact laws share (tools/exact.py). No walk. · Equations that a call has made, in worlds that keep what lies from a size on. No walk. · MapSelf, MapThen, MapTerm, MapEq of package impl. · ViewOk of package impl. · A local struct whose rows are filled, one after the other, by append. No walk. -/
import Derived.Test.YtbopcghbmbchkaaKf9fd175b
namespace Go.Proofs.Ytbopcghbmbchkaa
section
open Go.ChangeShapes Go.WideShapes Go.ChangeAt Go.RowKit
set_option linter.unusedVariables false

theorem gr_undrew {a w w' : World} {B : Nat} (h : Below B a w.drew) : Below B a w := ⟨h.os, h.tape, h.output, h.size, h.block⟩
theorem below_undrew {B : Nat} {w w' : World} (h : Below B w.drew w') : Below B w w' := ⟨h.os, h.tape, h.output, h.size, h.block⟩
theorem bx_cells (w : World) (a b : Value) (t : TypeId) : (w.alloc (.cells #[a, b] t)).cell? ⟨w.heap.size, 0, none⟩ = some a ∧ (w.alloc (.cells #[a, b] t)).cell? ⟨w.heap.size, 1, none⟩ = some b := by
  constructor <;> (rw [World.cell?_alloc_at _ _ _ _ rfl]; rfl)
end

section
open Go.ChangeShapes Go.WideShapes Go.ChangeAt Go.RowKit
set_option linter.unusedVariables false

theorem ex_keep {w w1 w2 : World} (h : Below w.heap.size w w1) (k : Below w1.heap.size w1 w2) : Below w.heap.size w w2 := h.trans (k.mono h.size)
theorem ex_drew {B : Nat} {a w : World} (h : Below B a w) : Below B a w.drew := ⟨h.os, h.tape, h.output, h.size, h.block⟩
theorem ex_undrew {w w' : World} (h : Below w.drew.heap.size w.drew w') : Below w.heap.size w w' := below_undrew h
theorem sameI_self (xs : List Int) : sameI xs xs = true := by unfold sameI; simp
theorem sameR_self (xs : List (List Int)) : sameR xs xs = true := by unfold sameR; simp
end

section
open Go.RowKit
set_option linter.unusedVariables false

theorem OEq.same {w w' : World} {B : Nat} {v : Value} {e : MEq} (h : OEq w B v e) (hk : ∀ k, B ≤ k → k < w.heap.size → w'.heap[k]? = w.heap[k]?) : OEq w' B v e := by
  obtain ⟨a, b, c, rfl, h1, h2, h3, h4⟩ := h
  exact ⟨a, b, c, rfl, h1.same hk, h2.same hk, h3.same hk, h4⟩
end

section
open Go.RowKit
set_option linter.unusedVariables false
set_option linter.unusedSimpArgs false

theorem blk_keep {wc wd : World} {bx : Nat} {o : Obj} (hz : wc.heap[bx]? = some o) (hb : Below wc.heap.size wc wd) : wd.heap[bx]? = some o := (hb.block _ (Array.getElem?_eq_some_iff.1 hz).1).trans hz
theorem set_other {w : World} {b rb : Nat} (h : b ≠ rb) (i o : Nat) (u : Value) : (w.setCell ⟨rb, i, none⟩ u).cell? ⟨b, o, none⟩ = w.cell? ⟨b, o, none⟩ := World.cell?_of_block (Below.heap_setCell w ⟨rb, i, none⟩ u b h)
theorem nil_map (w : World) (B : Nat) : OMap w B (.agg #[.slice none 0 0, .slice none 0 0]) noMap := ⟨_, _, rfl, OInts.nil _ _, OInts.nil _ _, .inl rfl⟩
theorem nil_eq (w : World) (B : Nat) : OEq w B (.agg #[.slice none 0 0, .slice none 0 0, .slice none 0 0]) noEq := ⟨_, _, _, rfl, OInts.nil _ _, OInts.nil _ _, OInts.nil _ _, .inl rfl, .inl rfl, .inl rfl⟩
theorem below_low {w w' : World} {B : Nat} (h : Below w.heap.size w w') (hB : B ≤ w.heap.size) : Below B w w' := h.mono hB

set_option maxRecDepth 100000 in
theorem countedRow_any (x : Int) (w : World) (h0 : 0 ≤ x) (h1 : x ≤ 1048576) :
    Calls Try.prog 93 #[.int .i64 x] w fun e w' => ∃ u, e = .returned u ∧ OInts w' w.heap.size u (countM x.toNat) ∧ Below w.heap.size w w' := by
  obtain ⟨n, rfl⟩ : ∃ n : Nat, x = (n : Int) := ⟨x.toNat, by omega⟩
  rw [Int.toNat_natCast]
  have hmk := run_make_row' (P := Try.prog) 28 3 (.int .i64 0) 8 Try.underlying28 Try.tinfo_int rfl .i64 .i64 n (by omega) (by omega)
  go_enter Try.func93, Try.ntmps93
  go_wp2
  go_loopw [4, 9] (fun a i wr => ∃ k : Nat, k ≤ n ∧ i = .int .i64 k ∧ Filling w wr (countM n) k) (fun _ i _ => n - (intOf i).toNat)
  case atStart => exact ⟨0, Nat.zero_le _, rfl, Filling.start w _ _ (by rw [countM_len]; simp [madeCells])⟩
  case round =>
    obtain ⟨k, hk, rfl, hf⟩ := hrel
    have HF := Lib.hid hf
    clear hf hmk
    by_cases hlt : k < n
    · have hlt' : (k : Int) < (n : Int) := by omega
      obtain ⟨u, g1, g2⟩ := HF.out.cell (by rw [countM_len]; exact hlt)
      go_wp2
      go_roundw
      case rel => exact ⟨k + 1, by omega, by go_num, HF.out.step (by rw [countM_len]; exact hlt) ((List.getElem?_eq_some_iff.1 (countM_at hlt)).2)⟩
      case measure => simp [intOf]; omega
    · have hlt' : ¬ (k : Int) < (n : Int) := by omega
      go_wp2
      go_ret
      obtain ⟨r1, r2⟩ := HF.out.done (by rw [countM_len]; omega) (by omega)
      have hkn : k = n := by omega
      subst hkn
      exact ⟨_, rfl, r1, r2⟩

set_option maxHeartbeats 1600000 in
set_option maxRecDepth 100000 in
theorem mapSelf_any (s : MSig) (w : World) (v : Value) (h1 : RSig w v s) :
    Calls Try.prog 43 #[v] w fun e w' => ∃ u, e = .returned u ∧ OMap w' w.heap.size u (selfM s) ∧ Below w.heap.size w w' := by
  obtain ⟨Asa, csa, rfl⟩ := h1.form
  have hb : Below w.heap.size w ((w.alloc (.cells #[.int .i64 s.sorts, .slice Asa s.ops.length csa] 37)).alloc (.cells #[.slice none 0 0, .slice none 0 0] 42)) := (below_alloc _ _).alloc (by simp) _
  have HB := Lib.hid hb
  have hsz : ((w.alloc (.cells #[.int .i64 s.sorts, .slice Asa s.ops.length csa] 37)).alloc (.cells #[.slice none 0 0, .slice none 0 0] 42)).heap.size = w.heap.size + 2 := by simp
  have Hs := Lib.hid (h1.keep hb)
  have s0 := cell_keep (below_alloc (w.alloc (.cells #[.int .i64 s.sorts, .slice Asa s.ops.length csa] 37)) (.cells #[.slice none 0 0, .slice none 0 0] 42)) (bx_at (w) #[.int .i64 s.sorts, .slice Asa s.ops.length csa] 37 (k := 0) rfl)
  have s1 := cell_keep (below_alloc (w.alloc (.cells #[.int .i64 s.sorts, .slice Asa s.ops.length csa] 37)) (.cells #[.slice none 0 0, .slice none 0 0] 42)) (bx_at (w) #[.int .i64 s.sorts, .slice Asa s.ops.length csa] 37 (k := 1) rfl)
  have HZr := Lib.hid (show ((w.alloc (.cells #[.int .i64 s.sorts, .slice Asa s.ops.length csa] 37)).alloc (.cells #[.slice none 0 0, .slice none 0 0] 42)).heap[w.heap.size + 1]? = some (.cells #[.slice none 0 0, .slice none 0 0] 42 (0, 0)) from (congrArg (fun i => ((w.alloc (.cells #[.int .i64 s.sorts, .slice Asa s.ops.length csa] 37)).alloc (.cells #[.slice none 0 0, .slice none 0 0] 42)).heap[i]?) (by simp)).trans (heap_alloc_new (w.alloc (.cells #[.int .i64 s.sorts, .slice Asa s.ops.length csa] 37)) _))
  generalize hW : (w.alloc (.cells #[.int .i64 s.sorts, .slice Asa s.ops.length csa] 37)).alloc (.cells #[.slice none 0 0, .slice none 0 0] 42) = W at HB hsz Hs s0 s1 HZr
  clear hb h1
  have hl1 := Hs.out.of.2.len
  cases hv : validB s with
  | false =>
    have HV := Lib.hid hv
    have HE := Lib.hid (show selfM s = noMap by unfold selfM; rw [hv]; rfl)
    clear hv
    go_enter Try.func43, Try.ntmps43
    go_wp2_with fail
    clear hW
    refine (sigValid_any _ s _ Hs.out).mono ?_
    rw [HV.out]
    rintro e w1 ⟨rfl, hb⟩
    replace HB := Lib.hid (sz_keep HB.out hb)
    replace Hs := Lib.hid (Hs.out.keep hb)
    replace HZr := Lib.hid (blk_keep HZr.out hb)
    clear hb
    clear s0 s1
    have j0 := blk_cell HZr.out 0
    have j1 := blk_cell HZr.out 1
    have jf0 := blk_free HZr.out 0
    have jf1 := blk_free HZr.out 1
    simp at j0 j1
    go_wp2
    have d1 := blk_set (blk_set (HZr.out) 0 (.slice none 0 0)) 1 (.slice none 0 0)
    have hbz := ((HB.out.setCell (p := ⟨w.heap.size + 1, 0, none⟩) (by show w.heap.size ≤ w.heap.size + 1; omega) (.slice none 0 0)).setCell (p := ⟨w.heap.size + 1, 1, none⟩) (by show w.heap.size ≤ w.heap.size + 1; omega) (.slice none 0 0))
    generalize (w1.setCell ⟨w.heap.size + 1, 0, none⟩ (.slice none 0 0)).setCell ⟨w.heap.size + 1, 1, none⟩ (.slice none 0 0) = wz at d1 hbz  ⊢
    have k0 := blk_cell d1 0
    have k1 := blk_cell d1 1
    simp at k0 k1
    clear j0 j1 jf0 jf1
    refine bodyPost_ret (v := .agg #[.slice none 0 0, .slice none 0 0]) (by simp [results, Try.results43, go_sem, k0, k1]) rfl ?_
    exact ⟨_, rfl, by rw [HE.out]; exact nil_map _ _, hbz⟩
  | true =>
    have HV := Lib.hid hv
    have hsv := valid_sorts hv
    have HE := Lib.hid (show selfM s = ⟨countM s.sorts.toNat, countM s.ops.length⟩ by unfold selfM; rw [hv]; rfl)
    clear hv
    go_enter Try.func43, Try.ntmps43
    go_wp2_with fail
    clear hW
    refine (sigValid_any _ s _ Hs.out).mono ?_
    rw [HV.out]
    rintro e w1 ⟨rfl, hb⟩
    replace HB := Lib.hid (sz_keep HB.out hb)
    replace s0 := cell_keep hb s0
    replace s1 := cell_keep hb s1
    replace Hs := Lib.hid (Hs.out.keep hb)
    replace HZr := Lib.hid (blk_keep HZr.out hb)
    clear hb
    go_wp2_with fail
    refine wp_region_held_drew (S := (fun w' => w'.cell? ⟨w.heap.size, 0, none⟩ = some (.int .i64 s.sorts) ∧ w'.cell? ⟨w.heap.size, 1, none⟩ = some (.slice Asa s.ops.length csa))) (by kernel_rfl) ?_ (fun hHeld => ?_)
    · exact ⟨s0, s1⟩
    refine wpAnyH_take (i := 0) (oi := _) (v := ?_) rfl (by kernel_rfl) (by kernel_rfl) (by kernel_rfl) (fun _ _ _ h => h) (Or.inl ⟨by rfl, ?_⟩) (by assumption) ?_
    rotate_left
    · first | (intro w' hSw; (try dsimp only at hSw); go_simp; done) | (intro w' hSw; (try dsimp only at hSw); go_simp; with_reducible rfl)
    try simp only [Act.put, List.getElem_toArray, List.getElem_cons_zero, List.getElem_cons_succ, List.setIfInBounds_toArray, List.set_cons_zero, List.set_cons_succ]
    refine wpAnyH_take (i := 1) (oi := _) (v := ?_) rfl (by kernel_rfl) (by kernel_rfl) (by kernel_rfl) (fun _ _ _ h => h) (Or.inl ⟨by rfl, ?_⟩) (by assumption) ?_
    rotate_left
    · first | (intro w' hSw; (try dsimp only at hSw); go_simp; done) | (intro w' hSw; (try dsimp only at hSw); go_simp; with_reducible rfl)
    try simp only [Act.put, List.getElem_toArray, List.getElem_cons_zero, List.getElem_cons_succ, List.setIfInBounds_toArray, List.set_cons_zero, List.set_cons_succ]
    refine wpAnyH_take (i := 3) (oi := _) (v := ?_) rfl (by kernel_rfl) (by kernel_rfl) (by kernel_rfl) (fun _ _ _ h => h) (Or.inl ⟨by rfl, ?_⟩) (by assumption) ?_
    rotate_left
    · first | (intro w' hSw; (try dsimp only at hSw); go_simp; done) | (intro w' hSw; (try dsimp only at hSw); go_simp; with_reducible rfl)
    try simp only [Act.put, List.getElem_toArray, List.getElem_cons_zero, List.getElem_cons_succ, List.setIfInBounds_toArray, List.set_cons_zero, List.set_cons_succ]
    refine wpAnyH_take (i := 4) (oi := _) (v := ?_) rfl (by kernel_rfl) (by kernel_rfl) (by kernel_rfl) (fun _ _ _ h => h) (Or.inl ⟨by rfl, ?_⟩) (by assumption) ?_
    rotate_left
    · first | (intro w' hSw; (try dsimp only at hSw); go_simp; done) | (intro w' hSw; (try dsimp only at hSw); go_simp; with_reducible rfl)
    try simp only [Act.put, List.getElem_toArray, List.getElem_cons_zero, List.getElem_cons_succ, List.setIfInBounds_toArray, List.set_cons_zero, List.set_cons_succ]
    refine wpAnyH_take (i := 5) (oi := _) (v := ?_) rfl (by kernel_rfl) (by kernel_rfl) (by kernel_rfl) (fun _ _ _ h => h) (Or.inl ⟨by rfl, ?_⟩) (by assumption) ?_
    rotate_left
    · first | (intro w' hSw; (try dsimp only at hSw); go_simp; done) | (intro w' hSw; (try dsimp only at hSw); go_simp; with_reducible rfl)
    try simp only [Act.put, List.getElem_toArray, List.getElem_cons_zero, List.getElem_cons_succ, List.setIfInBounds_toArray, List.set_cons_zero, List.set_cons_succ]
    refine wpAnyH_ready (rs := [2]) (by kernel_rfl) (by simp) ?_
    refine AllReadyH.cons (o := _) rfl (fun K hK => ?_) AllReadyH.nil
    go_simp
    refine (countedRow_any s.sorts w1.drew (by omega) (by omega)).mono ?_
    rintro e w2 ⟨u2, rfl, ho2, hb2⟩
    have hx2 := map_undrew hb2
    obtain ⟨A2, c2, rfl, -⟩ := ho2.reads.form
    have HO2 := Lib.hid (show OInts w2 w1.heap.size _ _ from ho2)
    have HX2 := Lib.hid hx2
    have q0 := cell_keep hx2 s0
    have q1 := cell_keep hx2 s1
    clear ho2 hb2 hx2
    go_wp2_with fail
    refine hK.out _ _ ?_ (fun hHeld => ?_)
    · exact ⟨q0, q1⟩
    clear hK K
    try simp only [Act.put, List.getElem_toArray, List.getElem_cons_zero, List.getElem_cons_succ, List.setIfInBounds_toArray, List.set_cons_zero, List.set_cons_succ]
    refine wpAnyH_ready (rs := [6]) (by kernel_rfl) (by simp) ?_
    refine AllReadyH.cons (o := _) rfl (fun K hK => ?_) AllReadyH.nil
    go_simp
    refine (countedRow_any (s.ops.length : Int) w2 (by omega) (by omega)).mono ?_
    rw [Int.toNat_natCast]
    rintro e w3 ⟨u3, rfl, ho3, hb3⟩
    obtain ⟨A3, c3, rfl, -⟩ := ho3.reads.form
    have HAP := Lib.hid (apart_later HO2.out ho3)
    have HO3 := Lib.hid ho3
    have HO23 := Lib.hid (HO2.out.keep hb3)
    have HX3 := Lib.hid (sz_keep HX2.out hb3)
    have t0 := cell_keep hb3 q0
    have t1 := cell_keep hb3 q1
    have HZ3 := Lib.hid (blk_keep HZr.out HX3.out)
    have HSZ := Lib.hid (And.intro HB.out.size (And.intro HX2.out.size hb3.size))
    have HBN := Lib.hid (sz_keep HB.out HX3.out)
    have j0 := blk_cell HZ3.out 0
    have j1 := blk_cell HZ3.out 1
    have jf0 := blk_free HZ3.out 0
    have jf1 := blk_free HZ3.out 1
    simp at j0 j1
    clear ho3 hb3
    go_wp2_with fail
    refine hK.out _ _ ?_ (fun hHeld => ?_)
    · exact ⟨t0, t1⟩
    clear hK K
    try simp only [Act.put, List.getElem_toArray, List.getElem_cons_zero, List.getElem_cons_succ, List.setIfInBounds_toArray, List.set_cons_zero, List.set_cons_succ]
    refine wpAnyH_take (i := 7) (oi := _) (v := ?_) rfl (by kernel_rfl) (by kernel_rfl) (by kernel_rfl) (fun _ _ _ h => h) (Or.inl ⟨by rfl, ?_⟩) (by assumption) ?_
    rotate_left
    · first | (intro w' hSw; (try dsimp only at hSw); go_simp; done) | (intro w' hSw; (try dsimp only at hSw); go_simp; with_reducible rfl)
    try simp only [Act.put, List.getElem_toArray, List.getElem_cons_zero, List.getElem_cons_succ, List.setIfInBounds_toArray, List.set_cons_zero, List.set_cons_succ]
    refine wpAnyH_ready (rs := [8]) (by kernel_rfl) (by simp) ?_
    refine AllReadyH.cons (o := _) rfl (fun K hK => ?_) AllReadyH.nil
    go_simp
    skip
    go_wp2_with fail
    refine hK.out _ _ ?_ (fun hHeld => ?_)
    · exact ⟨(set_other (by omega) _ _ _).trans ((set_other (by omega) _ _ _).trans t0), (set_other (by omega) _ _ _).trans ((set_other (by omega) _ _ _).trans t1)⟩
    clear hK K
    try simp only [Act.put, List.getElem_toArray, List.getElem_cons_zero, List.getElem_cons_succ, List.setIfInBounds_toArray, List.set_cons_zero, List.set_cons_succ]
    refine wpAnyH_done (by kernel_rfl) ?_ _
    clear s0 s1 q0 q1 t0 t1
    have hZ1 : w.heap.size + 1 < w1.heap.size := (Array.getElem?_eq_some_iff.1 HZr.out).1
    have hZ2 := HSZ.out
    replace HB := HBN
    go_wp2
    have d1 := blk_set (blk_set (HZ3.out) 0 (.slice A2 (countM s.sorts.toNat).length c2)) 1 (.slice A3 (countM s.ops.length).length c3)
    have n0 := ((HO23.out.setLow (b := w.heap.size + 1) (by omega) 0 (.slice A2 (countM s.sorts.toNat).length c2)).setLow (b := w.heap.size + 1) (by omega) 1 (.slice A3 (countM s.ops.length).length c3))
    have n1 := ((HO3.out.setLow (b := w.heap.size + 1) (by omega) 0 (.slice A2 (countM s.sorts.toNat).length c2)).setLow (b := w.heap.size + 1) (by omega) 1 (.slice A3 (countM s.ops.length).length c3))
    have hbz := ((HB.out.setCell (p := ⟨w.heap.size + 1, 0, none⟩) (by show w.heap.size ≤ w.heap.size + 1; omega) (.slice A2 (countM s.sorts.toNat).length c2)).setCell (p := ⟨w.heap.size + 1, 1, none⟩) (by show w.heap.size ≤ w.heap.size + 1; omega) (.slice A3 (countM s.ops.length).length c3))
    generalize (w3.setCell ⟨w.heap.size + 1, 0, none⟩ (.slice A2 (countM s.sorts.toNat).length c2)).setCell ⟨w.heap.size + 1, 1, none⟩ (.slice A3 (countM s.ops.length).length c3) = wz at d1 hbz n0 n1 ⊢
    have k0 := blk_cell d1 0
    have k1 := blk_cell d1 1
    simp at k0 k1
    clear j0 j1 jf0 jf1
    refine bodyPost_ret (v := .agg #[.slice A2 (countM s.sorts.toNat).length c2, .slice A3 (countM s.ops.length).length c3]) (by simp [results, Try.results43, go_sem, k0, k1]) rfl ?_
    exact ⟨_, rfl, by rw [HE.out]; exact ⟨_, _, rfl, n0.base (by omega), n1.base (by omega), HAP.out⟩, hbz⟩
theorem ledE_in {a b : MSig} {m : MMap} (f : MapFacts a b m) {e : MEq} (h : eqOkB a e = true) : InTo m.sorts e.vars ∧ InTo m.ops e.left ∧ InTo m.ops e.right ∧ e.vars.length ≤ 4 ∧ e.left.length ≤ 30 ∧ e.right.length ≤ 30 ∧ (∀ x ∈ e.vars, x < 100) := by
  unfold eqOkB at h
  simp only [Bool.and_eq_true, decide_eq_true_eq] at h
  have p := term_in f h.1
  have q := term_in f (show 0 ≤ sortM a e.vars e.right by rw [h.2]; exact h.1)
  exact ⟨p.2.2.1, p.1, q.1, p.2.2.2.1, p.2.1, q.2.1, p.2.2.2.2⟩
structure EqIn (m : MMap) (e : MEq) : Prop where
  vi : InTo m.sorts e.vars
  li : InTo m.ops e.left
  ri : InTo m.ops e.right
  vl : e.vars.length ≤ 4
  ll : e.left.length ≤ 30
  rl : e.right.length ≤ 30
  vs : ∀ x ∈ e.vars, x < 100
theorem eqIn_of {a b : MSig} {m : MMap} (f : MapFacts a b m) {e : MEq} (h : eqOkB a e = true) : EqIn m e := by
  obtain ⟨p1, p2, p3, p4, p5, p6, p7⟩ := ledE_in f h
  exact ⟨p1, p2, p3, p4, p5, p6, p7⟩

set_option maxHeartbeats 3200000 in
set_option maxRecDepth 100000 in
theorem ledEq_any (m : MMap) (e : MEq) (w : World) (vm ve : Value) (hin : EqIn m e) (h1 : RMap w vm m) (h2 : REq w ve e) :
    Calls Try.prog 58 #[vm, ve] w fun x w' => ∃ u, x = .returned u ∧ OEq w' w.heap.size u (ledE m e) ∧ Below w.heap.size w w' := by
  obtain ⟨Ama, cma, Amb, cmb, rfl⟩ := h1.form
  obtain ⟨Aea, cea, Aeb, ceb, Aec, cec, rfl⟩ := h2.form
  have hb : Below w.heap.size w (((w.alloc (.cells #[.slice Ama m.sorts.length cma, .slice Amb m.ops.length cmb] 42)).alloc (.cells #[.slice Aea e.vars.length cea, .slice Aeb e.left.length ceb, .slice Aec e.right.length cec] 63)).alloc (.cells #[.slice none 0 0, .slice none 0 0, .slice none 0 0] 63)) := ((below_alloc _ _).alloc (by simp) _).alloc (by simp; omega) _
  have HB := Lib.hid hb
  have hsz : (((w.alloc (.cells #[.slice Ama m.sorts.length cma, .slice Amb m.ops.length cmb] 42)).alloc (.cells #[.slice Aea e.vars.length cea, .slice Aeb e.left.length ceb, .slice Aec e.right.length cec] 63)).alloc (.cells #[.slice none 0 0, .slice none 0 0, .slice none 0 0] 63)).heap.size = w.heap.size + 3 := by simp
  have Hm := Lib.hid (h1.keep hb)
  have m0 := cell_keep (below_alloc ((w.alloc (.cells #[.slice Ama m.sorts.length cma, .slice Amb m.ops.length cmb] 42)).alloc (.cells #[.slice Aea e.vars.length cea, .slice Aeb e.left.length ceb, .slice Aec e.right.length cec] 63)) (.cells #[.slice none 0 0, .slice none 0 0, .slice none 0 0] 63)) (cell_keep (below_alloc (w.alloc (.cells #[.slice Ama m.sorts.length cma, .slice Amb m.ops.length cmb] 42)) (.cells #[.slice Aea e.vars.length cea, .slice Aeb e.left.length ceb, .slice Aec e.right.length cec] 63)) (bx_at (w) #[.slice Ama m.sorts.length cma, .slice Amb m.ops.length cmb] 42 (k := 0) rfl))
  have m1 := cell_keep (below_alloc ((w.alloc (.cells #[.slice Ama m.sorts.length cma, .slice Amb m.ops.length cmb] 42)).alloc (.cells #[.slice Aea e.vars.length cea, .slice Aeb e.left.length ceb, .slice Aec e.right.length cec] 63)) (.cells #[.slice none 0 0, .slice none 0 0, .slice none 0 0] 63)) (cell_keep (below_alloc (w.alloc (.cells #[.slice Ama m.sorts.length cma, .slice Amb m.ops.length cmb] 42)) (.cells #[.slice Aea e.vars.length cea, .slice Aeb e.left.length ceb, .slice Aec e.right.length cec] 63)) (bx_at (w) #[.slice Ama m.sorts.length cma, .slice Amb m.ops.length cmb] 42 (k := 1) rfl))
  have He := Lib.hid (h2.keep hb)
  have e0 := cell_keep (below_alloc ((w.alloc (.cells #[.slice Ama m.sorts.length cma, .slice Amb m.ops.length cmb] 42)).alloc (.cells #[.slice Aea e.vars.length cea, .slice Aeb e.left.length ceb, .slice Aec e.right.length cec] 63)) (.cells #[.slice none 0 0, .slice none 0 0, .slice none 0 0] 63)) (bx_at (w.alloc (.cells #[.slice Ama m.sorts.length cma, .slice Amb m.ops.length cmb] 42)) #[.slice Aea e.vars.length cea, .slice Aeb e.left.length ceb, .slice Aec e.right.length cec] 63 (k := 0) rfl)
  have e1 := cell_keep (below_alloc ((w.alloc (.cells #[.slice Ama m.sorts.length cma, .slice Amb m.ops.length cmb] 42)).alloc (.cells #[.slice Aea e.vars.length cea, .slice Aeb e.left.length ceb, .slice Aec e.right.length cec] 63)) (.cells #[.slice none 0 0, .slice none 0 0, .slice none 0 0] 63)) (bx_at (w.alloc (.cells #[.slice Ama m.sorts.length cma, .slice Amb m.ops.length cmb] 42)) #[.slice Aea e.vars.length cea, .slice Aeb e.left.length ceb, .slice Aec e.right.length cec] 63 (k := 1) rfl)
  have e2 := cell_keep (below_alloc ((w.alloc (.cells #[.slice Ama m.sorts.length cma, .slice Amb m.ops.length cmb] 42)).alloc (.cells #[.slice Aea e.vars.length cea, .slice Aeb e.left.length ceb, .slice Aec e.right.length cec] 63)) (.cells #[.slice none 0 0, .slice none 0 0, .slice none 0 0] 63)) (bx_at (w.alloc (.cells #[.slice Ama m.sorts.length cma, .slice Amb m.ops.length cmb] 42)) #[.slice Aea e.vars.length cea, .slice Aeb e.left.length ceb, .slice Aec e.right.length cec] 63 (k := 2) rfl)
  have HZr := Lib.hid (show (((w.alloc (.cells #[.slice Ama m.sorts.length cma, .slice Amb m.ops.length cmb] 42)).alloc (.cells #[.slice Aea e.vars.length cea, .slice Aeb e.left.length ceb, .slice Aec e.right.length cec] 63)).alloc (.cells #[.slice none 0 0, .slice none 0 0, .slice none 0 0] 63)).heap[w.heap.size + 1 + 1]? = some (.cells #[.slice none 0 0, .slice none 0 0, .slice none 0 0] 63 (0, 0)) from (congrArg (fun i => (((w.alloc (.cells #[.slice Ama m.sorts.length cma, .slice Amb m.ops.length cmb] 42)).alloc (.cells #[.slice Aea e.vars.length cea, .slice Aeb e.left.length ceb, .slice Aec e.right.length cec] 63)).alloc (.cells #[.slice none 0 0, .slice none 0 0, .slice none 0 0] 63)).heap[i]?) (by simp)).trans (heap_alloc_new ((w.alloc (.cells #[.slice Ama m.sorts.length cma, .slice Amb m.ops.length cmb] 42)).alloc (.cells #[.slice Aea e.vars.length cea, .slice Aeb e.left.length ceb, .slice Aec e.right.length cec] 63)) _))
  simp only [World.size_alloc] at e0 e1 e2
  generalize hW : ((w.alloc (.cells #[.slice Ama m.sorts.length cma, .slice Amb m.ops.length cmb] 42)).alloc (.cells #[.slice Aea e.vars.length cea, .slice Aeb e.left.length ceb, .slice Aec e.right.length cec] 63)).alloc (.cells #[.slice none 0 0, .slice none 0 0, .slice none 0 0] 63) = W at HB hsz Hm m0 m1 He e0 e1 e2 HZr
  clear hb h1 h2
  have HIN := Lib.hid hin
  have hl1 := He.out.of.1.len
  have hl2 := He.out.of.2.1.len
  have hl3 := He.out.of.2.2.len
  have hl4 := Hm.out.of.1.len
  have hl5 := Hm.out.of.2.len
  have hv1 := hin.vl
  have hv2 := hin.ll
  have hv3 := hin.rl
  clear hin
  have HBW := Lib.hid hsz
  clear hsz
  go_enter Try.func58, Try.ntmps58
  go_wp2_with fail
  clear hW
  refine wp_region_held_drew (S := (fun w' => w'.cell? ⟨w.heap.size, 0, none⟩ = some (.slice Ama m.sorts.length cma) ∧ w'.cell? ⟨w.heap.size, 1, none⟩ = some (.slice Amb m.ops.length cmb) ∧ w'.cell? ⟨w.heap.size + 1, 0, none⟩ = some (.slice Aea e.vars.length cea) ∧ w'.cell? ⟨w.heap.size + 1, 1, none⟩ = some (.slice Aeb e.left.length ceb) ∧ w'.cell? ⟨w.heap.size + 1, 2, none⟩ = some (.slice Aec e.right.length cec))) (by kernel_rfl) ?_ (fun hHeld => ?_)
  · exact ⟨m0, m1, e0, e1, e2⟩
  refine wpAnyH_take (i := 0) (oi := _) (v := ?_) rfl (by kernel_rfl) (by kernel_rfl) (by kernel_rfl) (fun _ _ _ h => h) (Or.inl ⟨by rfl, ?_⟩) (by assumption) ?_
  rotate_left
  · first | (intro w' hSw; (try dsimp only at hSw); go_simp; done) | (intro w' hSw; (try dsimp only at hSw); go_simp; with_reducible rfl)
  try simp only [Act.put, List.getElem_toArray, List.getElem_cons_zero, List.getElem_cons_succ, List.setIfInBounds_toArray, List.set_cons_zero, List.set_cons_succ]
  refine wpAnyH_take (i := 1) (oi := _) (v := ?_) rfl (by kernel_rfl) (by kernel_rfl) (by kernel_rfl) (fun _ _ _ h => h) (Or.inl ⟨by rfl, ?_⟩) (by assumption) ?_
  rotate_left
  · first | (intro w' hSw; (try dsimp only at hSw); go_simp; done) | (intro w' hSw; (try dsimp only at hSw); go_simp; with_reducible rfl)
  try simp only [Act.put, List.getElem_toArray, List.getElem_cons_zero, List.getElem_cons_succ, List.setIfInBounds_toArray, List.set_cons_zero, List.set_cons_succ]
  refine wpAnyH_take (i := 2) (oi := _) (v := ?_) rfl (by kernel_rfl) (by kernel_rfl) (by kernel_rfl) (fun _ _ _ h => h) (Or.inl ⟨by rfl, ?_⟩) (by assumption) ?_
  rotate_left
  · first | (intro w' hSw; (try dsimp only at hSw); go_simp; done) | (intro w' hSw; (try dsimp only at hSw); go_simp; with_reducible rfl)
  try simp only [Act.put, List.getElem_toArray, List.getElem_cons_zero, List.getElem_cons_succ, List.setIfInBounds_toArray, List.set_cons_zero, List.set_cons_succ]
  refine wpAnyH_take (i := 3) (oi := _) (v := ?_) rfl (by kernel_rfl) (by kernel_rfl) (by kernel_rfl) (fun _ _ _ h => h) (Or.inl ⟨by rfl, ?_⟩) (by assumption) ?_
  rotate_left
  · first | (intro w' hSw; (try dsimp only at hSw); go_simp; done) | (intro w' hSw; (try dsimp only at hSw); go_simp; with_reducible rfl)
  try simp only [Act.put, List.getElem_toArray, List.getElem_cons_zero, List.getElem_cons_succ, List.setIfInBounds_toArray, List.set_cons_zero, List.set_cons_succ]
  refine wpAnyH_take (i := 5) (oi := _) (v := ?_) rfl (by kernel_rfl) (by kernel_rfl) (by kernel_rfl) (fun _ _ _ h => h) (Or.inl ⟨by rfl, ?_⟩) (by assumption) ?_
  rotate_left
  · first | (intro w' hSw; (try dsimp only at hSw); go_simp; done) | (intro w' hSw; (try dsimp only at hSw); go_simp; with_reducible rfl)
  try simp only [Act.put, List.getElem_toArray, List.getElem_cons_zero, List.getElem_cons_succ, List.setIfInBounds_toArray, List.set_cons_zero, List.set_cons_succ]
  refine wpAnyH_take (i := 6) (oi := _) (v := ?_) rfl (by kernel_rfl) (by kernel_rfl) (by kernel_rfl) (fun _ _ _ h => h) (Or.inl ⟨by rfl, ?_⟩) (by assumption) ?_
  rotate_left
  · first | (intro w' hSw; (try dsimp only at hSw); go_simp; done) | (intro w' hSw; (try dsimp only at hSw); go_simp; with_reducible rfl)
  try simp only [Act.put, List.getElem_toArray, List.getElem_cons_zero, List.getElem_cons_succ, List.setIfInBounds_toArray, List.set_cons_zero, List.set_cons_succ]
  refine wpAnyH_take (i := 7) (oi := _) (v := ?_) rfl (by kernel_rfl) (by kernel_rfl) (by kernel_rfl) (fun _ _ _ h => h) (Or.inl ⟨by rfl, ?_⟩) (by assumption) ?_
  rotate_left
  · first | (intro w' hSw; (try dsimp only at hSw); go_simp; done) | (intro w' hSw; (try dsimp only at hSw); go_simp; with_reducible rfl)
  try simp only [Act.put, List.getElem_toArray, List.getElem_cons_zero, List.getElem_cons_succ, List.setIfInBounds_toArray, List.set_cons_zero, List.set_cons_succ]
  refine wpAnyH_take (i := 8) (oi := _) (v := ?_) rfl (by kernel_rfl) (by kernel_rfl) (by kernel_rfl) (fun _ _ _ h => h) (Or.inl ⟨by rfl, ?_⟩) (by assumption) ?_
  rotate_left
  · first | (intro w' hSw; (try dsimp only at hSw); go_simp; done) | (intro w' hSw; (try dsimp only at hSw); go_simp; with_reducible rfl)
  try simp only [Act.put, List.getElem_toArray, List.getElem_cons_zero, List.getElem_cons_succ, List.setIfInBounds_toArray, List.set_cons_zero, List.set_cons_succ]
  refine wpAnyH_take (i := 10) (oi := _) (v := ?_) rfl (by kernel_rfl) (by kernel_rfl) (by kernel_rfl) (fun _ _ _ h => h) (Or.inl ⟨by rfl, ?_⟩) (by assumption) ?_
  rotate_left
  · first | (intro w' hSw; (try dsimp only at hSw); go_simp; done) | (intro w' hSw; (try dsimp only at hSw); go_simp; with_reducible rfl)
  try simp only [Act.put, List.getElem_toArray, List.getElem_cons_zero, List.getElem_cons_succ, List.setIfInBounds_toArray, List.set_cons_zero, List.set_cons_succ]
  refine wpAnyH_take (i := 11) (oi := _) (v := ?_) rfl (by kernel_rfl) (by kernel_rfl) (by kernel_rfl) (fun _ _ _ h => h) (Or.inl ⟨by rfl, ?_⟩) (by assumption) ?_
  rotate_left
  · first | (intro w' hSw; (try dsimp only at hSw); go_simp; done) | (intro w' hSw; (try dsimp only at hSw); go_simp; with_reducible rfl)
  try simp only [Act.put, List.getElem_toArray, List.getElem_cons_zero, List.getElem_cons_succ, List.setIfInBounds_toArray, List.set_cons_zero, List.set_cons_succ]
  refine wpAnyH_take (i := 12) (oi := _) (v := ?_) rfl (by kernel_rfl) (by kernel_rfl) (by kernel_rfl) (fun _ _ _ h => h) (Or.inl ⟨by rfl, ?_⟩) (by assumption) ?_
  rotate_left
  · first | (intro w' hSw; (try dsimp only at hSw); go_simp; done) | (intro w' hSw; (try dsimp only at hSw); go_simp; with_reducible rfl)
  try simp only [Act.put, List.getElem_toArray, List.getElem_cons_zero, List.getElem_cons_succ, List.setIfInBounds_toArray, List.set_cons_zero, List.set_cons_succ]
  refine wpAnyH_take (i := 13) (oi := _) (v := ?_) rfl (by kernel_rfl) (by kernel_rfl) (by kernel_rfl) (fun _ _ _ h => h) (Or.inl ⟨by rfl, ?_⟩) (by assumption) ?_
  rotate_left
  · first | (intro w' hSw; (try dsimp only at hSw); go_simp; done) | (intro w' hSw; (try dsimp only at hSw); go_simp; with_reducible rfl)
  try simp only [Act.put, List.getElem_toArray, List.getElem_cons_zero, List.getElem_cons_succ, List.setIfInBounds_toArray, List.set_cons_zero, List.set_cons_succ]
  refine wpAnyH_ready (rs := [4]) (by kernel_rfl) (by simp) ?_
  refine AllReadyH.cons (o := _) rfl (fun K hK => ?_) AllReadyH.nil
  go_simp
  refine (ledRow_any _ _ e.vars m.sorts W.drew (He.out.of.1.keep (map_drew (Below.refl _ _))) (Hm.out.of.1.keep (map_drew (Below.refl _ _))) HIN.out.vi (by omega)).mono ?_
  rintro e w3 ⟨u3, rfl, ho3, hb3⟩
  have hx3 := map_undrew hb3
  obtain ⟨A3, c3, rfl, -⟩ := ho3.reads.form
  have O3_w3 := Lib.hid (show OInts w3 W.heap.size _ _ from ho3)
  have HX3 := Lib.hid (hx3)
  have p0 := cell_keep hx3 m0
  have p1 := cell_keep hx3 m1
  have p2 := cell_keep hx3 e0
  have p3 := cell_keep hx3 e1
  have p4 := cell_keep hx3 e2
  have HQ3 := Lib.hid hx3
  clear ho3 hb3
  go_wp2_with fail
  refine hK.out _ _ ?_ (fun hHeld => ?_)
  · exact ⟨p0, p1, p2, p3, p4⟩
  clear hK K
  try simp only [Act.put, List.getElem_toArray, List.getElem_cons_zero, List.getElem_cons_succ, List.setIfInBounds_toArray, List.set_cons_zero, List.set_cons_succ]
  refine wpAnyH_ready (rs := [9]) (by kernel_rfl) (by simp) ?_
  refine AllReadyH.cons (o := _) rfl (fun K hK => ?_) AllReadyH.nil
  go_simp
  refine (ledRow_any _ _ e.left m.ops w3 (He.out.of.2.1.keep HX3.out) (Hm.out.of.2.keep HX3.out) HIN.out.li (by omega)).mono ?_
  rintro e w4 ⟨u4, rfl, ho4, hb4⟩
  have hx4 := hb4
  obtain ⟨A4, c4, rfl, -⟩ := ho4.reads.form
  have AP3_4 := Lib.hid (apart_later O3_w3.out ho4)
  have O3_w4 := Lib.hid (O3_w3.out.keep hx4)
  have O4_w4 := Lib.hid (show OInts w4 w3.heap.size _ _ from ho4)
  have HX4 := Lib.hid (sz_keep HX3.out hx4)
  have q0 := cell_keep hx4 p0
  have q1 := cell_keep hx4 p1
  have q2 := cell_keep hx4 p2
  have q3 := cell_keep hx4 p3
  have q4 := cell_keep hx4 p4
  have HQ4 := Lib.hid hx4
  clear ho4 hb4 hx4
  go_wp2_with fail
  refine hK.out _ _ ?_ (fun hHeld => ?_)
  · exact ⟨q0, q1, q2, q3, q4⟩
  clear hK K
  try simp only [Act.put, List.getElem_toArray, List.getElem_cons_zero, List.getElem_cons_succ, List.setIfInBounds_toArray, List.set_cons_zero, List.set_cons_succ]
  refine wpAnyH_ready (rs := [14]) (by kernel_rfl) (by simp) ?_
  refine AllReadyH.cons (o := _) rfl (fun K hK => ?_) AllReadyH.nil
  go_simp
  refine (ledRow_any _ _ e.right m.ops w4 (He.out.of.2.2.keep HX4.out) (Hm.out.of.2.keep HX4.out) HIN.out.ri (by omega)).mono ?_
  rintro e w5 ⟨u5, rfl, ho5, hb5⟩
  have hx5 := hb5
  obtain ⟨A5, c5, rfl, -⟩ := ho5.reads.form
  have AP3_5 := Lib.hid (apart_later O3_w4.out ho5)
  have O3_w5 := Lib.hid (O3_w4.out.keep hx5)
  have AP4_5 := Lib.hid (apart_later O4_w4.out ho5)
  have O4_w5 := Lib.hid (O4_w4.out.keep hx5)
  have O5_w5 := Lib.hid (show OInts w5 w4.heap.size _ _ from ho5)
  have HX5 := Lib.hid (sz_keep HX4.out hx5)
  have t0 := cell_keep hx5 q0
  have t1 := cell_keep hx5 q1
  have t2 := cell_keep hx5 q2
  have t3 := cell_keep hx5 q3
  have t4 := cell_keep hx5 q4
  have HQ5 := Lib.hid hx5
  have HZ5 := Lib.hid (blk_keep HZr.out HX5.out)
  have HSZ := Lib.hid (And.intro HB.out.size (And.intro HX3.out.size (And.intro HQ4.out.size HQ5.out.size)))
  have HBN := Lib.hid (sz_keep HB.out HX5.out)
  have j0 := blk_cell HZ5.out 0
  have j1 := blk_cell HZ5.out 1
  have j2 := blk_cell HZ5.out 2
  have jf0 := blk_free HZ5.out 0
  have jf1 := blk_free HZ5.out 1
  have jf2 := blk_free HZ5.out 2
  simp at j0 j1 j2
  clear ho5 hb5 hx5
  go_wp2_with fail
  refine hK.out _ _ ?_ (fun hHeld => ?_)
  · exact ⟨t0, t1, t2, t3, t4⟩
  clear hK K
  try simp only [Act.put, List.getElem_toArray, List.getElem_cons_zero, List.getElem_cons_succ, List.setIfInBounds_toArray, List.set_cons_zero, List.set_cons_succ]
  refine wpAnyH_take (i := 15) (oi := _) (v := ?_) rfl (by kernel_rfl) (by kernel_rfl) (by kernel_rfl) (fun _ _ _ h => h) (Or.inl ⟨by rfl, ?_⟩) (by assumption) ?_
  rotate_left
  · first | (intro w' hSw; (try dsimp only at hSw); go_simp; done) | (intro w' hSw; (try dsimp only at hSw); go_simp; with_reducible rfl)
  try simp only [Act.put, List.getElem_toArray, List.getElem_cons_zero, List.getElem_cons_succ, List.setIfInBounds_toArray, List.set_cons_zero, List.set_cons_succ]
  refine wpAnyH_ready (rs := [16]) (by kernel_rfl) (by simp) ?_
  refine AllReadyH.cons (o := _) rfl (fun K hK => ?_) AllReadyH.nil
  go_simp
  skip
  go_wp2_with fail
  refine hK.out _ _ ?_ (fun hHeld => ?_)
  · exact ⟨(set_other (by omega) _ _ _).trans ((set_other (by omega) _ _ _).trans ((set_other (by omega) _ _ _).trans t0)), (set_other (by omega) _ _ _).trans ((set_other (by omega) _ _ _).trans ((set_other (by omega) _ _ _).trans t1)), (set_other (by omega) _ _ _).trans ((set_other (by omega) _ _ _).trans ((set_other (by omega) _ _ _).trans t2)), (set_other (by omega) _ _ _).trans ((set_other (by omega) _ _ _).trans ((set_other (by omega) _ _ _).trans t3)), (set_other (by omega) _ _ _).trans ((set_other (by omega) _ _ _).trans ((set_other (by omega) _ _ _).trans t4))⟩
  clear hK K
  try simp only [Act.put, List.getElem_toArray, List.getElem_cons_zero, List.getElem_cons_succ, List.setIfInBounds_toArray, List.set_cons_zero, List.set_cons_succ]
  refine wpAnyH_done (by kernel_rfl) ?_ _
  clear m0 m1 e0 e1 e2 p0 p1 p2 p3 p4 q0 q1 q2 q3 q4 t0 t1 t2 t3 t4
  have hZ1 : w.heap.size + 1 + 1 < W.heap.size := (Array.getElem?_eq_some_iff.1 HZr.out).1
  have hZ2 := HSZ.out
  replace HB := HBN
  go_wp2
  have d1 := blk_set (blk_set (blk_set (HZ5.out) 0 (.slice A3 (ledM m.sorts e.vars).length c3)) 1 (.slice A4 (ledM m.ops e.left).length c4)) 2 (.slice A5 (ledM m.ops e.right).length c5)
  have n0 := (((O3_w5.out.setLow (b := w.heap.size + 1 + 1) (by omega) 0 (.slice A3 (ledM m.sorts e.vars).length c3)).setLow (b := w.heap.size + 1 + 1) (by omega) 1 (.slice A4 (ledM m.ops e.left).length c4)).setLow (b := w.heap.size + 1 + 1) (by omega) 2 (.slice A5 (ledM m.ops e.right).length c5))
  have n1 := (((O4_w5.out.setLow (b := w.heap.size + 1 + 1) (by omega) 0 (.slice A3 (ledM m.sorts e.vars).length c3)).setLow (b := w.heap.size + 1 + 1) (by omega) 1 (.slice A4 (ledM m.ops e.left).length c4)).setLow (b := w.heap.size + 1 + 1) (by omega) 2 (.slice A5 (ledM m.ops e.right).length c5))
  have n2 := (((O5_w5.out.setLow (b := w.heap.size + 1 + 1) (by omega) 0 (.slice A3 (ledM m.sorts e.vars).length c3)).setLow (b := w.heap.size + 1 + 1) (by omega) 1 (.slice A4 (ledM m.ops e.left).length c4)).setLow (b := w.heap.size + 1 + 1) (by omega) 2 (.slice A5 (ledM m.ops e.right).length c5))
  have hbz := (((HB.out.setCell (p := ⟨w.heap.size + 1 + 1, 0, none⟩) (by show w.heap.size ≤ w.heap.size + 1 + 1; omega) (.slice A3 (ledM m.sorts e.vars).length c3)).setCell (p := ⟨w.heap.size + 1 + 1, 1, none⟩) (by show w.heap.size ≤ w.heap.size + 1 + 1; omega) (.slice A4 (ledM m.ops e.left).length c4)).setCell (p := ⟨w.heap.size + 1 + 1, 2, none⟩) (by show w.heap.size ≤ w.heap.size + 1 + 1; omega) (.slice A5 (ledM m.ops e.right).length c5))
  generalize ((w5.setCell ⟨w.heap.size + 1 + 1, 0, none⟩ (.slice A3 (ledM m.sorts e.vars).length c3)).setCell ⟨w.heap.size + 1 + 1, 1, none⟩ (.slice A4 (ledM m.ops e.left).length c4)).setCell ⟨w.heap.size + 1 + 1, 2, none⟩ (.slice A5 (ledM m.ops e.right).length c5) = wz at d1 hbz n0 n1 n2 ⊢
  have k0 := blk_cell d1 0
  have k1 := blk_cell d1 1
  have k2 := blk_cell d1 2
  simp at k0 k1 k2
  clear j0 j1 j2 jf0 jf1 jf2
  refine bodyPost_ret (v := .agg #[.slice A3 (ledM m.sorts e.vars).length c3, .slice A4 (ledM m.ops e.left).length c4, .slice A5 (ledM m.ops e.right).length c5]) (by simp [results, Try.results58, go_sem, k0, k1, k2]) rfl ?_
  exact ⟨_, rfl, ⟨_, _, _, rfl, n0.base (by omega), n1.base (by omega), n2.base (by omega), AP3_4.out, AP3_5.out, AP4_5.out⟩, hbz⟩
end

section
open Go.RowKit
set_option linter.unusedVariables false
set_option linter.unusedSimpArgs false
set_option maxHeartbeats 3200000 in
set_option maxRecDepth 100000 in
theorem viewOk_any (a b : MThy) (v : MView) (w : World) (va vb vv : Value) (hsa : SmallT a) (hsb : SmallT b) (hsv : SmallV v) (h1 : RThy w va a) (h2 : RThy w vb b) (h3 : RView w vv v) :
    Calls Try.prog 12 #[va, vb, vv] w fun x w' => x = .returned (.bool (viewB a b v)) ∧ Below w.heap.size w w' := by
  obtain ⟨Aaa, caa, Aab, cab, rfl⟩ := h1.form
  obtain ⟨Aba, cba, Abb, cbb, rfl⟩ := h2.form
  obtain ⟨Ava, cva, Avb, cvb, Avc, cvc, rfl⟩ := h3.form
  have hb : Below w.heap.size w (((w.alloc (.cells #[.int .i64 a.over.sorts, .slice Aaa a.over.ops.length caa, .slice Aab a.eqs.length cab] 40)).alloc (.cells #[.int .i64 b.over.sorts, .slice Aba b.over.ops.length cba, .slice Abb b.eqs.length cbb] 40)).alloc (.cells #[.slice Ava v.along.sorts.length cva, .slice Avb v.along.ops.length cvb, .slice Avc v.proofs.length cvc] 45)) := ((below_alloc _ _).alloc (by simp) _).alloc (by simp; omega) _
  have HB := Lib.hid hb
  have hsz : (((w.alloc (.cells #[.int .i64 a.over.sorts, .slice Aaa a.over.ops.length caa, .slice Aab a.eqs.length cab] 40)).alloc (.cells #[.int .i64 b.over.sorts, .slice Aba b.over.ops.length cba, .slice Abb b.eqs.length cbb] 40)).alloc (.cells #[.slice Ava v.along.sorts.length cva, .slice Avb v.along.ops.length cvb, .slice Avc v.proofs.length cvc] 45)).heap.size = w.heap.size + 3 := by simp
  have Ha := Lib.hid (h1.keep hb)
  have a0 := cell_keep (below_alloc ((w.alloc (.cells #[.int .i64 a.over.sorts, .slice Aaa a.over.ops.length caa, .slice Aab a.eqs.length cab] 40)).alloc (.cells #[.int .i64 b.over.sorts, .slice Aba b.over.ops.length cba, .slice Abb b.eqs.length cbb] 40)) (.cells #[.slice Ava v.along.sorts.length cva, .slice Avb v.along.ops.length cvb, .slice Avc v.proofs.length cvc] 45)) (cell_keep (below_alloc (w.alloc (.cells #[.int .i64 a.over.sorts, .slice Aaa a.over.ops.length caa, .slice Aab a.eqs.length cab] 40)) (.cells #[.int .i64 b.over.sorts, .slice Aba b.over.ops.length cba, .slice Abb b.eqs.length cbb] 40)) (bx_at (w) #[.int .i64 a.over.sorts, .slice Aaa a.over.ops.length caa, .slice Aab a.eqs.length cab] 40 (k := 0) rfl))
  have a1 := cell_keep (below_alloc ((w.alloc (.cells #[.int .i64 a.over.sorts, .slice Aaa a.over.ops.length caa, .slice Aab a.eqs.length cab] 40)).alloc (.cells #[.int .i64 b.over.sorts, .slice Aba b.over.ops.length cba, .slice Abb b.eqs.length cbb] 40)) (.cells #[.slice Ava v.along.sorts.length cva, .slice Avb v.along.ops.length cvb, .slice Avc v.proofs.length cvc] 45)) (cell_keep (below_alloc (w.alloc (.cells #[.int .i64 a.over.sorts, .slice Aaa a.over.ops.length caa, .slice Aab a.eqs.length cab] 40)) (.cells #[.int .i64 b.over.sorts, .slice Aba b.over.ops.length cba, .slice Abb b.eqs.length cbb] 40)) (bx_at (w) #[.int .i64 a.over.sorts, .slice Aaa a.over.ops.length caa, .slice Aab a.eqs.length cab] 40 (k := 1) rfl))
  have a2 := cell_keep (below_alloc ((w.alloc (.cells #[.int .i64 a.over.sorts, .slice Aaa a.over.ops.length caa, .slice Aab a.eqs.length cab] 40)).alloc (.cells #[.int .i64 b.over.sorts, .slice Aba b.over.ops.length cba, .slice Abb b.eqs.length cbb] 40)) (.cells #[.slice Ava v.along.sorts.length cva, .slice Avb v.along.ops.length cvb, .slice Avc v.proofs.length cvc] 45)) (cell_keep (below_alloc (w.alloc (.cells #[.int .i64 a.over.sorts, .slice Aaa a.over.ops.length caa, .slice Aab a.eqs.length cab] 40)) (.cells #[.int .i64 b.over.sorts, .slice Aba b.over.ops.length cba, .slice Abb b.eqs.length cbb] 40)) (bx_at (w) #[.int .i64 a.over.sorts, .slice Aaa a.over.ops.length caa, .slice Aab a.eqs.length cab] 40 (k := 2) rfl))
  have Hb := Lib.hid (h2.keep hb)
  have b0 := cell_keep (below_alloc ((w.alloc (.cells #[.int .i64 a.over.sorts, .slice Aaa a.over.ops.length caa, .slice Aab a.eqs.length cab] 40)).alloc (.cells #[.int .i64 b.over.sorts, .slice Aba b.over.ops.length cba, .slice Abb b.eqs.length cbb] 40)) (.cells #[.slice Ava v.along.sorts.length cva, .slice Avb v.along.ops.length cvb, .slice Avc v.proofs.length cvc] 45)) (bx_at (w.alloc (.cells #[.int .i64 a.over.sorts, .slice Aaa a.over.ops.length caa, .slice Aab a.eqs.length cab] 40)) #[.int .i64 b.over.sorts, .slice Aba b.over.ops.length cba, .slice Abb b.eqs.length cbb] 40 (k := 0) rfl)
  have b1 := cell_keep (below_alloc ((w.alloc (.cells #[.int .i64 a.over.sorts, .slice Aaa a.over.ops.length caa, .slice Aab a.eqs.length cab] 40)).alloc (.cells #[.int .i64 b.over.sorts, .slice Aba b.over.ops.length cba, .slice Abb b.eqs.length cbb] 40)) (.cells #[.slice Ava v.along.sorts.length cva, .slice Avb v.along.ops.length cvb, .slice Avc v.proofs.length cvc] 45)) (bx_at (w.alloc (.cells #[.int .i64 a.over.sorts, .slice Aaa a.over.ops.length caa, .slice Aab a.eqs.length cab] 40)) #[.int .i64 b.over.sorts, .slice Aba b.over.ops.length cba, .slice Abb b.eqs.length cbb] 40 (k := 1) rfl)
  have b2 := cell_keep (below_alloc ((w.alloc (.cells #[.int .i64 a.over.sorts, .slice Aaa a.over.ops.length caa, .slice Aab a.eqs.length cab] 40)).alloc (.cells #[.int .i64 b.over.sorts, .slice Aba b.over.ops.length cba, .slice Abb b.eqs.length cbb] 40)) (.cells #[.slice Ava v.along.sorts.length cva, .slice Avb v.along.ops.length cvb, .slice Avc v.proofs.length cvc] 45)) (bx_at (w.alloc (.cells #[.int .i64 a.over.sorts, .slice Aaa a.over.ops.length caa, .slice Aab a.eqs.length cab] 40)) #[.int .i64 b.over.sorts, .slice Aba b.over.ops.length cba, .slice Abb b.eqs.length cbb] 40 (k := 2) rfl)
  have Hv := Lib.hid (h3.keep hb)
  have v0 := bx_at ((w.alloc (.cells #[.int .i64 a.over.sorts, .slice Aaa a.over.ops.length caa, .slice Aab a.eqs.length cab] 40)).alloc (.cells #[.int .i64 b.over.sorts, .slice Aba b.over.ops.length cba, .slice Abb b.eqs.length cbb] 40)) #[.slice Ava v.along.sorts.length cva, .slice Avb v.along.ops.length cvb, .slice Avc v.proofs.length cvc] 45 (k := 0) rfl
  have v1 := bx_at ((w.alloc (.cells #[.int .i64 a.over.sorts, .slice Aaa a.over.ops.length caa, .slice Aab a.eqs.length cab] 40)).alloc (.cells #[.int .i64 b.over.sorts, .slice Aba b.over.ops.length cba, .slice Abb b.eqs.length cbb] 40)) #[.slice Ava v.along.sorts.length cva, .slice Avb v.along.ops.length cvb, .slice Avc v.proofs.length cvc] 45 (k := 1) rfl
  have v2 := bx_at ((w.alloc (.cells #[.int .i64 a.over.sorts, .slice Aaa a.over.ops.length caa, .slice Aab a.eqs.length cab] 40)).alloc (.cells #[.int .i64 b.over.sorts, .slice Aba b.over.ops.length cba, .slice Abb b.eqs.length cbb] 40)) #[.slice Ava v.along.sorts.length cva, .slice Avb v.along.ops.length cvb, .slice Avc v.proofs.length cvc] 45 (k := 2) rfl
  simp only [World.size_alloc] at b0 b1 b2 v0 v1 v2
  generalize hW : ((w.alloc (.cells #[.int .i64 a.over.sorts, .slice Aaa a.over.ops.length caa, .slice Aab a.eqs.length cab] 40)).alloc (.cells #[.int .i64 b.over.sorts, .slice Aba b.over.ops.length cba, .slice Abb b.eqs.length cbb] 40)).alloc (.cells #[.slice Ava v.along.sorts.length cva, .slice Avb v.along.ops.length cvb, .slice Avc v.proofs.length cvc] 45) = W at HB hsz Ha a0 a1 a2 Hb b0 b1 b2 Hv v0 v1 v2
  clear hb h1 h2 h3
  have hla := Ha.out.of.2.2.len
  have hlb := Hb.out.of.2.2.len
  have hlv := Hv.out.of.2.2.len
  clear hsz
  have HSM := Lib.hid (And.intro hsa (And.intro hsb hsv))
  clear hsa hsb hsv
  cases hva : thyB a with
  | false =>
    have HA := Lib.hid hva
    have HE := Lib.hid (view_no1 (b := b) (v := v) hva)
    clear hva
    go_enter Try.func12, Try.ntmps12
    go_wp2_with fail
    clear hW
    refine (theoryOk_any a _ _ HSM.out.1 Ha.out).mono ?_
    rw [HA.out]
    rintro e w1 ⟨rfl, hb⟩
    clear a0 a1 a2 b0 b1 b2 v0 v1 v2
    replace HB := Lib.hid (sz_keep HB.out hb)
    clear hb
    go_wp2
    go_ret
    exact ⟨ret_bool HE.out.symm, HB.out⟩
  | true =>
    have HA := Lib.hid hva
    clear hva
    cases hvb : thyB b with
    | false =>
      have HV := Lib.hid hvb
      have HE := Lib.hid (view_no2 (a := a) (v := v) hvb)
      clear hvb
      go_enter Try.func12, Try.ntmps12
      go_wp2_with fail
      clear hW
      refine (theoryOk_any a _ _ HSM.out.1 Ha.out).mono ?_
      rw [HA.out]
      rintro e w1 ⟨rfl, hb⟩
      replace HB := Lib.hid (sz_keep HB.out hb)
      replace a0 := cell_keep hb a0
      replace a1 := cell_keep hb a1
      replace a2 := cell_keep hb a2
      replace b0 := cell_keep hb b0
      replace b1 := cell_keep hb b1
      replace b2 := cell_keep hb b2
      replace v0 := cell_keep hb v0
      replace v1 := cell_keep hb v1
      replace v2 := cell_keep hb v2
      replace Ha := Lib.hid (Ha.out.keep hb)
      replace Hb := Lib.hid (Hb.out.keep hb)
      replace Hv := Lib.hid (Hv.out.keep hb)
      clear hb
      go_wp2_with fail
      refine (theoryOk_any b _ _ HSM.out.2.1 Hb.out).mono ?_
      rw [HV.out]
      rintro e w2 ⟨rfl, hb⟩
      clear a0 a1 a2 b0 b1 b2 v0 v1 v2
      replace HB := Lib.hid (sz_keep HB.out hb)
      clear hb
      go_wp2
      go_ret
      exact ⟨ret_bool HE.out.symm, HB.out⟩
    | true =>
      have HV := Lib.hid hvb
      clear hvb
      cases hm : mapOkB a.over b.over v.along with
      | false =>
        have HM := Lib.hid hm
        have HE := Lib.hid (view_no3 hm)
        clear hm
        go_enter Try.func12, Try.ntmps12
        go_wp2_with fail
        clear hW
        refine (theoryOk_any a _ _ HSM.out.1 Ha.out).mono ?_
        rw [HA.out]
        rintro e w1 ⟨rfl, hb⟩
        replace HB := Lib.hid (sz_keep HB.out hb)
        replace a0 := cell_keep hb a0
        replace a1 := cell_keep hb a1
        replace a2 := cell_keep hb a2
        replace b0 := cell_keep hb b0
        replace b1 := cell_keep hb b1
        replace b2 := cell_keep hb b2
        replace v0 := cell_keep hb v0
        replace v1 := cell_keep hb v1
        replace v2 := cell_keep hb v2
        replace Ha := Lib.hid (Ha.out.keep hb)
        replace Hb := Lib.hid (Hb.out.keep hb)
        replace Hv := Lib.hid (Hv.out.keep hb)
        clear hb
        go_wp2_with fail
        refine (theoryOk_any b _ _ HSM.out.2.1 Hb.out).mono ?_
        rw [HV.out]
        rintro e w2 ⟨rfl, hb⟩
        replace HB := Lib.hid (sz_keep HB.out hb)
        replace a0 := cell_keep hb a0
        replace a1 := cell_keep hb a1
        replace a2 := cell_keep hb a2
        replace b0 := cell_keep hb b0
        replace b1 := cell_keep hb b1
        replace b2 := cell_keep hb b2
        replace v0 := cell_keep hb v0
        replace v1 := cell_keep hb v1
        replace v2 := cell_keep hb v2
        replace Ha := Lib.hid (Ha.out.keep hb)
        replace Hb := Lib.hid (Hb.out.keep hb)
        replace Hv := Lib.hid (Hv.out.keep hb)
        clear hb
        go_wp2_with fail
        refine (mapOk_any a.over b.over v.along _ _ _ _ (show RSig _ (.agg #[.int .i64 a.over.sorts, .slice Aaa a.over.ops.length caa]) a.over from ⟨_, rfl, Ha.out.of.2.1⟩) (show RSig _ (.agg #[.int .i64 b.over.sorts, .slice Aba b.over.ops.length cba]) b.over from ⟨_, rfl, Hb.out.of.2.1⟩) (show RMap _ (.agg #[.slice Ava v.along.sorts.length cva, .slice Avb v.along.ops.length cvb]) v.along from ⟨_, _, rfl, Hv.out.of.1, Hv.out.of.2.1⟩)).mono ?_
        rw [HM.out]
        rintro e w3 ⟨rfl, hb⟩
        replace HB := Lib.hid (sz_keep HB.out hb)
        replace a0 := cell_keep hb a0
        replace a1 := cell_keep hb a1
        replace a2 := cell_keep hb a2
        replace b0 := cell_keep hb b0
        replace b1 := cell_keep hb b1
        replace b2 := cell_keep hb b2
        replace v0 := cell_keep hb v0
        replace v1 := cell_keep hb v1
        replace v2 := cell_keep hb v2
        replace Ha := Lib.hid (Ha.out.keep hb)
        replace Hb := Lib.hid (Hb.out.keep hb)
        replace Hv := Lib.hid (Hv.out.keep hb)
        clear hb
        clear a0 a1 a2 b0 b1 b2 v0 v1 v2
        go_wp2
        go_ret
        exact ⟨ret_bool HE.out.symm, HB.out⟩
      | true =>
        have HM := Lib.hid hm
        have h6 := thy_few HA.out
        have HF := Lib.hid (mapOk_facts hm)
        clear hm
        by_cases hpl : v.proofs.length = a.eqs.length
        rotate_left
        · have hpl' : ((v.proofs.length : Int) != (a.eqs.length : Int)) = true := by simp; omega
          have HE := Lib.hid (view_no4 (a := a) (b := b) (v := v) hpl)
          clear hpl
          go_enter Try.func12, Try.ntmps12
          go_wp2_with fail
          clear hW
          refine (theoryOk_any a _ _ HSM.out.1 Ha.out).mono ?_
          rw [HA.out]
          rintro e w1 ⟨rfl, hb⟩
          replace HB := Lib.hid (sz_keep HB.out hb)
          replace a0 := cell_keep hb a0
          replace a1 := cell_keep hb a1
          replace a2 := cell_keep hb a2
          replace b0 := cell_keep hb b0
          replace b1 := cell_keep hb b1
          replace b2 := cell_keep hb b2
          replace v0 := cell_keep hb v0
          replace v1 := cell_keep hb v1
          replace v2 := cell_keep hb v2
          replace Ha := Lib.hid (Ha.out.keep hb)
          replace Hb := Lib.hid (Hb.out.keep hb)
          replace Hv := Lib.hid (Hv.out.keep hb)
          clear hb
          go_wp2_with fail
          refine (theoryOk_any b _ _ HSM.out.2.1 Hb.out).mono ?_
          rw [HV.out]
          rintro e w2 ⟨rfl, hb⟩
          replace HB := Lib.hid (sz_keep HB.out hb)
          replace a0 := cell_keep hb a0
          replace a1 := cell_keep hb a1
          replace a2 := cell_keep hb a2
          replace b0 := cell_keep hb b0
          replace b1 := cell_keep hb b1
          replace b2 := cell_keep hb b2
          replace v0 := cell_keep hb v0
          replace v1 := cell_keep hb v1
          replace v2 := cell_keep hb v2
          replace Ha := Lib.hid (Ha.out.keep hb)
          replace Hb := Lib.hid (Hb.out.keep hb)
          replace Hv := Lib.hid (Hv.out.keep hb)
          clear hb
          go_wp2_with fail
          refine (mapOk_any a.over b.over v.along _ _ _ _ (show RSig _ (.agg #[.int .i64 a.over.sorts, .slice Aaa a.over.ops.length caa]) a.over from ⟨_, rfl, Ha.out.of.2.1⟩) (show RSig _ (.agg #[.int .i64 b.over.sorts, .slice Aba b.over.ops.length cba]) b.over from ⟨_, rfl, Hb.out.of.2.1⟩) (show RMap _ (.agg #[.slice Ava v.along.sorts.length cva, .slice Avb v.along.ops.length cvb]) v.along from ⟨_, _, rfl, Hv.out.of.1, Hv.out.of.2.1⟩)).mono ?_
          rw [HM.out]
          rintro e w3 ⟨rfl, hb⟩
          replace HB := Lib.hid (sz_keep HB.out hb)
          replace a0 := cell_keep hb a0
          replace a1 := cell_keep hb a1
          replace a2 := cell_keep hb a2
          replace b0 := cell_keep hb b0
          replace b1 := cell_keep hb b1
          replace b2 := cell_keep hb b2
          replace v0 := cell_keep hb v0
          replace v1 := cell_keep hb v1
          replace v2 := cell_keep hb v2
          replace Ha := Lib.hid (Ha.out.keep hb)
          replace Hb := Lib.hid (Hb.out.keep hb)
          replace Hv := Lib.hid (Hv.out.keep hb)
          clear hb
          go_wp2
          go_ret
          exact ⟨ret_bool HE.out.symm, HB.out⟩
        have hpl' : ((v.proofs.length : Int) != (a.eqs.length : Int)) = false := by simp [hpl]
        have HPL := Lib.hid hpl
        clear hpl
        go_enter Try.func12, Try.ntmps12
        go_wp2_with fail
        clear hW
        refine (theoryOk_any a _ _ HSM.out.1 Ha.out).mono ?_
        rw [HA.out]
        rintro e w1 ⟨rfl, hb⟩
        replace HB := Lib.hid (sz_keep HB.out hb)
        replace a0 := cell_keep hb a0
        replace a1 := cell_keep hb a1
        replace a2 := cell_keep hb a2
        replace b0 := cell_keep hb b0
        replace b1 := cell_keep hb b1
        replace b2 := cell_keep hb b2
        replace v0 := cell_keep hb v0
        replace v1 := cell_keep hb v1
        replace v2 := cell_keep hb v2
        replace Ha := Lib.hid (Ha.out.keep hb)
        replace Hb := Lib.hid (Hb.out.keep hb)
        replace Hv := Lib.hid (Hv.out.keep hb)
        clear hb
        go_wp2_with fail
        refine (theoryOk_any b _ _ HSM.out.2.1 Hb.out).mono ?_
        rw [HV.out]
        rintro e w2 ⟨rfl, hb⟩
        replace HB := Lib.hid (sz_keep HB.out hb)
        replace a0 := cell_keep hb a0
        replace a1 := cell_keep hb a1
        replace a2 := cell_keep hb a2
        replace b0 := cell_keep hb b0
        replace b1 := cell_keep hb b1
        replace b2 := cell_keep hb b2
        replace v0 := cell_keep hb v0
        replace v1 := cell_keep hb v1
        replace v2 := cell_keep hb v2
        replace Ha := Lib.hid (Ha.out.keep hb)
        replace Hb := Lib.hid (Hb.out.keep hb)
        replace Hv := Lib.hid (Hv.out.keep hb)
        clear hb
        go_wp2_with fail
        refine (mapOk_any a.over b.over v.along _ _ _ _ (show RSig _ (.agg #[.int .i64 a.over.sorts, .slice Aaa a.over.ops.length caa]) a.over from ⟨_, rfl, Ha.out.of.2.1⟩) (show RSig _ (.agg #[.int .i64 b.over.sorts, .slice Aba b.over.ops.length cba]) b.over from ⟨_, rfl, Hb.out.of.2.1⟩) (show RMap _ (.agg #[.slice Ava v.along.sorts.length cva, .slice Avb v.along.ops.length cvb]) v.along from ⟨_, _, rfl, Hv.out.of.1, Hv.out.of.2.1⟩)).mono ?_
        rw [HM.out]
        rintro e w3 ⟨rfl, hb⟩
        replace HB := Lib.hid (sz_keep HB.out hb)
        replace a0 := cell_keep hb a0
        replace a1 := cell_keep hb a1
        replace a2 := cell_keep hb a2
        replace b0 := cell_keep hb b0
        replace b1 := cell_keep hb b1
        replace b2 := cell_keep hb b2
        replace v0 := cell_keep hb v0
        replace v1 := cell_keep hb v1
        replace v2 := cell_keep hb v2
        replace Ha := Lib.hid (Ha.out.keep hb)
        replace Hb := Lib.hid (Hb.out.keep hb)
        replace Hv := Lib.hid (Hv.out.keep hb)
        clear hb
        have HC := Lib.hid (And.intro b0 (And.intro b1 (And.intro b2 (And.intro v0 (And.intro v1 v2)))))
        have hsw := HB.out.size
        have hxa := World.block_lt_of_cell? w3 _ v0
        simp only at hxa
        go_wp2
        clear a0 a1 a2 b0 b1 b2 v0 v1 v2
        go_loopw [7, 8, 39] (fun p q i wr => ∃ k : Nat, k ≤ a.eqs.length ∧ i = .int .i64 k ∧ allView b v a k = true ∧ Below w3.heap.size w3 wr) (fun _ _ i _ => a.eqs.length - (intOf i).toNat)
        case atStart => exact ⟨0, Nat.zero_le _, rfl, rfl, Below.refl _ _⟩
        case round =>
          obtain ⟨k, hk, rfl, hal, hd⟩ := hrel
          have HAL := Lib.hid hal
          have HD := Lib.hid hd
          clear hal
          by_cases hlt : k < a.eqs.length
          · have hlt' : (k : Int) < (a.eqs.length : Int) := by omega
            have hltv : (k : Int) < (v.proofs.length : Int) := by have := HPL.out; omega
            obtain ⟨b4, o4, c4, y0, y1, y2, e4, c00, c01, c02, r0, r1, r2⟩ := (Ha.out.of.2.2.keep hd).at_ hlt
            cases e4
            obtain ⟨b5, o5, c5, yp, e5, c03, r3⟩ := (Hv.out.of.2.2.keep hd).at_ (show k < v.proofs.length by rw [HPL.out]; exact hlt)
            cases e5
            have HIN := Lib.hid (eqIn_of HF.out (thy_eq HA.out hlt))
            have HNO := Lib.hid (fun h => view_no5 (a := a) (b := b) (v := v) hlt h)
            have HAT := Lib.hid (view_at (a := a) (b := b) (v := v) hlt (show k < v.proofs.length by rw [HPL.out]; exact hlt))
            have HSE := Lib.hid (small_ledE HF.out (HSM.out.1 _ (List.getElem_mem hlt)))
            have HSP := Lib.hid (HSM.out.2.2 _ (List.getElem_mem (show k < v.proofs.length by rw [HPL.out]; exact hlt)))
            generalize a.eqs[k] = e at r0 r1 r2 HIN HAT HSE
            generalize v.proofs[k]'(by rw [HPL.out]; exact hlt) = p at r3 HAT HSP
            obtain ⟨A0, g0, rfl, -⟩ := r0.form
            obtain ⟨A1, g1, rfl, -⟩ := r1.form
            obtain ⟨A2, g2, rfl, -⟩ := r2.form
            have HPR := Lib.hid r3
            obtain ⟨A3, g3, rfl, -⟩ := r3.form
            have hlw := hd.size
            have hb := below_alloc wr (.cells #[.slice A0 e.vars.length g0, .slice A1 e.left.length g1, .slice A2 e.right.length g2] 63)
            have x0 := bx_at wr #[.slice A0 e.vars.length g0, .slice A1 e.left.length g1, .slice A2 e.right.length g2] 63 (k := 0) rfl
            have x1 := bx_at wr #[.slice A0 e.vars.length g0, .slice A1 e.left.length g1, .slice A2 e.right.length g2] 63 (k := 1) rfl
            have x2 := bx_at wr #[.slice A0 e.vars.length g0, .slice A1 e.left.length g1, .slice A2 e.right.length g2] 63 (k := 2) rfl
            generalize hW2 : wr.alloc (.cells #[.slice A0 e.vars.length g0, .slice A1 e.left.length g1, .slice A2 e.right.length g2] 63) = W2 at hb x0 x1 x2
            have HEQ := Lib.hid ((show REq wr (.agg #[.slice A0 e.vars.length g0, .slice A1 e.left.length g1, .slice A2 e.right.length g2]) e from ⟨_, _, _, rfl, r0, r1, r2⟩).keep hb)
            replace HPR := Lib.hid (HPR.out.keep hb)
            have hbw := sz_keep hd hb
            have HMM := Lib.hid ((show RMap _ (.agg #[.slice Ava v.along.sorts.length cva, .slice Avb v.along.ops.length cvb]) v.along from ⟨_, _, rfl, Hv.out.of.1, Hv.out.of.2.1⟩).keep hbw)
            have HBT := Lib.hid (Hb.out.keep hbw)
            have f0 := cell_keep hbw HC.out.1
            have f1 := cell_keep hbw HC.out.2.1
            have f2 := cell_keep hbw HC.out.2.2.1
            have f3 := cell_keep hbw HC.out.2.2.2.1
            have f4 := cell_keep hbw HC.out.2.2.2.2.1
            have f5 := cell_keep hbw HC.out.2.2.2.2.2
            have f6 := cell_keep hb c03
            have HBW := Lib.hid hbw
            obtain ⟨r, hr⟩ : ∃ r, proofB b (ledE v.along e) p = r := ⟨_, rfl⟩
            rw [hr] at HAT
            have HR := Lib.hid hr
            clear r0 r1 r2 r3 hb hbw hd hr
            go_wp2_with fail
            clear hW2 c00 c01 c02 c03
            refine wp_region_held_drew (S := (fun w' => w'.cell? ⟨w.heap.size + 1, 0, none⟩ = some (.int .i64 b.over.sorts) ∧ w'.cell? ⟨w.heap.size + 1, 1, none⟩ = some (.slice Aba b.over.ops.length cba) ∧ w'.cell? ⟨w.heap.size + 1, 2, none⟩ = some (.slice Abb b.eqs.length cbb) ∧ w'.cell? ⟨w.heap.size + 1 + 1, 0, none⟩ = some (.slice Ava v.along.sorts.length cva) ∧ w'.cell? ⟨w.heap.size + 1 + 1, 1, none⟩ = some (.slice Avb v.along.ops.length cvb) ∧ w'.cell? ⟨w.heap.size + 1 + 1, 2, none⟩ = some (.slice (some ⟨b5, o5, none⟩) v.proofs.length cvc) ∧ w'.cell? ⟨b5, o5 + k, none⟩ = some (.slice A3 p.length g3) ∧ w'.cell? ⟨wr.heap.size, 0, none⟩ = some (.slice A0 e.vars.length g0) ∧ w'.cell? ⟨wr.heap.size, 1, none⟩ = some (.slice A1 e.left.length g1) ∧ w'.cell? ⟨wr.heap.size, 2, none⟩ = some (.slice A2 e.right.length g2))) (by kernel_rfl) ?_ (fun hHeld => ?_)
            · exact ⟨f0, f1, f2, f3, f4, f5, f6, x0, x1, x2⟩
            refine wpAnyH_take (i := 0) (oi := _) (v := ?_) rfl (by kernel_rfl) (by kernel_rfl) (by kernel_rfl) (fun _ _ _ h => h) (Or.inl ⟨by rfl, ?_⟩) (by assumption) ?_
            rotate_left
            · first | (intro w' hSw; (try dsimp only at hSw); go_simp; done) | (intro w' hSw; (try dsimp only at hSw); go_simp; with_reducible rfl)
            try simp only [Act.put, List.getElem_toArray, List.getElem_cons_zero, List.getElem_cons_succ, List.setIfInBounds_toArray, List.set_cons_zero, List.set_cons_succ]
            refine wpAnyH_take (i := 1) (oi := _) (v := ?_) rfl (by kernel_rfl) (by kernel_rfl) (by kernel_rfl) (fun _ _ _ h => h) (Or.inl ⟨by rfl, ?_⟩) (by assumption) ?_
            rotate_left
            · first | (intro w' hSw; (try dsimp only at hSw); go_simp; done) | (intro w' hSw; (try dsimp only at hSw); go_simp; with_reducible rfl)
            try simp only [Act.put, List.getElem_toArray, List.getElem_cons_zero, List.getElem_cons_succ, List.setIfInBounds_toArray, List.set_cons_zero, List.set_cons_succ]
            refine wpAnyH_take (i := 2) (oi := _) (v := ?_) rfl (by kernel_rfl) (by kernel_rfl) (by kernel_rfl) (fun _ _ _ h => h) (Or.inl ⟨by rfl, ?_⟩) (by assumption) ?_
            rotate_left
            · first | (intro w' hSw; (try dsimp only at hSw); go_simp; done) | (intro w' hSw; (try dsimp only at hSw); go_simp; with_reducible rfl)
            try simp only [Act.put, List.getElem_toArray, List.getElem_cons_zero, List.getElem_cons_succ, List.setIfInBounds_toArray, List.set_cons_zero, List.set_cons_succ]
            refine wpAnyH_take (i := 3) (oi := _) (v := ?_) rfl (by kernel_rfl) (by kernel_rfl) (by kernel_rfl) (fun _ _ _ h => h) (Or.inl ⟨by rfl, ?_⟩) (by assumption) ?_
            rotate_left
            · first | (intro w' hSw; (try dsimp only at hSw); go_simp; done) | (intro w' hSw; (try dsimp only at hSw); go_simp; with_reducible rfl)
            try simp only [Act.put, List.getElem_toArray, List.getElem_cons_zero, List.getElem_cons_succ, List.setIfInBounds_toArray, List.set_cons_zero, List.set_cons_succ]
            refine wpAnyH_take (i := 5) (oi := _) (v := ?_) rfl (by kernel_rfl) (by kernel_rfl) (by kernel_rfl) (fun _ _ _ h => h) (Or.inl ⟨by rfl, ?_⟩) (by assumption) ?_
            rotate_left
            · first | (intro w' hSw; (try dsimp only at hSw); go_simp; done) | (intro w' hSw; (try dsimp only at hSw); go_simp; with_reducible rfl)
            try simp only [Act.put, List.getElem_toArray, List.getElem_cons_zero, List.getElem_cons_succ, List.setIfInBounds_toArray, List.set_cons_zero, List.set_cons_succ]
            refine wpAnyH_take (i := 6) (oi := _) (v := ?_) rfl (by kernel_rfl) (by kernel_rfl) (by kernel_rfl) (fun _ _ _ h => h) (Or.inl ⟨by rfl, ?_⟩) (by assumption) ?_
            rotate_left
            · first | (intro w' hSw; (try dsimp only at hSw); go_simp; done) | (intro w' hSw; (try dsimp only at hSw); go_simp; with_reducible rfl)
            try simp only [Act.put, List.getElem_toArray, List.getElem_cons_zero, List.getElem_cons_succ, List.setIfInBounds_toArray, List.set_cons_zero, List.set_cons_succ]
            refine wpAnyH_take (i := 7) (oi := _) (v := ?_) rfl (by kernel_rfl) (by kernel_rfl) (by kernel_rfl) (fun _ _ _ h => h) (Or.inl ⟨by rfl, ?_⟩) (by assumption) ?_
            rotate_left
            · first | (intro w' hSw; (try dsimp only at hSw); go_simp; done) | (intro w' hSw; (try dsimp only at hSw); go_simp; with_reducible rfl)
            try simp only [Act.put, List.getElem_toArray, List.getElem_cons_zero, List.getElem_cons_succ, List.setIfInBounds_toArray, List.set_cons_zero, List.set_cons_succ]
            refine wpAnyH_take (i := 8) (oi := _) (v := ?_) rfl (by kernel_rfl) (by kernel_rfl) (by kernel_rfl) (fun _ _ _ h => h) (Or.inl ⟨by rfl, ?_⟩) (by assumption) ?_
            rotate_left
            · first | (intro w' hSw; (try dsimp only at hSw); go_simp; done) | (intro w' hSw; (try dsimp only at hSw); go_simp; with_reducible rfl)
            try simp only [Act.put, List.getElem_toArray, List.getElem_cons_zero, List.getElem_cons_succ, List.setIfInBounds_toArray, List.set_cons_zero, List.set_cons_succ]
            refine wpAnyH_take (i := 9) (oi := _) (v := ?_) rfl (by kernel_rfl) (by kernel_rfl) (by kernel_rfl) (fun _ _ _ h => h) (Or.inl ⟨by rfl, ?_⟩) (by assumption) ?_
            rotate_left
            · first | (intro w' hSw; (try dsimp only at hSw); go_simp; done) | (intro w' hSw; (try dsimp only at hSw); go_simp; with_reducible rfl)
            try simp only [Act.put, List.getElem_toArray, List.getElem_cons_zero, List.getElem_cons_succ, List.setIfInBounds_toArray, List.set_cons_zero, List.set_cons_succ]
            refine wpAnyH_ready (rs := [4]) (by kernel_rfl) (by simp) ?_
            refine AllReadyH.cons (o := _) rfl (fun K hK => ?_) AllReadyH.nil
            go_simp
            refine (ledEq_any v.along e W2.drew _ _ HIN.out (HMM.out.keep (map_drew (Below.refl _ _))) (HEQ.out.keep (map_drew (Below.refl _ _)))).mono ?_
            rintro z w5 ⟨u5, rfl, ho5, hb5⟩
            have hx5 := map_undrew hb5
            have HL := Lib.hid ho5.reads
            obtain ⟨B0, d0, B1, d1, B2, d2, rfl⟩ := ho5.reads.form
            have HX5 := Lib.hid hx5
            have p0 := cell_keep hx5 f0
            have p1 := cell_keep hx5 f1
            have p2 := cell_keep hx5 f2
            have p3 := cell_keep hx5 f3
            have p4 := cell_keep hx5 f4
            have p5 := cell_keep hx5 f5
            have p6 := cell_keep hx5 f6
            have p7 := cell_keep hx5 x0
            have p8 := cell_keep hx5 x1
            have p9 := cell_keep hx5 x2
            clear ho5 hb5 hx5
            go_wp2_with fail
            refine hK.out _ _ ?_ (fun hHeld => ?_)
            · exact ⟨p0, p1, p2, p3, p4, p5, p6, p7, p8, p9⟩
            clear hK K
            try simp only [Act.put, List.getElem_toArray, List.getElem_cons_zero, List.getElem_cons_succ, List.setIfInBounds_toArray, List.set_cons_zero, List.set_cons_succ]
            refine wpAnyH_ready (rs := [10]) (by kernel_rfl) (by simp) ?_
            refine AllReadyH.cons (o := _) rfl (fun K hK => ?_) AllReadyH.nil
            go_simp
            refine (proofOk_any b (ledE v.along e) p w5 _ _ _ HSM.out.2.1 HSE.out HSP.out (HBT.out.keep HX5.out) HL.out (HPR.out.keep HX5.out)).mono ?_
            rw [HR.out]
            rintro z w6 ⟨rfl, hb6⟩
            have HX6 := Lib.hid (sz_keep HX5.out hb6)
            have q0 := cell_keep hb6 p0
            have q1 := cell_keep hb6 p1
            have q2 := cell_keep hb6 p2
            have q3 := cell_keep hb6 p3
            have q4 := cell_keep hb6 p4
            have q5 := cell_keep hb6 p5
            have q6 := cell_keep hb6 p6
            have q7 := cell_keep hb6 p7
            have q8 := cell_keep hb6 p8
            have q9 := cell_keep hb6 p9
            clear hb6
            go_wp2_with fail
            refine hK.out _ _ ?_ (fun hHeld => ?_)
            · exact ⟨q0, q1, q2, q3, q4, q5, q6, q7, q8, q9⟩
            clear hK K
            try simp only [Act.put, List.getElem_toArray, List.getElem_cons_zero, List.getElem_cons_succ, List.setIfInBounds_toArray, List.set_cons_zero, List.set_cons_succ]
            refine wpAnyH_take (i := 11) (oi := _) (v := ?_) rfl (by kernel_rfl) (by kernel_rfl) (by kernel_rfl) (fun _ _ _ h => h) (Or.inl ⟨by rfl, ?_⟩) (by assumption) ?_
            rotate_left
            · first | (intro w' hSw; (try dsimp only at hSw); go_simp; done) | (intro w' hSw; (try dsimp only at hSw); go_simp; with_reducible rfl)
            try simp only [Act.put, List.getElem_toArray, List.getElem_cons_zero, List.getElem_cons_succ, List.setIfInBounds_toArray, List.set_cons_zero, List.set_cons_succ]
            refine wpAnyH_done (by kernel_rfl) ?_ _
            have HN := Lib.hid (sz_keep HBW.out HX6.out)
            clear f0 f1 f2 f3 f4 f5 f6 x0 x1 x2 p0 p1 p2 p3 p4 p5 p6 p7 p8 p9 q0 q1 q2 q3 q4 q5 q6 q7 q8 q9
            cases r with
            | false =>
              have HE := Lib.hid (HNO.out HAT.out)
              go_wp2
              go_ret
              exact ⟨ret_bool HE.out.symm, sz_keep HB.out HN.out⟩
            | true =>
              go_wp2
              go_roundw
              case rel => exact ⟨k + 1, by omega, by go_num, by rw [allView_succ, HAL.out, HAT.out]; rfl, HN.out⟩
              case measure => simp [intOf]; omega
          · have hlt' : ¬ (k : Int) < (a.eqs.length : Int) := by omega
            have hkn : k = a.eqs.length := by omega
            subst hkn
            have HE := Lib.hid (view_yes HA.out HV.out HM.out HPL.out HAL.out)
            clear hd
            go_wp2
            go_ret
            exact ⟨ret_bool HE.out.symm, sz_keep HB.out HD.out⟩
end

section
open Go.RowKit
set_option linter.unusedVariables false

/-- the struct's box lies at lb, ahead of wv; of it the row u is being filled -/
structure Loc (T : TypeId) (wv wr : World) (lb : Nat) (cs : Array Value) (u : Value) (xs : List Int) : Prop where
  loc : wr.heap[lb]? = some (.cells cs T (0, 0))
  own : OInts wr wv.heap.size u xs
  gr : wv.grownBy wr (some lb)
  lt : lb < wv.heap.size
theorem Loc.start {T : TypeId} {wv : World} {lb : Nat} {cs : Array Value} (h : wv.heap[lb]? = some (.cells cs T (0, 0))) : Loc T wv wv lb cs (.slice none 0 0) [] :=
  ⟨h, OInts.nil _ _, ⟨rfl, rfl, rfl, Nat.le_refl _, fun _ _ _ => rfl⟩, (Array.getElem?_eq_some_iff.1 h).1⟩
theorem Loc.push {T : TypeId} {wv wr w6 : World} {lb : Nat} {cs cs' : Array Value} {u v' : Value} {xs : List Int} {y : Int} {o : Obj} (h : Loc T wv wr lb cs u xs) (hg : (wr.alloc o).grownBy w6 u.ownBlock) (ho : OInts w6 wv.heap.size v' (xs ++ [y])) (i : Nat) (hc : cs.setIfInBounds i v' = cs') :
    Loc T wv (w6.setCell ⟨lb, i, none⟩ v') lb cs' v' (xs ++ [y]) := by
  have hlr : lb < wr.heap.size := (Array.getElem?_eq_some_iff.1 h.loc).1
  have hne : ∀ k, k < wv.heap.size → some k ≠ u.ownBlock := fun k hk e => by have := own_lt h.own k e.symm; omega
  have hl6 : w6.heap[lb]? = some (.cells cs T (0, 0)) := ((hg.block lb (by simp; omega) (hne lb h.lt)).trans (heap_alloc_old wr _ hlr)).trans h.loc
  refine ⟨by rw [← hc]; exact blk_set hl6 i v', ho.setLow h.lt i v', ⟨hg.os.trans h.gr.os, hg.tape.trans h.gr.tape, hg.output.trans h.gr.output, ?_, fun k hk hkl => ?_⟩, h.lt⟩
  · have e : (w6.setCell ⟨lb, i, none⟩ v').heap.size = w6.heap.size := by simp [World.setCell]
    have h2 := h.gr.size
    rw [e]
    have h3 := hg.size
    simp at h3
    omega
  · have hkr : k < wr.heap.size := Nat.lt_of_lt_of_le hk h.gr.size
    exact (((Below.heap_setCell w6 ⟨lb, i, none⟩ v' k (by show k ≠ lb; intro e; exact hkl (by rw [e]))).trans (hg.block k (by simp; omega) (hne k hk))).trans (heap_alloc_old wr _ hkr)).trans (h.gr.block k hk hkl)
theorem Loc.below {T : TypeId} {w2 wv wr : World} {lb : Nat} {cs : Array Value} {u : Value} {xs : List Int} (h : Loc T wv wr lb cs u xs) (hb : Below w2.heap.size w2 wv) (hl : w2.heap.size ≤ lb) : Below w2.heap.size w2 wr :=
  ⟨h.gr.os.trans hb.os, h.gr.tape.trans hb.tape, h.gr.output.trans hb.output, Nat.le_trans hb.size h.gr.size, fun k hk => (h.gr.block k (by have := hb.size; omega) (by intro e; injection e with e; omega)).trans (hb.block k hk)⟩
theorem Loc.grown {T : TypeId} {wv wr w6 : World} {lb : Nat} {cs : Array Value} {u : Value} {xs : List Int} {o : Obj} (h : Loc T wv wr lb cs u xs) (hg : (wr.alloc o).grownBy w6 u.ownBlock) : w6.heap[lb]? = some (.cells cs T (0, 0)) := by
  have hlr : lb < wr.heap.size := (Array.getElem?_eq_some_iff.1 h.loc).1
  exact ((hg.block lb (by simp; omega) (fun e => by have := own_lt h.own lb e.symm; have := h.lt; omega)).trans (heap_alloc_old wr _ hlr)).trans h.loc
theorem Loc.keep {T : TypeId} {wv wr w1 : World} {lb : Nat} {cs : Array Value} {u : Value} {xs : List Int} (h : Loc T wv wr lb cs u xs) (hb : Below wr.heap.size wr w1) : Loc T wv w1 lb cs u xs :=
  ⟨(hb.block _ (Array.getElem?_eq_some_iff.1 h.loc).1).trans h.loc, h.own.keep hb, ⟨hb.os.trans h.gr.os, hb.tape.trans h.gr.tape, hb.output.trans h.gr.output, Nat.le_trans h.gr.size hb.size, fun k hk hn => (hb.block k (Nat.lt_of_lt_of_le hk h.gr.size)).trans (h.gr.block k hk hn)⟩, h.lt⟩
theorem Loc.other {T : TypeId} {wv wr : World} {lb B : Nat} {cs : Array Value} {u v : Value} {xs ys : List Int} (h : Loc T wv wr lb cs u xs) (ho : OInts wv B v ys) (hB : lb < B) : OInts wr B v ys :=
  own_grown ho h.gr (by
    cases hv : v.ownBlock with
    | none => exact .inl rfl
    | some k => right; intro e; injection e with e; have := own_lt ho k hv; omega)
theorem Loc.apart {T : TypeId} {wv wr : World} {lb B : Nat} {cs : Array Value} {u v : Value} {xs ys : List Int} (h : Loc T wv wr lb cs u xs) (ho : OInts wv B v ys) : Apart v u := apart_later ho h.own
theorem grown_undrew {w w' : World} {r : Option Nat} (h : w.drew.grownBy w' r) : w.grownBy w' r := ⟨h.os, h.tape, h.output, h.size, h.block⟩
theorem grown_undrewA {w w' : World} {o : Obj} {r : Option Nat} (h : (w.drew.alloc o).grownBy w' r) : (w.alloc o).grownBy w' r := ⟨h.os, h.tape, h.output, h.size, h.block⟩
end
end Go.Proofs.Ytbopcghbmbchkaa
