/- laws.turned: an equation with its sides exchanged; whether it holds (plain, and the walk of turned). -/
import Derived.Test.YtkhabmoidpgapaaKd187ca3a
namespace Go.Proofs.Ytkhabmoidpgapaa
section
open Go.RowKit
set_option linter.unusedVariables false
set_option linter.unusedSimpArgs false

theorem eqOk_turnH (s : MSig) (e : MEq) : eqOkB s ⟨e.vars, e.right, e.left⟩ = eqOkB s e := by
  unfold eqOkB
  simp only
  generalize sortM s e.vars e.left = x
  generalize sortM s e.vars e.right = y
  rw [Bool.eq_iff_iff]
  simp only [Bool.and_eq_true, decide_eq_true_eq]
  omega
set_option maxRecDepth 100000 in
theorem turnedH_any (v : Value) (e : MEq) (w : World) (h : REq w v e) :
    Calls Try.prog 28 #[v] w fun x w' => ∃ u, x = .returned u ∧ REq w' u ⟨e.vars, e.right, e.left⟩ ∧ Below w.heap.size w w' := by
  have HH := Lib.hid h
  obtain ⟨Aea, cea, Aeb, ceb, Aec, cec, rfl⟩ := h.form
  have hb : Below w.heap.size w ((w.alloc (.cells #[.slice Aea e.vars.length cea, .slice Aeb e.left.length ceb, .slice Aec e.right.length cec] 41)).alloc (.cells #[.slice none 0 0, .slice none 0 0, .slice none 0 0] 41)) := (below_alloc _ _).alloc (by simp) _
  have HB := Lib.hid hb
  have hsz : ((w.alloc (.cells #[.slice Aea e.vars.length cea, .slice Aeb e.left.length ceb, .slice Aec e.right.length cec] 41)).alloc (.cells #[.slice none 0 0, .slice none 0 0, .slice none 0 0] 41)).heap.size = w.heap.size + 2 := by simp
  have He := Lib.hid (h.keep hb)
  have e0 := cell_keep (below_alloc (w.alloc (.cells #[.slice Aea e.vars.length cea, .slice Aeb e.left.length ceb, .slice Aec e.right.length cec] 41)) (.cells #[.slice none 0 0, .slice none 0 0, .slice none 0 0] 41)) (bx_at (w) #[.slice Aea e.vars.length cea, .slice Aeb e.left.length ceb, .slice Aec e.right.length cec] 41 (k := 0) rfl)
  have e1 := cell_keep (below_alloc (w.alloc (.cells #[.slice Aea e.vars.length cea, .slice Aeb e.left.length ceb, .slice Aec e.right.length cec] 41)) (.cells #[.slice none 0 0, .slice none 0 0, .slice none 0 0] 41)) (bx_at (w) #[.slice Aea e.vars.length cea, .slice Aeb e.left.length ceb, .slice Aec e.right.length cec] 41 (k := 1) rfl)
  have e2 := cell_keep (below_alloc (w.alloc (.cells #[.slice Aea e.vars.length cea, .slice Aeb e.left.length ceb, .slice Aec e.right.length cec] 41)) (.cells #[.slice none 0 0, .slice none 0 0, .slice none 0 0] 41)) (bx_at (w) #[.slice Aea e.vars.length cea, .slice Aeb e.left.length ceb, .slice Aec e.right.length cec] 41 (k := 2) rfl)
  have HZr := Lib.hid (show ((w.alloc (.cells #[.slice Aea e.vars.length cea, .slice Aeb e.left.length ceb, .slice Aec e.right.length cec] 41)).alloc (.cells #[.slice none 0 0, .slice none 0 0, .slice none 0 0] 41)).heap[w.heap.size + 1]? = some (.cells #[.slice none 0 0, .slice none 0 0, .slice none 0 0] 41 (0, 0)) from (congrArg (fun i => ((w.alloc (.cells #[.slice Aea e.vars.length cea, .slice Aeb e.left.length ceb, .slice Aec e.right.length cec] 41)).alloc (.cells #[.slice none 0 0, .slice none 0 0, .slice none 0 0] 41)).heap[i]?) (by simp)).trans (heap_alloc_new (w.alloc (.cells #[.slice Aea e.vars.length cea, .slice Aeb e.left.length ceb, .slice Aec e.right.length cec] 41)) _))
  generalize hW : (w.alloc (.cells #[.slice Aea e.vars.length cea, .slice Aeb e.left.length ceb, .slice Aec e.right.length cec] 41)).alloc (.cells #[.slice none 0 0, .slice none 0 0, .slice none 0 0] 41) = W at HB hsz He e0 e1 e2 HZr
  clear hb h
  have j0 := blk_cell HZr.out 0
  have j1 := blk_cell HZr.out 1
  have j2 := blk_cell HZr.out 2
  have jf0 := blk_free HZr.out 0
  have jf1 := blk_free HZr.out 1
  have jf2 := blk_free HZr.out 2
  simp at j0 j1 j2
  have D := Lib.hid (And.intro (box3_set (a := .slice Aea e.vars.length cea) (c := .slice Aec e.right.length cec) (d := .slice Aeb e.left.length ceb) HZr.out) (((HB.out.setCell (p := ⟨w.heap.size + 1, 0, none⟩) (by show w.heap.size ≤ w.heap.size + 1; omega) (.slice Aea e.vars.length cea)).setCell (p := ⟨w.heap.size + 1, 1, none⟩) (by show w.heap.size ≤ w.heap.size + 1; omega) (.slice Aec e.right.length cec)).setCell (p := ⟨w.heap.size + 1, 2, none⟩) (by show w.heap.size ≤ w.heap.size + 1; omega) (.slice Aeb e.left.length ceb)))
  go_enter Try.func28, Try.ntmps28
  go_wp2
  clear hW
  obtain ⟨d1, d2⟩ := D.out
  generalize ((W.setCell ⟨w.heap.size + 1, 0, none⟩ (.slice Aea e.vars.length cea)).setCell ⟨w.heap.size + 1, 1, none⟩ (.slice Aec e.right.length cec)).setCell ⟨w.heap.size + 1, 2, none⟩ (.slice Aeb e.left.length ceb) = wz at d1 d2 ⊢
  have k0 := blk_cell d1 0
  have k1 := blk_cell d1 1
  have k2 := blk_cell d1 2
  simp at k0 k1 k2
  have hr := (HH.out.keep d2).of
  clear j0 j1 j2 jf0 jf1 jf2 e0 e1 e2
  refine bodyPost_ret (v := .agg #[.slice Aea e.vars.length cea, .slice Aec e.right.length cec, .slice Aeb e.left.length ceb]) (by simp [results, Try.results28, go_sem, k0, k1, k2]) rfl ?_
  exact ⟨_, rfl, ⟨_, _, _, rfl, hr.1, hr.2.2, hr.2.1⟩, d2⟩


theorem failFrom_comm (m : MModel) (zs : List Int) (l r : Tm) : ∀ (f n : Nat), failFrom m zs l r f n = failFrom m zs r l f n
  | 0, _ => rfl
  | f + 1, n => by
    have e : failAt m zs l r n = failAt m zs r l n := by
      unfold failAt
      generalize valT m (digM zs n) l = x
      generalize valT m (digM zs n) r = y
      rw [Bool.eq_iff_iff]
      simp only [bne_iff_ne]
      exact ⟨Ne.symm, Ne.symm⟩
    simp only [failFrom, e, failFrom_comm m zs l r f (n + 1)]
theorem holds_turn (s : MSig) (m : MModel) (e : MEq) : holdsB s m ⟨e.vars, e.right, e.left⟩ = holdsB s m e := by
  unfold holdsB failsM
  rw [eqOk_turnH]
  dsimp only
  cases hok : eqOkB s e && modelB s m with
  | false => rfl
  | true =>
    simp only [if_true]
    unfold failRow
    cases h1 : termM s e.vars e.left with
    | none => cases h2 : termM s e.vars e.right <;> rfl
    | some l =>
      cases h2 : termM s e.vars e.right with
      | none => rfl
      | some r =>
        have hc := failFrom_comm m (ledM m.sizes e.vars) r l (waysM (ledM m.sizes e.vars)).toNat 0
        dsimp only
        rw [hc]
theorem failFrom_no {m : MModel} {zs : List Int} {l r : Tm} : ∀ (f n : Nat), (∀ j, failAt m zs l r j = false) → failFrom m zs l r f n = none
  | 0, _, _ => rfl
  | f + 1, n, h => by simp only [failFrom, h n]; exact failFrom_no f (n + 1) h
theorem single_size (s : MSig) (k : Nat) : (singleM s).sizes.getD k 0 ≤ 1 := by
  show (List.replicate s.sorts.toNat (1 : Int)).getD k 0 ≤ 1
  by_cases h : k < (List.replicate s.sorts.toNat (1 : Int)).length
  · rw [getD_at _ h, List.getElem_replicate]; omega
  · rw [List.getD_eq_getElem?_getD, List.getElem?_eq_none (by omega)]; simp
theorem holds_single (s : MSig) (e : MEq) : holdsB s (singleM s) e = eqOkB s e := by
  cases hok : eqOkB s e with
  | false => exact holds_no1 hok
  | true =>
    obtain ⟨hv, l, r, hl, hr, wl, wr, -⟩ := eq_terms hok
    have hva := (vars_valid hv).1
    have hm : modelB s (singleM s) = true := by rw [single_model]; exact hva
    have hf := model_facts hm
    rw [holds_yes hok hm]
    unfold failsM
    rw [hok, hm, hl, hr]
    simp only [Bool.and_self, if_true]
    have : failRow (singleM s) (ledM (singleM s).sizes e.vars) l r = none := by
      unfold failRow
      refine failFrom_no _ _ fun j => ?_
      have hd := dig_vals hf hv (j : Int)
      have a := valT_in hf hd l wl
      have b := valT_in hf hd r wr
      have a1 := single_size s l.sort.toNat
      have b1 := single_size s r.sort.toNat
      unfold failAt
      rw [show valT (singleM s) (digM (ledM (singleM s).sizes e.vars) j) l = valT (singleM s) (digM (ledM (singleM s).sizes e.vars) j) r by omega]
      simp
    rw [this]
    rfl
/-- where an equation fails both terms have different values -/
theorem failFrom_some {m : MModel} {zs : List Int} {l r : Tm} {row : List Int} : ∀ (f n : Nat), failFrom m zs l r f n = some row → ∃ j : Nat, row = digM zs j ∧ failAt m zs l r j = true
  | 0, _, h => by simp [failFrom] at h
  | f + 1, n, h => by
    by_cases hf : failAt m zs l r n = true
    · simp only [failFrom, hf, if_true] at h
      injection h with h
      exact ⟨n, h.symm, hf⟩
    · simp only [failFrom, hf] at h
      exact failFrom_some f (n + 1) (by simpa using h)
theorem fails_facts {s : MSig} {m : MModel} {e : MEq} (hok : eqOkB s e = true) (hm : modelB s m = true) (h : (failsM s m e).2 = true) :
    valsB s m e.vars (failsM s m e).1 = true ∧ valueM s m e.vars e.left (failsM s m e).1 ≠ valueM s m e.vars e.right (failsM s m e).1 := by
  obtain ⟨hv, l, r, hl, hr, wl, wr, -⟩ := eq_terms hok
  have hf := model_facts hm
  have hfm : failsM s m e = match failRow m (ledM m.sizes e.vars) l r with | some row => (row, true) | none => ([], false) := by
    unfold failsM
    rw [hok, hm, hl, hr]
    rfl
  rw [hfm] at h ⊢
  cases hrow : failRow m (ledM m.sizes e.vars) l r with
  | none => rw [hrow] at h; cases h
  | some row =>
    simp only
    obtain ⟨j, rfl, hj⟩ := failFrom_some _ _ hrow
    have hd := dig_vals hf hv (j : Int)
    have hvb : valsB s m e.vars (digM (ledM m.sizes e.vars) j) = true := by
      refine vals_yes hv hm hd.1 ?_
      unfold allVal
      rw [List.all_eq_true]
      intro k hk
      have hk1 := List.mem_range.1 hk
      have hk2 : k < e.vars.length := by rw [← hd.1]; exact hk1
      have := hd.2 k hk2 hk1
      unfold valOkAt
      rw [getD_at _ hk1, getD_at _ hk2]
      simpa using this
    refine ⟨hvb, ?_⟩
    unfold valueM
    rw [hl, hr, hvb]
    unfold failAt at hj
    simpa using hj
end
end Go.Proofs.Ytkhabmoidpgapaa
