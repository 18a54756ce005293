/- ModelBack of both packages. -/
import Derived.Test.YteccjnnhihbdhabMdA
import Derived.Test.YteccjnnhihbdhabLocR
import Derived.Test.YteccjnnhihbdhabMapOk
namespace Go.Proofs.Yteccjnnhihbdhab
open Go.RowKit
set_option linter.unusedVariables false
set_option linter.unusedSimpArgs false

theorem nil_model (w : World) (B : Nat) : OModel w B (.agg #[.slice none 0 0, .slice none 0 0]) ⟨[], []⟩ := ⟨_, _, rfl, OInts.nil _ _, B, Nat.le_refl _, fun k e => by simp [Value.ownBlock] at e, ORows.nil _ _⟩
def tabsM (m : MModel) (os : List Int) : List (List Int) := os.map fun o => m.tables.getD o.toNat []
theorem tabsM_take {m : MModel} {os : List Int} {k : Nat} (hk : k < os.length) : tabsM m (os.take (k + 1)) = tabsM m (os.take k) ++ [m.tables.getD (os[k]).toNat []] := by
  unfold tabsM; rw [List.take_succ_eq_append_getElem hk, List.map_append]; rfl
theorem tabsM_len (m : MModel) (os : List Int) : (tabsM m os).length = os.length := by simp [tabsM]
theorem table_len {s : MSig} {m : MModel} (h : ModFacts s m) {k : Nat} (hk : k < m.tables.length) : 1 ≤ m.tables[k].length ∧ m.tables[k].length ≤ 9 := by
  have hk2 : k < s.ops.length := by rw [← h.tl]; exact hk
  obtain ⟨hk', e, hl, hx⟩ := h.table hk2
  obtain ⟨h1, h2⟩ := h.taken hk2
  have a := ways_pos h1
  have b := ways_le h1
  have : ∀ n : Nat, n ≤ 2 → (3 : Int) ^ n ≤ 9 := by
    intro n hn
    match n, hn with
    | 0, _ => decide
    | 1, _ => decide
    | 2, _ => decide
  have := this _ h2
  omega

set_option maxHeartbeats 6400000 in
set_option maxRecDepth 100000 in
theorem modelBack_any (a b : MSig) (f : MMap) (m : MModel) (w : World) (va vb vf vm : Value) (h1 : RSig w va a) (h2 : RSig w vb b) (h3 : RMap w vf f) (h4 : RModel w vm m) :
    Calls Try.prog 16 #[va, vb, vf, vm] w fun e w' => ∃ u, e = .returned u ∧ OModel w' w.heap.size u (modBackM a b f m) ∧ Below w.heap.size w w' := by
  obtain ⟨Aaa, caa, rfl⟩ := h1.form
  obtain ⟨Aba, cba, rfl⟩ := h2.form
  obtain ⟨Afa, cfa, Afb, cfb, rfl⟩ := h3.form
  obtain ⟨Ama, cma, Amb, cmb, rfl⟩ := h4.form
  have hb : Below w.heap.size w (((((w.alloc (.cells #[.int .i64 a.sorts, .slice Aaa a.ops.length caa] 35)).alloc (.cells #[.int .i64 b.sorts, .slice Aba b.ops.length cba] 35)).alloc (.cells #[.slice Afa f.sorts.length cfa, .slice Afb f.ops.length cfb] 37)).alloc (.cells #[.slice Ama m.sizes.length cma, .slice Amb m.tables.length cmb] 33)).alloc (.cells #[.slice none 0 0, .slice none 0 0] 33)) := ((((below_alloc _ _).alloc (by simp) _).alloc (by simp; omega) _).alloc (by simp; omega) _).alloc (by simp; omega) _
  have HB := Lib.hid hb
  have hsz : (((((w.alloc (.cells #[.int .i64 a.sorts, .slice Aaa a.ops.length caa] 35)).alloc (.cells #[.int .i64 b.sorts, .slice Aba b.ops.length cba] 35)).alloc (.cells #[.slice Afa f.sorts.length cfa, .slice Afb f.ops.length cfb] 37)).alloc (.cells #[.slice Ama m.sizes.length cma, .slice Amb m.tables.length cmb] 33)).alloc (.cells #[.slice none 0 0, .slice none 0 0] 33)).heap.size = w.heap.size + 5 := by simp
  have Ha := Lib.hid (h1.keep hb)
  have a0 := cell_keep (below_alloc ((((w.alloc (.cells #[.int .i64 a.sorts, .slice Aaa a.ops.length caa] 35)).alloc (.cells #[.int .i64 b.sorts, .slice Aba b.ops.length cba] 35)).alloc (.cells #[.slice Afa f.sorts.length cfa, .slice Afb f.ops.length cfb] 37)).alloc (.cells #[.slice Ama m.sizes.length cma, .slice Amb m.tables.length cmb] 33)) (.cells #[.slice none 0 0, .slice none 0 0] 33)) (cell_keep (below_alloc (((w.alloc (.cells #[.int .i64 a.sorts, .slice Aaa a.ops.length caa] 35)).alloc (.cells #[.int .i64 b.sorts, .slice Aba b.ops.length cba] 35)).alloc (.cells #[.slice Afa f.sorts.length cfa, .slice Afb f.ops.length cfb] 37)) (.cells #[.slice Ama m.sizes.length cma, .slice Amb m.tables.length cmb] 33)) (cell_keep (below_alloc ((w.alloc (.cells #[.int .i64 a.sorts, .slice Aaa a.ops.length caa] 35)).alloc (.cells #[.int .i64 b.sorts, .slice Aba b.ops.length cba] 35)) (.cells #[.slice Afa f.sorts.length cfa, .slice Afb f.ops.length cfb] 37)) (cell_keep (below_alloc (w.alloc (.cells #[.int .i64 a.sorts, .slice Aaa a.ops.length caa] 35)) (.cells #[.int .i64 b.sorts, .slice Aba b.ops.length cba] 35)) (bx_at (w) #[.int .i64 a.sorts, .slice Aaa a.ops.length caa] 35 (k := 0) rfl))))
  have a1 := cell_keep (below_alloc ((((w.alloc (.cells #[.int .i64 a.sorts, .slice Aaa a.ops.length caa] 35)).alloc (.cells #[.int .i64 b.sorts, .slice Aba b.ops.length cba] 35)).alloc (.cells #[.slice Afa f.sorts.length cfa, .slice Afb f.ops.length cfb] 37)).alloc (.cells #[.slice Ama m.sizes.length cma, .slice Amb m.tables.length cmb] 33)) (.cells #[.slice none 0 0, .slice none 0 0] 33)) (cell_keep (below_alloc (((w.alloc (.cells #[.int .i64 a.sorts, .slice Aaa a.ops.length caa] 35)).alloc (.cells #[.int .i64 b.sorts, .slice Aba b.ops.length cba] 35)).alloc (.cells #[.slice Afa f.sorts.length cfa, .slice Afb f.ops.length cfb] 37)) (.cells #[.slice Ama m.sizes.length cma, .slice Amb m.tables.length cmb] 33)) (cell_keep (below_alloc ((w.alloc (.cells #[.int .i64 a.sorts, .slice Aaa a.ops.length caa] 35)).alloc (.cells #[.int .i64 b.sorts, .slice Aba b.ops.length cba] 35)) (.cells #[.slice Afa f.sorts.length cfa, .slice Afb f.ops.length cfb] 37)) (cell_keep (below_alloc (w.alloc (.cells #[.int .i64 a.sorts, .slice Aaa a.ops.length caa] 35)) (.cells #[.int .i64 b.sorts, .slice Aba b.ops.length cba] 35)) (bx_at (w) #[.int .i64 a.sorts, .slice Aaa a.ops.length caa] 35 (k := 1) rfl))))
  have Hb := Lib.hid (h2.keep hb)
  have b0 := cell_keep (below_alloc ((((w.alloc (.cells #[.int .i64 a.sorts, .slice Aaa a.ops.length caa] 35)).alloc (.cells #[.int .i64 b.sorts, .slice Aba b.ops.length cba] 35)).alloc (.cells #[.slice Afa f.sorts.length cfa, .slice Afb f.ops.length cfb] 37)).alloc (.cells #[.slice Ama m.sizes.length cma, .slice Amb m.tables.length cmb] 33)) (.cells #[.slice none 0 0, .slice none 0 0] 33)) (cell_keep (below_alloc (((w.alloc (.cells #[.int .i64 a.sorts, .slice Aaa a.ops.length caa] 35)).alloc (.cells #[.int .i64 b.sorts, .slice Aba b.ops.length cba] 35)).alloc (.cells #[.slice Afa f.sorts.length cfa, .slice Afb f.ops.length cfb] 37)) (.cells #[.slice Ama m.sizes.length cma, .slice Amb m.tables.length cmb] 33)) (cell_keep (below_alloc ((w.alloc (.cells #[.int .i64 a.sorts, .slice Aaa a.ops.length caa] 35)).alloc (.cells #[.int .i64 b.sorts, .slice Aba b.ops.length cba] 35)) (.cells #[.slice Afa f.sorts.length cfa, .slice Afb f.ops.length cfb] 37)) (bx_at (w.alloc (.cells #[.int .i64 a.sorts, .slice Aaa a.ops.length caa] 35)) #[.int .i64 b.sorts, .slice Aba b.ops.length cba] 35 (k := 0) rfl)))
  have b1 := cell_keep (below_alloc ((((w.alloc (.cells #[.int .i64 a.sorts, .slice Aaa a.ops.length caa] 35)).alloc (.cells #[.int .i64 b.sorts, .slice Aba b.ops.length cba] 35)).alloc (.cells #[.slice Afa f.sorts.length cfa, .slice Afb f.ops.length cfb] 37)).alloc (.cells #[.slice Ama m.sizes.length cma, .slice Amb m.tables.length cmb] 33)) (.cells #[.slice none 0 0, .slice none 0 0] 33)) (cell_keep (below_alloc (((w.alloc (.cells #[.int .i64 a.sorts, .slice Aaa a.ops.length caa] 35)).alloc (.cells #[.int .i64 b.sorts, .slice Aba b.ops.length cba] 35)).alloc (.cells #[.slice Afa f.sorts.length cfa, .slice Afb f.ops.length cfb] 37)) (.cells #[.slice Ama m.sizes.length cma, .slice Amb m.tables.length cmb] 33)) (cell_keep (below_alloc ((w.alloc (.cells #[.int .i64 a.sorts, .slice Aaa a.ops.length caa] 35)).alloc (.cells #[.int .i64 b.sorts, .slice Aba b.ops.length cba] 35)) (.cells #[.slice Afa f.sorts.length cfa, .slice Afb f.ops.length cfb] 37)) (bx_at (w.alloc (.cells #[.int .i64 a.sorts, .slice Aaa a.ops.length caa] 35)) #[.int .i64 b.sorts, .slice Aba b.ops.length cba] 35 (k := 1) rfl)))
  have Hf := Lib.hid (h3.keep hb)
  have f0 := cell_keep (below_alloc ((((w.alloc (.cells #[.int .i64 a.sorts, .slice Aaa a.ops.length caa] 35)).alloc (.cells #[.int .i64 b.sorts, .slice Aba b.ops.length cba] 35)).alloc (.cells #[.slice Afa f.sorts.length cfa, .slice Afb f.ops.length cfb] 37)).alloc (.cells #[.slice Ama m.sizes.length cma, .slice Amb m.tables.length cmb] 33)) (.cells #[.slice none 0 0, .slice none 0 0] 33)) (cell_keep (below_alloc (((w.alloc (.cells #[.int .i64 a.sorts, .slice Aaa a.ops.length caa] 35)).alloc (.cells #[.int .i64 b.sorts, .slice Aba b.ops.length cba] 35)).alloc (.cells #[.slice Afa f.sorts.length cfa, .slice Afb f.ops.length cfb] 37)) (.cells #[.slice Ama m.sizes.length cma, .slice Amb m.tables.length cmb] 33)) (bx_at ((w.alloc (.cells #[.int .i64 a.sorts, .slice Aaa a.ops.length caa] 35)).alloc (.cells #[.int .i64 b.sorts, .slice Aba b.ops.length cba] 35)) #[.slice Afa f.sorts.length cfa, .slice Afb f.ops.length cfb] 37 (k := 0) rfl))
  have f1 := cell_keep (below_alloc ((((w.alloc (.cells #[.int .i64 a.sorts, .slice Aaa a.ops.length caa] 35)).alloc (.cells #[.int .i64 b.sorts, .slice Aba b.ops.length cba] 35)).alloc (.cells #[.slice Afa f.sorts.length cfa, .slice Afb f.ops.length cfb] 37)).alloc (.cells #[.slice Ama m.sizes.length cma, .slice Amb m.tables.length cmb] 33)) (.cells #[.slice none 0 0, .slice none 0 0] 33)) (cell_keep (below_alloc (((w.alloc (.cells #[.int .i64 a.sorts, .slice Aaa a.ops.length caa] 35)).alloc (.cells #[.int .i64 b.sorts, .slice Aba b.ops.length cba] 35)).alloc (.cells #[.slice Afa f.sorts.length cfa, .slice Afb f.ops.length cfb] 37)) (.cells #[.slice Ama m.sizes.length cma, .slice Amb m.tables.length cmb] 33)) (bx_at ((w.alloc (.cells #[.int .i64 a.sorts, .slice Aaa a.ops.length caa] 35)).alloc (.cells #[.int .i64 b.sorts, .slice Aba b.ops.length cba] 35)) #[.slice Afa f.sorts.length cfa, .slice Afb f.ops.length cfb] 37 (k := 1) rfl))
  have Hm := Lib.hid (h4.keep hb)
  have m0 := cell_keep (below_alloc ((((w.alloc (.cells #[.int .i64 a.sorts, .slice Aaa a.ops.length caa] 35)).alloc (.cells #[.int .i64 b.sorts, .slice Aba b.ops.length cba] 35)).alloc (.cells #[.slice Afa f.sorts.length cfa, .slice Afb f.ops.length cfb] 37)).alloc (.cells #[.slice Ama m.sizes.length cma, .slice Amb m.tables.length cmb] 33)) (.cells #[.slice none 0 0, .slice none 0 0] 33)) (bx_at (((w.alloc (.cells #[.int .i64 a.sorts, .slice Aaa a.ops.length caa] 35)).alloc (.cells #[.int .i64 b.sorts, .slice Aba b.ops.length cba] 35)).alloc (.cells #[.slice Afa f.sorts.length cfa, .slice Afb f.ops.length cfb] 37)) #[.slice Ama m.sizes.length cma, .slice Amb m.tables.length cmb] 33 (k := 0) rfl)
  have m1 := cell_keep (below_alloc ((((w.alloc (.cells #[.int .i64 a.sorts, .slice Aaa a.ops.length caa] 35)).alloc (.cells #[.int .i64 b.sorts, .slice Aba b.ops.length cba] 35)).alloc (.cells #[.slice Afa f.sorts.length cfa, .slice Afb f.ops.length cfb] 37)).alloc (.cells #[.slice Ama m.sizes.length cma, .slice Amb m.tables.length cmb] 33)) (.cells #[.slice none 0 0, .slice none 0 0] 33)) (bx_at (((w.alloc (.cells #[.int .i64 a.sorts, .slice Aaa a.ops.length caa] 35)).alloc (.cells #[.int .i64 b.sorts, .slice Aba b.ops.length cba] 35)).alloc (.cells #[.slice Afa f.sorts.length cfa, .slice Afb f.ops.length cfb] 37)) #[.slice Ama m.sizes.length cma, .slice Amb m.tables.length cmb] 33 (k := 1) rfl)
  have HZr := Lib.hid (show (((((w.alloc (.cells #[.int .i64 a.sorts, .slice Aaa a.ops.length caa] 35)).alloc (.cells #[.int .i64 b.sorts, .slice Aba b.ops.length cba] 35)).alloc (.cells #[.slice Afa f.sorts.length cfa, .slice Afb f.ops.length cfb] 37)).alloc (.cells #[.slice Ama m.sizes.length cma, .slice Amb m.tables.length cmb] 33)).alloc (.cells #[.slice none 0 0, .slice none 0 0] 33)).heap[w.heap.size + 1 + 1 + 1 + 1]? = some (.cells #[.slice none 0 0, .slice none 0 0] 33 (0, 0)) from (congrArg (fun i => (((((w.alloc (.cells #[.int .i64 a.sorts, .slice Aaa a.ops.length caa] 35)).alloc (.cells #[.int .i64 b.sorts, .slice Aba b.ops.length cba] 35)).alloc (.cells #[.slice Afa f.sorts.length cfa, .slice Afb f.ops.length cfb] 37)).alloc (.cells #[.slice Ama m.sizes.length cma, .slice Amb m.tables.length cmb] 33)).alloc (.cells #[.slice none 0 0, .slice none 0 0] 33)).heap[i]?) (by simp)).trans (heap_alloc_new ((((w.alloc (.cells #[.int .i64 a.sorts, .slice Aaa a.ops.length caa] 35)).alloc (.cells #[.int .i64 b.sorts, .slice Aba b.ops.length cba] 35)).alloc (.cells #[.slice Afa f.sorts.length cfa, .slice Afb f.ops.length cfb] 37)).alloc (.cells #[.slice Ama m.sizes.length cma, .slice Amb m.tables.length cmb] 33)) _))
  simp only [World.size_alloc] at b0 b1 f0 f1 m0 m1
  generalize hW : ((((w.alloc (.cells #[.int .i64 a.sorts, .slice Aaa a.ops.length caa] 35)).alloc (.cells #[.int .i64 b.sorts, .slice Aba b.ops.length cba] 35)).alloc (.cells #[.slice Afa f.sorts.length cfa, .slice Afb f.ops.length cfb] 37)).alloc (.cells #[.slice Ama m.sizes.length cma, .slice Amb m.tables.length cmb] 33)).alloc (.cells #[.slice none 0 0, .slice none 0 0] 33) = W at HB hsz Ha a0 a1 Hb b0 b1 Hf f0 f1 Hm m0 m1 HZr
  clear hb h1 h2 h3 h4
  have hl1 := Hf.out.of.1.len
  have hl2 := Hf.out.of.2.len
  have hl3 := Hm.out.of.1.len
  have hl4 := Hm.out.of.2.len
  cases hok : mapOkB a b f with
  | false =>
    have HOK := Lib.hid hok
    have HE := Lib.hid (show modBackM a b f m = ⟨[], []⟩ by unfold modBackM; rw [hok]; rfl)
    clear hok
    go_enter Try.func16, Try.ntmps16
    go_wp2_with fail
    clear hW
    refine (mapOk_any a b f _ _ _ _ Ha.out Hb.out Hf.out).mono ?_
    rw [HOK.out]
    rintro x w1 ⟨rfl, hb⟩
    replace HZr := Lib.hid (blk_held HZr.out hb)
    replace HB := Lib.hid (sz_keep HB.out hb)
    replace a0 := cell_keep hb a0
    replace a1 := cell_keep hb a1
    replace b0 := cell_keep hb b0
    replace b1 := cell_keep hb b1
    replace f0 := cell_keep hb f0
    replace f1 := cell_keep hb f1
    replace m0 := cell_keep hb m0
    replace m1 := cell_keep hb m1
    replace Ha := Lib.hid (Ha.out.keep hb)
    replace Hb := Lib.hid (Hb.out.keep hb)
    replace Hf := Lib.hid (Hf.out.keep hb)
    replace Hm := Lib.hid (Hm.out.keep hb)
    clear hb
    have j0 := blk_cell HZr.out 0
    have j1 := blk_cell HZr.out 1
    have jf0 := blk_free HZr.out 0
    have jf1 := blk_free HZr.out 1
    simp at j0 j1
    go_wp2
    have d1 := blk_set (blk_set HZr.out 0 (.slice none 0 0)) 1 (.slice none 0 0)
    have hbz := ((HB.out.setCell (p := ⟨w.heap.size + 1 + 1 + 1 + 1, 0, none⟩) (by show w.heap.size ≤ w.heap.size + 1 + 1 + 1 + 1; omega) (.slice none 0 0)).setCell (p := ⟨w.heap.size + 1 + 1 + 1 + 1, 1, none⟩) (by show w.heap.size ≤ w.heap.size + 1 + 1 + 1 + 1; omega) (.slice none 0 0))
    generalize (w1.setCell ⟨w.heap.size + 1 + 1 + 1 + 1, 0, none⟩ (.slice none 0 0)).setCell ⟨w.heap.size + 1 + 1 + 1 + 1, 1, none⟩ (.slice none 0 0) = wz at d1 hbz ⊢
    have k0 := blk_cell d1 0
    have k1 := blk_cell d1 1
    simp at k0 k1
    clear j0 j1 jf0 jf1
    refine bodyPost_ret (v := .agg #[.slice none 0 0, .slice none 0 0]) (by simp [results, Try.results16, go_sem, k0, k1]) rfl ?_
    exact ⟨_, rfl, by rw [HE.out]; exact nil_model _ _, hbz⟩
  | true =>
    have HOK := Lib.hid hok
    cases hmo : modelB b m with
    | false =>
      have HMO := Lib.hid hmo
      have HE := Lib.hid (show modBackM a b f m = ⟨[], []⟩ by unfold modBackM; rw [hok, hmo]; rfl)
      clear hok hmo
      go_enter Try.func16, Try.ntmps16
      go_wp2_with fail
      clear hW
      refine (mapOk_any a b f _ _ _ _ Ha.out Hb.out Hf.out).mono ?_
      rw [HOK.out]
      rintro x w1 ⟨rfl, hb⟩
      replace HZr := Lib.hid (blk_held HZr.out hb)
      replace HB := Lib.hid (sz_keep HB.out hb)
      replace a0 := cell_keep hb a0
      replace a1 := cell_keep hb a1
      replace b0 := cell_keep hb b0
      replace b1 := cell_keep hb b1
      replace f0 := cell_keep hb f0
      replace f1 := cell_keep hb f1
      replace m0 := cell_keep hb m0
      replace m1 := cell_keep hb m1
      replace Ha := Lib.hid (Ha.out.keep hb)
      replace Hb := Lib.hid (Hb.out.keep hb)
      replace Hf := Lib.hid (Hf.out.keep hb)
      replace Hm := Lib.hid (Hm.out.keep hb)
      clear hb
      go_wp2_with fail
      refine (modelOk_any b m _ _ _ Hb.out Hm.out).mono ?_
      rw [HMO.out]
      rintro x w2 ⟨rfl, hb⟩
      replace HZr := Lib.hid (blk_held HZr.out hb)
      replace HB := Lib.hid (sz_keep HB.out hb)
      replace a0 := cell_keep hb a0
      replace a1 := cell_keep hb a1
      replace b0 := cell_keep hb b0
      replace b1 := cell_keep hb b1
      replace f0 := cell_keep hb f0
      replace f1 := cell_keep hb f1
      replace m0 := cell_keep hb m0
      replace m1 := cell_keep hb m1
      replace Ha := Lib.hid (Ha.out.keep hb)
      replace Hb := Lib.hid (Hb.out.keep hb)
      replace Hf := Lib.hid (Hf.out.keep hb)
      replace Hm := Lib.hid (Hm.out.keep hb)
      clear hb
      have j0 := blk_cell HZr.out 0
      have j1 := blk_cell HZr.out 1
      have jf0 := blk_free HZr.out 0
      have jf1 := blk_free HZr.out 1
      simp at j0 j1
      go_wp2
      have d1 := blk_set (blk_set HZr.out 0 (.slice none 0 0)) 1 (.slice none 0 0)
      have hbz := ((HB.out.setCell (p := ⟨w.heap.size + 1 + 1 + 1 + 1, 0, none⟩) (by show w.heap.size ≤ w.heap.size + 1 + 1 + 1 + 1; omega) (.slice none 0 0)).setCell (p := ⟨w.heap.size + 1 + 1 + 1 + 1, 1, none⟩) (by show w.heap.size ≤ w.heap.size + 1 + 1 + 1 + 1; omega) (.slice none 0 0))
      generalize (w2.setCell ⟨w.heap.size + 1 + 1 + 1 + 1, 0, none⟩ (.slice none 0 0)).setCell ⟨w.heap.size + 1 + 1 + 1 + 1, 1, none⟩ (.slice none 0 0) = wz at d1 hbz ⊢
      have k0 := blk_cell d1 0
      have k1 := blk_cell d1 1
      simp at k0 k1
      clear j0 j1 jf0 jf1
      refine bodyPost_ret (v := .agg #[.slice none 0 0, .slice none 0 0]) (by simp [results, Try.results16, go_sem, k0, k1]) rfl ?_
      exact ⟨_, rfl, by rw [HE.out]; exact nil_model _ _, hbz⟩
    | true =>
      have HMO := Lib.hid hmo
      have HE := Lib.hid (show modBackM a b f m = ⟨ledM m.sizes f.sorts, f.ops.map fun o => m.tables.getD o.toNat []⟩ by unfold modBackM; rw [hok, hmo]; rfl)
      have HMF := Lib.hid (mapOk_facts hok)
      have HMD := Lib.hid (model_facts hmo)
      have hsa := valid_sorts HMF.out.va
      have hfs : f.sorts.length ≤ 3 := by have := HMF.out.sl; omega
      have hfo : f.ops.length ≤ 6 := by have := HMF.out.ol; omega
      clear hok hmo hsa
      go_enter Try.func16, Try.ntmps16
      go_wp2_with fail
      clear hW
      refine (mapOk_any a b f _ _ _ _ Ha.out Hb.out Hf.out).mono ?_
      rw [HOK.out]
      rintro x w1 ⟨rfl, hb⟩
      replace HZr := Lib.hid (blk_held HZr.out hb)
      replace HB := Lib.hid (sz_keep HB.out hb)
      replace a0 := cell_keep hb a0
      replace a1 := cell_keep hb a1
      replace b0 := cell_keep hb b0
      replace b1 := cell_keep hb b1
      replace f0 := cell_keep hb f0
      replace f1 := cell_keep hb f1
      replace m0 := cell_keep hb m0
      replace m1 := cell_keep hb m1
      replace Ha := Lib.hid (Ha.out.keep hb)
      replace Hb := Lib.hid (Hb.out.keep hb)
      replace Hf := Lib.hid (Hf.out.keep hb)
      replace Hm := Lib.hid (Hm.out.keep hb)
      clear hb
      go_wp2_with fail
      refine (modelOk_any b m _ _ _ Hb.out Hm.out).mono ?_
      rw [HMO.out]
      rintro x w2 ⟨rfl, hb⟩
      replace HZr := Lib.hid (blk_held HZr.out hb)
      replace HB := Lib.hid (sz_keep HB.out hb)
      replace a0 := cell_keep hb a0
      replace a1 := cell_keep hb a1
      replace b0 := cell_keep hb b0
      replace b1 := cell_keep hb b1
      replace f0 := cell_keep hb f0
      replace f1 := cell_keep hb f1
      replace m0 := cell_keep hb m0
      replace m1 := cell_keep hb m1
      replace Ha := Lib.hid (Ha.out.keep hb)
      replace Hb := Lib.hid (Hb.out.keep hb)
      replace Hf := Lib.hid (Hf.out.keep hb)
      replace Hm := Lib.hid (Hm.out.keep hb)
      clear hb
      have hwr2 : w.heap.size + 1 + 1 + 1 + 1 < w2.heap.size := (Array.getElem?_eq_some_iff.1 HZr.out).1
      go_wp2_with fail
      refine (sizesOf_any m f.sorts _ _ _ Hm.out Hf.out.of.1 (HMD.out.into HMF.out.sb) (by omega)).mono ?_
      rintro x w5 ⟨u5, rfl, ho5, hb⟩
      have hz25 := hb.size
      replace HZr := Lib.hid (blk_held HZr.out hb)
      obtain ⟨Au, cu, rfl, -⟩ := ho5.reads.form
      have HOU := Lib.hid ho5
      clear ho5
      replace HB := Lib.hid (sz_keep HB.out hb)
      replace a0 := cell_keep hb a0
      replace a1 := cell_keep hb a1
      replace b0 := cell_keep hb b0
      replace b1 := cell_keep hb b1
      replace f0 := cell_keep hb f0
      replace f1 := cell_keep hb f1
      replace m0 := cell_keep hb m0
      replace m1 := cell_keep hb m1
      replace Ha := Lib.hid (Ha.out.keep hb)
      replace Hb := Lib.hid (Hb.out.keep hb)
      replace Hf := Lib.hid (Hf.out.keep hb)
      replace Hm := Lib.hid (Hm.out.keep hb)
      clear hb
      obtain ⟨i1, hj, hy0, hy1, hy2⟩ := info_parts Try.tinfo_ints
      have HC0 := Lib.hid (And.intro f1 m1)
      have hb3 := below_alloc w5 (.cells #[.slice none 0 0, .slice none 0 0] 33)
      have hl3 : (w5.alloc (.cells #[.slice none 0 0, .slice none 0 0] 33)).heap[w5.heap.size]? = some (.cells #[.slice none 0 0, .slice none 0 0] 33 (0, 0)) := heap_alloc_new w5 _
      generalize hW3 : w5.alloc (.cells #[.slice none 0 0, .slice none 0 0] 33) = W3 at hb3 hl3
      have hl4 : ((W3.setCell ⟨w5.heap.size, 0, none⟩ (.slice Au (ledM m.sizes f.sorts).length cu)).setCell ⟨w5.heap.size, 1, none⟩ (.slice none 0 0)).heap[w5.heap.size]? = some (.cells #[.slice Au (ledM m.sizes f.sorts).length cu, .slice none 0 0] 33 (0, 0)) := blk_set (blk_set hl3 0 (.slice Au (ledM m.sizes f.sorts).length cu)) 1 (.slice none 0 0)
      have hb4 : Below w5.heap.size w5 ((W3.setCell ⟨w5.heap.size, 0, none⟩ (.slice Au (ledM m.sizes f.sorts).length cu)).setCell ⟨w5.heap.size, 1, none⟩ (.slice none 0 0)) := (hb3.setCell (p := ⟨w5.heap.size, 0, none⟩) (Nat.le_refl _) _).setCell (p := ⟨w5.heap.size, 1, none⟩) (Nat.le_refl _) _
      have j0 := blk_cell hl3 0
      have j1 := blk_cell hl3 1
      have jf0 := blk_free hl3 0
      have jf1 := blk_free hl3 1
      simp at j0 j1
      generalize hW4 : (W3.setCell ⟨w5.heap.size, 0, none⟩ (.slice Au (ledM m.sizes f.sorts).length cu)).setCell ⟨w5.heap.size, 1, none⟩ (.slice none 0 0) = W4 at hl4 hb4
      have HL4 := Lib.hid hl4
      have HB4 := Lib.hid hb4
      have hlt4 : w5.heap.size < W4.heap.size := (Array.getElem?_eq_some_iff.1 hl4).1
      have OU4 := Lib.hid (HOU.out.keep hb4)
      have HUL := Lib.hid (show ∀ k, (Value.slice Au (ledM m.sizes f.sorts).length cu).ownBlock = some k → k < W4.heap.size from fun k e => by have := (own_lt HOU.out k e).2; omega)
      have HNE := Lib.hid (show (Value.slice Au (ledM m.sizes f.sorts).length cu).ownBlock ≠ some w5.heap.size from fun e => by have := (own_lt HOU.out _ e).2; omega)
      replace f1 := cell_keep hb4 f1
      clear hb3 hl3 hl4 hb4
      go_wp2
      clear hW3 hW4 j0 j1 jf0 jf1 a0 a1 b0 b1 f0 f1 m0 m1
      go_loopw [11, 32] (fun _ i wr => ∃ k : Nat, ∃ u, k ≤ f.ops.length ∧ i = .int .i64 k ∧ LocR 33 W4 wr w5.heap.size #[.slice Au (ledM m.sizes f.sorts).length cu, u] u (tabsM m (f.ops.take k))) (fun _ i _ => f.ops.length - (intOf i).toNat)
      case atStart => exact ⟨0, _, Nat.zero_le _, rfl, LocR.start HL4.out⟩
      case round =>
        obtain ⟨k, u, hk, rfl, hloc⟩ := hrel
        have HLOC := Lib.hid hloc
        have HBW := Lib.hid (hloc.below HB4.out (Nat.le_refl _))
        obtain ⟨us, hu1, hu2, hu3, hu4⟩ := hloc.own
        have HLT := Lib.hid (show (tabsM m (f.ops.take k)).length = k by rw [tabsM_len, List.length_take]; omega)
        have HTAB := Lib.hid (fun (h : k < f.ops.length) => tabsM_take (m := m) h)
        have HPE := Lib.hid (fun (h : k = f.ops.length) => show tabsM m (f.ops.take k) = tabsM m f.ops by rw [take_all (by omega)])
        generalize tabsM m (f.ops.take k) = ps at HLOC hloc hu1 hu2 hu3 hu4 HLT HTAB HPE
        obtain ⟨Av, cv, rfl, -⟩ := own_reads hu1
        have HU1 := Lib.hid hu1
        have HU2 := Lib.hid hu2
        have HU3 := Lib.hid hu3
        have HU4 := Lib.hid hu4
        have g1 := cell_keep HBW.out HC0.out.2
        have l1 := blk_cell hloc.loc 1
        simp at l1
        have hs3 := hloc.gr.size
        clear hloc hu1 hu2 hu3 hu4
        by_cases hlt : k < f.ops.length
        · have hlt' : (k : Int) < (f.ops.length : Int) := by omega
          obtain ⟨b7, o7, c7, e, hx⟩ := (Hf.out.of.2.keep HBW.out).at_ hlt
          cases e
          have HTK := Lib.hid (HTAB.out hlt)
          have hin := HMF.out.ob _ (List.getElem_mem hlt)
          generalize f.ops[k] = x at hx HTK hin
          obtain ⟨q, rfl⟩ : ∃ q : Nat, x = (q : Int) := ⟨x.toNat, by omega⟩
          have hqm : q < m.tables.length := by rw [HMD.out.tl]; omega
          have hqm' : (q : Int) < (m.tables.length : Int) := by omega
          have hq0 : (0 : Int) ≤ (q : Int) := by omega
          obtain ⟨b8, o8, c8, u8, e, ht, hrt⟩ := (Hm.out.of.2.keep HBW.out).at_ hqm
          cases e
          have htl := table_len HMD.out hqm
          have HGD := Lib.hid (show m.tables.getD (q : Int).toNat [] = m.tables[q] by rw [Int.toNat_natCast, getD_at _ hqm])
          generalize m.tables[q] = tb at ht hrt htl HGD
          have HRT := Lib.hid hrt
          obtain ⟨A8, d8, rfl, -⟩ := hrt.form
          have HL7 := Lib.hid (show ps.length + 1 ≤ maxLen ∧ (ps.length + 1) * 24 ≤ 140737488355328 by rw [HLT.out, maxLen_eq]; omega)
          clear hrt hin
          go_wp2_with fail
          go_region_law (first
            | (go_simp; go_at_call 52; refine (cloneAll _ tb wr.drew (HRT.out.keep (map_drew (Below.refl _ _))) (by omega)).mono ?_; rintro e w6 ⟨u6, rfl, ho6, hb6⟩; obtain ⟨A6, c6, rfl, -⟩ := ho6.reads.form; have HB6 := Lib.hid (map_undrew hb6); have HO6 := Lib.hid (show OInts w6 wr.heap.size (.slice A6 tb.length c6) tb from ho6); clear ho6 hb6; have HOV := Lib.hid ((own_keep HU1.out HB6.out).alloc (.cells #[.slice A6 tb.length c6] 25)); have HN6 := Lib.hid (news_one5 w6 (.slice A6 tb.length c6) 25); have m1 := cell_keep HB6.out l1; have m2 : w5.heap.size < w6.heap.size := World.block_lt_of_cell? w6 _ m1; have HZ6 := Lib.hid (show W4.heap.size ≤ (w6.alloc (.cells #[.slice A6 tb.length c6] 25)).heap.size by have := HB6.out.size; simp; omega))
            | (refine step_append_own rfl (.tmp 37) (.tmp 44) 22 rfl W4.heap.size 25 i1 (.slice none 0 0) 1 24 Try.underlying22 hj hy0 hy1 hy2 rfl (by omega) _ _ _ rfl HOV.out ⟨w6.heap.size, 0, none⟩ 1 1 [.slice A6 tb.length c6] rfl rfl HN6.out (rows_one5 _) HL7.out.1 HL7.out.2 HZ6.out ?_; intro v7 w7 hv7 hg7; obtain ⟨A7, c7, rfl, -⟩ := own_reads hv7; have HP := Lib.hid (HLOC.out.push (cs' := #[.slice Au (ledM m.sizes f.sorts).length cu, .slice A7 (ps.length + 1) c7]) HB6.out HO6.out HU1.out HU2.out HU3.out HU4.out hv7 hg7 1 rfl); clear hv7 hg7; have q1 := blk_cell HP.out.2 1; have q2 := blk_free HP.out.2 1; simp at q1))
          all_goals
            clear l1 m1 m2 q1 q2 g1 hx ht
            go_wp2
            go_roundw
            case rel => exact ⟨k + 1, _, by omega, by go_num, by rw [HTK.out, HGD.out]; exact HP.out.1⟩
            case measure => simp [intOf]; omega
        · have hkn : k = f.ops.length := by omega
          have hlt' : ¬ (k : Int) < (f.ops.length : Int) := by omega
          have HPS := Lib.hid (HPE.out hkn)
          have OU9 := Lib.hid (HLOC.out.other OU4.out HNE.out)
          have OV := Lib.hid HLOC.out.own
          have HL9 := Lib.hid HLOC.out.loc
          replace HB := Lib.hid (sz_keep HB.out HBW.out)
          have HZ9 := Lib.hid (blk_held HZr.out HBW.out)
          have l0 := blk_cell HL9.out 0
          have l1 := blk_cell HL9.out 1
          simp at l0 l1
          have j0 := blk_cell HZ9.out 0
          have j1 := blk_cell HZ9.out 1
          have jf0 := blk_free HZ9.out 0
          have jf1 := blk_free HZ9.out 1
          simp at j0 j1
          clear g1
          go_wp2
          have d1 := blk_set (blk_set HZ9.out 0 (.slice Au (ledM m.sizes f.sorts).length cu)) 1 (.slice Av ps.length cv)
          have n0 := (OU9.out.setLow (b := w.heap.size + 1 + 1 + 1 + 1) (by omega) 0 (.slice Au (ledM m.sizes f.sorts).length cu)).setLow (b := w.heap.size + 1 + 1 + 1 + 1) (by omega) 1 (.slice Av ps.length cv)
          have n1 := (OV.out.setLow' (b := w.heap.size + 1 + 1 + 1 + 1) (by omega) 0 (.slice Au (ledM m.sizes f.sorts).length cu)).setLow' (b := w.heap.size + 1 + 1 + 1 + 1) (by omega) 1 (.slice Av ps.length cv)
          have hbz := ((HB.out.setCell (p := ⟨w.heap.size + 1 + 1 + 1 + 1, 0, none⟩) (by show w.heap.size ≤ w.heap.size + 1 + 1 + 1 + 1; omega) (.slice Au (ledM m.sizes f.sorts).length cu)).setCell (p := ⟨w.heap.size + 1 + 1 + 1 + 1, 1, none⟩) (by show w.heap.size ≤ w.heap.size + 1 + 1 + 1 + 1; omega) (.slice Av ps.length cv))
          generalize (wr.setCell ⟨w.heap.size + 1 + 1 + 1 + 1, 0, none⟩ (.slice Au (ledM m.sizes f.sorts).length cu)).setCell ⟨w.heap.size + 1 + 1 + 1 + 1, 1, none⟩ (.slice Av ps.length cv) = wz at d1 hbz n0 n1 ⊢
          have k0 := blk_cell d1 0
          have k1 := blk_cell d1 1
          simp at k0 k1
          clear j0 j1 jf0 jf1 l0 l1
          refine bodyPost_ret (v := .agg #[.slice Au (ledM m.sizes f.sorts).length cu, .slice Av ps.length cv]) (by simp [results, Try.results16, go_sem, k0, k1]) rfl ?_
          exact ⟨_, rfl, by rw [HE.out]; exact ⟨_, _, rfl, n0.base (by omega), W4.heap.size, by omega, HUL.out, by show ORows _ _ _ (tabsM m f.ops); rw [← HPS.out]; exact n1⟩, hbz⟩
end Go.Proofs.Yteccjnnhihbdhab
