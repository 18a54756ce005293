/- MapSelf, MapThen, MapTerm, MapEq of package impl. -/
import Derived.Test.YticldaddbljleaaKb85e0426
namespace Go.Proofs.Yticldaddbljleaa
section
open Go.RowKit
set_option linter.unusedVariables false
set_option linter.unusedSimpArgs false

theorem blk_keep {wc wd : World} {bx : Nat} {o : Obj} (hz : wc.heap[bx]? = some o) (hb : Below wc.heap.size wc wd) : wd.heap[bx]? = some o := (hb.block _ (Array.getElem?_eq_some_iff.1 hz).1).trans hz
theorem set_other {w : World} {b rb : Nat} (h : b ≠ rb) (i o : Nat) (u : Value) : (w.setCell ⟨rb, i, none⟩ u).cell? ⟨b, o, none⟩ = w.cell? ⟨b, o, none⟩ := World.cell?_of_block (Below.heap_setCell w ⟨rb, i, none⟩ u b h)
theorem nil_map (w : World) (B : Nat) : OMap w B (.agg #[.slice none 0 0, .slice none 0 0]) noMap := ⟨_, _, rfl, OInts.nil _ _, OInts.nil _ _, .inl rfl⟩
theorem nil_eq (w : World) (B : Nat) : OEq w B (.agg #[.slice none 0 0, .slice none 0 0, .slice none 0 0]) noEq := ⟨_, _, _, rfl, OInts.nil _ _, OInts.nil _ _, OInts.nil _ _, .inl rfl, .inl rfl, .inl rfl⟩
theorem below_low {w w' : World} {B : Nat} (h : Below w.heap.size w w') (hB : B ≤ w.heap.size) : Below B w w' := h.mono hB

set_option maxRecDepth 100000 in
theorem countedRow_any (x : Int) (w : World) (h0 : 0 ≤ x) (h1 : x ≤ 1048576) :
    Calls Try.prog 97 #[.int .i64 x] w fun e w' => ∃ u, e = .returned u ∧ OInts w' w.heap.size u (countM x.toNat) ∧ Below w.heap.size w w' := by
  obtain ⟨n, rfl⟩ : ∃ n : Nat, x = (n : Int) := ⟨x.toNat, by omega⟩
  rw [Int.toNat_natCast]
  have hmk := run_make_row' (P := Try.prog) 26 3 (.int .i64 0) 8 Try.underlying26 Try.tinfo_int rfl .i64 .i64 n (by omega) (by omega)
  go_enter Try.func97, Try.ntmps97
  go_wp2
  go_loopw [4, 9] (fun a i wr => ∃ k : Nat, k ≤ n ∧ i = .int .i64 k ∧ Filling w wr (countM n) k) (fun _ i _ => n - (intOf i).toNat)
  case atStart => exact ⟨0, Nat.zero_le _, rfl, Filling.start w _ _ (by rw [countM_len]; simp [madeCells])⟩
  case round =>
    obtain ⟨k, hk, rfl, hf⟩ := hrel
    have HF := Lib.hid hf
    clear hf hmk
    by_cases hlt : k < n
    · have hlt' : (k : Int) < (n : Int) := by omega
      obtain ⟨u, g1, g2⟩ := HF.out.cell (by rw [countM_len]; exact hlt)
      go_wp2
      go_roundw
      case rel => exact ⟨k + 1, by omega, by go_num, HF.out.step (by rw [countM_len]; exact hlt) ((List.getElem?_eq_some_iff.1 (countM_at hlt)).2)⟩
      case measure => simp [intOf]; omega
    · have hlt' : ¬ (k : Int) < (n : Int) := by omega
      go_wp2
      go_ret
      obtain ⟨r1, r2⟩ := HF.out.done (by rw [countM_len]; omega) (by omega)
      have hkn : k = n := by omega
      subst hkn
      exact ⟨_, rfl, r1, r2⟩

set_option maxHeartbeats 3200000 in
set_option maxRecDepth 100000 in
theorem mapThen_any (a b c : MSig) (m n : MMap) (w : World) (va vb vc vm vn : Value) (h1 : RSig w va a) (h2 : RSig w vb b) (h3 : RSig w vc c) (h4 : RMap w vm m) (h5 : RMap w vn n) :
    Calls Try.prog 23 #[va, vb, vc, vm, vn] w fun e w' => ∃ u, e = .returned (.tuple #[u, .bool (thenM a b c m n).2]) ∧ OMap w' w.heap.size u (thenM a b c m n).1 ∧ Below w.heap.size w w' := by
  obtain ⟨Aaa, caa, rfl⟩ := h1.form
  obtain ⟨Aba, cba, rfl⟩ := h2.form
  obtain ⟨Aca, cca, rfl⟩ := h3.form
  obtain ⟨Ama, cma, Amb, cmb, rfl⟩ := h4.form
  obtain ⟨Ana, cna, Anb, cnb, rfl⟩ := h5.form
  have hb : Below w.heap.size w ((((((w.alloc (.cells #[.int .i64 a.sorts, .slice Aaa a.ops.length caa] 25)).alloc (.cells #[.int .i64 b.sorts, .slice Aba b.ops.length cba] 25)).alloc (.cells #[.int .i64 c.sorts, .slice Aca c.ops.length cca] 25)).alloc (.cells #[.slice Ama m.sorts.length cma, .slice Amb m.ops.length cmb] 39)).alloc (.cells #[.slice Ana n.sorts.length cna, .slice Anb n.ops.length cnb] 39)).alloc (.cells #[.slice none 0 0, .slice none 0 0] 39)) := (((((below_alloc _ _).alloc (by simp) _).alloc (by simp; omega) _).alloc (by simp; omega) _).alloc (by simp; omega) _).alloc (by simp; omega) _
  have HB := Lib.hid hb
  have hsz : ((((((w.alloc (.cells #[.int .i64 a.sorts, .slice Aaa a.ops.length caa] 25)).alloc (.cells #[.int .i64 b.sorts, .slice Aba b.ops.length cba] 25)).alloc (.cells #[.int .i64 c.sorts, .slice Aca c.ops.length cca] 25)).alloc (.cells #[.slice Ama m.sorts.length cma, .slice Amb m.ops.length cmb] 39)).alloc (.cells #[.slice Ana n.sorts.length cna, .slice Anb n.ops.length cnb] 39)).alloc (.cells #[.slice none 0 0, .slice none 0 0] 39)).heap.size = w.heap.size + 6 := by simp
  have Ha := Lib.hid (h1.keep hb)
  have a0 := cell_keep (below_alloc (((((w.alloc (.cells #[.int .i64 a.sorts, .slice Aaa a.ops.length caa] 25)).alloc (.cells #[.int .i64 b.sorts, .slice Aba b.ops.length cba] 25)).alloc (.cells #[.int .i64 c.sorts, .slice Aca c.ops.length cca] 25)).alloc (.cells #[.slice Ama m.sorts.length cma, .slice Amb m.ops.length cmb] 39)).alloc (.cells #[.slice Ana n.sorts.length cna, .slice Anb n.ops.length cnb] 39)) (.cells #[.slice none 0 0, .slice none 0 0] 39)) (cell_keep (below_alloc ((((w.alloc (.cells #[.int .i64 a.sorts, .slice Aaa a.ops.length caa] 25)).alloc (.cells #[.int .i64 b.sorts, .slice Aba b.ops.length cba] 25)).alloc (.cells #[.int .i64 c.sorts, .slice Aca c.ops.length cca] 25)).alloc (.cells #[.slice Ama m.sorts.length cma, .slice Amb m.ops.length cmb] 39)) (.cells #[.slice Ana n.sorts.length cna, .slice Anb n.ops.length cnb] 39)) (cell_keep (below_alloc (((w.alloc (.cells #[.int .i64 a.sorts, .slice Aaa a.ops.length caa] 25)).alloc (.cells #[.int .i64 b.sorts, .slice Aba b.ops.length cba] 25)).alloc (.cells #[.int .i64 c.sorts, .slice Aca c.ops.length cca] 25)) (.cells #[.slice Ama m.sorts.length cma, .slice Amb m.ops.length cmb] 39)) (cell_keep (below_alloc ((w.alloc (.cells #[.int .i64 a.sorts, .slice Aaa a.ops.length caa] 25)).alloc (.cells #[.int .i64 b.sorts, .slice Aba b.ops.length cba] 25)) (.cells #[.int .i64 c.sorts, .slice Aca c.ops.length cca] 25)) (cell_keep (below_alloc (w.alloc (.cells #[.int .i64 a.sorts, .slice Aaa a.ops.length caa] 25)) (.cells #[.int .i64 b.sorts, .slice Aba b.ops.length cba] 25)) (bx_at (w) #[.int .i64 a.sorts, .slice Aaa a.ops.length caa] 25 (k := 0) rfl)))))
  have a1 := cell_keep (below_alloc (((((w.alloc (.cells #[.int .i64 a.sorts, .slice Aaa a.ops.length caa] 25)).alloc (.cells #[.int .i64 b.sorts, .slice Aba b.ops.length cba] 25)).alloc (.cells #[.int .i64 c.sorts, .slice Aca c.ops.length cca] 25)).alloc (.cells #[.slice Ama m.sorts.length cma, .slice Amb m.ops.length cmb] 39)).alloc (.cells #[.slice Ana n.sorts.length cna, .slice Anb n.ops.length cnb] 39)) (.cells #[.slice none 0 0, .slice none 0 0] 39)) (cell_keep (below_alloc ((((w.alloc (.cells #[.int .i64 a.sorts, .slice Aaa a.ops.length caa] 25)).alloc (.cells #[.int .i64 b.sorts, .slice Aba b.ops.length cba] 25)).alloc (.cells #[.int .i64 c.sorts, .slice Aca c.ops.length cca] 25)).alloc (.cells #[.slice Ama m.sorts.length cma, .slice Amb m.ops.length cmb] 39)) (.cells #[.slice Ana n.sorts.length cna, .slice Anb n.ops.length cnb] 39)) (cell_keep (below_alloc (((w.alloc (.cells #[.int .i64 a.sorts, .slice Aaa a.ops.length caa] 25)).alloc (.cells #[.int .i64 b.sorts, .slice Aba b.ops.length cba] 25)).alloc (.cells #[.int .i64 c.sorts, .slice Aca c.ops.length cca] 25)) (.cells #[.slice Ama m.sorts.length cma, .slice Amb m.ops.length cmb] 39)) (cell_keep (below_alloc ((w.alloc (.cells #[.int .i64 a.sorts, .slice Aaa a.ops.length caa] 25)).alloc (.cells #[.int .i64 b.sorts, .slice Aba b.ops.length cba] 25)) (.cells #[.int .i64 c.sorts, .slice Aca c.ops.length cca] 25)) (cell_keep (below_alloc (w.alloc (.cells #[.int .i64 a.sorts, .slice Aaa a.ops.length caa] 25)) (.cells #[.int .i64 b.sorts, .slice Aba b.ops.length cba] 25)) (bx_at (w) #[.int .i64 a.sorts, .slice Aaa a.ops.length caa] 25 (k := 1) rfl)))))
  have Hb := Lib.hid (h2.keep hb)
  have b0 := cell_keep (below_alloc (((((w.alloc (.cells #[.int .i64 a.sorts, .slice Aaa a.ops.length caa] 25)).alloc (.cells #[.int .i64 b.sorts, .slice Aba b.ops.length cba] 25)).alloc (.cells #[.int .i64 c.sorts, .slice Aca c.ops.length cca] 25)).alloc (.cells #[.slice Ama m.sorts.length cma, .slice Amb m.ops.length cmb] 39)).alloc (.cells #[.slice Ana n.sorts.length cna, .slice Anb n.ops.length cnb] 39)) (.cells #[.slice none 0 0, .slice none 0 0] 39)) (cell_keep (below_alloc ((((w.alloc (.cells #[.int .i64 a.sorts, .slice Aaa a.ops.length caa] 25)).alloc (.cells #[.int .i64 b.sorts, .slice Aba b.ops.length cba] 25)).alloc (.cells #[.int .i64 c.sorts, .slice Aca c.ops.length cca] 25)).alloc (.cells #[.slice Ama m.sorts.length cma, .slice Amb m.ops.length cmb] 39)) (.cells #[.slice Ana n.sorts.length cna, .slice Anb n.ops.length cnb] 39)) (cell_keep (below_alloc (((w.alloc (.cells #[.int .i64 a.sorts, .slice Aaa a.ops.length caa] 25)).alloc (.cells #[.int .i64 b.sorts, .slice Aba b.ops.length cba] 25)).alloc (.cells #[.int .i64 c.sorts, .slice Aca c.ops.length cca] 25)) (.cells #[.slice Ama m.sorts.length cma, .slice Amb m.ops.length cmb] 39)) (cell_keep (below_alloc ((w.alloc (.cells #[.int .i64 a.sorts, .slice Aaa a.ops.length caa] 25)).alloc (.cells #[.int .i64 b.sorts, .slice Aba b.ops.length cba] 25)) (.cells #[.int .i64 c.sorts, .slice Aca c.ops.length cca] 25)) (bx_at (w.alloc (.cells #[.int .i64 a.sorts, .slice Aaa a.ops.length caa] 25)) #[.int .i64 b.sorts, .slice Aba b.ops.length cba] 25 (k := 0) rfl))))
  have b1 := cell_keep (below_alloc (((((w.alloc (.cells #[.int .i64 a.sorts, .slice Aaa a.ops.length caa] 25)).alloc (.cells #[.int .i64 b.sorts, .slice Aba b.ops.length cba] 25)).alloc (.cells #[.int .i64 c.sorts, .slice Aca c.ops.length cca] 25)).alloc (.cells #[.slice Ama m.sorts.length cma, .slice Amb m.ops.length cmb] 39)).alloc (.cells #[.slice Ana n.sorts.length cna, .slice Anb n.ops.length cnb] 39)) (.cells #[.slice none 0 0, .slice none 0 0] 39)) (cell_keep (below_alloc ((((w.alloc (.cells #[.int .i64 a.sorts, .slice Aaa a.ops.length caa] 25)).alloc (.cells #[.int .i64 b.sorts, .slice Aba b.ops.length cba] 25)).alloc (.cells #[.int .i64 c.sorts, .slice Aca c.ops.length cca] 25)).alloc (.cells #[.slice Ama m.sorts.length cma, .slice Amb m.ops.length cmb] 39)) (.cells #[.slice Ana n.sorts.length cna, .slice Anb n.ops.length cnb] 39)) (cell_keep (below_alloc (((w.alloc (.cells #[.int .i64 a.sorts, .slice Aaa a.ops.length caa] 25)).alloc (.cells #[.int .i64 b.sorts, .slice Aba b.ops.length cba] 25)).alloc (.cells #[.int .i64 c.sorts, .slice Aca c.ops.length cca] 25)) (.cells #[.slice Ama m.sorts.length cma, .slice Amb m.ops.length cmb] 39)) (cell_keep (below_alloc ((w.alloc (.cells #[.int .i64 a.sorts, .slice Aaa a.ops.length caa] 25)).alloc (.cells #[.int .i64 b.sorts, .slice Aba b.ops.length cba] 25)) (.cells #[.int .i64 c.sorts, .slice Aca c.ops.length cca] 25)) (bx_at (w.alloc (.cells #[.int .i64 a.sorts, .slice Aaa a.ops.length caa] 25)) #[.int .i64 b.sorts, .slice Aba b.ops.length cba] 25 (k := 1) rfl))))
  have Hc := Lib.hid (h3.keep hb)
  have c0 := cell_keep (below_alloc (((((w.alloc (.cells #[.int .i64 a.sorts, .slice Aaa a.ops.length caa] 25)).alloc (.cells #[.int .i64 b.sorts, .slice Aba b.ops.length cba] 25)).alloc (.cells #[.int .i64 c.sorts, .slice Aca c.ops.length cca] 25)).alloc (.cells #[.slice Ama m.sorts.length cma, .slice Amb m.ops.length cmb] 39)).alloc (.cells #[.slice Ana n.sorts.length cna, .slice Anb n.ops.length cnb] 39)) (.cells #[.slice none 0 0, .slice none 0 0] 39)) (cell_keep (below_alloc ((((w.alloc (.cells #[.int .i64 a.sorts, .slice Aaa a.ops.length caa] 25)).alloc (.cells #[.int .i64 b.sorts, .slice Aba b.ops.length cba] 25)).alloc (.cells #[.int .i64 c.sorts, .slice Aca c.ops.length cca] 25)).alloc (.cells #[.slice Ama m.sorts.length cma, .slice Amb m.ops.length cmb] 39)) (.cells #[.slice Ana n.sorts.length cna, .slice Anb n.ops.length cnb] 39)) (cell_keep (below_alloc (((w.alloc (.cells #[.int .i64 a.sorts, .slice Aaa a.ops.length caa] 25)).alloc (.cells #[.int .i64 b.sorts, .slice Aba b.ops.length cba] 25)).alloc (.cells #[.int .i64 c.sorts, .slice Aca c.ops.length cca] 25)) (.cells #[.slice Ama m.sorts.length cma, .slice Amb m.ops.length cmb] 39)) (bx_at ((w.alloc (.cells #[.int .i64 a.sorts, .slice Aaa a.ops.length caa] 25)).alloc (.cells #[.int .i64 b.sorts, .slice Aba b.ops.length cba] 25)) #[.int .i64 c.sorts, .slice Aca c.ops.length cca] 25 (k := 0) rfl)))
  have c1 := cell_keep (below_alloc (((((w.alloc (.cells #[.int .i64 a.sorts, .slice Aaa a.ops.length caa] 25)).alloc (.cells #[.int .i64 b.sorts, .slice Aba b.ops.length cba] 25)).alloc (.cells #[.int .i64 c.sorts, .slice Aca c.ops.length cca] 25)).alloc (.cells #[.slice Ama m.sorts.length cma, .slice Amb m.ops.length cmb] 39)).alloc (.cells #[.slice Ana n.sorts.length cna, .slice Anb n.ops.length cnb] 39)) (.cells #[.slice none 0 0, .slice none 0 0] 39)) (cell_keep (below_alloc ((((w.alloc (.cells #[.int .i64 a.sorts, .slice Aaa a.ops.length caa] 25)).alloc (.cells #[.int .i64 b.sorts, .slice Aba b.ops.length cba] 25)).alloc (.cells #[.int .i64 c.sorts, .slice Aca c.ops.length cca] 25)).alloc (.cells #[.slice Ama m.sorts.length cma, .slice Amb m.ops.length cmb] 39)) (.cells #[.slice Ana n.sorts.length cna, .slice Anb n.ops.length cnb] 39)) (cell_keep (below_alloc (((w.alloc (.cells #[.int .i64 a.sorts, .slice Aaa a.ops.length caa] 25)).alloc (.cells #[.int .i64 b.sorts, .slice Aba b.ops.length cba] 25)).alloc (.cells #[.int .i64 c.sorts, .slice Aca c.ops.length cca] 25)) (.cells #[.slice Ama m.sorts.length cma, .slice Amb m.ops.length cmb] 39)) (bx_at ((w.alloc (.cells #[.int .i64 a.sorts, .slice Aaa a.ops.length caa] 25)).alloc (.cells #[.int .i64 b.sorts, .slice Aba b.ops.length cba] 25)) #[.int .i64 c.sorts, .slice Aca c.ops.length cca] 25 (k := 1) rfl)))
  have Hm := Lib.hid (h4.keep hb)
  have m0 := cell_keep (below_alloc (((((w.alloc (.cells #[.int .i64 a.sorts, .slice Aaa a.ops.length caa] 25)).alloc (.cells #[.int .i64 b.sorts, .slice Aba b.ops.length cba] 25)).alloc (.cells #[.int .i64 c.sorts, .slice Aca c.ops.length cca] 25)).alloc (.cells #[.slice Ama m.sorts.length cma, .slice Amb m.ops.length cmb] 39)).alloc (.cells #[.slice Ana n.sorts.length cna, .slice Anb n.ops.length cnb] 39)) (.cells #[.slice none 0 0, .slice none 0 0] 39)) (cell_keep (below_alloc ((((w.alloc (.cells #[.int .i64 a.sorts, .slice Aaa a.ops.length caa] 25)).alloc (.cells #[.int .i64 b.sorts, .slice Aba b.ops.length cba] 25)).alloc (.cells #[.int .i64 c.sorts, .slice Aca c.ops.length cca] 25)).alloc (.cells #[.slice Ama m.sorts.length cma, .slice Amb m.ops.length cmb] 39)) (.cells #[.slice Ana n.sorts.length cna, .slice Anb n.ops.length cnb] 39)) (bx_at (((w.alloc (.cells #[.int .i64 a.sorts, .slice Aaa a.ops.length caa] 25)).alloc (.cells #[.int .i64 b.sorts, .slice Aba b.ops.length cba] 25)).alloc (.cells #[.int .i64 c.sorts, .slice Aca c.ops.length cca] 25)) #[.slice Ama m.sorts.length cma, .slice Amb m.ops.length cmb] 39 (k := 0) rfl))
  have m1 := cell_keep (below_alloc (((((w.alloc (.cells #[.int .i64 a.sorts, .slice Aaa a.ops.length caa] 25)).alloc (.cells #[.int .i64 b.sorts, .slice Aba b.ops.length cba] 25)).alloc (.cells #[.int .i64 c.sorts, .slice Aca c.ops.length cca] 25)).alloc (.cells #[.slice Ama m.sorts.length cma, .slice Amb m.ops.length cmb] 39)).alloc (.cells #[.slice Ana n.sorts.length cna, .slice Anb n.ops.length cnb] 39)) (.cells #[.slice none 0 0, .slice none 0 0] 39)) (cell_keep (below_alloc ((((w.alloc (.cells #[.int .i64 a.sorts, .slice Aaa a.ops.length caa] 25)).alloc (.cells #[.int .i64 b.sorts, .slice Aba b.ops.length cba] 25)).alloc (.cells #[.int .i64 c.sorts, .slice Aca c.ops.length cca] 25)).alloc (.cells #[.slice Ama m.sorts.length cma, .slice Amb m.ops.length cmb] 39)) (.cells #[.slice Ana n.sorts.length cna, .slice Anb n.ops.length cnb] 39)) (bx_at (((w.alloc (.cells #[.int .i64 a.sorts, .slice Aaa a.ops.length caa] 25)).alloc (.cells #[.int .i64 b.sorts, .slice Aba b.ops.length cba] 25)).alloc (.cells #[.int .i64 c.sorts, .slice Aca c.ops.length cca] 25)) #[.slice Ama m.sorts.length cma, .slice Amb m.ops.length cmb] 39 (k := 1) rfl))
  have Hn := Lib.hid (h5.keep hb)
  have n0 := cell_keep (below_alloc (((((w.alloc (.cells #[.int .i64 a.sorts, .slice Aaa a.ops.length caa] 25)).alloc (.cells #[.int .i64 b.sorts, .slice Aba b.ops.length cba] 25)).alloc (.cells #[.int .i64 c.sorts, .slice Aca c.ops.length cca] 25)).alloc (.cells #[.slice Ama m.sorts.length cma, .slice Amb m.ops.length cmb] 39)).alloc (.cells #[.slice Ana n.sorts.length cna, .slice Anb n.ops.length cnb] 39)) (.cells #[.slice none 0 0, .slice none 0 0] 39)) (bx_at ((((w.alloc (.cells #[.int .i64 a.sorts, .slice Aaa a.ops.length caa] 25)).alloc (.cells #[.int .i64 b.sorts, .slice Aba b.ops.length cba] 25)).alloc (.cells #[.int .i64 c.sorts, .slice Aca c.ops.length cca] 25)).alloc (.cells #[.slice Ama m.sorts.length cma, .slice Amb m.ops.length cmb] 39)) #[.slice Ana n.sorts.length cna, .slice Anb n.ops.length cnb] 39 (k := 0) rfl)
  have n1 := cell_keep (below_alloc (((((w.alloc (.cells #[.int .i64 a.sorts, .slice Aaa a.ops.length caa] 25)).alloc (.cells #[.int .i64 b.sorts, .slice Aba b.ops.length cba] 25)).alloc (.cells #[.int .i64 c.sorts, .slice Aca c.ops.length cca] 25)).alloc (.cells #[.slice Ama m.sorts.length cma, .slice Amb m.ops.length cmb] 39)).alloc (.cells #[.slice Ana n.sorts.length cna, .slice Anb n.ops.length cnb] 39)) (.cells #[.slice none 0 0, .slice none 0 0] 39)) (bx_at ((((w.alloc (.cells #[.int .i64 a.sorts, .slice Aaa a.ops.length caa] 25)).alloc (.cells #[.int .i64 b.sorts, .slice Aba b.ops.length cba] 25)).alloc (.cells #[.int .i64 c.sorts, .slice Aca c.ops.length cca] 25)).alloc (.cells #[.slice Ama m.sorts.length cma, .slice Amb m.ops.length cmb] 39)) #[.slice Ana n.sorts.length cna, .slice Anb n.ops.length cnb] 39 (k := 1) rfl)
  have HZr := Lib.hid (show ((((((w.alloc (.cells #[.int .i64 a.sorts, .slice Aaa a.ops.length caa] 25)).alloc (.cells #[.int .i64 b.sorts, .slice Aba b.ops.length cba] 25)).alloc (.cells #[.int .i64 c.sorts, .slice Aca c.ops.length cca] 25)).alloc (.cells #[.slice Ama m.sorts.length cma, .slice Amb m.ops.length cmb] 39)).alloc (.cells #[.slice Ana n.sorts.length cna, .slice Anb n.ops.length cnb] 39)).alloc (.cells #[.slice none 0 0, .slice none 0 0] 39)).heap[w.heap.size + 1 + 1 + 1 + 1 + 1]? = some (.cells #[.slice none 0 0, .slice none 0 0] 39 (0, 0)) from (congrArg (fun i => ((((((w.alloc (.cells #[.int .i64 a.sorts, .slice Aaa a.ops.length caa] 25)).alloc (.cells #[.int .i64 b.sorts, .slice Aba b.ops.length cba] 25)).alloc (.cells #[.int .i64 c.sorts, .slice Aca c.ops.length cca] 25)).alloc (.cells #[.slice Ama m.sorts.length cma, .slice Amb m.ops.length cmb] 39)).alloc (.cells #[.slice Ana n.sorts.length cna, .slice Anb n.ops.length cnb] 39)).alloc (.cells #[.slice none 0 0, .slice none 0 0] 39)).heap[i]?) (by simp)).trans (heap_alloc_new (((((w.alloc (.cells #[.int .i64 a.sorts, .slice Aaa a.ops.length caa] 25)).alloc (.cells #[.int .i64 b.sorts, .slice Aba b.ops.length cba] 25)).alloc (.cells #[.int .i64 c.sorts, .slice Aca c.ops.length cca] 25)).alloc (.cells #[.slice Ama m.sorts.length cma, .slice Amb m.ops.length cmb] 39)).alloc (.cells #[.slice Ana n.sorts.length cna, .slice Anb n.ops.length cnb] 39)) _))
  simp only [World.size_alloc] at b0 b1 c0 c1 m0 m1 n0 n1
  generalize hW : (((((w.alloc (.cells #[.int .i64 a.sorts, .slice Aaa a.ops.length caa] 25)).alloc (.cells #[.int .i64 b.sorts, .slice Aba b.ops.length cba] 25)).alloc (.cells #[.int .i64 c.sorts, .slice Aca c.ops.length cca] 25)).alloc (.cells #[.slice Ama m.sorts.length cma, .slice Amb m.ops.length cmb] 39)).alloc (.cells #[.slice Ana n.sorts.length cna, .slice Anb n.ops.length cnb] 39)).alloc (.cells #[.slice none 0 0, .slice none 0 0] 39) = W at HB hsz Ha a0 a1 Hb b0 b1 Hc c0 c1 Hm m0 m1 Hn n0 n1 HZr
  clear hb h1 h2 h3 h4 h5
  have hl1 := Hm.out.of.1.len
  have hl2 := Hm.out.of.2.len
  have hl3 := Hn.out.of.1.len
  have hl4 := Hn.out.of.2.len
  cases hm : mapOkB a b m with
  | false =>
    have HM := Lib.hid hm
    have HE := Lib.hid (show thenM a b c m n = (noMap, false) by unfold thenM; rw [hm]; rfl)
    clear hm
    go_enter Try.func23, Try.ntmps23
    go_wp2_with fail
    clear hW
    refine (mapOk_any a b m _ _ _ _ Ha.out Hb.out Hm.out).mono ?_
    rw [HM.out]
    rintro e w1 ⟨rfl, hb⟩
    replace HB := Lib.hid (sz_keep HB.out hb)
    replace HZr := Lib.hid (blk_keep HZr.out hb)
    clear hb
    clear a0 a1 b0 b1 c0 c1 m0 m1 n0 n1
    have j0 := blk_cell HZr.out 0
    have j1 := blk_cell HZr.out 1
    have jf0 := blk_free HZr.out 0
    have jf1 := blk_free HZr.out 1
    simp at j0 j1
    go_wp2
    have d1 := blk_set (blk_set (HZr.out) 0 (.slice none 0 0)) 1 (.slice none 0 0)
    have hbz := ((HB.out.setCell (p := ⟨w.heap.size + 1 + 1 + 1 + 1 + 1, 0, none⟩) (by show w.heap.size ≤ w.heap.size + 1 + 1 + 1 + 1 + 1; omega) (.slice none 0 0)).setCell (p := ⟨w.heap.size + 1 + 1 + 1 + 1 + 1, 1, none⟩) (by show w.heap.size ≤ w.heap.size + 1 + 1 + 1 + 1 + 1; omega) (.slice none 0 0))
    generalize (w1.setCell ⟨w.heap.size + 1 + 1 + 1 + 1 + 1, 0, none⟩ (.slice none 0 0)).setCell ⟨w.heap.size + 1 + 1 + 1 + 1 + 1, 1, none⟩ (.slice none 0 0) = wz at d1 hbz  ⊢
    have k0 := blk_cell d1 0
    have k1 := blk_cell d1 1
    simp at k0 k1
    clear j0 j1 jf0 jf1
    refine bodyPost_ret (v := .tuple #[.agg #[.slice none 0 0, .slice none 0 0], .bool false]) (by simp [results, Try.results23, go_sem, k0, k1]) rfl ?_
    exact ⟨_, by rw [HE.out], by rw [HE.out]; exact nil_map _ _, hbz⟩
  | true =>
    have HM := Lib.hid hm
    clear hm
    cases hn : mapOkB b c n with
    | false =>
      have HN := Lib.hid hn
      have HE := Lib.hid (show thenM a b c m n = (noMap, false) by unfold thenM; rw [hn, Bool.and_false]; rfl)
      clear hn
      go_enter Try.func23, Try.ntmps23
      go_wp2_with fail
      clear hW
      refine (mapOk_any a b m _ _ _ _ Ha.out Hb.out Hm.out).mono ?_
      rw [HM.out]
      rintro e w1 ⟨rfl, hb⟩
      clear a0 a1 m0 m1
      replace HB := Lib.hid (sz_keep HB.out hb)
      replace b0 := cell_keep hb b0
      replace b1 := cell_keep hb b1
      replace c0 := cell_keep hb c0
      replace c1 := cell_keep hb c1
      replace n0 := cell_keep hb n0
      replace n1 := cell_keep hb n1
      replace Hb := Lib.hid (Hb.out.keep hb)
      replace Hc := Lib.hid (Hc.out.keep hb)
      replace Hn := Lib.hid (Hn.out.keep hb)
      replace HZr := Lib.hid (blk_keep HZr.out hb)
      clear hb
      go_wp2_with fail
      refine (mapOk_any b c n _ _ _ _ Hb.out Hc.out Hn.out).mono ?_
      rw [HN.out]
      rintro e w2 ⟨rfl, hb⟩
      replace HB := Lib.hid (sz_keep HB.out hb)
      replace HZr := Lib.hid (blk_keep HZr.out hb)
      clear hb
      clear b0 b1 c0 c1 n0 n1
      have j0 := blk_cell HZr.out 0
      have j1 := blk_cell HZr.out 1
      have jf0 := blk_free HZr.out 0
      have jf1 := blk_free HZr.out 1
      simp at j0 j1
      go_wp2
      have d1 := blk_set (blk_set (HZr.out) 0 (.slice none 0 0)) 1 (.slice none 0 0)
      have hbz := ((HB.out.setCell (p := ⟨w.heap.size + 1 + 1 + 1 + 1 + 1, 0, none⟩) (by show w.heap.size ≤ w.heap.size + 1 + 1 + 1 + 1 + 1; omega) (.slice none 0 0)).setCell (p := ⟨w.heap.size + 1 + 1 + 1 + 1 + 1, 1, none⟩) (by show w.heap.size ≤ w.heap.size + 1 + 1 + 1 + 1 + 1; omega) (.slice none 0 0))
      generalize (w2.setCell ⟨w.heap.size + 1 + 1 + 1 + 1 + 1, 0, none⟩ (.slice none 0 0)).setCell ⟨w.heap.size + 1 + 1 + 1 + 1 + 1, 1, none⟩ (.slice none 0 0) = wz at d1 hbz  ⊢
      have k0 := blk_cell d1 0
      have k1 := blk_cell d1 1
      simp at k0 k1
      clear j0 j1 jf0 jf1
      refine bodyPost_ret (v := .tuple #[.agg #[.slice none 0 0, .slice none 0 0], .bool false]) (by simp [results, Try.results23, go_sem, k0, k1]) rfl ?_
      exact ⟨_, by rw [HE.out], by rw [HE.out]; exact nil_map _ _, hbz⟩
    | true =>
      have HN := Lib.hid hn
      have HE := Lib.hid (show thenM a b c m n = (⟨ledM n.sorts m.sorts, ledM n.ops m.ops⟩, true) by unfold thenM; rw [HM.out, hn]; rfl)
      have HF := Lib.hid (mapOk_facts HM.out)
      have HG := Lib.hid (mapOk_facts hn)
      have hsm := valid_sorts HF.out.va
      have hsn := valid_sorts HG.out.va
      have hml := HF.out.sl
      have hmo := HF.out.ol
      have hb1 : m.sorts.length ≤ 3 := by omega
      have hb2 : m.ops.length ≤ 6 := by omega
      clear hn hsm hsn hml hmo
      go_enter Try.func23, Try.ntmps23
      go_wp2_with fail
      clear hW
      refine (mapOk_any a b m _ _ _ _ Ha.out Hb.out Hm.out).mono ?_
      rw [HM.out]
      rintro e w1 ⟨rfl, hb⟩
      clear a0 a1
      replace HB := Lib.hid (sz_keep HB.out hb)
      replace b0 := cell_keep hb b0
      replace b1 := cell_keep hb b1
      replace c0 := cell_keep hb c0
      replace c1 := cell_keep hb c1
      replace m0 := cell_keep hb m0
      replace m1 := cell_keep hb m1
      replace n0 := cell_keep hb n0
      replace n1 := cell_keep hb n1
      replace Hb := Lib.hid (Hb.out.keep hb)
      replace Hc := Lib.hid (Hc.out.keep hb)
      replace Hm := Lib.hid (Hm.out.keep hb)
      replace Hn := Lib.hid (Hn.out.keep hb)
      replace HZr := Lib.hid (blk_keep HZr.out hb)
      clear hb
      go_wp2_with fail
      refine (mapOk_any b c n _ _ _ _ Hb.out Hc.out Hn.out).mono ?_
      rw [HN.out]
      rintro e w2 ⟨rfl, hb⟩
      clear b0 b1 c0 c1
      replace HB := Lib.hid (sz_keep HB.out hb)
      replace m0 := cell_keep hb m0
      replace m1 := cell_keep hb m1
      replace n0 := cell_keep hb n0
      replace n1 := cell_keep hb n1
      replace Hm := Lib.hid (Hm.out.keep hb)
      replace Hn := Lib.hid (Hn.out.keep hb)
      replace HZr := Lib.hid (blk_keep HZr.out hb)
      clear hb
      go_wp2_with fail
      refine wp_region_held_drew (S := (fun w' => w'.cell? ⟨w.heap.size + 1 + 1 + 1, 0, none⟩ = some (.slice Ama m.sorts.length cma) ∧ w'.cell? ⟨w.heap.size + 1 + 1 + 1, 1, none⟩ = some (.slice Amb m.ops.length cmb) ∧ w'.cell? ⟨w.heap.size + 1 + 1 + 1 + 1, 0, none⟩ = some (.slice Ana n.sorts.length cna) ∧ w'.cell? ⟨w.heap.size + 1 + 1 + 1 + 1, 1, none⟩ = some (.slice Anb n.ops.length cnb))) (by kernel_rfl) ?_ (fun hHeld => ?_)
      · exact ⟨m0, m1, n0, n1⟩
      refine wpAnyH_take (i := 0) (oi := _) (v := ?_) rfl (by kernel_rfl) (by kernel_rfl) (by kernel_rfl) (fun _ _ _ h => h) (Or.inl ⟨by rfl, ?_⟩) (by assumption) ?_
      rotate_left
      · first | (intro w' hSw; (try dsimp only at hSw); go_simp; done) | (intro w' hSw; (try dsimp only at hSw); go_simp; with_reducible rfl)
      try simp only [Act.put, List.getElem_toArray, List.getElem_cons_zero, List.getElem_cons_succ, List.setIfInBounds_toArray, List.set_cons_zero, List.set_cons_succ]
      refine wpAnyH_take (i := 1) (oi := _) (v := ?_) rfl (by kernel_rfl) (by kernel_rfl) (by kernel_rfl) (fun _ _ _ h => h) (Or.inl ⟨by rfl, ?_⟩) (by assumption) ?_
      rotate_left
      · first | (intro w' hSw; (try dsimp only at hSw); go_simp; done) | (intro w' hSw; (try dsimp only at hSw); go_simp; with_reducible rfl)
      try simp only [Act.put, List.getElem_toArray, List.getElem_cons_zero, List.getElem_cons_succ, List.setIfInBounds_toArray, List.set_cons_zero, List.set_cons_succ]
      refine wpAnyH_take (i := 2) (oi := _) (v := ?_) rfl (by kernel_rfl) (by kernel_rfl) (by kernel_rfl) (fun _ _ _ h => h) (Or.inl ⟨by rfl, ?_⟩) (by assumption) ?_
      rotate_left
      · first | (intro w' hSw; (try dsimp only at hSw); go_simp; done) | (intro w' hSw; (try dsimp only at hSw); go_simp; with_reducible rfl)
      try simp only [Act.put, List.getElem_toArray, List.getElem_cons_zero, List.getElem_cons_succ, List.setIfInBounds_toArray, List.set_cons_zero, List.set_cons_succ]
      refine wpAnyH_take (i := 3) (oi := _) (v := ?_) rfl (by kernel_rfl) (by kernel_rfl) (by kernel_rfl) (fun _ _ _ h => h) (Or.inl ⟨by rfl, ?_⟩) (by assumption) ?_
      rotate_left
      · first | (intro w' hSw; (try dsimp only at hSw); go_simp; done) | (intro w' hSw; (try dsimp only at hSw); go_simp; with_reducible rfl)
      try simp only [Act.put, List.getElem_toArray, List.getElem_cons_zero, List.getElem_cons_succ, List.setIfInBounds_toArray, List.set_cons_zero, List.set_cons_succ]
      refine wpAnyH_take (i := 5) (oi := _) (v := ?_) rfl (by kernel_rfl) (by kernel_rfl) (by kernel_rfl) (fun _ _ _ h => h) (Or.inl ⟨by rfl, ?_⟩) (by assumption) ?_
      rotate_left
      · first | (intro w' hSw; (try dsimp only at hSw); go_simp; done) | (intro w' hSw; (try dsimp only at hSw); go_simp; with_reducible rfl)
      try simp only [Act.put, List.getElem_toArray, List.getElem_cons_zero, List.getElem_cons_succ, List.setIfInBounds_toArray, List.set_cons_zero, List.set_cons_succ]
      refine wpAnyH_take (i := 6) (oi := _) (v := ?_) rfl (by kernel_rfl) (by kernel_rfl) (by kernel_rfl) (fun _ _ _ h => h) (Or.inl ⟨by rfl, ?_⟩) (by assumption) ?_
      rotate_left
      · first | (intro w' hSw; (try dsimp only at hSw); go_simp; done) | (intro w' hSw; (try dsimp only at hSw); go_simp; with_reducible rfl)
      try simp only [Act.put, List.getElem_toArray, List.getElem_cons_zero, List.getElem_cons_succ, List.setIfInBounds_toArray, List.set_cons_zero, List.set_cons_succ]
      refine wpAnyH_take (i := 7) (oi := _) (v := ?_) rfl (by kernel_rfl) (by kernel_rfl) (by kernel_rfl) (fun _ _ _ h => h) (Or.inl ⟨by rfl, ?_⟩) (by assumption) ?_
      rotate_left
      · first | (intro w' hSw; (try dsimp only at hSw); go_simp; done) | (intro w' hSw; (try dsimp only at hSw); go_simp; with_reducible rfl)
      try simp only [Act.put, List.getElem_toArray, List.getElem_cons_zero, List.getElem_cons_succ, List.setIfInBounds_toArray, List.set_cons_zero, List.set_cons_succ]
      refine wpAnyH_take (i := 8) (oi := _) (v := ?_) rfl (by kernel_rfl) (by kernel_rfl) (by kernel_rfl) (fun _ _ _ h => h) (Or.inl ⟨by rfl, ?_⟩) (by assumption) ?_
      rotate_left
      · first | (intro w' hSw; (try dsimp only at hSw); go_simp; done) | (intro w' hSw; (try dsimp only at hSw); go_simp; with_reducible rfl)
      try simp only [Act.put, List.getElem_toArray, List.getElem_cons_zero, List.getElem_cons_succ, List.setIfInBounds_toArray, List.set_cons_zero, List.set_cons_succ]
      refine wpAnyH_ready (rs := [4]) (by kernel_rfl) (by simp) ?_
      refine AllReadyH.cons (o := _) rfl (fun K hK => ?_) AllReadyH.nil
      go_simp
      refine (ledRow_any _ _ m.sorts n.sorts w2.drew (Hm.out.of.1.keep (map_drew (Below.refl _ _))) (Hn.out.of.1.keep (map_drew (Below.refl _ _))) (HG.out.sorts_in HF.out.sb) (by omega)).mono ?_
      rintro e w3 ⟨u3, rfl, ho3, hb3⟩
      have hx3 := map_undrew hb3
      obtain ⟨A3, c3, rfl, -⟩ := ho3.reads.form
      have O3_w3 := Lib.hid (show OInts w3 w2.heap.size _ _ from ho3)
      have HX3 := Lib.hid (hx3)
      have p0 := cell_keep hx3 m0
      have p1 := cell_keep hx3 m1
      have p2 := cell_keep hx3 n0
      have p3 := cell_keep hx3 n1
      have HQ3 := Lib.hid hx3
      clear ho3 hb3
      go_wp2_with fail
      refine hK.out _ _ ?_ (fun hHeld => ?_)
      · exact ⟨p0, p1, p2, p3⟩
      clear hK K
      try simp only [Act.put, List.getElem_toArray, List.getElem_cons_zero, List.getElem_cons_succ, List.setIfInBounds_toArray, List.set_cons_zero, List.set_cons_succ]
      refine wpAnyH_ready (rs := [9]) (by kernel_rfl) (by simp) ?_
      refine AllReadyH.cons (o := _) rfl (fun K hK => ?_) AllReadyH.nil
      go_simp
      refine (ledRow_any _ _ m.ops n.ops w3 (Hm.out.of.2.keep HX3.out) (Hn.out.of.2.keep HX3.out) (fun x hx _ => by have := HF.out.ob x hx; rw [HG.out.ol]; exact this) (by omega)).mono ?_
      rintro e w4 ⟨u4, rfl, ho4, hb4⟩
      have hx4 := hb4
      obtain ⟨A4, c4, rfl, -⟩ := ho4.reads.form
      have AP3_4 := Lib.hid (apart_later O3_w3.out ho4)
      have O3_w4 := Lib.hid (O3_w3.out.keep hx4)
      have O4_w4 := Lib.hid (show OInts w4 w3.heap.size _ _ from ho4)
      have HX4 := Lib.hid (sz_keep HX3.out hx4)
      have t0 := cell_keep hx4 p0
      have t1 := cell_keep hx4 p1
      have t2 := cell_keep hx4 p2
      have t3 := cell_keep hx4 p3
      have HQ4 := Lib.hid hx4
      have HZ4 := Lib.hid (blk_keep HZr.out HX4.out)
      have HSZ := Lib.hid (And.intro HB.out.size (And.intro HX3.out.size HQ4.out.size))
      have HBN := Lib.hid (sz_keep HB.out HX4.out)
      have j0 := blk_cell HZ4.out 0
      have j1 := blk_cell HZ4.out 1
      have jf0 := blk_free HZ4.out 0
      have jf1 := blk_free HZ4.out 1
      simp at j0 j1
      clear ho4 hb4 hx4
      go_wp2_with fail
      refine hK.out _ _ ?_ (fun hHeld => ?_)
      · exact ⟨t0, t1, t2, t3⟩
      clear hK K
      try simp only [Act.put, List.getElem_toArray, List.getElem_cons_zero, List.getElem_cons_succ, List.setIfInBounds_toArray, List.set_cons_zero, List.set_cons_succ]
      refine wpAnyH_take (i := 10) (oi := _) (v := ?_) rfl (by kernel_rfl) (by kernel_rfl) (by kernel_rfl) (fun _ _ _ h => h) (Or.inl ⟨by rfl, ?_⟩) (by assumption) ?_
      rotate_left
      · first | (intro w' hSw; (try dsimp only at hSw); go_simp; done) | (intro w' hSw; (try dsimp only at hSw); go_simp; with_reducible rfl)
      try simp only [Act.put, List.getElem_toArray, List.getElem_cons_zero, List.getElem_cons_succ, List.setIfInBounds_toArray, List.set_cons_zero, List.set_cons_succ]
      refine wpAnyH_ready (rs := [11]) (by kernel_rfl) (by simp) ?_
      refine AllReadyH.cons (o := _) rfl (fun K hK => ?_) AllReadyH.nil
      go_simp
      skip
      go_wp2_with fail
      refine hK.out _ _ ?_ (fun hHeld => ?_)
      · exact ⟨(set_other (by omega) _ _ _).trans ((set_other (by omega) _ _ _).trans t0), (set_other (by omega) _ _ _).trans ((set_other (by omega) _ _ _).trans t1), (set_other (by omega) _ _ _).trans ((set_other (by omega) _ _ _).trans t2), (set_other (by omega) _ _ _).trans ((set_other (by omega) _ _ _).trans t3)⟩
      clear hK K
      try simp only [Act.put, List.getElem_toArray, List.getElem_cons_zero, List.getElem_cons_succ, List.setIfInBounds_toArray, List.set_cons_zero, List.set_cons_succ]
      refine wpAnyH_take (i := 12) (oi := _) (v := ?_) rfl (by kernel_rfl) (by kernel_rfl) (by kernel_rfl) (fun _ _ _ h => h) (Or.inl ⟨by rfl, ?_⟩) (by assumption) ?_
      rotate_left
      · first | (intro w' hSw; (try dsimp only at hSw); go_simp; done) | (intro w' hSw; (try dsimp only at hSw); go_simp; with_reducible rfl)
      try simp only [Act.put, List.getElem_toArray, List.getElem_cons_zero, List.getElem_cons_succ, List.setIfInBounds_toArray, List.set_cons_zero, List.set_cons_succ]
      refine wpAnyH_done (by kernel_rfl) ?_ _
      clear m0 m1 n0 n1 p0 p1 p2 p3 t0 t1 t2 t3
      have hZ1 : w.heap.size + 1 + 1 + 1 + 1 + 1 < w2.heap.size := (Array.getElem?_eq_some_iff.1 HZr.out).1
      have hZ2 := HSZ.out
      replace HB := HBN
      go_wp2
      have d1 := blk_set (blk_set (HZ4.out) 0 (.slice A3 (ledM n.sorts m.sorts).length c3)) 1 (.slice A4 (ledM n.ops m.ops).length c4)
      have n0 := ((O3_w4.out.setLow (b := w.heap.size + 1 + 1 + 1 + 1 + 1) (by omega) 0 (.slice A3 (ledM n.sorts m.sorts).length c3)).setLow (b := w.heap.size + 1 + 1 + 1 + 1 + 1) (by omega) 1 (.slice A4 (ledM n.ops m.ops).length c4))
      have n1 := ((O4_w4.out.setLow (b := w.heap.size + 1 + 1 + 1 + 1 + 1) (by omega) 0 (.slice A3 (ledM n.sorts m.sorts).length c3)).setLow (b := w.heap.size + 1 + 1 + 1 + 1 + 1) (by omega) 1 (.slice A4 (ledM n.ops m.ops).length c4))
      have hbz := ((HB.out.setCell (p := ⟨w.heap.size + 1 + 1 + 1 + 1 + 1, 0, none⟩) (by show w.heap.size ≤ w.heap.size + 1 + 1 + 1 + 1 + 1; omega) (.slice A3 (ledM n.sorts m.sorts).length c3)).setCell (p := ⟨w.heap.size + 1 + 1 + 1 + 1 + 1, 1, none⟩) (by show w.heap.size ≤ w.heap.size + 1 + 1 + 1 + 1 + 1; omega) (.slice A4 (ledM n.ops m.ops).length c4))
      generalize (w4.setCell ⟨w.heap.size + 1 + 1 + 1 + 1 + 1, 0, none⟩ (.slice A3 (ledM n.sorts m.sorts).length c3)).setCell ⟨w.heap.size + 1 + 1 + 1 + 1 + 1, 1, none⟩ (.slice A4 (ledM n.ops m.ops).length c4) = wz at d1 hbz n0 n1 ⊢
      have k0 := blk_cell d1 0
      have k1 := blk_cell d1 1
      simp at k0 k1
      clear j0 j1 jf0 jf1
      refine bodyPost_ret (v := .tuple #[.agg #[.slice A3 (ledM n.sorts m.sorts).length c3, .slice A4 (ledM n.ops m.ops).length c4], .bool true]) (by simp [results, Try.results23, go_sem, k0, k1]) rfl ?_
      exact ⟨_, by rw [HE.out], by rw [HE.out]; exact ⟨_, _, rfl, n0.base (by omega), n1.base (by omega), AP3_4.out⟩, hbz⟩
theorem ledE_in {a b : MSig} {m : MMap} (f : MapFacts a b m) {e : MEq} (h : eqOkB a e = true) : InTo m.sorts e.vars ∧ InTo m.ops e.left ∧ InTo m.ops e.right ∧ e.vars.length ≤ 4 ∧ e.left.length ≤ 30 ∧ e.right.length ≤ 30 ∧ (∀ x ∈ e.vars, x < 100) := by
  unfold eqOkB at h
  simp only [Bool.and_eq_true, decide_eq_true_eq] at h
  have p := term_in f h.1
  have q := term_in f (show 0 ≤ sortM a e.vars e.right by rw [h.2]; exact h.1)
  exact ⟨p.2.2.1, p.1, q.1, p.2.2.2.1, p.2.1, q.2.1, p.2.2.2.2⟩
structure EqIn (m : MMap) (e : MEq) : Prop where
  vi : InTo m.sorts e.vars
  li : InTo m.ops e.left
  ri : InTo m.ops e.right
  vl : e.vars.length ≤ 4
  ll : e.left.length ≤ 30
  rl : e.right.length ≤ 30
  vs : ∀ x ∈ e.vars, x < 100
theorem eqIn_of {a b : MSig} {m : MMap} (f : MapFacts a b m) {e : MEq} (h : eqOkB a e = true) : EqIn m e := by
  obtain ⟨p1, p2, p3, p4, p5, p6, p7⟩ := ledE_in f h
  exact ⟨p1, p2, p3, p4, p5, p6, p7⟩

set_option maxHeartbeats 3200000 in
set_option maxRecDepth 100000 in
theorem ledEq_any (m : MMap) (e : MEq) (w : World) (vm ve : Value) (hin : EqIn m e) (h1 : RMap w vm m) (h2 : REq w ve e) :
    Calls Try.prog 80 #[vm, ve] w fun x w' => ∃ u, x = .returned u ∧ OEq w' w.heap.size u (ledE m e) ∧ Below w.heap.size w w' := by
  obtain ⟨Ama, cma, Amb, cmb, rfl⟩ := h1.form
  obtain ⟨Aea, cea, Aeb, ceb, Aec, cec, rfl⟩ := h2.form
  have hb : Below w.heap.size w (((w.alloc (.cells #[.slice Ama m.sorts.length cma, .slice Amb m.ops.length cmb] 39)).alloc (.cells #[.slice Aea e.vars.length cea, .slice Aeb e.left.length ceb, .slice Aec e.right.length cec] 41)).alloc (.cells #[.slice none 0 0, .slice none 0 0, .slice none 0 0] 41)) := ((below_alloc _ _).alloc (by simp) _).alloc (by simp; omega) _
  have HB := Lib.hid hb
  have hsz : (((w.alloc (.cells #[.slice Ama m.sorts.length cma, .slice Amb m.ops.length cmb] 39)).alloc (.cells #[.slice Aea e.vars.length cea, .slice Aeb e.left.length ceb, .slice Aec e.right.length cec] 41)).alloc (.cells #[.slice none 0 0, .slice none 0 0, .slice none 0 0] 41)).heap.size = w.heap.size + 3 := by simp
  have Hm := Lib.hid (h1.keep hb)
  have m0 := cell_keep (below_alloc ((w.alloc (.cells #[.slice Ama m.sorts.length cma, .slice Amb m.ops.length cmb] 39)).alloc (.cells #[.slice Aea e.vars.length cea, .slice Aeb e.left.length ceb, .slice Aec e.right.length cec] 41)) (.cells #[.slice none 0 0, .slice none 0 0, .slice none 0 0] 41)) (cell_keep (below_alloc (w.alloc (.cells #[.slice Ama m.sorts.length cma, .slice Amb m.ops.length cmb] 39)) (.cells #[.slice Aea e.vars.length cea, .slice Aeb e.left.length ceb, .slice Aec e.right.length cec] 41)) (bx_at (w) #[.slice Ama m.sorts.length cma, .slice Amb m.ops.length cmb] 39 (k := 0) rfl))
  have m1 := cell_keep (below_alloc ((w.alloc (.cells #[.slice Ama m.sorts.length cma, .slice Amb m.ops.length cmb] 39)).alloc (.cells #[.slice Aea e.vars.length cea, .slice Aeb e.left.length ceb, .slice Aec e.right.length cec] 41)) (.cells #[.slice none 0 0, .slice none 0 0, .slice none 0 0] 41)) (cell_keep (below_alloc (w.alloc (.cells #[.slice Ama m.sorts.length cma, .slice Amb m.ops.length cmb] 39)) (.cells #[.slice Aea e.vars.length cea, .slice Aeb e.left.length ceb, .slice Aec e.right.length cec] 41)) (bx_at (w) #[.slice Ama m.sorts.length cma, .slice Amb m.ops.length cmb] 39 (k := 1) rfl))
  have He := Lib.hid (h2.keep hb)
  have e0 := cell_keep (below_alloc ((w.alloc (.cells #[.slice Ama m.sorts.length cma, .slice Amb m.ops.length cmb] 39)).alloc (.cells #[.slice Aea e.vars.length cea, .slice Aeb e.left.length ceb, .slice Aec e.right.length cec] 41)) (.cells #[.slice none 0 0, .slice none 0 0, .slice none 0 0] 41)) (bx_at (w.alloc (.cells #[.slice Ama m.sorts.length cma, .slice Amb m.ops.length cmb] 39)) #[.slice Aea e.vars.length cea, .slice Aeb e.left.length ceb, .slice Aec e.right.length cec] 41 (k := 0) rfl)
  have e1 := cell_keep (below_alloc ((w.alloc (.cells #[.slice Ama m.sorts.length cma, .slice Amb m.ops.length cmb] 39)).alloc (.cells #[.slice Aea e.vars.length cea, .slice Aeb e.left.length ceb, .slice Aec e.right.length cec] 41)) (.cells #[.slice none 0 0, .slice none 0 0, .slice none 0 0] 41)) (bx_at (w.alloc (.cells #[.slice Ama m.sorts.length cma, .slice Amb m.ops.length cmb] 39)) #[.slice Aea e.vars.length cea, .slice Aeb e.left.length ceb, .slice Aec e.right.length cec] 41 (k := 1) rfl)
  have e2 := cell_keep (below_alloc ((w.alloc (.cells #[.slice Ama m.sorts.length cma, .slice Amb m.ops.length cmb] 39)).alloc (.cells #[.slice Aea e.vars.length cea, .slice Aeb e.left.length ceb, .slice Aec e.right.length cec] 41)) (.cells #[.slice none 0 0, .slice none 0 0, .slice none 0 0] 41)) (bx_at (w.alloc (.cells #[.slice Ama m.sorts.length cma, .slice Amb m.ops.length cmb] 39)) #[.slice Aea e.vars.length cea, .slice Aeb e.left.length ceb, .slice Aec e.right.length cec] 41 (k := 2) rfl)
  have HZr := Lib.hid (show (((w.alloc (.cells #[.slice Ama m.sorts.length cma, .slice Amb m.ops.length cmb] 39)).alloc (.cells #[.slice Aea e.vars.length cea, .slice Aeb e.left.length ceb, .slice Aec e.right.length cec] 41)).alloc (.cells #[.slice none 0 0, .slice none 0 0, .slice none 0 0] 41)).heap[w.heap.size + 1 + 1]? = some (.cells #[.slice none 0 0, .slice none 0 0, .slice none 0 0] 41 (0, 0)) from (congrArg (fun i => (((w.alloc (.cells #[.slice Ama m.sorts.length cma, .slice Amb m.ops.length cmb] 39)).alloc (.cells #[.slice Aea e.vars.length cea, .slice Aeb e.left.length ceb, .slice Aec e.right.length cec] 41)).alloc (.cells #[.slice none 0 0, .slice none 0 0, .slice none 0 0] 41)).heap[i]?) (by simp)).trans (heap_alloc_new ((w.alloc (.cells #[.slice Ama m.sorts.length cma, .slice Amb m.ops.length cmb] 39)).alloc (.cells #[.slice Aea e.vars.length cea, .slice Aeb e.left.length ceb, .slice Aec e.right.length cec] 41)) _))
  simp only [World.size_alloc] at e0 e1 e2
  generalize hW : ((w.alloc (.cells #[.slice Ama m.sorts.length cma, .slice Amb m.ops.length cmb] 39)).alloc (.cells #[.slice Aea e.vars.length cea, .slice Aeb e.left.length ceb, .slice Aec e.right.length cec] 41)).alloc (.cells #[.slice none 0 0, .slice none 0 0, .slice none 0 0] 41) = W at HB hsz Hm m0 m1 He e0 e1 e2 HZr
  clear hb h1 h2
  have HIN := Lib.hid hin
  have hl1 := He.out.of.1.len
  have hl2 := He.out.of.2.1.len
  have hl3 := He.out.of.2.2.len
  have hl4 := Hm.out.of.1.len
  have hl5 := Hm.out.of.2.len
  have hv1 := hin.vl
  have hv2 := hin.ll
  have hv3 := hin.rl
  clear hin
  have HBW := Lib.hid hsz
  clear hsz
  go_enter Try.func80, Try.ntmps80
  go_wp2_with fail
  clear hW
  refine wp_region_held_drew (S := (fun w' => w'.cell? ⟨w.heap.size, 0, none⟩ = some (.slice Ama m.sorts.length cma) ∧ w'.cell? ⟨w.heap.size, 1, none⟩ = some (.slice Amb m.ops.length cmb) ∧ w'.cell? ⟨w.heap.size + 1, 0, none⟩ = some (.slice Aea e.vars.length cea) ∧ w'.cell? ⟨w.heap.size + 1, 1, none⟩ = some (.slice Aeb e.left.length ceb) ∧ w'.cell? ⟨w.heap.size + 1, 2, none⟩ = some (.slice Aec e.right.length cec))) (by kernel_rfl) ?_ (fun hHeld => ?_)
  · exact ⟨m0, m1, e0, e1, e2⟩
  refine wpAnyH_take (i := 0) (oi := _) (v := ?_) rfl (by kernel_rfl) (by kernel_rfl) (by kernel_rfl) (fun _ _ _ h => h) (Or.inl ⟨by rfl, ?_⟩) (by assumption) ?_
  rotate_left
  · first | (intro w' hSw; (try dsimp only at hSw); go_simp; done) | (intro w' hSw; (try dsimp only at hSw); go_simp; with_reducible rfl)
  try simp only [Act.put, List.getElem_toArray, List.getElem_cons_zero, List.getElem_cons_succ, List.setIfInBounds_toArray, List.set_cons_zero, List.set_cons_succ]
  refine wpAnyH_take (i := 1) (oi := _) (v := ?_) rfl (by kernel_rfl) (by kernel_rfl) (by kernel_rfl) (fun _ _ _ h => h) (Or.inl ⟨by rfl, ?_⟩) (by assumption) ?_
  rotate_left
  · first | (intro w' hSw; (try dsimp only at hSw); go_simp; done) | (intro w' hSw; (try dsimp only at hSw); go_simp; with_reducible rfl)
  try simp only [Act.put, List.getElem_toArray, List.getElem_cons_zero, List.getElem_cons_succ, List.setIfInBounds_toArray, List.set_cons_zero, List.set_cons_succ]
  refine wpAnyH_take (i := 2) (oi := _) (v := ?_) rfl (by kernel_rfl) (by kernel_rfl) (by kernel_rfl) (fun _ _ _ h => h) (Or.inl ⟨by rfl, ?_⟩) (by assumption) ?_
  rotate_left
  · first | (intro w' hSw; (try dsimp only at hSw); go_simp; done) | (intro w' hSw; (try dsimp only at hSw); go_simp; with_reducible rfl)
  try simp only [Act.put, List.getElem_toArray, List.getElem_cons_zero, List.getElem_cons_succ, List.setIfInBounds_toArray, List.set_cons_zero, List.set_cons_succ]
  refine wpAnyH_take (i := 3) (oi := _) (v := ?_) rfl (by kernel_rfl) (by kernel_rfl) (by kernel_rfl) (fun _ _ _ h => h) (Or.inl ⟨by rfl, ?_⟩) (by assumption) ?_
  rotate_left
  · first | (intro w' hSw; (try dsimp only at hSw); go_simp; done) | (intro w' hSw; (try dsimp only at hSw); go_simp; with_reducible rfl)
  try simp only [Act.put, List.getElem_toArray, List.getElem_cons_zero, List.getElem_cons_succ, List.setIfInBounds_toArray, List.set_cons_zero, List.set_cons_succ]
  refine wpAnyH_take (i := 5) (oi := _) (v := ?_) rfl (by kernel_rfl) (by kernel_rfl) (by kernel_rfl) (fun _ _ _ h => h) (Or.inl ⟨by rfl, ?_⟩) (by assumption) ?_
  rotate_left
  · first | (intro w' hSw; (try dsimp only at hSw); go_simp; done) | (intro w' hSw; (try dsimp only at hSw); go_simp; with_reducible rfl)
  try simp only [Act.put, List.getElem_toArray, List.getElem_cons_zero, List.getElem_cons_succ, List.setIfInBounds_toArray, List.set_cons_zero, List.set_cons_succ]
  refine wpAnyH_take (i := 6) (oi := _) (v := ?_) rfl (by kernel_rfl) (by kernel_rfl) (by kernel_rfl) (fun _ _ _ h => h) (Or.inl ⟨by rfl, ?_⟩) (by assumption) ?_
  rotate_left
  · first | (intro w' hSw; (try dsimp only at hSw); go_simp; done) | (intro w' hSw; (try dsimp only at hSw); go_simp; with_reducible rfl)
  try simp only [Act.put, List.getElem_toArray, List.getElem_cons_zero, List.getElem_cons_succ, List.setIfInBounds_toArray, List.set_cons_zero, List.set_cons_succ]
  refine wpAnyH_take (i := 7) (oi := _) (v := ?_) rfl (by kernel_rfl) (by kernel_rfl) (by kernel_rfl) (fun _ _ _ h => h) (Or.inl ⟨by rfl, ?_⟩) (by assumption) ?_
  rotate_left
  · first | (intro w' hSw; (try dsimp only at hSw); go_simp; done) | (intro w' hSw; (try dsimp only at hSw); go_simp; with_reducible rfl)
  try simp only [Act.put, List.getElem_toArray, List.getElem_cons_zero, List.getElem_cons_succ, List.setIfInBounds_toArray, List.set_cons_zero, List.set_cons_succ]
  refine wpAnyH_take (i := 8) (oi := _) (v := ?_) rfl (by kernel_rfl) (by kernel_rfl) (by kernel_rfl) (fun _ _ _ h => h) (Or.inl ⟨by rfl, ?_⟩) (by assumption) ?_
  rotate_left
  · first | (intro w' hSw; (try dsimp only at hSw); go_simp; done) | (intro w' hSw; (try dsimp only at hSw); go_simp; with_reducible rfl)
  try simp only [Act.put, List.getElem_toArray, List.getElem_cons_zero, List.getElem_cons_succ, List.setIfInBounds_toArray, List.set_cons_zero, List.set_cons_succ]
  refine wpAnyH_take (i := 10) (oi := _) (v := ?_) rfl (by kernel_rfl) (by kernel_rfl) (by kernel_rfl) (fun _ _ _ h => h) (Or.inl ⟨by rfl, ?_⟩) (by assumption) ?_
  rotate_left
  · first | (intro w' hSw; (try dsimp only at hSw); go_simp; done) | (intro w' hSw; (try dsimp only at hSw); go_simp; with_reducible rfl)
  try simp only [Act.put, List.getElem_toArray, List.getElem_cons_zero, List.getElem_cons_succ, List.setIfInBounds_toArray, List.set_cons_zero, List.set_cons_succ]
  refine wpAnyH_take (i := 11) (oi := _) (v := ?_) rfl (by kernel_rfl) (by kernel_rfl) (by kernel_rfl) (fun _ _ _ h => h) (Or.inl ⟨by rfl, ?_⟩) (by assumption) ?_
  rotate_left
  · first | (intro w' hSw; (try dsimp only at hSw); go_simp; done) | (intro w' hSw; (try dsimp only at hSw); go_simp; with_reducible rfl)
  try simp only [Act.put, List.getElem_toArray, List.getElem_cons_zero, List.getElem_cons_succ, List.setIfInBounds_toArray, List.set_cons_zero, List.set_cons_succ]
  refine wpAnyH_take (i := 12) (oi := _) (v := ?_) rfl (by kernel_rfl) (by kernel_rfl) (by kernel_rfl) (fun _ _ _ h => h) (Or.inl ⟨by rfl, ?_⟩) (by assumption) ?_
  rotate_left
  · first | (intro w' hSw; (try dsimp only at hSw); go_simp; done) | (intro w' hSw; (try dsimp only at hSw); go_simp; with_reducible rfl)
  try simp only [Act.put, List.getElem_toArray, List.getElem_cons_zero, List.getElem_cons_succ, List.setIfInBounds_toArray, List.set_cons_zero, List.set_cons_succ]
  refine wpAnyH_take (i := 13) (oi := _) (v := ?_) rfl (by kernel_rfl) (by kernel_rfl) (by kernel_rfl) (fun _ _ _ h => h) (Or.inl ⟨by rfl, ?_⟩) (by assumption) ?_
  rotate_left
  · first | (intro w' hSw; (try dsimp only at hSw); go_simp; done) | (intro w' hSw; (try dsimp only at hSw); go_simp; with_reducible rfl)
  try simp only [Act.put, List.getElem_toArray, List.getElem_cons_zero, List.getElem_cons_succ, List.setIfInBounds_toArray, List.set_cons_zero, List.set_cons_succ]
  refine wpAnyH_ready (rs := [4]) (by kernel_rfl) (by simp) ?_
  refine AllReadyH.cons (o := _) rfl (fun K hK => ?_) AllReadyH.nil
  go_simp
  refine (ledRow_any _ _ e.vars m.sorts W.drew (He.out.of.1.keep (map_drew (Below.refl _ _))) (Hm.out.of.1.keep (map_drew (Below.refl _ _))) HIN.out.vi (by omega)).mono ?_
  rintro e w3 ⟨u3, rfl, ho3, hb3⟩
  have hx3 := map_undrew hb3
  obtain ⟨A3, c3, rfl, -⟩ := ho3.reads.form
  have O3_w3 := Lib.hid (show OInts w3 W.heap.size _ _ from ho3)
  have HX3 := Lib.hid (hx3)
  have p0 := cell_keep hx3 m0
  have p1 := cell_keep hx3 m1
  have p2 := cell_keep hx3 e0
  have p3 := cell_keep hx3 e1
  have p4 := cell_keep hx3 e2
  have HQ3 := Lib.hid hx3
  clear ho3 hb3
  go_wp2_with fail
  refine hK.out _ _ ?_ (fun hHeld => ?_)
  · exact ⟨p0, p1, p2, p3, p4⟩
  clear hK K
  try simp only [Act.put, List.getElem_toArray, List.getElem_cons_zero, List.getElem_cons_succ, List.setIfInBounds_toArray, List.set_cons_zero, List.set_cons_succ]
  refine wpAnyH_ready (rs := [9]) (by kernel_rfl) (by simp) ?_
  refine AllReadyH.cons (o := _) rfl (fun K hK => ?_) AllReadyH.nil
  go_simp
  refine (ledRow_any _ _ e.left m.ops w3 (He.out.of.2.1.keep HX3.out) (Hm.out.of.2.keep HX3.out) HIN.out.li (by omega)).mono ?_
  rintro e w4 ⟨u4, rfl, ho4, hb4⟩
  have hx4 := hb4
  obtain ⟨A4, c4, rfl, -⟩ := ho4.reads.form
  have AP3_4 := Lib.hid (apart_later O3_w3.out ho4)
  have O3_w4 := Lib.hid (O3_w3.out.keep hx4)
  have O4_w4 := Lib.hid (show OInts w4 w3.heap.size _ _ from ho4)
  have HX4 := Lib.hid (sz_keep HX3.out hx4)
  have q0 := cell_keep hx4 p0
  have q1 := cell_keep hx4 p1
  have q2 := cell_keep hx4 p2
  have q3 := cell_keep hx4 p3
  have q4 := cell_keep hx4 p4
  have HQ4 := Lib.hid hx4
  clear ho4 hb4 hx4
  go_wp2_with fail
  refine hK.out _ _ ?_ (fun hHeld => ?_)
  · exact ⟨q0, q1, q2, q3, q4⟩
  clear hK K
  try simp only [Act.put, List.getElem_toArray, List.getElem_cons_zero, List.getElem_cons_succ, List.setIfInBounds_toArray, List.set_cons_zero, List.set_cons_succ]
  refine wpAnyH_ready (rs := [14]) (by kernel_rfl) (by simp) ?_
  refine AllReadyH.cons (o := _) rfl (fun K hK => ?_) AllReadyH.nil
  go_simp
  refine (ledRow_any _ _ e.right m.ops w4 (He.out.of.2.2.keep HX4.out) (Hm.out.of.2.keep HX4.out) HIN.out.ri (by omega)).mono ?_
  rintro e w5 ⟨u5, rfl, ho5, hb5⟩
  have hx5 := hb5
  obtain ⟨A5, c5, rfl, -⟩ := ho5.reads.form
  have AP3_5 := Lib.hid (apart_later O3_w4.out ho5)
  have O3_w5 := Lib.hid (O3_w4.out.keep hx5)
  have AP4_5 := Lib.hid (apart_later O4_w4.out ho5)
  have O4_w5 := Lib.hid (O4_w4.out.keep hx5)
  have O5_w5 := Lib.hid (show OInts w5 w4.heap.size _ _ from ho5)
  have HX5 := Lib.hid (sz_keep HX4.out hx5)
  have t0 := cell_keep hx5 q0
  have t1 := cell_keep hx5 q1
  have t2 := cell_keep hx5 q2
  have t3 := cell_keep hx5 q3
  have t4 := cell_keep hx5 q4
  have HQ5 := Lib.hid hx5
  have HZ5 := Lib.hid (blk_keep HZr.out HX5.out)
  have HSZ := Lib.hid (And.intro HB.out.size (And.intro HX3.out.size (And.intro HQ4.out.size HQ5.out.size)))
  have HBN := Lib.hid (sz_keep HB.out HX5.out)
  have j0 := blk_cell HZ5.out 0
  have j1 := blk_cell HZ5.out 1
  have j2 := blk_cell HZ5.out 2
  have jf0 := blk_free HZ5.out 0
  have jf1 := blk_free HZ5.out 1
  have jf2 := blk_free HZ5.out 2
  simp at j0 j1 j2
  clear ho5 hb5 hx5
  go_wp2_with fail
  refine hK.out _ _ ?_ (fun hHeld => ?_)
  · exact ⟨t0, t1, t2, t3, t4⟩
  clear hK K
  try simp only [Act.put, List.getElem_toArray, List.getElem_cons_zero, List.getElem_cons_succ, List.setIfInBounds_toArray, List.set_cons_zero, List.set_cons_succ]
  refine wpAnyH_take (i := 15) (oi := _) (v := ?_) rfl (by kernel_rfl) (by kernel_rfl) (by kernel_rfl) (fun _ _ _ h => h) (Or.inl ⟨by rfl, ?_⟩) (by assumption) ?_
  rotate_left
  · first | (intro w' hSw; (try dsimp only at hSw); go_simp; done) | (intro w' hSw; (try dsimp only at hSw); go_simp; with_reducible rfl)
  try simp only [Act.put, List.getElem_toArray, List.getElem_cons_zero, List.getElem_cons_succ, List.setIfInBounds_toArray, List.set_cons_zero, List.set_cons_succ]
  refine wpAnyH_ready (rs := [16]) (by kernel_rfl) (by simp) ?_
  refine AllReadyH.cons (o := _) rfl (fun K hK => ?_) AllReadyH.nil
  go_simp
  skip
  go_wp2_with fail
  refine hK.out _ _ ?_ (fun hHeld => ?_)
  · exact ⟨(set_other (by omega) _ _ _).trans ((set_other (by omega) _ _ _).trans ((set_other (by omega) _ _ _).trans t0)), (set_other (by omega) _ _ _).trans ((set_other (by omega) _ _ _).trans ((set_other (by omega) _ _ _).trans t1)), (set_other (by omega) _ _ _).trans ((set_other (by omega) _ _ _).trans ((set_other (by omega) _ _ _).trans t2)), (set_other (by omega) _ _ _).trans ((set_other (by omega) _ _ _).trans ((set_other (by omega) _ _ _).trans t3)), (set_other (by omega) _ _ _).trans ((set_other (by omega) _ _ _).trans ((set_other (by omega) _ _ _).trans t4))⟩
  clear hK K
  try simp only [Act.put, List.getElem_toArray, List.getElem_cons_zero, List.getElem_cons_succ, List.setIfInBounds_toArray, List.set_cons_zero, List.set_cons_succ]
  refine wpAnyH_done (by kernel_rfl) ?_ _
  clear m0 m1 e0 e1 e2 p0 p1 p2 p3 p4 q0 q1 q2 q3 q4 t0 t1 t2 t3 t4
  have hZ1 : w.heap.size + 1 + 1 < W.heap.size := (Array.getElem?_eq_some_iff.1 HZr.out).1
  have hZ2 := HSZ.out
  replace HB := HBN
  go_wp2
  have d1 := blk_set (blk_set (blk_set (HZ5.out) 0 (.slice A3 (ledM m.sorts e.vars).length c3)) 1 (.slice A4 (ledM m.ops e.left).length c4)) 2 (.slice A5 (ledM m.ops e.right).length c5)
  have n0 := (((O3_w5.out.setLow (b := w.heap.size + 1 + 1) (by omega) 0 (.slice A3 (ledM m.sorts e.vars).length c3)).setLow (b := w.heap.size + 1 + 1) (by omega) 1 (.slice A4 (ledM m.ops e.left).length c4)).setLow (b := w.heap.size + 1 + 1) (by omega) 2 (.slice A5 (ledM m.ops e.right).length c5))
  have n1 := (((O4_w5.out.setLow (b := w.heap.size + 1 + 1) (by omega) 0 (.slice A3 (ledM m.sorts e.vars).length c3)).setLow (b := w.heap.size + 1 + 1) (by omega) 1 (.slice A4 (ledM m.ops e.left).length c4)).setLow (b := w.heap.size + 1 + 1) (by omega) 2 (.slice A5 (ledM m.ops e.right).length c5))
  have n2 := (((O5_w5.out.setLow (b := w.heap.size + 1 + 1) (by omega) 0 (.slice A3 (ledM m.sorts e.vars).length c3)).setLow (b := w.heap.size + 1 + 1) (by omega) 1 (.slice A4 (ledM m.ops e.left).length c4)).setLow (b := w.heap.size + 1 + 1) (by omega) 2 (.slice A5 (ledM m.ops e.right).length c5))
  have hbz := (((HB.out.setCell (p := ⟨w.heap.size + 1 + 1, 0, none⟩) (by show w.heap.size ≤ w.heap.size + 1 + 1; omega) (.slice A3 (ledM m.sorts e.vars).length c3)).setCell (p := ⟨w.heap.size + 1 + 1, 1, none⟩) (by show w.heap.size ≤ w.heap.size + 1 + 1; omega) (.slice A4 (ledM m.ops e.left).length c4)).setCell (p := ⟨w.heap.size + 1 + 1, 2, none⟩) (by show w.heap.size ≤ w.heap.size + 1 + 1; omega) (.slice A5 (ledM m.ops e.right).length c5))
  generalize ((w5.setCell ⟨w.heap.size + 1 + 1, 0, none⟩ (.slice A3 (ledM m.sorts e.vars).length c3)).setCell ⟨w.heap.size + 1 + 1, 1, none⟩ (.slice A4 (ledM m.ops e.left).length c4)).setCell ⟨w.heap.size + 1 + 1, 2, none⟩ (.slice A5 (ledM m.ops e.right).length c5) = wz at d1 hbz n0 n1 n2 ⊢
  have k0 := blk_cell d1 0
  have k1 := blk_cell d1 1
  have k2 := blk_cell d1 2
  simp at k0 k1 k2
  clear j0 j1 j2 jf0 jf1 jf2
  refine bodyPost_ret (v := .agg #[.slice A3 (ledM m.sorts e.vars).length c3, .slice A4 (ledM m.ops e.left).length c4, .slice A5 (ledM m.ops e.right).length c5]) (by simp [results, Try.results80, go_sem, k0, k1, k2]) rfl ?_
  exact ⟨_, rfl, ⟨_, _, _, rfl, n0.base (by omega), n1.base (by omega), n2.base (by omega), AP3_4.out, AP3_5.out, AP4_5.out⟩, hbz⟩
set_option maxHeartbeats 3200000 in
set_option maxRecDepth 100000 in
theorem mapEq_any (a b : MSig) (m : MMap) (e : MEq) (w : World) (va vb vm ve : Value) (hsm : SmallE e) (h1 : RSig w va a) (h2 : RSig w vb b) (h3 : RMap w vm m) (h4 : REq w ve e) :
    Calls Try.prog 18 #[va, vb, vm, ve] w fun x w' => ∃ u, x = .returned (.tuple #[u, .bool (mapEqM a b m e).2]) ∧ OEq w' w.heap.size u (mapEqM a b m e).1 ∧ Below w.heap.size w w' := by
  obtain ⟨Aaa, caa, rfl⟩ := h1.form
  obtain ⟨Aba, cba, rfl⟩ := h2.form
  obtain ⟨Ama, cma, Amb, cmb, rfl⟩ := h3.form
  obtain ⟨Aea, cea, Aeb, ceb, Aec, cec, rfl⟩ := h4.form
  have hb : Below w.heap.size w (((((w.alloc (.cells #[.int .i64 a.sorts, .slice Aaa a.ops.length caa] 25)).alloc (.cells #[.int .i64 b.sorts, .slice Aba b.ops.length cba] 25)).alloc (.cells #[.slice Ama m.sorts.length cma, .slice Amb m.ops.length cmb] 39)).alloc (.cells #[.slice Aea e.vars.length cea, .slice Aeb e.left.length ceb, .slice Aec e.right.length cec] 41)).alloc (.cells #[.slice none 0 0, .slice none 0 0, .slice none 0 0] 41)) := ((((below_alloc _ _).alloc (by simp) _).alloc (by simp; omega) _).alloc (by simp; omega) _).alloc (by simp; omega) _
  have HB := Lib.hid hb
  have hsz : (((((w.alloc (.cells #[.int .i64 a.sorts, .slice Aaa a.ops.length caa] 25)).alloc (.cells #[.int .i64 b.sorts, .slice Aba b.ops.length cba] 25)).alloc (.cells #[.slice Ama m.sorts.length cma, .slice Amb m.ops.length cmb] 39)).alloc (.cells #[.slice Aea e.vars.length cea, .slice Aeb e.left.length ceb, .slice Aec e.right.length cec] 41)).alloc (.cells #[.slice none 0 0, .slice none 0 0, .slice none 0 0] 41)).heap.size = w.heap.size + 5 := by simp
  have Ha := Lib.hid (h1.keep hb)
  have a0 := cell_keep (below_alloc ((((w.alloc (.cells #[.int .i64 a.sorts, .slice Aaa a.ops.length caa] 25)).alloc (.cells #[.int .i64 b.sorts, .slice Aba b.ops.length cba] 25)).alloc (.cells #[.slice Ama m.sorts.length cma, .slice Amb m.ops.length cmb] 39)).alloc (.cells #[.slice Aea e.vars.length cea, .slice Aeb e.left.length ceb, .slice Aec e.right.length cec] 41)) (.cells #[.slice none 0 0, .slice none 0 0, .slice none 0 0] 41)) (cell_keep (below_alloc (((w.alloc (.cells #[.int .i64 a.sorts, .slice Aaa a.ops.length caa] 25)).alloc (.cells #[.int .i64 b.sorts, .slice Aba b.ops.length cba] 25)).alloc (.cells #[.slice Ama m.sorts.length cma, .slice Amb m.ops.length cmb] 39)) (.cells #[.slice Aea e.vars.length cea, .slice Aeb e.left.length ceb, .slice Aec e.right.length cec] 41)) (cell_keep (below_alloc ((w.alloc (.cells #[.int .i64 a.sorts, .slice Aaa a.ops.length caa] 25)).alloc (.cells #[.int .i64 b.sorts, .slice Aba b.ops.length cba] 25)) (.cells #[.slice Ama m.sorts.length cma, .slice Amb m.ops.length cmb] 39)) (cell_keep (below_alloc (w.alloc (.cells #[.int .i64 a.sorts, .slice Aaa a.ops.length caa] 25)) (.cells #[.int .i64 b.sorts, .slice Aba b.ops.length cba] 25)) (bx_at (w) #[.int .i64 a.sorts, .slice Aaa a.ops.length caa] 25 (k := 0) rfl))))
  have a1 := cell_keep (below_alloc ((((w.alloc (.cells #[.int .i64 a.sorts, .slice Aaa a.ops.length caa] 25)).alloc (.cells #[.int .i64 b.sorts, .slice Aba b.ops.length cba] 25)).alloc (.cells #[.slice Ama m.sorts.length cma, .slice Amb m.ops.length cmb] 39)).alloc (.cells #[.slice Aea e.vars.length cea, .slice Aeb e.left.length ceb, .slice Aec e.right.length cec] 41)) (.cells #[.slice none 0 0, .slice none 0 0, .slice none 0 0] 41)) (cell_keep (below_alloc (((w.alloc (.cells #[.int .i64 a.sorts, .slice Aaa a.ops.length caa] 25)).alloc (.cells #[.int .i64 b.sorts, .slice Aba b.ops.length cba] 25)).alloc (.cells #[.slice Ama m.sorts.length cma, .slice Amb m.ops.length cmb] 39)) (.cells #[.slice Aea e.vars.length cea, .slice Aeb e.left.length ceb, .slice Aec e.right.length cec] 41)) (cell_keep (below_alloc ((w.alloc (.cells #[.int .i64 a.sorts, .slice Aaa a.ops.length caa] 25)).alloc (.cells #[.int .i64 b.sorts, .slice Aba b.ops.length cba] 25)) (.cells #[.slice Ama m.sorts.length cma, .slice Amb m.ops.length cmb] 39)) (cell_keep (below_alloc (w.alloc (.cells #[.int .i64 a.sorts, .slice Aaa a.ops.length caa] 25)) (.cells #[.int .i64 b.sorts, .slice Aba b.ops.length cba] 25)) (bx_at (w) #[.int .i64 a.sorts, .slice Aaa a.ops.length caa] 25 (k := 1) rfl))))
  have Hb := Lib.hid (h2.keep hb)
  have b0 := cell_keep (below_alloc ((((w.alloc (.cells #[.int .i64 a.sorts, .slice Aaa a.ops.length caa] 25)).alloc (.cells #[.int .i64 b.sorts, .slice Aba b.ops.length cba] 25)).alloc (.cells #[.slice Ama m.sorts.length cma, .slice Amb m.ops.length cmb] 39)).alloc (.cells #[.slice Aea e.vars.length cea, .slice Aeb e.left.length ceb, .slice Aec e.right.length cec] 41)) (.cells #[.slice none 0 0, .slice none 0 0, .slice none 0 0] 41)) (cell_keep (below_alloc (((w.alloc (.cells #[.int .i64 a.sorts, .slice Aaa a.ops.length caa] 25)).alloc (.cells #[.int .i64 b.sorts, .slice Aba b.ops.length cba] 25)).alloc (.cells #[.slice Ama m.sorts.length cma, .slice Amb m.ops.length cmb] 39)) (.cells #[.slice Aea e.vars.length cea, .slice Aeb e.left.length ceb, .slice Aec e.right.length cec] 41)) (cell_keep (below_alloc ((w.alloc (.cells #[.int .i64 a.sorts, .slice Aaa a.ops.length caa] 25)).alloc (.cells #[.int .i64 b.sorts, .slice Aba b.ops.length cba] 25)) (.cells #[.slice Ama m.sorts.length cma, .slice Amb m.ops.length cmb] 39)) (bx_at (w.alloc (.cells #[.int .i64 a.sorts, .slice Aaa a.ops.length caa] 25)) #[.int .i64 b.sorts, .slice Aba b.ops.length cba] 25 (k := 0) rfl)))
  have b1 := cell_keep (below_alloc ((((w.alloc (.cells #[.int .i64 a.sorts, .slice Aaa a.ops.length caa] 25)).alloc (.cells #[.int .i64 b.sorts, .slice Aba b.ops.length cba] 25)).alloc (.cells #[.slice Ama m.sorts.length cma, .slice Amb m.ops.length cmb] 39)).alloc (.cells #[.slice Aea e.vars.length cea, .slice Aeb e.left.length ceb, .slice Aec e.right.length cec] 41)) (.cells #[.slice none 0 0, .slice none 0 0, .slice none 0 0] 41)) (cell_keep (below_alloc (((w.alloc (.cells #[.int .i64 a.sorts, .slice Aaa a.ops.length caa] 25)).alloc (.cells #[.int .i64 b.sorts, .slice Aba b.ops.length cba] 25)).alloc (.cells #[.slice Ama m.sorts.length cma, .slice Amb m.ops.length cmb] 39)) (.cells #[.slice Aea e.vars.length cea, .slice Aeb e.left.length ceb, .slice Aec e.right.length cec] 41)) (cell_keep (below_alloc ((w.alloc (.cells #[.int .i64 a.sorts, .slice Aaa a.ops.length caa] 25)).alloc (.cells #[.int .i64 b.sorts, .slice Aba b.ops.length cba] 25)) (.cells #[.slice Ama m.sorts.length cma, .slice Amb m.ops.length cmb] 39)) (bx_at (w.alloc (.cells #[.int .i64 a.sorts, .slice Aaa a.ops.length caa] 25)) #[.int .i64 b.sorts, .slice Aba b.ops.length cba] 25 (k := 1) rfl)))
  have Hm := Lib.hid (h3.keep hb)
  have m0 := cell_keep (below_alloc ((((w.alloc (.cells #[.int .i64 a.sorts, .slice Aaa a.ops.length caa] 25)).alloc (.cells #[.int .i64 b.sorts, .slice Aba b.ops.length cba] 25)).alloc (.cells #[.slice Ama m.sorts.length cma, .slice Amb m.ops.length cmb] 39)).alloc (.cells #[.slice Aea e.vars.length cea, .slice Aeb e.left.length ceb, .slice Aec e.right.length cec] 41)) (.cells #[.slice none 0 0, .slice none 0 0, .slice none 0 0] 41)) (cell_keep (below_alloc (((w.alloc (.cells #[.int .i64 a.sorts, .slice Aaa a.ops.length caa] 25)).alloc (.cells #[.int .i64 b.sorts, .slice Aba b.ops.length cba] 25)).alloc (.cells #[.slice Ama m.sorts.length cma, .slice Amb m.ops.length cmb] 39)) (.cells #[.slice Aea e.vars.length cea, .slice Aeb e.left.length ceb, .slice Aec e.right.length cec] 41)) (bx_at ((w.alloc (.cells #[.int .i64 a.sorts, .slice Aaa a.ops.length caa] 25)).alloc (.cells #[.int .i64 b.sorts, .slice Aba b.ops.length cba] 25)) #[.slice Ama m.sorts.length cma, .slice Amb m.ops.length cmb] 39 (k := 0) rfl))
  have m1 := cell_keep (below_alloc ((((w.alloc (.cells #[.int .i64 a.sorts, .slice Aaa a.ops.length caa] 25)).alloc (.cells #[.int .i64 b.sorts, .slice Aba b.ops.length cba] 25)).alloc (.cells #[.slice Ama m.sorts.length cma, .slice Amb m.ops.length cmb] 39)).alloc (.cells #[.slice Aea e.vars.length cea, .slice Aeb e.left.length ceb, .slice Aec e.right.length cec] 41)) (.cells #[.slice none 0 0, .slice none 0 0, .slice none 0 0] 41)) (cell_keep (below_alloc (((w.alloc (.cells #[.int .i64 a.sorts, .slice Aaa a.ops.length caa] 25)).alloc (.cells #[.int .i64 b.sorts, .slice Aba b.ops.length cba] 25)).alloc (.cells #[.slice Ama m.sorts.length cma, .slice Amb m.ops.length cmb] 39)) (.cells #[.slice Aea e.vars.length cea, .slice Aeb e.left.length ceb, .slice Aec e.right.length cec] 41)) (bx_at ((w.alloc (.cells #[.int .i64 a.sorts, .slice Aaa a.ops.length caa] 25)).alloc (.cells #[.int .i64 b.sorts, .slice Aba b.ops.length cba] 25)) #[.slice Ama m.sorts.length cma, .slice Amb m.ops.length cmb] 39 (k := 1) rfl))
  have He := Lib.hid (h4.keep hb)
  have e0 := cell_keep (below_alloc ((((w.alloc (.cells #[.int .i64 a.sorts, .slice Aaa a.ops.length caa] 25)).alloc (.cells #[.int .i64 b.sorts, .slice Aba b.ops.length cba] 25)).alloc (.cells #[.slice Ama m.sorts.length cma, .slice Amb m.ops.length cmb] 39)).alloc (.cells #[.slice Aea e.vars.length cea, .slice Aeb e.left.length ceb, .slice Aec e.right.length cec] 41)) (.cells #[.slice none 0 0, .slice none 0 0, .slice none 0 0] 41)) (bx_at (((w.alloc (.cells #[.int .i64 a.sorts, .slice Aaa a.ops.length caa] 25)).alloc (.cells #[.int .i64 b.sorts, .slice Aba b.ops.length cba] 25)).alloc (.cells #[.slice Ama m.sorts.length cma, .slice Amb m.ops.length cmb] 39)) #[.slice Aea e.vars.length cea, .slice Aeb e.left.length ceb, .slice Aec e.right.length cec] 41 (k := 0) rfl)
  have e1 := cell_keep (below_alloc ((((w.alloc (.cells #[.int .i64 a.sorts, .slice Aaa a.ops.length caa] 25)).alloc (.cells #[.int .i64 b.sorts, .slice Aba b.ops.length cba] 25)).alloc (.cells #[.slice Ama m.sorts.length cma, .slice Amb m.ops.length cmb] 39)).alloc (.cells #[.slice Aea e.vars.length cea, .slice Aeb e.left.length ceb, .slice Aec e.right.length cec] 41)) (.cells #[.slice none 0 0, .slice none 0 0, .slice none 0 0] 41)) (bx_at (((w.alloc (.cells #[.int .i64 a.sorts, .slice Aaa a.ops.length caa] 25)).alloc (.cells #[.int .i64 b.sorts, .slice Aba b.ops.length cba] 25)).alloc (.cells #[.slice Ama m.sorts.length cma, .slice Amb m.ops.length cmb] 39)) #[.slice Aea e.vars.length cea, .slice Aeb e.left.length ceb, .slice Aec e.right.length cec] 41 (k := 1) rfl)
  have e2 := cell_keep (below_alloc ((((w.alloc (.cells #[.int .i64 a.sorts, .slice Aaa a.ops.length caa] 25)).alloc (.cells #[.int .i64 b.sorts, .slice Aba b.ops.length cba] 25)).alloc (.cells #[.slice Ama m.sorts.length cma, .slice Amb m.ops.length cmb] 39)).alloc (.cells #[.slice Aea e.vars.length cea, .slice Aeb e.left.length ceb, .slice Aec e.right.length cec] 41)) (.cells #[.slice none 0 0, .slice none 0 0, .slice none 0 0] 41)) (bx_at (((w.alloc (.cells #[.int .i64 a.sorts, .slice Aaa a.ops.length caa] 25)).alloc (.cells #[.int .i64 b.sorts, .slice Aba b.ops.length cba] 25)).alloc (.cells #[.slice Ama m.sorts.length cma, .slice Amb m.ops.length cmb] 39)) #[.slice Aea e.vars.length cea, .slice Aeb e.left.length ceb, .slice Aec e.right.length cec] 41 (k := 2) rfl)
  have HZr := Lib.hid (show (((((w.alloc (.cells #[.int .i64 a.sorts, .slice Aaa a.ops.length caa] 25)).alloc (.cells #[.int .i64 b.sorts, .slice Aba b.ops.length cba] 25)).alloc (.cells #[.slice Ama m.sorts.length cma, .slice Amb m.ops.length cmb] 39)).alloc (.cells #[.slice Aea e.vars.length cea, .slice Aeb e.left.length ceb, .slice Aec e.right.length cec] 41)).alloc (.cells #[.slice none 0 0, .slice none 0 0, .slice none 0 0] 41)).heap[w.heap.size + 1 + 1 + 1 + 1]? = some (.cells #[.slice none 0 0, .slice none 0 0, .slice none 0 0] 41 (0, 0)) from (congrArg (fun i => (((((w.alloc (.cells #[.int .i64 a.sorts, .slice Aaa a.ops.length caa] 25)).alloc (.cells #[.int .i64 b.sorts, .slice Aba b.ops.length cba] 25)).alloc (.cells #[.slice Ama m.sorts.length cma, .slice Amb m.ops.length cmb] 39)).alloc (.cells #[.slice Aea e.vars.length cea, .slice Aeb e.left.length ceb, .slice Aec e.right.length cec] 41)).alloc (.cells #[.slice none 0 0, .slice none 0 0, .slice none 0 0] 41)).heap[i]?) (by simp)).trans (heap_alloc_new ((((w.alloc (.cells #[.int .i64 a.sorts, .slice Aaa a.ops.length caa] 25)).alloc (.cells #[.int .i64 b.sorts, .slice Aba b.ops.length cba] 25)).alloc (.cells #[.slice Ama m.sorts.length cma, .slice Amb m.ops.length cmb] 39)).alloc (.cells #[.slice Aea e.vars.length cea, .slice Aeb e.left.length ceb, .slice Aec e.right.length cec] 41)) _))
  simp only [World.size_alloc] at b0 b1 m0 m1 e0 e1 e2
  generalize hW : ((((w.alloc (.cells #[.int .i64 a.sorts, .slice Aaa a.ops.length caa] 25)).alloc (.cells #[.int .i64 b.sorts, .slice Aba b.ops.length cba] 25)).alloc (.cells #[.slice Ama m.sorts.length cma, .slice Amb m.ops.length cmb] 39)).alloc (.cells #[.slice Aea e.vars.length cea, .slice Aeb e.left.length ceb, .slice Aec e.right.length cec] 41)).alloc (.cells #[.slice none 0 0, .slice none 0 0, .slice none 0 0] 41) = W at HB hsz Ha a0 a1 Hb b0 b1 Hm m0 m1 He e0 e1 e2 HZr
  clear hb h1 h2 h3 h4
  have HSM := Lib.hid hsm
  clear hsm
  cases hm : mapOkB a b m with
  | false =>
    have HM := Lib.hid hm
    have HE := Lib.hid (show mapEqM a b m e = (noEq, false) by unfold mapEqM; rw [hm]; rfl)
    clear hm
    go_enter Try.func18, Try.ntmps18
    go_wp2_with fail
    clear hW
    refine (mapOk_any a b m _ _ _ _ Ha.out Hb.out Hm.out).mono ?_
    rw [HM.out]
    rintro e w1 ⟨rfl, hb⟩
    replace HB := Lib.hid (sz_keep HB.out hb)
    replace HZr := Lib.hid (blk_keep HZr.out hb)
    clear hb
    clear a0 a1 b0 b1 m0 m1 e0 e1 e2
    have j0 := blk_cell HZr.out 0
    have j1 := blk_cell HZr.out 1
    have j2 := blk_cell HZr.out 2
    have jf0 := blk_free HZr.out 0
    have jf1 := blk_free HZr.out 1
    have jf2 := blk_free HZr.out 2
    simp at j0 j1 j2
    go_wp2
    have d1 := blk_set (blk_set (blk_set (HZr.out) 0 (.slice none 0 0)) 1 (.slice none 0 0)) 2 (.slice none 0 0)
    have hbz := (((HB.out.setCell (p := ⟨w.heap.size + 1 + 1 + 1 + 1, 0, none⟩) (by show w.heap.size ≤ w.heap.size + 1 + 1 + 1 + 1; omega) (.slice none 0 0)).setCell (p := ⟨w.heap.size + 1 + 1 + 1 + 1, 1, none⟩) (by show w.heap.size ≤ w.heap.size + 1 + 1 + 1 + 1; omega) (.slice none 0 0)).setCell (p := ⟨w.heap.size + 1 + 1 + 1 + 1, 2, none⟩) (by show w.heap.size ≤ w.heap.size + 1 + 1 + 1 + 1; omega) (.slice none 0 0))
    generalize ((w1.setCell ⟨w.heap.size + 1 + 1 + 1 + 1, 0, none⟩ (.slice none 0 0)).setCell ⟨w.heap.size + 1 + 1 + 1 + 1, 1, none⟩ (.slice none 0 0)).setCell ⟨w.heap.size + 1 + 1 + 1 + 1, 2, none⟩ (.slice none 0 0) = wz at d1 hbz  ⊢
    have k0 := blk_cell d1 0
    have k1 := blk_cell d1 1
    have k2 := blk_cell d1 2
    simp at k0 k1 k2
    clear j0 j1 j2 jf0 jf1 jf2
    refine bodyPost_ret (v := .tuple #[.agg #[.slice none 0 0, .slice none 0 0, .slice none 0 0], .bool false]) (by simp [results, Try.results18, go_sem, k0, k1, k2]) rfl ?_
    exact ⟨_, by rw [HE.out], by rw [HE.out]; exact nil_eq _ _, hbz⟩
  | true =>
    have HM := Lib.hid hm
    clear hm
    cases he : eqOkB a e with
    | false =>
      have HN := Lib.hid he
      have HE := Lib.hid (show mapEqM a b m e = (noEq, false) by unfold mapEqM; rw [he, Bool.and_false]; rfl)
      clear he
      go_enter Try.func18, Try.ntmps18
      go_wp2_with fail
      clear hW
      refine (mapOk_any a b m _ _ _ _ Ha.out Hb.out Hm.out).mono ?_
      rw [HM.out]
      rintro e w1 ⟨rfl, hb⟩
      clear b0 b1 m0 m1
      replace HB := Lib.hid (sz_keep HB.out hb)
      replace a0 := cell_keep hb a0
      replace a1 := cell_keep hb a1
      replace e0 := cell_keep hb e0
      replace e1 := cell_keep hb e1
      replace e2 := cell_keep hb e2
      replace Ha := Lib.hid (Ha.out.keep hb)
      replace He := Lib.hid (He.out.keep hb)
      replace HZr := Lib.hid (blk_keep HZr.out hb)
      clear hb
      go_wp2_with fail
      refine (eqOk_any a e _ _ _ HSM.out Ha.out He.out).mono ?_
      rw [HN.out]
      rintro e w2 ⟨rfl, hb⟩
      replace HB := Lib.hid (sz_keep HB.out hb)
      replace HZr := Lib.hid (blk_keep HZr.out hb)
      clear hb
      clear a0 a1 e0 e1 e2
      have j0 := blk_cell HZr.out 0
      have j1 := blk_cell HZr.out 1
      have j2 := blk_cell HZr.out 2
      have jf0 := blk_free HZr.out 0
      have jf1 := blk_free HZr.out 1
      have jf2 := blk_free HZr.out 2
      simp at j0 j1 j2
      go_wp2
      have d1 := blk_set (blk_set (blk_set (HZr.out) 0 (.slice none 0 0)) 1 (.slice none 0 0)) 2 (.slice none 0 0)
      have hbz := (((HB.out.setCell (p := ⟨w.heap.size + 1 + 1 + 1 + 1, 0, none⟩) (by show w.heap.size ≤ w.heap.size + 1 + 1 + 1 + 1; omega) (.slice none 0 0)).setCell (p := ⟨w.heap.size + 1 + 1 + 1 + 1, 1, none⟩) (by show w.heap.size ≤ w.heap.size + 1 + 1 + 1 + 1; omega) (.slice none 0 0)).setCell (p := ⟨w.heap.size + 1 + 1 + 1 + 1, 2, none⟩) (by show w.heap.size ≤ w.heap.size + 1 + 1 + 1 + 1; omega) (.slice none 0 0))
      generalize ((w2.setCell ⟨w.heap.size + 1 + 1 + 1 + 1, 0, none⟩ (.slice none 0 0)).setCell ⟨w.heap.size + 1 + 1 + 1 + 1, 1, none⟩ (.slice none 0 0)).setCell ⟨w.heap.size + 1 + 1 + 1 + 1, 2, none⟩ (.slice none 0 0) = wz at d1 hbz  ⊢
      have k0 := blk_cell d1 0
      have k1 := blk_cell d1 1
      have k2 := blk_cell d1 2
      simp at k0 k1 k2
      clear j0 j1 j2 jf0 jf1 jf2
      refine bodyPost_ret (v := .tuple #[.agg #[.slice none 0 0, .slice none 0 0, .slice none 0 0], .bool false]) (by simp [results, Try.results18, go_sem, k0, k1, k2]) rfl ?_
      exact ⟨_, by rw [HE.out], by rw [HE.out]; exact nil_eq _ _, hbz⟩
    | true =>
      have HN := Lib.hid he
      have HE := Lib.hid (show mapEqM a b m e = (ledE m e, true) by unfold mapEqM; rw [HM.out, he]; rfl)
      have HIN := Lib.hid (eqIn_of (mapOk_facts HM.out) he)
      clear he
      go_enter Try.func18, Try.ntmps18
      go_wp2_with fail
      clear hW
      refine (mapOk_any a b m _ _ _ _ Ha.out Hb.out Hm.out).mono ?_
      rw [HM.out]
      rintro e w1 ⟨rfl, hb⟩
      clear b0 b1
      replace HB := Lib.hid (sz_keep HB.out hb)
      replace a0 := cell_keep hb a0
      replace a1 := cell_keep hb a1
      replace m0 := cell_keep hb m0
      replace m1 := cell_keep hb m1
      replace e0 := cell_keep hb e0
      replace e1 := cell_keep hb e1
      replace e2 := cell_keep hb e2
      replace Ha := Lib.hid (Ha.out.keep hb)
      replace Hm := Lib.hid (Hm.out.keep hb)
      replace He := Lib.hid (He.out.keep hb)
      replace HZr := Lib.hid (blk_keep HZr.out hb)
      clear hb
      go_wp2_with fail
      refine (eqOk_any a e _ _ _ HSM.out Ha.out He.out).mono ?_
      rw [HN.out]
      rintro e w2 ⟨rfl, hb⟩
      clear a0 a1
      replace HB := Lib.hid (sz_keep HB.out hb)
      replace m0 := cell_keep hb m0
      replace m1 := cell_keep hb m1
      replace e0 := cell_keep hb e0
      replace e1 := cell_keep hb e1
      replace e2 := cell_keep hb e2
      replace Hm := Lib.hid (Hm.out.keep hb)
      replace He := Lib.hid (He.out.keep hb)
      replace HZr := Lib.hid (blk_keep HZr.out hb)
      clear hb
      go_wp2_with fail
      refine (ledEq_any m e _ _ _ HIN.out Hm.out He.out).mono ?_
      rintro x w3 ⟨u3, rfl, ho3, hb⟩
      have hZ1 : w.heap.size + 1 + 1 + 1 + 1 < w2.heap.size := (Array.getElem?_eq_some_iff.1 HZr.out).1
      obtain ⟨v3, v4, v5, rfl, o3, o4, o5, ap1, ap2, ap3⟩ := ho3
      obtain ⟨A3, c3, rfl, -⟩ := o3.reads.form
      obtain ⟨A4, c4, rfl, -⟩ := o4.reads.form
      obtain ⟨A5, c5, rfl, -⟩ := o5.reads.form
      have O3 := Lib.hid o3
      have O4 := Lib.hid o4
      have O5 := Lib.hid o5
      have AP := Lib.hid (And.intro ap1 (And.intro ap2 ap3))
      have hsw := HB.out.size
      clear o3 o4 o5 ap1 ap2 ap3 m0 m1 e0 e1 e2
      replace HB := Lib.hid (sz_keep HB.out hb)
      replace HZr := Lib.hid (blk_keep HZr.out hb)
      clear hb
      have j0 := blk_cell HZr.out 0
      have j1 := blk_cell HZr.out 1
      have j2 := blk_cell HZr.out 2
      have jf0 := blk_free HZr.out 0
      have jf1 := blk_free HZr.out 1
      have jf2 := blk_free HZr.out 2
      simp at j0 j1 j2
      go_wp2
      have d1 := blk_set (blk_set (blk_set (HZr.out) 0 (.slice A3 (ledE m e).vars.length c3)) 1 (.slice A4 (ledE m e).left.length c4)) 2 (.slice A5 (ledE m e).right.length c5)
      have n0 := (((O3.out.setLow (b := w.heap.size + 1 + 1 + 1 + 1) (by omega) 0 (.slice A3 (ledE m e).vars.length c3)).setLow (b := w.heap.size + 1 + 1 + 1 + 1) (by omega) 1 (.slice A4 (ledE m e).left.length c4)).setLow (b := w.heap.size + 1 + 1 + 1 + 1) (by omega) 2 (.slice A5 (ledE m e).right.length c5))
      have n1 := (((O4.out.setLow (b := w.heap.size + 1 + 1 + 1 + 1) (by omega) 0 (.slice A3 (ledE m e).vars.length c3)).setLow (b := w.heap.size + 1 + 1 + 1 + 1) (by omega) 1 (.slice A4 (ledE m e).left.length c4)).setLow (b := w.heap.size + 1 + 1 + 1 + 1) (by omega) 2 (.slice A5 (ledE m e).right.length c5))
      have n2 := (((O5.out.setLow (b := w.heap.size + 1 + 1 + 1 + 1) (by omega) 0 (.slice A3 (ledE m e).vars.length c3)).setLow (b := w.heap.size + 1 + 1 + 1 + 1) (by omega) 1 (.slice A4 (ledE m e).left.length c4)).setLow (b := w.heap.size + 1 + 1 + 1 + 1) (by omega) 2 (.slice A5 (ledE m e).right.length c5))
      have hbz := (((HB.out.setCell (p := ⟨w.heap.size + 1 + 1 + 1 + 1, 0, none⟩) (by show w.heap.size ≤ w.heap.size + 1 + 1 + 1 + 1; omega) (.slice A3 (ledE m e).vars.length c3)).setCell (p := ⟨w.heap.size + 1 + 1 + 1 + 1, 1, none⟩) (by show w.heap.size ≤ w.heap.size + 1 + 1 + 1 + 1; omega) (.slice A4 (ledE m e).left.length c4)).setCell (p := ⟨w.heap.size + 1 + 1 + 1 + 1, 2, none⟩) (by show w.heap.size ≤ w.heap.size + 1 + 1 + 1 + 1; omega) (.slice A5 (ledE m e).right.length c5))
      generalize ((w3.setCell ⟨w.heap.size + 1 + 1 + 1 + 1, 0, none⟩ (.slice A3 (ledE m e).vars.length c3)).setCell ⟨w.heap.size + 1 + 1 + 1 + 1, 1, none⟩ (.slice A4 (ledE m e).left.length c4)).setCell ⟨w.heap.size + 1 + 1 + 1 + 1, 2, none⟩ (.slice A5 (ledE m e).right.length c5) = wz at d1 hbz n0 n1 n2 ⊢
      have k0 := blk_cell d1 0
      have k1 := blk_cell d1 1
      have k2 := blk_cell d1 2
      simp at k0 k1 k2
      clear j0 j1 j2 jf0 jf1 jf2
      refine bodyPost_ret (v := .tuple #[.agg #[.slice A3 (ledE m e).vars.length c3, .slice A4 (ledE m e).left.length c4, .slice A5 (ledE m e).right.length c5], .bool true]) (by simp [results, Try.results18, go_sem, k0, k1, k2]) rfl ?_
      exact ⟨_, by rw [HE.out], by rw [HE.out]; exact ⟨_, _, _, rfl, n0.base (by omega), n1.base (by omega), n2.base (by omega), AP.out⟩, hbz⟩
end
end Go.Proofs.Yticldaddbljleaa
