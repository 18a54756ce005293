/- Models: how they read, how those that a call has made lie; the exact laws' measure, copy and comparison of one. -/
import Derived.Test.YteccjnnhihbdhabThyT
import Derived.Test.YteccjnnhihbdhabTo2
import Derived.Test.YteccjnnhihbdhabCut
namespace Go.Proofs.Yteccjnnhihbdhab
open Go.RowKit
set_option linter.unusedVariables false
set_option linter.unusedSimpArgs false

structure MModel where
  sizes : List Int
  tables : List (List Int)
def RModel (w : World) (v : Value) (m : MModel) : Prop := ∃ a0 a1, v = .agg #[a0, a1] ∧ RInts w a0 m.sizes ∧ RRows w a1 m.tables
/-- the row of the sizes lies below a block number, the tables from there on -/
def OModel (w : World) (B : Nat) (v : Value) (m : MModel) : Prop := ∃ a0 a1, v = .agg #[a0, a1] ∧ OInts w B a0 m.sizes ∧ ∃ C, B ≤ C ∧ (∀ k, a0.ownBlock = some k → k < C) ∧ ORows w C a1 m.tables
section
variable {w w' : World} {v : Value} {m : MModel} {B B' : Nat}
theorem RModel.keep (h : RModel w v m) (hb : Below w.heap.size w w') : RModel w' v m := by
  obtain ⟨a0, a1, rfl, h0, h1⟩ := h; exact ⟨a0, a1, rfl, h0.keep hb, h1.keep hb⟩
theorem OModel.keep (h : OModel w B v m) (hb : Below w.heap.size w w') : OModel w' B v m := by
  obtain ⟨a0, a1, rfl, h0, C, hC, hl, h1⟩ := h; exact ⟨a0, a1, rfl, h0.keep hb, C, hC, hl, h1.keep hb⟩
theorem OModel.base (h : OModel w B v m) (hB : B' ≤ B) : OModel w B' v m := by
  obtain ⟨a0, a1, rfl, h0, C, hC, hl, h1⟩ := h; exact ⟨a0, a1, rfl, h0.base hB, C, by omega, hl, h1⟩
theorem OModel.same (h : OModel w B v m) (hk : ∀ k, B ≤ k → k < w.heap.size → w'.heap[k]? = w.heap[k]?) : OModel w' B v m := by
  obtain ⟨a0, a1, rfl, h0, C, hC, hl, h1⟩ := h; exact ⟨a0, a1, rfl, h0.same hk, C, hC, hl, h1.same fun k q1 q2 => hk k (by omega) q2⟩
theorem OModel.reads (h : OModel w B v m) : RModel w v m := by
  obtain ⟨a0, a1, rfl, h0, C, hC, hl, h1⟩ := h; exact ⟨a0, a1, rfl, h0.reads, h1.reads⟩
theorem RModel.form (h : RModel w v m) : ∃ A0 c0 A1 c1, v = .agg #[.slice A0 m.sizes.length c0, .slice A1 m.tables.length c1] := by
  obtain ⟨a0, a1, rfl, h0, h1⟩ := h
  obtain ⟨A0, c0, rfl, -⟩ := h0.form
  obtain ⟨A1, c1, rfl, -⟩ := h1.form
  exact ⟨_, _, _, _, rfl⟩
theorem RModel.of {a0 a1 : Value} (h : RModel w (.agg #[a0, a1]) m) : RInts w a0 m.sizes ∧ RRows w a1 m.tables := by
  obtain ⟨a0', a1', he, h0, h1⟩ := h
  injection he with he
  simp at he
  obtain ⟨rfl, rfl⟩ := he
  exact ⟨h0, h1⟩
theorem RModel.mk {a0 a1 : Value} (h0 : RInts w a0 m.sizes) (h1 : RRows w a1 m.tables) : RModel w (.agg #[a0, a1]) m := ⟨a0, a1, rfl, h0, h1⟩
end
def FitsMd (m : MModel) : Prop := m.sizes.length ≤ 1048576 ∧ Fits m.tables
def sameMd (a b : MModel) : Bool := (sameI a.sizes b.sizes) && sameR a.tables b.tables
theorem sameMd_self (a : MModel) : sameMd a a = true := by unfold sameMd sameI sameR; simp
theorem sameMd_eq {a b : MModel} : sameMd a b = true ↔ a = b := by
  obtain ⟨x0, x1⟩ := a
  obtain ⟨y0, y1⟩ := b
  unfold sameMd sameI sameR
  simp [and_assoc]
theorem szModel_any (v : Value) (m : MModel) (left : Int) (w : World) (h : RModel w v m) (h0 : 0 ≤ left) (h1 : left ≤ 1048576) :
    Calls Try.prog 11 #[v, .int .i64 left] w fun e' w' => ∃ r : Int, e' = .returned (.int .i64 r) ∧ (r < 0 ∨ (0 ≤ r ∧ r ≤ left ∧ FitsMd m)) ∧ Below w.heap.size w w' := by
  obtain ⟨a0, a1, rfl, k0, k1⟩ := h
  obtain ⟨xs0, xs1⟩ := m
  simp only at k0 k1
  have hb := below_alloc w (.cells #[a0, a1] 29)
  have HB := Lib.hid hb
  have K0 := Lib.hid (k0.keep hb)
  have K1 := Lib.hid (k1.keep hb)
  obtain ⟨A0, c0, rfl, -⟩ := k0.form
  obtain ⟨A1, c1, rfl, -⟩ := k1.form
  clear k0 k1 hb
  go_enter Try.func11, Try.ntmps11
  go_wp2_with fail
  refine (szIntS_any _ xs0 _ _ K0.out h0 h1).mono ?_
  rintro e w1 ⟨r0, rfl, hr, rfl⟩
  by_cases hneg0 : r0 < 0
  · clear hr
    go_wp2
    go_ret
    exact ⟨-1, rfl, .inl (by omega), HB.out⟩
  have hr1 := hr.resolve_left hneg0
  clear hr
  obtain ⟨p0, hr3⟩ := hr1
  have Q0 := Lib.hid hr3
  have s0 : r0 ≤ 1048576 := by omega
  clear hr3
  go_wp2_with fail
  refine (szIntSS_any _ xs1 _ _ K1.out p0 s0).mono ?_
  rintro e w1 ⟨r1, rfl, hr, rfl⟩
  by_cases hneg1 : r1 < 0
  · clear hr
    go_wp2
    go_ret
    exact ⟨-1, rfl, .inl (by omega), HB.out⟩
  have hr1 := hr.resolve_left hneg1
  clear hr
  obtain ⟨p1, hr3, hr4⟩ := hr1
  have Q1 := Lib.hid hr4
  clear hr4
  go_wp2
  go_ret
  have q0 := Q0.out
  exact ⟨r1, rfl, .inr ⟨p1, by omega, ⟨by simp only; omega, Q1.out⟩⟩, HB.out⟩
set_option maxRecDepth 100000 in
theorem toModel_any (v : Value) (m : MModel) (w : World) (h : RModel w v m) (hs : FitsMd m) :
    Calls Try.prog 15 #[v] w fun e' w' => ∃ u, e' = .returned u ∧ OModel w' w.heap.size u m ∧ Below w.heap.size w w' := by
  obtain ⟨x0, x1, rfl, h0, h1⟩ := h
  obtain ⟨xs0, xs1⟩ := m
  obtain ⟨hs0, hs1⟩ := hs
  simp only at h0 h1 hs0 hs1
  obtain ⟨A0, c0, rfl, -⟩ := h0.form
  obtain ⟨A1, c1, rfl, -⟩ := h1.form
  have hm := Mk.start w 29 33 #[.slice A0 xs0.length c0, .slice A1 xs1.length c1] #[.slice none 0 0, .slice none 0 0] #[.slice none 0 0, .slice none 0 0]
  generalize hW : ((w.alloc (.cells #[.slice A0 xs0.length c0, .slice A1 xs1.length c1] 29)).alloc (.cells #[.slice none 0 0, .slice none 0 0] 33)).alloc (.cells #[.slice none 0 0, .slice none 0 0] 33) = W at hm
  have H0 := Lib.hid (h0.keep hm.b)
  have H1 := Lib.hid h1
  have p0 : W.cell? ⟨w.heap.size, 0, none⟩ = some (.slice A0 xs0.length c0) := hm.ca 0
  have HM := Lib.hid hm
  clear h0 h1 hm
  go_enter Try.func15, Try.ntmps15
  go_wp2_with fail
  clear hW
  refine (toIntS_any _ xs0 _ H0.out hs0).mono ?_
  rintro e y0 ⟨u0, rfl, ho, hb⟩
  have hz0 := HM.out.z
  have hm := HM.out.below hb
  obtain ⟨B0, d0, rfl, -⟩ := ho.reads.form
  have q0 : y0.cell? ⟨w.heap.size + 2, 0, none⟩ = some (.slice none 0 0) := hm.co 0
  have q1 := hm.fo 0
  have hmn := hm.setO 0 (.slice B0 xs0.length d0)
  have n0 := ho.setLow (b := w.heap.size + 2) (by omega) 0 (.slice B0 xs0.length d0)
  generalize hW0 : y0.setCell ⟨w.heap.size + 2, 0, none⟩ (.slice B0 xs0.length d0) = Y0 at hmn n0
  have p1 : Y0.cell? ⟨w.heap.size, 1, none⟩ = some (.slice A1 xs1.length c1) := hmn.ca 1
  have O0 := Lib.hid n0
  have H1 := Lib.hid (H1.out.keep hmn.b)
  replace HM := Lib.hid hmn
  clear ho hb hm p0 hmn n0 H0
  go_wp2_with fail
  clear hW0 q0 q1
  refine (toIntSS_any _ xs1 _ H1.out hs1).mono ?_
  rintro e y1 ⟨u1, rfl, ho, hb⟩
  have hz1 := HM.out.z
  have hm := HM.out.below hb
  obtain ⟨B1, d1, rfl, -⟩ := ho.reads.form
  have hlt0 := Lib.hid (fun k e => (own_lt O0.out k e).2)
  have HZ1 := Lib.hid HM.out.z
  have hmn := (((hm.setO 1 (.slice B1 xs1.length d1)).setR 0 (.slice B0 xs0.length d0)).setR 1 (.slice B1 xs1.length d1))
  have n0 := ((((O0.out.keep hb).setLow (b := w.heap.size + 2) (by omega) 1 (.slice B1 xs1.length d1)).setLow (b := w.heap.size + 1) (by omega) 0 (.slice B0 xs0.length d0)).setLow (b := w.heap.size + 1) (by omega) 1 (.slice B1 xs1.length d1))
  have n1 := (((ho.setLowT (b := w.heap.size + 2) (by omega) 1 (.slice B1 xs1.length d1)).setLowT (b := w.heap.size + 1) (by omega) 0 (.slice B0 xs0.length d0)).setLowT (b := w.heap.size + 1) (by omega) 1 (.slice B1 xs1.length d1))
  have HF := Lib.hid (And.intro n0 (And.intro n1 hmn))
  have g0 : y1.cell? ⟨w.heap.size + 2, 0, none⟩ = some (.slice B0 xs0.length d0) := hm.co 0
  have g1 : y1.cell? ⟨w.heap.size + 2, 1, none⟩ = some (.slice none 0 0) := hm.co 1
  have gf := hm.fo 1
  have r0 : y1.cell? ⟨w.heap.size + 1, 0, none⟩ = some (.slice none 0 0) := hm.cr 0
  have f0 := hm.fr 0
  have r1 : y1.cell? ⟨w.heap.size + 1, 1, none⟩ = some (.slice none 0 0) := hm.cr 1
  have f1 := hm.fr 1
  clear ho hb hm hmn n0 n1 O0 H1 p1 HM
  go_wp2
  obtain ⟨n0, n1, hmn⟩ := HF.out
  generalize ((y1.setCell ⟨w.heap.size + 2, 1, none⟩ (.slice B1 xs1.length d1)).setCell ⟨w.heap.size + 1, 0, none⟩ (.slice B0 xs0.length d0)).setCell ⟨w.heap.size + 1, 1, none⟩ (.slice B1 xs1.length d1) = wz at n0 n1 hmn ⊢
  have k0 : wz.cell? ⟨w.heap.size + 1, 0, none⟩ = some (.slice B0 xs0.length d0) := hmn.cr 0
  have k1 : wz.cell? ⟨w.heap.size + 1, 1, none⟩ = some (.slice B1 xs1.length d1) := hmn.cr 1
  clear g0 g1 gf r0 f0 r1 f1
  refine bodyPost_ret (v := .agg #[.slice B0 xs0.length d0, .slice B1 xs1.length d1]) (by simp [results, Try.results15, go_sem, k0, k1]) rfl ?_
  exact ⟨_, rfl, ⟨_, _, rfl, n0.base (by omega), _, by have := HZ1.out; omega, hlt0.out, n1⟩, hmn.b⟩
theorem eqModel_any (v v' : Value) (a b : MModel) (w : World) (h : RModel w v a) (h' : RModel w v' b) :
    Calls Try.prog 17 #[v, v'] w fun e w' => e = .returned (.bool (sameMd a b)) ∧ Below w.heap.size w w' := by
  obtain ⟨x0, x1, rfl, h0, h1⟩ := h
  obtain ⟨y0, y1, rfl, k0, k1⟩ := h'
  have hb2 : Below w.heap.size w ((w.alloc (.cells #[x0, x1] 33)).alloc (.cells #[y0, y1] 33)) := (below_alloc _ _).alloc (by simp) _
  have HB := Lib.hid hb2
  have H0 := Lib.hid (h0.keep hb2)
  have K0 := Lib.hid (k0.keep hb2)
  have H1 := Lib.hid (h1.keep hb2)
  have K1 := Lib.hid (k1.keep hb2)
  obtain ⟨a0, a1⟩ := a
  obtain ⟨b0, b1⟩ := b
  simp only at h0 h1 k0 k1 H0 H1 K0 K1
  obtain ⟨A0, c0, rfl, -⟩ := h0.form
  obtain ⟨D0, d0, rfl, -⟩ := k0.form
  obtain ⟨A1, c1, rfl, -⟩ := h1.form
  obtain ⟨D1, d1, rfl, -⟩ := k1.form
  clear h0 h1 k0 k1 hb2
  have f0 := cell_keep (below_alloc (w.alloc (.cells #[.slice A0 a0.length c0, .slice A1 a1.length c1] 33)) (.cells #[.slice D0 b0.length d0, .slice D1 b1.length d1] 33)) (bx_at w #[.slice A0 a0.length c0, .slice A1 a1.length c1] 33 (k := 0) rfl)
  have f1 := cell_keep (below_alloc (w.alloc (.cells #[.slice A0 a0.length c0, .slice A1 a1.length c1] 33)) (.cells #[.slice D0 b0.length d0, .slice D1 b1.length d1] 33)) (bx_at w #[.slice A0 a0.length c0, .slice A1 a1.length c1] 33 (k := 1) rfl)
  have g0 := bx_at (w.alloc (.cells #[.slice A0 a0.length c0, .slice A1 a1.length c1] 33)) #[.slice D0 b0.length d0, .slice D1 b1.length d1] 33 (k := 0) rfl
  have g1 := bx_at (w.alloc (.cells #[.slice A0 a0.length c0, .slice A1 a1.length c1] 33)) #[.slice D0 b0.length d0, .slice D1 b1.length d1] 33 (k := 1) rfl
  simp only [World.size_alloc] at g0 g1
  generalize hW : (w.alloc (.cells #[.slice A0 a0.length c0, .slice A1 a1.length c1] 33)).alloc (.cells #[.slice D0 b0.length d0, .slice D1 b1.length d1] 33) = W at HB H0 H1 K0 K1 f0 f1 g0 g1
  have HE : Hid (sameMd ⟨a0, a1⟩ ⟨b0, b1⟩ = ((sameI a0 b0) && sameR a1 b1)) := rfl
  cases x0 : sameI a0 b0 with
  | false =>
    rw [x0] at HE
    have X0 := Lib.hid x0
    clear x0
    go_enter Try.func17, Try.ntmps17
    go_wp2_with fail
    clear hW
    refine (eqIntS_is _ _ _ _ _ _ X0.out H0.out K0.out).mono ?_
    rintro e z0 ⟨rfl, hd⟩
    have hb := hd.below
    replace HB := Lib.hid (sz_keep HB.out hb)
    replace f1 := cell_keep hb f1
    replace g1 := cell_keep hb g1
    replace H1 := Lib.hid (H1.out.keep hb)
    replace K1 := Lib.hid (K1.out.keep hb)
    clear hd hb f0 g0 H0 K0
    go_wp2
    go_ret
    exact ⟨ret_bool HE.out.symm, HB.out⟩
  | true =>
    rw [x0] at HE
    have X0 := Lib.hid x0
    clear x0
    cases x1 : sameR a1 b1 with
    | false =>
      rw [x1] at HE
      have X1 := Lib.hid x1
      clear x1
      go_enter Try.func17, Try.ntmps17
      go_wp2_with fail
      clear hW
      refine (eqIntS_is _ _ _ _ _ _ X0.out H0.out K0.out).mono ?_
      rintro e z0 ⟨rfl, hd⟩
      have hb := hd.below
      replace HB := Lib.hid (sz_keep HB.out hb)
      replace f1 := cell_keep hb f1
      replace g1 := cell_keep hb g1
      replace H1 := Lib.hid (H1.out.keep hb)
      replace K1 := Lib.hid (K1.out.keep hb)
      clear hd hb f0 g0 H0 K0
      go_wp2_with fail
      refine (eqIntSS_is _ _ _ _ _ _ X1.out H1.out K1.out).mono ?_
      rintro e z1 ⟨rfl, hd⟩
      have hb := hd.below
      replace HB := Lib.hid (sz_keep HB.out hb)
      clear hd hb f1 g1 H1 K1
      go_wp2
      go_ret
      exact ⟨ret_bool HE.out.symm, HB.out⟩
    | true =>
      rw [x1] at HE
      have X1 := Lib.hid x1
      clear x1
      go_enter Try.func17, Try.ntmps17
      go_wp2_with fail
      clear hW
      refine (eqIntS_is _ _ _ _ _ _ X0.out H0.out K0.out).mono ?_
      rintro e z0 ⟨rfl, hd⟩
      have hb := hd.below
      replace HB := Lib.hid (sz_keep HB.out hb)
      replace f1 := cell_keep hb f1
      replace g1 := cell_keep hb g1
      replace H1 := Lib.hid (H1.out.keep hb)
      replace K1 := Lib.hid (K1.out.keep hb)
      clear hd hb f0 g0 H0 K0
      go_wp2_with fail
      refine (eqIntSS_is _ _ _ _ _ _ X1.out H1.out K1.out).mono ?_
      rintro e z1 ⟨rfl, hd⟩
      have hb := hd.below
      replace HB := Lib.hid (sz_keep HB.out hb)
      clear hd hb f1 g1 H1 K1
      go_wp2
      go_ret
      exact ⟨ret_bool HE.out.symm, HB.out⟩
theorem eqModel_is (v v' : Value) (a b : MModel) (w : World) (r : Bool) (hr : sameMd a b = r) (h : RModel w v a) (h' : RModel w v' b) :
    Calls Try.prog 17 #[v, v'] w fun e w' => e = .returned (.bool r) ∧ Below w.heap.size w w' := by
  subst hr; exact eqModel_any v v' a b w h h'
end Go.Proofs.Yteccjnnhihbdhab
