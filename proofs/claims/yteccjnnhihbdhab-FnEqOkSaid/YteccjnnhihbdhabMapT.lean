/- Maps of signatures: how they read, how those that a call has made lie; the exact laws' measure, copy and comparison of one. -/
import Derived.Test.YteccjnnhihbdhabEqT
import Derived.Test.YteccjnnhihbdhabCut
import Derived.Test.YteccjnnhihbdhabVars
namespace Go.Proofs.Yteccjnnhihbdhab
open Go.RowKit
set_option linter.unusedVariables false
set_option linter.unusedSimpArgs false

structure MMap where
  sorts : List Int
  ops : List Int
def RMap (w : World) (v : Value) (m : MMap) : Prop := ∃ a0 a1, v = .agg #[a0, a1] ∧ RInts w a0 m.sorts ∧ RInts w a1 m.ops
def OMap (w : World) (B : Nat) (v : Value) (m : MMap) : Prop := ∃ a0 a1, v = .agg #[a0, a1] ∧ OInts w B a0 m.sorts ∧ OInts w B a1 m.ops ∧ Apart a0 a1
section
variable {w w' : World} {v : Value} {m : MMap} {B B' : Nat}
theorem RMap.keep (h : RMap w v m) (hb : Below w.heap.size w w') : RMap w' v m := by
  obtain ⟨a0, a1, rfl, h0, h1⟩ := h; exact ⟨a0, a1, rfl, h0.keep hb, h1.keep hb⟩
theorem OMap.keep (h : OMap w B v m) (hb : Below w.heap.size w w') : OMap w' B v m := by
  obtain ⟨a0, a1, rfl, h0, h1, hap⟩ := h; exact ⟨a0, a1, rfl, h0.keep hb, h1.keep hb, hap⟩
theorem OMap.base (h : OMap w B v m) (hB : B' ≤ B) : OMap w B' v m := by
  obtain ⟨a0, a1, rfl, h0, h1, hap⟩ := h; exact ⟨a0, a1, rfl, h0.base hB, h1.base hB, hap⟩
theorem OMap.same (h : OMap w B v m) (hk : ∀ k, B ≤ k → k < w.heap.size → w'.heap[k]? = w.heap[k]?) : OMap w' B v m := by
  obtain ⟨a0, a1, rfl, h0, h1, hap⟩ := h; exact ⟨a0, a1, rfl, h0.same hk, h1.same hk, hap⟩
theorem OMap.reads (h : OMap w B v m) : RMap w v m := by
  obtain ⟨a0, a1, rfl, h0, h1, -⟩ := h; exact ⟨a0, a1, rfl, h0.reads, h1.reads⟩
theorem RMap.form (h : RMap w v m) : ∃ A0 c0 A1 c1, v = .agg #[.slice A0 m.sorts.length c0, .slice A1 m.ops.length c1] := by
  obtain ⟨a0, a1, rfl, h0, h1⟩ := h
  obtain ⟨A0, c0, rfl, -⟩ := h0.form
  obtain ⟨A1, c1, rfl, -⟩ := h1.form
  exact ⟨_, _, _, _, rfl⟩
theorem RMap.of {a0 a1 : Value} (h : RMap w (.agg #[a0, a1]) m) : RInts w a0 m.sorts ∧ RInts w a1 m.ops := by
  obtain ⟨a0', a1', he, h0, h1⟩ := h
  injection he with he
  simp at he
  obtain ⟨rfl, rfl⟩ := he
  exact ⟨h0, h1⟩
theorem OMap.of {a0 a1 : Value} (h : OMap w B (.agg #[a0, a1]) m) : OInts w B a0 m.sorts ∧ OInts w B a1 m.ops ∧ Apart a0 a1 := by
  obtain ⟨a0', a1', he, hr⟩ := h
  injection he with he
  simp at he
  obtain ⟨rfl, rfl⟩ := he
  exact hr
end
def FitsMp (m : MMap) : Prop := m.sorts.length ≤ 1048576 ∧ m.ops.length ≤ 1048576
def SmallMp (m : MMap) : Prop := Small m.sorts ∧ Small m.ops
def sameMp (a b : MMap) : Bool := (sameI a.sorts b.sorts) && sameI a.ops b.ops
theorem sameMp_self (a : MMap) : sameMp a a = true := by unfold sameMp sameI; simp
theorem sameMp_eq {a b : MMap} : sameMp a b = true ↔ a = b := by
  obtain ⟨x0, x1⟩ := a
  obtain ⟨y0, y1⟩ := b
  unfold sameMp sameI
  simp [and_assoc]
theorem szMap_any (v : Value) (m : MMap) (left : Int) (w : World) (h : RMap w v m) (h0 : 0 ≤ left) (h1 : left ≤ 1048576) :
    Calls Try.prog 10 #[v, .int .i64 left] w fun e' w' => ∃ r : Int, e' = .returned (.int .i64 r) ∧ (r < 0 ∨ (0 ≤ r ∧ r ≤ left ∧ FitsMp m)) ∧ Below w.heap.size w w' := by
  obtain ⟨a0, a1, rfl, k0, k1⟩ := h
  obtain ⟨xs0, xs1⟩ := m
  simp only at k0 k1
  have hb := below_alloc w (.cells #[a0, a1] 27)
  have HB := Lib.hid hb
  have K0 := Lib.hid (k0.keep hb)
  have K1 := Lib.hid (k1.keep hb)
  obtain ⟨A0, c0, rfl, -⟩ := k0.form
  obtain ⟨A1, c1, rfl, -⟩ := k1.form
  clear k0 k1 hb
  go_enter Try.func10, Try.ntmps10
  go_wp2_with fail
  refine (szIntS_any _ xs0 _ _ K0.out h0 h1).mono ?_
  rintro e w1 ⟨r0, rfl, hr, rfl⟩
  by_cases hneg0 : r0 < 0
  · clear hr
    go_wp2
    go_ret
    exact ⟨-1, rfl, .inl (by omega), HB.out⟩
  have hr1 := hr.resolve_left hneg0
  clear hr
  obtain ⟨p0, hr3⟩ := hr1
  have Q0 := Lib.hid hr3
  have s0 : r0 ≤ 1048576 := by omega
  clear hr3
  go_wp2_with fail
  refine (szIntS_any _ xs1 _ _ K1.out p0 s0).mono ?_
  rintro e w1 ⟨r1, rfl, hr, rfl⟩
  by_cases hneg1 : r1 < 0
  · clear hr
    go_wp2
    go_ret
    exact ⟨-1, rfl, .inl (by omega), HB.out⟩
  have hr1 := hr.resolve_left hneg1
  clear hr
  obtain ⟨p1, hr3⟩ := hr1
  have Q1 := Lib.hid hr3
  have s1 : r1 ≤ 1048576 := by omega
  clear hr3
  go_wp2
  go_ret
  have q0 := Q0.out
  have q1 := Q1.out
  refine ⟨r1, rfl, .inr ⟨p1, by omega, ⟨?_, ?_⟩⟩, HB.out⟩ <;> simp only <;> omega
set_option maxRecDepth 100000 in
theorem toMap_any (v : Value) (m : MMap) (w : World) (h : RMap w v m) (hs : FitsMp m) :
    Calls Try.prog 14 #[v] w fun e' w' => ∃ u, e' = .returned u ∧ OMap w' w.heap.size u m ∧ Below w.heap.size w w' := by
  obtain ⟨x0, x1, rfl, h0, h1⟩ := h
  obtain ⟨xs0, xs1⟩ := m
  obtain ⟨hs0, hs1⟩ := hs
  simp only at h0 h1 hs0 hs1
  obtain ⟨A0, c0, rfl, -⟩ := h0.form
  obtain ⟨A1, c1, rfl, -⟩ := h1.form
  have hm := Mk.start w 27 37 #[.slice A0 xs0.length c0, .slice A1 xs1.length c1] #[.slice none 0 0, .slice none 0 0] #[.slice none 0 0, .slice none 0 0]
  generalize hW : ((w.alloc (.cells #[.slice A0 xs0.length c0, .slice A1 xs1.length c1] 27)).alloc (.cells #[.slice none 0 0, .slice none 0 0] 37)).alloc (.cells #[.slice none 0 0, .slice none 0 0] 37) = W at hm
  have H0 := Lib.hid (h0.keep hm.b)
  have H1 := Lib.hid h1
  have p0 : W.cell? ⟨w.heap.size, 0, none⟩ = some (.slice A0 xs0.length c0) := hm.ca 0
  have HM := Lib.hid hm
  clear h0 h1 hm
  go_enter Try.func14, Try.ntmps14
  go_wp2_with fail
  clear hW
  refine (toIntS_any _ xs0 _ H0.out hs0).mono ?_
  rintro e y0 ⟨u0, rfl, ho, hb⟩
  have hz0 := HM.out.z
  have hm := HM.out.below hb
  obtain ⟨B0, d0, rfl, -⟩ := ho.reads.form
  have q0 : y0.cell? ⟨w.heap.size + 2, 0, none⟩ = some (.slice none 0 0) := hm.co 0
  have q1 := hm.fo 0
  have hmn := hm.setO 0 (.slice B0 xs0.length d0)
  have n0 := ho.setLow (b := w.heap.size + 2) (by omega) 0 (.slice B0 xs0.length d0)
  generalize hW0 : y0.setCell ⟨w.heap.size + 2, 0, none⟩ (.slice B0 xs0.length d0) = Y0 at hmn n0
  have p1 : Y0.cell? ⟨w.heap.size, 1, none⟩ = some (.slice A1 xs1.length c1) := hmn.ca 1
  have O0 := Lib.hid n0
  have H1 := Lib.hid (H1.out.keep hmn.b)
  replace HM := Lib.hid hmn
  clear ho hb hm p0 hmn n0 H0
  go_wp2_with fail
  clear hW0 q0 q1
  refine (toIntS_any _ xs1 _ H1.out hs1).mono ?_
  rintro e y1 ⟨u1, rfl, ho, hb⟩
  have hz1 := HM.out.z
  have hm := HM.out.below hb
  obtain ⟨B1, d1, rfl, -⟩ := ho.reads.form
  have ap0_1 := Lib.hid (apart_later O0.out ho)
  have hmn := (((hm.setO 1 (.slice B1 xs1.length d1)).setR 0 (.slice B0 xs0.length d0)).setR 1 (.slice B1 xs1.length d1))
  have n0 := ((((O0.out.keep hb).setLow (b := w.heap.size + 2) (by omega) 1 (.slice B1 xs1.length d1)).setLow (b := w.heap.size + 1) (by omega) 0 (.slice B0 xs0.length d0)).setLow (b := w.heap.size + 1) (by omega) 1 (.slice B1 xs1.length d1))
  have n1 := (((ho.setLow (b := w.heap.size + 2) (by omega) 1 (.slice B1 xs1.length d1)).setLow (b := w.heap.size + 1) (by omega) 0 (.slice B0 xs0.length d0)).setLow (b := w.heap.size + 1) (by omega) 1 (.slice B1 xs1.length d1))
  have HF := Lib.hid (And.intro n0 (And.intro n1 hmn))
  have g0 : y1.cell? ⟨w.heap.size + 2, 0, none⟩ = some (.slice B0 xs0.length d0) := hm.co 0
  have g1 : y1.cell? ⟨w.heap.size + 2, 1, none⟩ = some (.slice none 0 0) := hm.co 1
  have gf := hm.fo 1
  have r0 : y1.cell? ⟨w.heap.size + 1, 0, none⟩ = some (.slice none 0 0) := hm.cr 0
  have f0 := hm.fr 0
  have r1 : y1.cell? ⟨w.heap.size + 1, 1, none⟩ = some (.slice none 0 0) := hm.cr 1
  have f1 := hm.fr 1
  clear ho hb hm hmn n0 n1 O0 H1 p1 HM
  go_wp2
  obtain ⟨n0, n1, hmn⟩ := HF.out
  generalize ((y1.setCell ⟨w.heap.size + 2, 1, none⟩ (.slice B1 xs1.length d1)).setCell ⟨w.heap.size + 1, 0, none⟩ (.slice B0 xs0.length d0)).setCell ⟨w.heap.size + 1, 1, none⟩ (.slice B1 xs1.length d1) = wz at n0 n1 hmn ⊢
  have k0 : wz.cell? ⟨w.heap.size + 1, 0, none⟩ = some (.slice B0 xs0.length d0) := hmn.cr 0
  have k1 : wz.cell? ⟨w.heap.size + 1, 1, none⟩ = some (.slice B1 xs1.length d1) := hmn.cr 1
  clear g0 g1 gf r0 f0 r1 f1
  refine bodyPost_ret (v := .agg #[.slice B0 xs0.length d0, .slice B1 xs1.length d1]) (by simp [results, Try.results14, go_sem, k0, k1]) rfl ?_
  exact ⟨_, rfl, ⟨_, _, rfl, n0.base (by omega), n1.base (by omega), ap0_1.out⟩, hmn.b⟩
theorem eqMap_any (v v' : Value) (a b : MMap) (w : World) (h : RMap w v a) (h' : RMap w v' b) :
    Calls Try.prog 19 #[v, v'] w fun e w' => e = .returned (.bool (sameMp a b)) ∧ Below w.heap.size w w' := by
  obtain ⟨x0, x1, rfl, h0, h1⟩ := h
  obtain ⟨y0, y1, rfl, k0, k1⟩ := h'
  have hb2 : Below w.heap.size w ((w.alloc (.cells #[x0, x1] 37)).alloc (.cells #[y0, y1] 37)) := (below_alloc _ _).alloc (by simp) _
  have HB := Lib.hid hb2
  have H0 := Lib.hid (h0.keep hb2)
  have K0 := Lib.hid (k0.keep hb2)
  have H1 := Lib.hid (h1.keep hb2)
  have K1 := Lib.hid (k1.keep hb2)
  obtain ⟨a0, a1⟩ := a
  obtain ⟨b0, b1⟩ := b
  simp only at h0 h1 k0 k1 H0 H1 K0 K1
  obtain ⟨A0, c0, rfl, -⟩ := h0.form
  obtain ⟨D0, d0, rfl, -⟩ := k0.form
  obtain ⟨A1, c1, rfl, -⟩ := h1.form
  obtain ⟨D1, d1, rfl, -⟩ := k1.form
  clear h0 h1 k0 k1 hb2
  have f0 := cell_keep (below_alloc (w.alloc (.cells #[.slice A0 a0.length c0, .slice A1 a1.length c1] 37)) (.cells #[.slice D0 b0.length d0, .slice D1 b1.length d1] 37)) (bx_at w #[.slice A0 a0.length c0, .slice A1 a1.length c1] 37 (k := 0) rfl)
  have f1 := cell_keep (below_alloc (w.alloc (.cells #[.slice A0 a0.length c0, .slice A1 a1.length c1] 37)) (.cells #[.slice D0 b0.length d0, .slice D1 b1.length d1] 37)) (bx_at w #[.slice A0 a0.length c0, .slice A1 a1.length c1] 37 (k := 1) rfl)
  have g0 := bx_at (w.alloc (.cells #[.slice A0 a0.length c0, .slice A1 a1.length c1] 37)) #[.slice D0 b0.length d0, .slice D1 b1.length d1] 37 (k := 0) rfl
  have g1 := bx_at (w.alloc (.cells #[.slice A0 a0.length c0, .slice A1 a1.length c1] 37)) #[.slice D0 b0.length d0, .slice D1 b1.length d1] 37 (k := 1) rfl
  simp only [World.size_alloc] at g0 g1
  generalize hW : (w.alloc (.cells #[.slice A0 a0.length c0, .slice A1 a1.length c1] 37)).alloc (.cells #[.slice D0 b0.length d0, .slice D1 b1.length d1] 37) = W at HB H0 H1 K0 K1 f0 f1 g0 g1
  have HE : Hid (sameMp ⟨a0, a1⟩ ⟨b0, b1⟩ = ((sameI a0 b0) && sameI a1 b1)) := rfl
  cases x0 : sameI a0 b0 with
  | false =>
    rw [x0] at HE
    have X0 := Lib.hid x0
    clear x0
    go_enter Try.func19, Try.ntmps19
    go_wp2_with fail
    clear hW
    refine (eqIntS_is _ _ _ _ _ _ X0.out H0.out K0.out).mono ?_
    rintro e z0 ⟨rfl, hd⟩
    have hb := hd.below
    replace HB := Lib.hid (sz_keep HB.out hb)
    replace f1 := cell_keep hb f1
    replace g1 := cell_keep hb g1
    replace H1 := Lib.hid (H1.out.keep hb)
    replace K1 := Lib.hid (K1.out.keep hb)
    clear hd hb f0 g0 H0 K0
    go_wp2
    go_ret
    exact ⟨ret_bool HE.out.symm, HB.out⟩
  | true =>
    rw [x0] at HE
    have X0 := Lib.hid x0
    clear x0
    cases x1 : sameI a1 b1 with
    | false =>
      rw [x1] at HE
      have X1 := Lib.hid x1
      clear x1
      go_enter Try.func19, Try.ntmps19
      go_wp2_with fail
      clear hW
      refine (eqIntS_is _ _ _ _ _ _ X0.out H0.out K0.out).mono ?_
      rintro e z0 ⟨rfl, hd⟩
      have hb := hd.below
      replace HB := Lib.hid (sz_keep HB.out hb)
      replace f1 := cell_keep hb f1
      replace g1 := cell_keep hb g1
      replace H1 := Lib.hid (H1.out.keep hb)
      replace K1 := Lib.hid (K1.out.keep hb)
      clear hd hb f0 g0 H0 K0
      go_wp2_with fail
      refine (eqIntS_is _ _ _ _ _ _ X1.out H1.out K1.out).mono ?_
      rintro e z1 ⟨rfl, hd⟩
      have hb := hd.below
      replace HB := Lib.hid (sz_keep HB.out hb)
      clear hd hb f1 g1 H1 K1
      go_wp2
      go_ret
      exact ⟨ret_bool HE.out.symm, HB.out⟩
    | true =>
      rw [x1] at HE
      have X1 := Lib.hid x1
      clear x1
      go_enter Try.func19, Try.ntmps19
      go_wp2_with fail
      clear hW
      refine (eqIntS_is _ _ _ _ _ _ X0.out H0.out K0.out).mono ?_
      rintro e z0 ⟨rfl, hd⟩
      have hb := hd.below
      replace HB := Lib.hid (sz_keep HB.out hb)
      replace f1 := cell_keep hb f1
      replace g1 := cell_keep hb g1
      replace H1 := Lib.hid (H1.out.keep hb)
      replace K1 := Lib.hid (K1.out.keep hb)
      clear hd hb f0 g0 H0 K0
      go_wp2_with fail
      refine (eqIntS_is _ _ _ _ _ _ X1.out H1.out K1.out).mono ?_
      rintro e z1 ⟨rfl, hd⟩
      have hb := hd.below
      replace HB := Lib.hid (sz_keep HB.out hb)
      clear hd hb f1 g1 H1 K1
      go_wp2
      go_ret
      exact ⟨ret_bool HE.out.symm, HB.out⟩
theorem eqMap_is (v v' : Value) (a b : MMap) (w : World) (r : Bool) (hr : sameMp a b = r) (h : RMap w v a) (h' : RMap w v' b) :
    Calls Try.prog 19 #[v, v'] w fun e w' => e = .returned (.bool r) ∧ Below w.heap.size w w' := by
  subst hr; exact eqMap_any v v' a b w h h'
end Go.Proofs.Yteccjnnhihbdhab
