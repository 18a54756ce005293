/- Maps of signatures: how they read, how those that a call has made lie; the exact laws' measure, copy and comparison of one. · What the proofs of the exact laws share: maps of signatures that came in. · Lists of lists of steps: how they read, what a call has made; measure, copy, comparison: szStepSS, toStepSS, eqStepSS. · Views: how they read, how those that a call has made lie; the exact laws' measure, copy and comparison of one. · What the proofs of the exact laws share: views that came in. · The plain functions of maps of signatures. No walk. · What holds of maps of signatures: themselves, one behind the other, terms along them. No walk. · Axioms along a map: the plain functions. No walk. -/
import Derived.Test.YtbopcghbmbchkaaKc5b8f7ab
namespace Go.Proofs.Ytbopcghbmbchkaa
section
open Go.RowKit
set_option linter.unusedVariables false
set_option linter.unusedSimpArgs false

structure MMap where
  sorts : List Int
  ops : List Int
def RMap (w : World) (v : Value) (m : MMap) : Prop := ∃ a0 a1, v = .agg #[a0, a1] ∧ RInts w a0 m.sorts ∧ RInts w a1 m.ops
def OMap (w : World) (B : Nat) (v : Value) (m : MMap) : Prop := ∃ a0 a1, v = .agg #[a0, a1] ∧ OInts w B a0 m.sorts ∧ OInts w B a1 m.ops ∧ Apart a0 a1
section
variable {w w' : World} {v : Value} {m : MMap} {B B' : Nat}
theorem RMap.keep (h : RMap w v m) (hb : Below w.heap.size w w') : RMap w' v m := by
  obtain ⟨a0, a1, rfl, h0, h1⟩ := h; exact ⟨a0, a1, rfl, h0.keep hb, h1.keep hb⟩
theorem OMap.keep (h : OMap w B v m) (hb : Below w.heap.size w w') : OMap w' B v m := by
  obtain ⟨a0, a1, rfl, h0, h1, hap⟩ := h; exact ⟨a0, a1, rfl, h0.keep hb, h1.keep hb, hap⟩
theorem OMap.base (h : OMap w B v m) (hB : B' ≤ B) : OMap w B' v m := by
  obtain ⟨a0, a1, rfl, h0, h1, hap⟩ := h; exact ⟨a0, a1, rfl, h0.base hB, h1.base hB, hap⟩
theorem OMap.same (h : OMap w B v m) (hk : ∀ k, B ≤ k → k < w.heap.size → w'.heap[k]? = w.heap[k]?) : OMap w' B v m := by
  obtain ⟨a0, a1, rfl, h0, h1, hap⟩ := h; exact ⟨a0, a1, rfl, h0.same hk, h1.same hk, hap⟩
theorem OMap.reads (h : OMap w B v m) : RMap w v m := by
  obtain ⟨a0, a1, rfl, h0, h1, -⟩ := h; exact ⟨a0, a1, rfl, h0.reads, h1.reads⟩
theorem RMap.form (h : RMap w v m) : ∃ A0 c0 A1 c1, v = .agg #[.slice A0 m.sorts.length c0, .slice A1 m.ops.length c1] := by
  obtain ⟨a0, a1, rfl, h0, h1⟩ := h
  obtain ⟨A0, c0, rfl, -⟩ := h0.form
  obtain ⟨A1, c1, rfl, -⟩ := h1.form
  exact ⟨_, _, _, _, rfl⟩
theorem RMap.of {a0 a1 : Value} (h : RMap w (.agg #[a0, a1]) m) : RInts w a0 m.sorts ∧ RInts w a1 m.ops := by
  obtain ⟨a0', a1', he, h0, h1⟩ := h
  injection he with he
  simp at he
  obtain ⟨rfl, rfl⟩ := he
  exact ⟨h0, h1⟩
theorem OMap.of {a0 a1 : Value} (h : OMap w B (.agg #[a0, a1]) m) : OInts w B a0 m.sorts ∧ OInts w B a1 m.ops ∧ Apart a0 a1 := by
  obtain ⟨a0', a1', he, hr⟩ := h
  injection he with he
  simp at he
  obtain ⟨rfl, rfl⟩ := he
  exact hr
end
def FitsMp (m : MMap) : Prop := m.sorts.length ≤ 1048576 ∧ m.ops.length ≤ 1048576
def SmallMp (m : MMap) : Prop := Small m.sorts ∧ Small m.ops
def sameMp (a b : MMap) : Bool := (sameI a.sorts b.sorts) && sameI a.ops b.ops
theorem sameMp_self (a : MMap) : sameMp a a = true := by unfold sameMp sameI; simp
theorem sameMp_eq {a b : MMap} : sameMp a b = true ↔ a = b := by
  obtain ⟨x0, x1⟩ := a
  obtain ⟨y0, y1⟩ := b
  unfold sameMp sameI
  simp [and_assoc]
theorem szMap_any (v : Value) (m : MMap) (left : Int) (w : World) (h : RMap w v m) (h0 : 0 ≤ left) (h1 : left ≤ 1048576) :
    Calls Try.prog 46 #[v, .int .i64 left] w fun e' w' => ∃ r : Int, e' = .returned (.int .i64 r) ∧ (r < 0 ∨ (0 ≤ r ∧ r ≤ left ∧ FitsMp m)) ∧ Below w.heap.size w w' := by
  obtain ⟨a0, a1, rfl, k0, k1⟩ := h
  obtain ⟨xs0, xs1⟩ := m
  simp only at k0 k1
  have hb := below_alloc w (.cells #[a0, a1] 30)
  have HB := Lib.hid hb
  have K0 := Lib.hid (k0.keep hb)
  have K1 := Lib.hid (k1.keep hb)
  obtain ⟨A0, c0, rfl, -⟩ := k0.form
  obtain ⟨A1, c1, rfl, -⟩ := k1.form
  clear k0 k1 hb
  go_enter Try.func46, Try.ntmps46
  go_wp2_with fail
  refine (szIntS_any _ xs0 _ _ K0.out h0 h1).mono ?_
  rintro e w1 ⟨r0, rfl, hr, rfl⟩
  by_cases hneg0 : r0 < 0
  · clear hr
    go_wp2
    go_ret
    exact ⟨-1, rfl, .inl (by omega), HB.out⟩
  have hr1 := hr.resolve_left hneg0
  clear hr
  obtain ⟨p0, hr3⟩ := hr1
  have Q0 := Lib.hid hr3
  have s0 : r0 ≤ 1048576 := by omega
  clear hr3
  go_wp2_with fail
  refine (szIntS_any _ xs1 _ _ K1.out p0 s0).mono ?_
  rintro e w1 ⟨r1, rfl, hr, rfl⟩
  by_cases hneg1 : r1 < 0
  · clear hr
    go_wp2
    go_ret
    exact ⟨-1, rfl, .inl (by omega), HB.out⟩
  have hr1 := hr.resolve_left hneg1
  clear hr
  obtain ⟨p1, hr3⟩ := hr1
  have Q1 := Lib.hid hr3
  have s1 : r1 ≤ 1048576 := by omega
  clear hr3
  go_wp2
  go_ret
  have q0 := Q0.out
  have q1 := Q1.out
  refine ⟨r1, rfl, .inr ⟨p1, by omega, ⟨?_, ?_⟩⟩, HB.out⟩ <;> simp only <;> omega
set_option maxRecDepth 100000 in
theorem toMap_any (v : Value) (m : MMap) (w : World) (h : RMap w v m) (hs : FitsMp m) :
    Calls Try.prog 53 #[v] w fun e' w' => ∃ u, e' = .returned u ∧ OMap w' w.heap.size u m ∧ Below w.heap.size w w' := by
  obtain ⟨x0, x1, rfl, h0, h1⟩ := h
  obtain ⟨xs0, xs1⟩ := m
  obtain ⟨hs0, hs1⟩ := hs
  simp only at h0 h1 hs0 hs1
  obtain ⟨A0, c0, rfl, -⟩ := h0.form
  obtain ⟨A1, c1, rfl, -⟩ := h1.form
  have hm := Mk.start w 30 42 #[.slice A0 xs0.length c0, .slice A1 xs1.length c1] #[.slice none 0 0, .slice none 0 0] #[.slice none 0 0, .slice none 0 0]
  generalize hW : ((w.alloc (.cells #[.slice A0 xs0.length c0, .slice A1 xs1.length c1] 30)).alloc (.cells #[.slice none 0 0, .slice none 0 0] 42)).alloc (.cells #[.slice none 0 0, .slice none 0 0] 42) = W at hm
  have H0 := Lib.hid (h0.keep hm.b)
  have H1 := Lib.hid h1
  have p0 : W.cell? ⟨w.heap.size, 0, none⟩ = some (.slice A0 xs0.length c0) := hm.ca 0
  have HM := Lib.hid hm
  clear h0 h1 hm
  go_enter Try.func53, Try.ntmps53
  go_wp2_with fail
  clear hW
  refine (toIntS_any _ xs0 _ H0.out hs0).mono ?_
  rintro e y0 ⟨u0, rfl, ho, hb⟩
  have hz0 := HM.out.z
  have hm := HM.out.below hb
  obtain ⟨B0, d0, rfl, -⟩ := ho.reads.form
  have q0 : y0.cell? ⟨w.heap.size + 2, 0, none⟩ = some (.slice none 0 0) := hm.co 0
  have q1 := hm.fo 0
  have hmn := hm.setO 0 (.slice B0 xs0.length d0)
  have n0 := ho.setLow (b := w.heap.size + 2) (by omega) 0 (.slice B0 xs0.length d0)
  generalize hW0 : y0.setCell ⟨w.heap.size + 2, 0, none⟩ (.slice B0 xs0.length d0) = Y0 at hmn n0
  have p1 : Y0.cell? ⟨w.heap.size, 1, none⟩ = some (.slice A1 xs1.length c1) := hmn.ca 1
  have O0 := Lib.hid n0
  have H1 := Lib.hid (H1.out.keep hmn.b)
  replace HM := Lib.hid hmn
  clear ho hb hm p0 hmn n0 H0
  go_wp2_with fail
  clear hW0 q0 q1
  refine (toIntS_any _ xs1 _ H1.out hs1).mono ?_
  rintro e y1 ⟨u1, rfl, ho, hb⟩
  have hz1 := HM.out.z
  have hm := HM.out.below hb
  obtain ⟨B1, d1, rfl, -⟩ := ho.reads.form
  have ap0_1 := Lib.hid (apart_later O0.out ho)
  have hmn := (((hm.setO 1 (.slice B1 xs1.length d1)).setR 0 (.slice B0 xs0.length d0)).setR 1 (.slice B1 xs1.length d1))
  have n0 := ((((O0.out.keep hb).setLow (b := w.heap.size + 2) (by omega) 1 (.slice B1 xs1.length d1)).setLow (b := w.heap.size + 1) (by omega) 0 (.slice B0 xs0.length d0)).setLow (b := w.heap.size + 1) (by omega) 1 (.slice B1 xs1.length d1))
  have n1 := (((ho.setLow (b := w.heap.size + 2) (by omega) 1 (.slice B1 xs1.length d1)).setLow (b := w.heap.size + 1) (by omega) 0 (.slice B0 xs0.length d0)).setLow (b := w.heap.size + 1) (by omega) 1 (.slice B1 xs1.length d1))
  have HF := Lib.hid (And.intro n0 (And.intro n1 hmn))
  have g0 : y1.cell? ⟨w.heap.size + 2, 0, none⟩ = some (.slice B0 xs0.length d0) := hm.co 0
  have g1 : y1.cell? ⟨w.heap.size + 2, 1, none⟩ = some (.slice none 0 0) := hm.co 1
  have gf := hm.fo 1
  have r0 : y1.cell? ⟨w.heap.size + 1, 0, none⟩ = some (.slice none 0 0) := hm.cr 0
  have f0 := hm.fr 0
  have r1 : y1.cell? ⟨w.heap.size + 1, 1, none⟩ = some (.slice none 0 0) := hm.cr 1
  have f1 := hm.fr 1
  clear ho hb hm hmn n0 n1 O0 H1 p1 HM
  go_wp2
  obtain ⟨n0, n1, hmn⟩ := HF.out
  generalize ((y1.setCell ⟨w.heap.size + 2, 1, none⟩ (.slice B1 xs1.length d1)).setCell ⟨w.heap.size + 1, 0, none⟩ (.slice B0 xs0.length d0)).setCell ⟨w.heap.size + 1, 1, none⟩ (.slice B1 xs1.length d1) = wz at n0 n1 hmn ⊢
  have k0 : wz.cell? ⟨w.heap.size + 1, 0, none⟩ = some (.slice B0 xs0.length d0) := hmn.cr 0
  have k1 : wz.cell? ⟨w.heap.size + 1, 1, none⟩ = some (.slice B1 xs1.length d1) := hmn.cr 1
  clear g0 g1 gf r0 f0 r1 f1
  refine bodyPost_ret (v := .agg #[.slice B0 xs0.length d0, .slice B1 xs1.length d1]) (by simp [results, Try.results53, go_sem, k0, k1]) rfl ?_
  exact ⟨_, rfl, ⟨_, _, rfl, n0.base (by omega), n1.base (by omega), ap0_1.out⟩, hmn.b⟩
theorem eqMap_any (v v' : Value) (a b : MMap) (w : World) (h : RMap w v a) (h' : RMap w v' b) :
    Calls Try.prog 61 #[v, v'] w fun e w' => e = .returned (.bool (sameMp a b)) ∧ Below w.heap.size w w' := by
  obtain ⟨x0, x1, rfl, h0, h1⟩ := h
  obtain ⟨y0, y1, rfl, k0, k1⟩ := h'
  have hb2 : Below w.heap.size w ((w.alloc (.cells #[x0, x1] 42)).alloc (.cells #[y0, y1] 42)) := (below_alloc _ _).alloc (by simp) _
  have HB := Lib.hid hb2
  have H0 := Lib.hid (h0.keep hb2)
  have K0 := Lib.hid (k0.keep hb2)
  have H1 := Lib.hid (h1.keep hb2)
  have K1 := Lib.hid (k1.keep hb2)
  obtain ⟨a0, a1⟩ := a
  obtain ⟨b0, b1⟩ := b
  simp only at h0 h1 k0 k1 H0 H1 K0 K1
  obtain ⟨A0, c0, rfl, -⟩ := h0.form
  obtain ⟨D0, d0, rfl, -⟩ := k0.form
  obtain ⟨A1, c1, rfl, -⟩ := h1.form
  obtain ⟨D1, d1, rfl, -⟩ := k1.form
  clear h0 h1 k0 k1 hb2
  have f0 := cell_keep (below_alloc (w.alloc (.cells #[.slice A0 a0.length c0, .slice A1 a1.length c1] 42)) (.cells #[.slice D0 b0.length d0, .slice D1 b1.length d1] 42)) (bx_at w #[.slice A0 a0.length c0, .slice A1 a1.length c1] 42 (k := 0) rfl)
  have f1 := cell_keep (below_alloc (w.alloc (.cells #[.slice A0 a0.length c0, .slice A1 a1.length c1] 42)) (.cells #[.slice D0 b0.length d0, .slice D1 b1.length d1] 42)) (bx_at w #[.slice A0 a0.length c0, .slice A1 a1.length c1] 42 (k := 1) rfl)
  have g0 := bx_at (w.alloc (.cells #[.slice A0 a0.length c0, .slice A1 a1.length c1] 42)) #[.slice D0 b0.length d0, .slice D1 b1.length d1] 42 (k := 0) rfl
  have g1 := bx_at (w.alloc (.cells #[.slice A0 a0.length c0, .slice A1 a1.length c1] 42)) #[.slice D0 b0.length d0, .slice D1 b1.length d1] 42 (k := 1) rfl
  simp only [World.size_alloc] at g0 g1
  generalize hW : (w.alloc (.cells #[.slice A0 a0.length c0, .slice A1 a1.length c1] 42)).alloc (.cells #[.slice D0 b0.length d0, .slice D1 b1.length d1] 42) = W at HB H0 H1 K0 K1 f0 f1 g0 g1
  have HE : Hid (sameMp ⟨a0, a1⟩ ⟨b0, b1⟩ = ((sameI a0 b0) && sameI a1 b1)) := rfl
  cases x0 : sameI a0 b0 with
  | false =>
    rw [x0] at HE
    have X0 := Lib.hid x0
    clear x0
    go_enter Try.func61, Try.ntmps61
    go_wp2_with fail
    clear hW
    refine (eqIntS_is _ _ _ _ _ _ X0.out H0.out K0.out).mono ?_
    rintro e z0 ⟨rfl, hd⟩
    have hb := hd.below
    replace HB := Lib.hid (sz_keep HB.out hb)
    replace f1 := cell_keep hb f1
    replace g1 := cell_keep hb g1
    replace H1 := Lib.hid (H1.out.keep hb)
    replace K1 := Lib.hid (K1.out.keep hb)
    clear hd hb f0 g0 H0 K0
    go_wp2
    go_ret
    exact ⟨ret_bool HE.out.symm, HB.out⟩
  | true =>
    rw [x0] at HE
    have X0 := Lib.hid x0
    clear x0
    cases x1 : sameI a1 b1 with
    | false =>
      rw [x1] at HE
      have X1 := Lib.hid x1
      clear x1
      go_enter Try.func61, Try.ntmps61
      go_wp2_with fail
      clear hW
      refine (eqIntS_is _ _ _ _ _ _ X0.out H0.out K0.out).mono ?_
      rintro e z0 ⟨rfl, hd⟩
      have hb := hd.below
      replace HB := Lib.hid (sz_keep HB.out hb)
      replace f1 := cell_keep hb f1
      replace g1 := cell_keep hb g1
      replace H1 := Lib.hid (H1.out.keep hb)
      replace K1 := Lib.hid (K1.out.keep hb)
      clear hd hb f0 g0 H0 K0
      go_wp2_with fail
      refine (eqIntS_is _ _ _ _ _ _ X1.out H1.out K1.out).mono ?_
      rintro e z1 ⟨rfl, hd⟩
      have hb := hd.below
      replace HB := Lib.hid (sz_keep HB.out hb)
      clear hd hb f1 g1 H1 K1
      go_wp2
      go_ret
      exact ⟨ret_bool HE.out.symm, HB.out⟩
    | true =>
      rw [x1] at HE
      have X1 := Lib.hid x1
      clear x1
      go_enter Try.func61, Try.ntmps61
      go_wp2_with fail
      clear hW
      refine (eqIntS_is _ _ _ _ _ _ X0.out H0.out K0.out).mono ?_
      rintro e z0 ⟨rfl, hd⟩
      have hb := hd.below
      replace HB := Lib.hid (sz_keep HB.out hb)
      replace f1 := cell_keep hb f1
      replace g1 := cell_keep hb g1
      replace H1 := Lib.hid (H1.out.keep hb)
      replace K1 := Lib.hid (K1.out.keep hb)
      clear hd hb f0 g0 H0 K0
      go_wp2_with fail
      refine (eqIntS_is _ _ _ _ _ _ X1.out H1.out K1.out).mono ?_
      rintro e z1 ⟨rfl, hd⟩
      have hb := hd.below
      replace HB := Lib.hid (sz_keep HB.out hb)
      clear hd hb f1 g1 H1 K1
      go_wp2
      go_ret
      exact ⟨ret_bool HE.out.symm, HB.out⟩
theorem eqMap_is (v v' : Value) (a b : MMap) (w : World) (r : Bool) (hr : sameMp a b = r) (h : RMap w v a) (h' : RMap w v' b) :
    Calls Try.prog 61 #[v, v'] w fun e w' => e = .returned (.bool r) ∧ Below w.heap.size w w' := by
  subst hr; exact eqMap_any v v' a b w h h'
end

section
open Go.ChangeShapes Go.WideShapes Go.ChangeAt Go.RowKit Go.Deep Go.Joins
set_option linter.unusedVariables false

set_option maxRecDepth 100000 in
theorem cells_Map : Try.prog.cellsOf 30 = 2 := by kernel_rfl
set_option maxRecDepth 100000 in
theorem map_of {H : Type} {enc : TypeId × Value → H} {W : World} {base : Nat} {v : Value} {d : DataW H} {p : List MemPlace} (hv : Value.okWide Try.prog W .any base 30 v)
    (h : DataW.Trod enc Try.prog W 0 (fun _ => true) true 30 v d p) : ∃ m, RMap W v m := by
  obtain ⟨c0, c1, y0, y1, n, rfl, -, -, h0, h1⟩ := open_agg2 Try.underlying30 (by kernel_rfl) cells_Map hv h
  obtain ⟨xs0, r0, -⟩ := ints_cell h0
  obtain ⟨xs1, r1, -⟩ := ints_cell h1
  exact ⟨⟨xs0, xs1⟩, c0, c1, rfl, r0, r1⟩
end

section
open Go.RowKit
set_option linter.unusedVariables false

def RPss (w : World) (v : Value) (pss : List (List MStep)) : Prop :=
  ∃ A c, v = .slice A pss.length c ∧ pss.length ≤ c ∧ c ≤ maxLen ∧ ∀ j ps, pss[j]? = some ps → ∃ b o u, A = some ⟨b, o, none⟩ ∧ w.cell? ⟨b, o + j, none⟩ = some u ∧ RSteps w u ps
def SmallPss (pss : List (List MStep)) : Prop := ∀ ps ∈ pss, SmallPs ps
def FitsPss (pss : List (List MStep)) : Prop := pss.length ≤ 1048576 ∧ ∀ ps ∈ pss, FitsPs ps
def samePss : List (List MStep) → List (List MStep) → Bool
  | [], [] => true
  | a :: xs, b :: ys => samePs a b && samePss xs ys
  | _, _ => false
theorem samePss_eq {xs ys : List (List MStep)} : samePss xs ys = true ↔ xs = ys := by
  induction xs generalizing ys with
  | nil => cases ys <;> simp [samePss]
  | cons a xs ih => cases ys with
    | nil => simp [samePss]
    | cons b ys => simp [samePss, samePs_eq, ih]
theorem samePss_self (xs : List (List MStep)) : samePss xs xs = true := samePss_eq.2 rfl
section
variable {w w' : World} {v : Value} {pss : List (List MStep)}
theorem RPss.keep (h : RPss w v pss) (hb : Below w.heap.size w w') : RPss w' v pss := by
  obtain ⟨A, c, e, h1, h2, h3⟩ := h
  refine ⟨A, c, e, h1, h2, fun j p hj => ?_⟩
  obtain ⟨b, o, u, e, c0, r⟩ := h3 j p hj
  exact ⟨b, o, u, e, cell_keep hb c0, r.keep hb⟩
theorem RPss.len (h : RPss w v pss) : pss.length ≤ 9223372036854775807 := by
  obtain ⟨A, c, e, h1, h2, h3⟩ := h; rw [maxLen_eq] at h2; omega
theorem RPss.nil (w : World) : RPss w (.slice none 0 0) [] := ⟨none, 0, rfl, Nat.le_refl _, Nat.zero_le _, fun j x h => by simp at h⟩
theorem RPss.form (h : RPss w v pss) : ∃ A c, v = .slice A pss.length c ∧ pss.length ≤ c ∧ c ≤ 9223372036854775807 := by
  obtain ⟨A, c, e, h1, h2, h3⟩ := h; exact ⟨A, c, e, h1, h2⟩
theorem RPss.at_ (h : RPss w v pss) {k : Nat} (hk : k < pss.length) : ∃ b o c u, v = .slice (some ⟨b, o, none⟩) pss.length c ∧
    w.cell? ⟨b, o + k, none⟩ = some u ∧ RSteps w u pss[k] := by
  obtain ⟨A, c, e, h1, h2, h3⟩ := h
  obtain ⟨b, o, u, rfl, r⟩ := h3 k pss[k] (List.getElem?_eq_getElem hk)
  exact ⟨b, o, c, u, e, r⟩
end

/-- steps that were made between two sizes, as they were -/
def InS (w : World) (r : Nat × Nat) (u : Value) (ps : List MStep) : Prop := ∃ wc : World, wc.heap.size = r.2 ∧ OSteps wc r.1 u ps ∧ ∀ k, r.1 ≤ k → k < r.2 → w.heap[k]? = wc.heap[k]?
theorem InS.same {w w' : World} {r : Nat × Nat} {u : Value} {ps : List MStep} (h : InS w r u ps) (hk : ∀ k, r.1 ≤ k → k < r.2 → w'.heap[k]? = w.heap[k]?) : InS w' r u ps := by
  obtain ⟨wc, h1, h2, h3⟩ := h
  exact ⟨wc, h1, h2, fun k a b => (hk k a b).trans (h3 k a b)⟩
theorem InS.rows {w : World} {r : Nat × Nat} {u : Value} {ps : List MStep} (h : InS w r u ps) (hs : r.2 ≤ w.heap.size) : OSteps w r.1 u ps := by
  obtain ⟨wc, h1, h2, h3⟩ := h
  exact h2.same (by omega) fun k a b => h3 k a (by omega)

/-- a list of lists of steps that a call has made: block g with its cells; each list in a range of its own -/
def OPss (w : World) (B : Nat) (v : Value) (pss : List (List MStep)) : Prop :=
  ∃ (g c : Nat) (cur : Array Value) (rg : Nat → Nat × Nat), v = .slice (some ⟨g, 0, none⟩) pss.length c ∧ B ≤ g ∧ w.heap[g]? = some (.cells cur 60 (0, 0)) ∧ pss.length ≤ c ∧ c ≤ 9223372036854775807 ∧ cur.size = c ∧
    (∀ j ps, pss[j]? = some ps → ∃ u, cur[j]? = some u ∧ InS w (rg j) u ps ∧ B ≤ (rg j).1 ∧ (rg j).2 ≤ w.heap.size ∧ (g < (rg j).1 ∨ (rg j).2 ≤ g)) ∧
    (∀ i j, i < j → j < pss.length → (rg i).2 ≤ (rg j).1 ∨ (rg j).2 ≤ (rg i).1)
section
variable {w w' : World} {B B' : Nat} {v : Value} {pss : List (List MStep)}
theorem OPss.same (h : OPss w B v pss) (hs : w.heap.size ≤ w'.heap.size) (hk : ∀ k, B ≤ k → k < w.heap.size → w'.heap[k]? = w.heap[k]?) : OPss w' B v pss := by
  obtain ⟨g, c, cur, rg, e, h1, h2, h3, h4, h5, h6, h7⟩ := h
  refine ⟨g, c, cur, rg, e, h1, (hk g h1 (Array.getElem?_eq_some_iff.1 h2).1).trans h2, h3, h4, h5, fun j p hj => ?_, h7⟩
  obtain ⟨u, c0, r, a, b, d⟩ := h6 j p hj
  exact ⟨u, c0, r.same fun k k1 k2 => hk k (by omega) (by omega), a, by omega, d⟩
theorem OPss.keep (h : OPss w B v pss) (hb : Below w.heap.size w w') : OPss w' B v pss := h.same hb.size fun k _ hk => hb.block k hk
theorem OPss.base (h : OPss w B v pss) (hB : B' ≤ B) : OPss w B' v pss := by
  obtain ⟨g, c, cur, rg, e, h1, h2, h3, h4, h5, h6, h7⟩ := h
  exact ⟨g, c, cur, rg, e, by omega, h2, h3, h4, h5, fun j p hj => by obtain ⟨u, c0, r, a, b, d⟩ := h6 j p hj; exact ⟨u, c0, r, by omega, b, d⟩, h7⟩
theorem OPss.setLow (h : OPss w B v pss) {b : Nat} (hb : b < B) (i : Nat) (x : Value) : OPss (w.setCell ⟨b, i, none⟩ x) B v pss :=
  h.same (by simp [World.setCell]) fun k h1 h2 => Below.heap_setCell w ⟨b, i, none⟩ x k (by show k ≠ b; omega)
theorem OPss.reads (h : OPss w B v pss) : RPss w v pss := by
  obtain ⟨g, c, cur, rg, e, h1, h2, h3, h4, h5, h6, h7⟩ := h
  refine ⟨_, c, e, h3, by rw [maxLen_eq]; exact h4, fun j p hj => ?_⟩
  obtain ⟨u, c0, r, a, b, d⟩ := h6 j p hj
  exact ⟨g, 0, u, rfl, (blk_cell h2 _).trans (by rw [Nat.zero_add]; exact c0), (r.rows b).reads⟩
end
theorem Try.tinfo_StepS : (Try.prog.info? 60).map (fun i => (i.zero, i.size, i.bytes)) = some (some (.slice none 0 0), 1, 24) := by kernel_rfl

/-- such a list that is being filled: k of them are done -/
def FillPs (w wr : World) (pss : List (List MStep)) (k : Nat) : Prop :=
  ∃ (cur : Array Value) (rg : Nat → Nat × Nat), wr.heap[w.heap.size]? = some (.cells cur 60 (0, 0)) ∧ cur.size = pss.length ∧
    (∀ j p, j < k → pss[j]? = some p → ∃ u, cur[j]? = some u ∧ InS wr (rg j) u p ∧ w.heap.size < (rg j).1 ∧ (rg j).2 ≤ wr.heap.size) ∧
    (∀ i j, i < j → j < k → (rg i).2 ≤ (rg j).1) ∧ Below w.heap.size w wr
section
variable {w wr w1 : World} {pss : List (List MStep)} {k : Nat}
theorem FillPs.start (w : World) (pss : List (List MStep)) (cur : Array Value) (h : cur.size = pss.length) : FillPs w (w.alloc (.cells cur 60)) pss 0 :=
  ⟨cur, fun _ => (0, 0), heap_alloc_new w _, h, fun j p hj => by omega, fun i j _ hj => by omega, below_alloc _ _⟩
theorem FillPs.bel (h : FillPs w wr pss k) : Below w.heap.size w wr := by obtain ⟨_, _, _, _, _, _, hb⟩ := h; exact hb
theorem FillPs.cell (h : FillPs w wr pss k) (hb : Below wr.heap.size wr w1) {j : Nat} (hj : j < pss.length) : ∃ u, w1.cell? ⟨w.heap.size, j, none⟩ = some u ∧ w1.frozen? ⟨w.heap.size, j, none⟩ = false := by
  obtain ⟨cur, rg, h1, h2, h3, h4, h5⟩ := h
  have h1' := (hb.block _ (Array.getElem?_eq_some_iff.1 h1).1).trans h1
  exact ⟨cur[j]'(by omega), (blk_cell h1' j).trans (Array.getElem?_eq_getElem (by omega)), blk_free h1' j⟩
theorem FillPs.put (h : FillPs w wr pss k) (hk : k < pss.length) (hb : Below wr.heap.size wr w1) {u : Value} (hp : OSteps w1 wr.heap.size u pss[k]) :
    FillPs w (w1.setCell ⟨w.heap.size, k, none⟩ u) pss (k + 1) := by
  obtain ⟨cur, rg, h1, h2, h3, h4, h5⟩ := h
  have hl := (Array.getElem?_eq_some_iff.1 h1).1
  have h1' := (hb.block _ hl).trans h1
  have hs := hb.size
  have oth : ∀ b' : Nat, b' ≠ w.heap.size → (w1.setCell ⟨w.heap.size, k, none⟩ u).heap[b']? = w1.heap[b']? := fun b' hb' => Below.heap_setCell _ ⟨w.heap.size, k, none⟩ _ b' hb'
  have hsz : (w1.setCell ⟨w.heap.size, k, none⟩ u).heap.size = w1.heap.size := by simp [World.setCell]
  refine ⟨_, fun j => if j = k then (wr.heap.size, w1.heap.size) else rg j, blk_set h1' k u, by simpa using h2, fun j p hj hpj => ?_, fun i j hij hj => ?_, (h5.trans (hb.mono (by omega))).setCell (p := ⟨w.heap.size, k, none⟩) (Nat.le_refl _) _⟩
  · by_cases hjk : j = k
    · subst hjk
      rw [List.getElem?_eq_getElem hk] at hpj
      cases hpj
      refine ⟨u, by rw [Array.getElem?_setIfInBounds, if_pos rfl, if_pos (by omega)], ?_, by simp; omega, by rw [hsz]; simp⟩
      simp only [if_true]
      exact ⟨w1, rfl, hp, fun n n1 n2 => oth n (by simp only at n1; omega)⟩
    · obtain ⟨x, a, r, lo, hi⟩ := h3 j p (by omega) hpj
      refine ⟨x, by rw [Array.getElem?_setIfInBounds, if_neg (by omega)]; exact a, ?_, by simp only [if_neg hjk]; exact lo, by rw [hsz]; simp only [if_neg hjk]; omega⟩
      simp only [if_neg hjk]
      exact r.same fun n n1 n2 => (oth n (by omega)).trans (hb.block n (by omega))
  · have hik : ¬ i = k := by omega
    by_cases hjk : j = k
    · subst hjk
      simp only [if_neg hik, if_true]
      obtain ⟨x, a, r, lo, hi⟩ := h3 i pss[i] hij (List.getElem?_eq_getElem (by omega))
      exact hi
    · simp only [if_neg hik, if_neg hjk]
      exact h4 i j hij (by omega)
theorem FillPs.done (h : FillPs w wr pss k) (hk : k = pss.length) (hm : pss.length ≤ 9223372036854775807) : OPss wr w.heap.size (.slice (some ⟨w.heap.size, 0, none⟩) pss.length pss.length) pss ∧ Below w.heap.size w wr := by
  obtain ⟨cur, rg, h1, h2, h3, h4, h5⟩ := h
  subst hk
  refine ⟨⟨w.heap.size, pss.length, cur, rg, rfl, Nat.le_refl _, h1, Nat.le_refl _, hm, h2, fun j p hj => ?_, fun i j hij hj => .inl (h4 i j hij hj)⟩, h5⟩
  obtain ⟨u, a, r, lo, hi⟩ := h3 j p (List.getElem?_eq_some_iff.1 hj).1 hj
  exact ⟨u, a, r, by omega, hi, .inl lo⟩
end

set_option maxRecDepth 100000 in
theorem szStepSS_any (v : Value) (pss : List (List MStep)) (left : Int) (w : World) (h : RPss w v pss) (h0 : 0 ≤ left) (h1 : left ≤ 1048576) :
    Calls Try.prog 47 #[v, .int .i64 left] w fun e w' => ∃ r : Int, e = .returned (.int .i64 r) ∧ (r < 0 ∨ (0 ≤ r ∧ r ≤ left ∧ FitsPss pss)) ∧ Below w.heap.size w w' := by
  have H := Lib.hid h
  have hn := h.len
  obtain ⟨A, c, rfl, -⟩ := h.form
  clear h
  by_cases hl : left - (pss.length : Int) < 0
  · go_enter Try.func47, Try.ntmps47
    go_wp2
    go_ret
    exact ⟨-1, rfl, .inl (by omega), Below.refl _ _⟩
  · go_enter Try.func47, Try.ntmps47
    go_wp2
    go_loopw [1, 5] (fun l i wr => ∃ k : Nat, ∃ r : Int, k ≤ pss.length ∧ i = .int .i64 k ∧ l = .int .i64 r ∧ 0 ≤ r ∧ r ≤ left ∧ (∀ p ∈ pss.take k, FitsPs p) ∧ Below w.heap.size w wr) (fun _ i _ => pss.length - (intOf i).toNat)
    case atStart => exact ⟨0, _, Nat.zero_le _, rfl, rfl, by omega, by omega, by simp, Below.refl _ _⟩
    case round =>
      obtain ⟨k, r, hk, rfl, rfl, hr0, hr1, hb0, hbw⟩ := hrel
      have hb := Lib.hid hb0
      have HBW := Lib.hid hbw
      clear hb0 hbw
      by_cases hlt : k < pss.length
      · obtain ⟨b, o, c', x, e, c0, q0⟩ := (H.out.keep HBW.out).at_ hlt
        cases e
        have HT := Lib.hid (List.take_succ_eq_append_getElem hlt)
        generalize pss[k] = p at q0 HT
        have HI := Lib.hid q0
        obtain ⟨A0, d0, rfl, -⟩ := q0.form
        clear q0
        go_wp2_with fail
        refine (szStepS_any _ p _ _ HI.out hr0 (by omega)).mono ?_
        rintro e' w1 ⟨r', rfl, hr', hb1⟩
        have HB1 := Lib.hid (sz_keep HBW.out hb1)
        clear hb1 c0
        by_cases hneg : r' < 0
        · clear hr'
          go_wp2
          go_ret
          exact ⟨-1, rfl, .inl (by omega), HB1.out⟩
        · obtain ⟨h2, h3, h4⟩ := hr'.resolve_left hneg
          have HR := Lib.hid (And.intro h3 h4)
          clear h3 h4 hr'
          go_wp2
          go_roundw
          case rel =>
            refine ⟨k + 1, r', by omega, by go_num, rfl, h2, by have := HR.out.1; omega, ?_, HB1.out⟩
            rw [HT.out]
            intro x hx
            rcases List.mem_append.1 hx with hx | hx
            · exact hb.out x hx
            · simp at hx; subst hx; exact HR.out.2
          case measure => simp [intOf]; omega
      · go_wp2
        go_ret
        have h := hb.out
        rw [take_all (by omega)] at h
        exact ⟨r, rfl, .inr ⟨hr0, hr1, by omega, h⟩, HBW.out⟩

set_option maxRecDepth 100000 in
theorem toStepSS_any (v : Value) (pss : List (List MStep)) (w : World) (h : RPss w v pss) (hs : FitsPss pss) :
    Calls Try.prog 54 #[v] w fun e w' => ∃ u, e = .returned u ∧ OPss w' w.heap.size u pss ∧ Below w.heap.size w w' := by
  have H := Lib.hid h
  have HS := Lib.hid hs
  obtain ⟨A, c, rfl, -⟩ := h.form
  have hlen := hs.1
  clear h hs
  have hmk := run_make_wide 43 60 _ 1 24 Try.underlying43 Try.tinfo_StepS .i64 .i64 pss.length (by omega) (by omega)
  go_enter Try.func54, Try.ntmps54
  go_wp2
  go_loopw [4] (fun i wr => ∃ k : Nat, k ≤ pss.length ∧ i = .int .i64 k ∧ FillPs w wr pss k) (fun i _ => pss.length - (intOf i).toNat)
  case atStart => exact ⟨0, Nat.zero_le _, rfl, FillPs.start w _ _ (by simp [madeCells])⟩
  case round =>
    obtain ⟨k, hk, rfl, hf⟩ := hrel
    have HF := Lib.hid hf
    clear hf hmk
    by_cases hlt : k < pss.length
    · obtain ⟨b, o, c', x, e, c0, q0⟩ := (H.out.keep HF.out.bel).at_ hlt
      cases e
      have HFP := Lib.hid (HS.out.2 _ (List.getElem_mem hlt))
      have HPUT := Lib.hid (fun (w1 : World) (hb : Below wr.heap.size wr w1) (u : Value) (hp : OSteps w1 wr.heap.size u pss[k]) => HF.out.put hlt hb hp)
      generalize pss[k] = p at q0 HFP HPUT
      have HI := Lib.hid q0
      obtain ⟨A0, d0, rfl, -⟩ := q0.form
      clear q0
      go_wp2_with fail
      refine (toStepS_any _ p _ HI.out HFP.out).mono ?_
      rintro e' w1 ⟨u, rfl, ho, hb⟩
      obtain ⟨B0, g0, rfl, -⟩ := ho.reads.form
      obtain ⟨z0, m0, n0⟩ := HF.out.cell hb (j := k) (by omega)
      have HN := Lib.hid (HPUT.out _ hb _ ho)
      clear ho hb c0
      go_wp2
      go_roundw
      case rel => exact ⟨k + 1, by omega, by go_num, HN.out⟩
      case measure => simp [intOf]; omega
    · have hkn : k = pss.length := by omega
      go_wp2
      go_ret
      obtain ⟨r1, r2⟩ := HF.out.done hkn (by omega)
      exact ⟨_, rfl, r1, r2⟩

theorem takePss_bad {xs ys : List (List MStep)} {k : Nat} (hx : k < xs.length) (hy : k < ys.length) (he : samePs xs[k] ys[k] = false) : samePss xs ys = false := by
  cases h : samePss xs ys with
  | false => rfl
  | true =>
    have := samePss_eq.1 h
    subst this
    rw [samePs_self] at he
    cases he
theorem eqStepSS_any (v v' : Value) (xs ys : List (List MStep)) (w : World) (h : RPss w v xs) (h' : RPss w v' ys) :
    Calls Try.prog 62 #[v, v'] w fun e w' => e = .returned (.bool (samePss xs ys)) ∧ Below w.heap.size w w' := by
  have H := Lib.hid h
  have H' := Lib.hid h'
  have hn := h.len
  have hn' := h'.len
  obtain ⟨A, c, rfl, -⟩ := h.form
  obtain ⟨A', c', rfl, -⟩ := h'.form
  clear h h'
  by_cases hl : xs.length = ys.length
  · have hl' : ((xs.length : Int) != (ys.length : Int)) = false := by simp [hl]
    have HL := Lib.hid hl
    have hle : xs.length ≤ ys.length := by omega
    have hge : ys.length ≤ xs.length := by omega
    clear hl
    go_enter Try.func62, Try.ntmps62
    go_wp2
    go_loopw [5] (fun i wr => ∃ k : Nat, k ≤ xs.length ∧ i = .int .i64 k ∧ xs.take k = ys.take k ∧ Below w.heap.size w wr) (fun i _ => xs.length - (intOf i).toNat)
    case atStart => exact ⟨0, Nat.zero_le _, rfl, rfl, Below.refl _ _⟩
    case round =>
      obtain ⟨k, hk, rfl, hb0, hd⟩ := hrel
      have hb := Lib.hid hb0
      have HD := Lib.hid hd
      clear hb0 hd
      by_cases hlt : k < xs.length
      · obtain ⟨b, o, c3, xv, e, c00, q0⟩ := (H.out.keep HD.out).at_ hlt
        cases e
        obtain ⟨b', o', c4, yv, e, d00, p0⟩ := (H'.out.keep HD.out).at_ (show k < ys.length by omega)
        cases e
        have hs1 : (k : Int) < (xs.length : Int) := by omega
        have hs2 : (k : Int) < (ys.length : Int) := by omega
        have HT := Lib.hid (take_succ_eq hlt (show k < ys.length by omega) hb.out)
        have HN := Lib.hid (takePss_bad hlt (show k < ys.length by omega))
        generalize xs[k] = x at q0 HT HN
        generalize ys[k]'(by omega) = y at p0 HT HN
        have HX := Lib.hid q0
        have HY := Lib.hid p0
        obtain ⟨A0, g0, rfl, -⟩ := q0.form
        obtain ⟨B0, h0, rfl, -⟩ := p0.form
        clear q0 p0
        obtain ⟨z, hz⟩ : ∃ z, samePs x y = z := ⟨_, rfl⟩
        have HXY := Lib.hid hz
        clear hz
        cases z with
        | true =>
          go_wp2_with fail
          go_region_held3 (fun w' => w'.cell? ⟨b, o + k, none⟩ = some (.slice A0 x.length g0) ∧ w'.cell? ⟨b', o' + k, none⟩ = some (.slice B0 y.length h0)) (first | go_keep)
            (first
              | (go_at_call 29; refine (eqStepS_is _ _ _ _ wr.drew _ HXY.out (HX.out.keep (eq_drew _)) (HY.out.keep (eq_drew _))).mono ?_; rintro e w2 ⟨rfl, hb2⟩; have HB2 := Lib.hid (eq_undrew hb2); have j0 := cell_keep HB2.out c00; have j4 := cell_keep HB2.out d00; clear hb2))
          have HBN := Lib.hid (sz_keep HD.out HB2.out)
          clear c00 d00 j0 j4
          go_wp2
          go_roundw
          case rel => exact ⟨k + 1, by omega, by go_num, HT.out (samePs_eq.1 HXY.out), HBN.out⟩
          case measure => simp [intOf]; omega
        | false =>
          go_wp2_with fail
          go_region_held3 (fun w' => w'.cell? ⟨b, o + k, none⟩ = some (.slice A0 x.length g0) ∧ w'.cell? ⟨b', o' + k, none⟩ = some (.slice B0 y.length h0)) (first | go_keep)
            (first
              | (go_at_call 29; refine (eqStepS_is _ _ _ _ wr.drew _ HXY.out (HX.out.keep (eq_drew _)) (HY.out.keep (eq_drew _))).mono ?_; rintro e w2 ⟨rfl, hb2⟩; have HB2 := Lib.hid (eq_undrew hb2); have j0 := cell_keep HB2.out c00; have j4 := cell_keep HB2.out d00; clear hb2))
          have HBN := Lib.hid (sz_keep HD.out HB2.out)
          clear c00 d00 j0 j4
          go_wp2
          go_ret
          exact ⟨ret_bool (HN.out HXY.out).symm, HBN.out⟩
      · go_wp2
        go_ret
        have h := hb.out
        rw [take_all (by omega), take_all (by omega)] at h
        exact ⟨ret_bool (by rw [h, samePss_self]), HD.out⟩
  · have hl' : ((xs.length : Int) != (ys.length : Int)) = true := by simp; omega
    have HL := Lib.hid hl
    clear hl
    go_enter Try.func62, Try.ntmps62
    go_wp2
    go_ret
    refine ⟨ret_bool ?_, Below.refl _ _⟩
    cases h : samePss xs ys with
    | false => rfl
    | true => have := samePss_eq.1 h; subst this; exact absurd rfl HL.out
theorem eqStepSS_is (v v' : Value) (xs ys : List (List MStep)) (w : World) (r : Bool) (hr : samePss xs ys = r) (h : RPss w v xs) (h' : RPss w v' ys) :
    Calls Try.prog 62 #[v, v'] w fun e w' => e = .returned (.bool r) ∧ Below w.heap.size w w' := by
  subst hr; exact eqStepSS_any v v' xs ys w h h'
end

section
open Go.RowKit
set_option linter.unusedVariables false
set_option linter.unusedSimpArgs false

structure MView where
  along : MMap
  proofs : List (List MStep)
def RView (w : World) (v : Value) (m : MView) : Prop := ∃ u x y, v = .agg #[u, x, y] ∧ RInts w u m.along.sorts ∧ RInts w x m.along.ops ∧ RPss w y m.proofs
/-- a view that a call has made: its map's rows lie apart from its proofs -/
def OView (w : World) (B : Nat) (v : Value) (m : MView) : Prop := ∃ u x y, v = .agg #[u, x, y] ∧ ∃ (wc : World) (B0 : Nat), B ≤ B0 ∧ B0 ≤ wc.heap.size ∧ wc.heap.size ≤ w.heap.size ∧ OMap wc B0 (.agg #[u, x]) m.along ∧ (∀ k, B0 ≤ k → k < wc.heap.size → w.heap[k]? = wc.heap[k]?) ∧ OPss w wc.heap.size y m.proofs
def SmallV (m : MView) : Prop := SmallPss m.proofs
def FitsV (m : MView) : Prop := FitsMp m.along ∧ FitsPss m.proofs
def sameV (a b : MView) : Bool := sameMp a.along b.along && samePss a.proofs b.proofs
theorem sameV_self (a : MView) : sameV a a = true := by unfold sameV; rw [sameMp_self, samePss_self]; rfl
section
variable {w w' : World} {B B' : Nat} {v : Value} {m : MView}
theorem RView.keep (h : RView w v m) (hb : Below w.heap.size w w') : RView w' v m := by
  obtain ⟨u, x, y, rfl, h1, h2, h3⟩ := h; exact ⟨u, x, y, rfl, h1.keep hb, h2.keep hb, h3.keep hb⟩
theorem RView.form (h : RView w v m) : ∃ A a B b C c, v = .agg #[.slice A m.along.sorts.length a, .slice B m.along.ops.length b, .slice C m.proofs.length c] := by
  obtain ⟨u, x, y, rfl, h1, h2, h3⟩ := h
  obtain ⟨A, a, rfl, -⟩ := h1.form
  obtain ⟨B, b, rfl, -⟩ := h2.form
  obtain ⟨C, c, rfl, -⟩ := h3.form
  exact ⟨_, _, _, _, _, _, rfl⟩
theorem RView.of {a b c : Value} (h : RView w (.agg #[a, b, c]) m) : RInts w a m.along.sorts ∧ RInts w b m.along.ops ∧ RPss w c m.proofs := by
  obtain ⟨u, x, y, e, h⟩ := h
  injection e with e
  simp at e
  obtain ⟨rfl, rfl, rfl⟩ := e
  exact h
theorem OView.same (h : OView w B v m) (hs : w.heap.size ≤ w'.heap.size) (hk : ∀ k, B ≤ k → k < w.heap.size → w'.heap[k]? = w.heap[k]?) : OView w' B v m := by
  obtain ⟨u, x, y, rfl, wc, B0, z, a, b, c, d, e⟩ := h
  exact ⟨u, x, y, rfl, wc, B0, z, a, by omega, c, fun k h1 h2 => (hk k (by omega) (by omega)).trans (d k h1 h2), e.same hs fun k h1 h2 => hk k (by omega) h2⟩
theorem OView.keep (h : OView w B v m) (hb : Below w.heap.size w w') : OView w' B v m := h.same hb.size fun k _ hk => hb.block k hk
theorem OView.base (h : OView w B v m) (hB : B' ≤ B) : OView w B' v m := by
  obtain ⟨u, x, y, rfl, wc, B0, z, r⟩ := h
  exact ⟨u, x, y, rfl, wc, B0, by omega, r⟩
theorem OView.reads (h : OView w B v m) : RView w v m := by
  obtain ⟨u, x, y, rfl, wc, B0, z, a, b, c, d, e⟩ := h
  obtain ⟨⟨h1, h2⟩, -⟩ := (show (OInts wc B0 u m.along.sorts ∧ OInts wc B0 x m.along.ops) ∧ Apart u x by obtain ⟨p, q, r⟩ := c.of; exact ⟨⟨p, q⟩, r⟩)
  exact ⟨u, x, y, rfl, (h1.same d).reads, (h2.same d).reads, e.reads⟩
end

set_option maxRecDepth 100000 in
theorem szView_any (v : Value) (t : MView) (left : Int) (w : World) (h : RView w v t) (h0 : 0 ≤ left) (h1 : left ≤ 1048576) :
    Calls Try.prog 8 #[v, .int .i64 left] w fun e w' => ∃ r : Int, e = .returned (.int .i64 r) ∧ (r < 0 ∨ (0 ≤ r ∧ r ≤ left ∧ FitsV t)) ∧ Below w.heap.size w w' := by
  obtain ⟨Ata, cta, Atb, ctb, Atc, ctc, rfl⟩ := h.form
  have hb : Below w.heap.size w (w.alloc (.cells #[.slice Ata t.along.sorts.length cta, .slice Atb t.along.ops.length ctb, .slice Atc t.proofs.length ctc] 33)) := below_alloc _ _
  have HB := Lib.hid hb
  have hsz : (w.alloc (.cells #[.slice Ata t.along.sorts.length cta, .slice Atb t.along.ops.length ctb, .slice Atc t.proofs.length ctc] 33)).heap.size = w.heap.size + 1 := by simp
  have Ht := Lib.hid (h.keep hb)
  have t0 := bx_at (w) #[.slice Ata t.along.sorts.length cta, .slice Atb t.along.ops.length ctb, .slice Atc t.proofs.length ctc] 33 (k := 0) rfl
  have t1 := bx_at (w) #[.slice Ata t.along.sorts.length cta, .slice Atb t.along.ops.length ctb, .slice Atc t.proofs.length ctc] 33 (k := 1) rfl
  have t2 := bx_at (w) #[.slice Ata t.along.sorts.length cta, .slice Atb t.along.ops.length ctb, .slice Atc t.proofs.length ctc] 33 (k := 2) rfl
  generalize hW : w.alloc (.cells #[.slice Ata t.along.sorts.length cta, .slice Atb t.along.ops.length ctb, .slice Atc t.proofs.length ctc] 33) = W at HB hsz Ht t0 t1 t2
  clear hb h
  obtain ⟨r0, r1, r2⟩ := Ht.out.of
  have R1 := Lib.hid (show RMap W (.agg #[.slice Ata t.along.sorts.length cta, .slice Atb t.along.ops.length ctb]) t.along from ⟨_, _, rfl, r0, r1⟩)
  have R2 := Lib.hid r2
  clear r0 r1 r2
  go_enter Try.func8, Try.ntmps8
  go_wp2_with fail
  clear hW
  refine (szMap_any _ t.along _ _ R1.out h0 h1).mono ?_
  rintro e w1 ⟨r, rfl, hr, hb⟩
  have HB1 := Lib.hid (sz_keep HB.out hb)
  have R21 := Lib.hid (R2.out.keep hb)
  have m1 := cell_keep hb t2
  clear hb t0 t1 t2
  by_cases hneg : r < 0
  · clear hr
    go_wp2
    go_ret
    exact ⟨-1, rfl, .inl (by omega), HB1.out⟩
  obtain ⟨hr2, hr3, hr4⟩ := hr.resolve_left hneg
  have HR := Lib.hid hr4
  have hr5 : r ≤ 1048576 := by omega
  clear hr hr4
  go_wp2_with fail
  refine (szStepSS_any _ t.proofs _ _ R21.out hr2 hr5).mono ?_
  rintro e w2 ⟨q, rfl, hr, hb⟩
  have HB2 := Lib.hid (sz_keep HB1.out hb)
  clear hb m1
  by_cases hneg2 : q < 0
  · clear hr
    go_wp2
    go_ret
    exact ⟨-1, rfl, .inl (by omega), HB2.out⟩
  obtain ⟨hr6, hr7, hr8⟩ := hr.resolve_left hneg2
  have HQ := Lib.hid hr8
  clear hr hr8
  go_wp2
  go_ret
  exact ⟨q, rfl, .inr ⟨hr6, by omega, HR.out, HQ.out⟩, HB2.out⟩

set_option maxRecDepth 100000 in
theorem toView_any (v : Value) (t : MView) (w : World) (h : RView w v t) (hs : FitsV t) :
    Calls Try.prog 11 #[v] w fun e' w' => ∃ u, e' = .returned u ∧ OView w' w.heap.size u t ∧ Below w.heap.size w w' := by
  obtain ⟨At, ct, Dt, et, Bt, dt, rfl⟩ := h.form
  obtain ⟨h0, h1, h2⟩ := h.of
  obtain ⟨hs1, hs2⟩ := hs
  have hm := Mk.start w 33 45 #[.slice At t.along.sorts.length ct, .slice Dt t.along.ops.length et, .slice Bt t.proofs.length dt] #[.slice none 0 0, .slice none 0 0, .slice none 0 0] #[.slice none 0 0, .slice none 0 0, .slice none 0 0]
  generalize hW : ((w.alloc (.cells #[.slice At t.along.sorts.length ct, .slice Dt t.along.ops.length et, .slice Bt t.proofs.length dt] 33)).alloc (.cells #[.slice none 0 0, .slice none 0 0, .slice none 0 0] 45)).alloc (.cells #[.slice none 0 0, .slice none 0 0, .slice none 0 0] 45) = W at hm
  have H1 := Lib.hid (show RMap W (.agg #[.slice At t.along.sorts.length ct, .slice Dt t.along.ops.length et]) t.along from ⟨_, _, rfl, h0.keep hm.b, h1.keep hm.b⟩)
  have H2 := Lib.hid h2
  have HS1 := Lib.hid hs1
  have HS2 := Lib.hid hs2
  have p0 : W.cell? ⟨w.heap.size, 0, none⟩ = some (.slice At t.along.sorts.length ct) := hm.ca 0
  have p1 : W.cell? ⟨w.heap.size, 1, none⟩ = some (.slice Dt t.along.ops.length et) := hm.ca 1
  have HM := Lib.hid hm
  clear h h0 h1 h2 hm hs1 hs2
  go_enter Try.func11, Try.ntmps11
  go_wp2_with fail
  clear hW
  refine (toMap_any _ t.along _ H1.out HS1.out).mono ?_
  rintro e w4 ⟨u0, rfl, ho, hb⟩
  have hz := HM.out.z
  have hm := HM.out.below hb
  obtain ⟨A0, c0, B0, d0, rfl⟩ := ho.reads.form
  obtain ⟨⟨ho0, ho1⟩, hap⟩ := (show (OInts w4 W.heap.size (.slice A0 t.along.sorts.length c0) t.along.sorts ∧ OInts w4 W.heap.size (.slice B0 t.along.ops.length d0) t.along.ops) ∧ Apart (.slice A0 t.along.sorts.length c0) (.slice B0 t.along.ops.length d0) by obtain ⟨p, q, r⟩ := ho.of; exact ⟨⟨p, q⟩, r⟩)
  have q0 : w4.cell? ⟨w.heap.size + 2, 0, none⟩ = some (.slice none 0 0) := hm.co 0
  have q1 : w4.cell? ⟨w.heap.size + 2, 1, none⟩ = some (.slice none 0 0) := hm.co 1
  have q2 := hm.fo 0
  have q3 := hm.fo 1
  have hm5 := (hm.setO 0 (.slice A0 t.along.sorts.length c0)).setO 1 (.slice B0 t.along.ops.length d0)
  have ho50 := (ho0.setLow (b := w.heap.size + 2) (by omega) 0 (.slice A0 t.along.sorts.length c0)).setLow (b := w.heap.size + 2) (by omega) 1 (.slice B0 t.along.ops.length d0)
  have ho51 := (ho1.setLow (b := w.heap.size + 2) (by omega) 0 (.slice A0 t.along.sorts.length c0)).setLow (b := w.heap.size + 2) (by omega) 1 (.slice B0 t.along.ops.length d0)
  generalize hW5 : (w4.setCell ⟨w.heap.size + 2, 0, none⟩ (.slice A0 t.along.sorts.length c0)).setCell ⟨w.heap.size + 2, 1, none⟩ (.slice B0 t.along.ops.length d0) = w5 at hm5 ho50 ho51
  have p2 : w5.cell? ⟨w.heap.size, 2, none⟩ = some (.slice Bt t.proofs.length dt) := hm5.ca 2
  have HO5 := Lib.hid (show OMap w5 W.heap.size (.agg #[.slice A0 t.along.sorts.length c0, .slice B0 t.along.ops.length d0]) t.along from ⟨_, _, rfl, ho50, ho51, hap⟩)
  have HM5 := Lib.hid hm5
  have HM5sz := Lib.hid (show W.heap.size ≤ w5.heap.size by have := hb.size; rw [← hW5]; simpa [World.setCell] using this)
  have H2 := Lib.hid (H2.out.keep hm5.b)
  clear ho ho0 ho1 hap hb hm p0 p1 hm5 ho50 ho51 H1
  go_wp2_with fail
  clear hW5 q0 q1 q2 q3
  refine (toStepSS_any _ t.proofs _ H2.out HS2.out).mono ?_
  rintro e w8 ⟨u2, rfl, ho, hb⟩
  have hz7 := HM5.out.z
  have hm := HM5.out.below hb
  obtain ⟨B2, d2, rfl, -⟩ := ho.reads.form
  have hm9 := (((hm.setO 2 (.slice B2 t.proofs.length d2)).setR 0 (.slice A0 t.along.sorts.length c0)).setR 1 (.slice B0 t.along.ops.length d0)).setR 2 (.slice B2 t.proofs.length d2)
  have o2 := (((ho.setLow (b := w.heap.size + 2) (by omega) 2 (.slice B2 t.proofs.length d2)).setLow (b := w.heap.size + 1) (by omega) 0 (.slice A0 t.along.sorts.length c0)).setLow (b := w.heap.size + 1) (by omega) 1 (.slice B0 t.along.ops.length d0)).setLow (b := w.heap.size + 1) (by omega) 2 (.slice B2 t.proofs.length d2)
  have hkk : ∀ k, w.heap.size + 3 ≤ k → k < w5.heap.size → ((((w8.setCell ⟨w.heap.size + 2, 2, none⟩ (.slice B2 t.proofs.length d2)).setCell ⟨w.heap.size + 1, 0, none⟩ (.slice A0 t.along.sorts.length c0)).setCell ⟨w.heap.size + 1, 1, none⟩ (.slice B0 t.along.ops.length d0)).setCell ⟨w.heap.size + 1, 2, none⟩ (.slice B2 t.proofs.length d2)).heap[k]? = w5.heap[k]? := fun k h1 h2 => by
    rw [Below.heap_setCell _ ⟨w.heap.size + 1, 2, none⟩ _ k (by show k ≠ w.heap.size + 1; omega), Below.heap_setCell _ ⟨w.heap.size + 1, 1, none⟩ _ k (by show k ≠ w.heap.size + 1; omega), Below.heap_setCell _ ⟨w.heap.size + 1, 0, none⟩ _ k (by show k ≠ w.heap.size + 1; omega), Below.heap_setCell _ ⟨w.heap.size + 2, 2, none⟩ _ k (by show k ≠ w.heap.size + 2; omega)]
    exact hb.block k h2
  have hsz9 : w5.heap.size ≤ ((((w8.setCell ⟨w.heap.size + 2, 2, none⟩ (.slice B2 t.proofs.length d2)).setCell ⟨w.heap.size + 1, 0, none⟩ (.slice A0 t.along.sorts.length c0)).setCell ⟨w.heap.size + 1, 1, none⟩ (.slice B0 t.along.ops.length d0)).setCell ⟨w.heap.size + 1, 2, none⟩ (.slice B2 t.proofs.length d2)).heap.size := by have := hb.size; simpa [World.setCell] using this
  have HF := Lib.hid (And.intro o2 (And.intro hkk hsz9))
  have HM9 := Lib.hid hm9
  have q0 : w8.cell? ⟨w.heap.size + 2, 0, none⟩ = some (.slice A0 t.along.sorts.length c0) := hm.co 0
  have q1 : w8.cell? ⟨w.heap.size + 2, 1, none⟩ = some (.slice B0 t.along.ops.length d0) := hm.co 1
  have q2 : w8.cell? ⟨w.heap.size + 2, 2, none⟩ = some (.slice none 0 0) := hm.co 2
  have q3 := hm.fo 2
  have q4 : w8.cell? ⟨w.heap.size + 1, 0, none⟩ = some (.slice none 0 0) := hm.cr 0
  have q5 : w8.cell? ⟨w.heap.size + 1, 1, none⟩ = some (.slice none 0 0) := hm.cr 1
  have q6 : w8.cell? ⟨w.heap.size + 1, 2, none⟩ = some (.slice none 0 0) := hm.cr 2
  have q7 := hm.fr 0
  have q8 := hm.fr 1
  have q9 := hm.fr 2
  clear ho hb hm hm9 o2 hkk hsz9 H2 p2
  go_wp2
  obtain ⟨o2, hkk, hsz9⟩ := HF.out
  have hm9 := HM9.out
  generalize (((w8.setCell ⟨w.heap.size + 2, 2, none⟩ (.slice B2 t.proofs.length d2)).setCell ⟨w.heap.size + 1, 0, none⟩ (.slice A0 t.along.sorts.length c0)).setCell ⟨w.heap.size + 1, 1, none⟩ (.slice B0 t.along.ops.length d0)).setCell ⟨w.heap.size + 1, 2, none⟩ (.slice B2 t.proofs.length d2) = w9 at o2 hkk hsz9 hm9 ⊢
  have k0 : w9.cell? ⟨w.heap.size + 1, 0, none⟩ = some (.slice A0 t.along.sorts.length c0) := hm9.cr 0
  have k1 : w9.cell? ⟨w.heap.size + 1, 1, none⟩ = some (.slice B0 t.along.ops.length d0) := hm9.cr 1
  have k2 : w9.cell? ⟨w.heap.size + 1, 2, none⟩ = some (.slice B2 t.proofs.length d2) := hm9.cr 2
  clear q0 q1 q2 q3 q4 q5 q6 q7 q8 q9
  refine bodyPost_ret (v := .agg #[.slice A0 t.along.sorts.length c0, .slice B0 t.along.ops.length d0, .slice B2 t.proofs.length d2]) (by simp [results, Try.results11, go_sem, k0, k1, k2]) rfl ?_
  exact ⟨_, rfl, ⟨_, _, _, rfl, w5, W.heap.size, by omega, HM5sz.out, hsz9, HO5.out, fun k h1 h2 => hkk k (by omega) h2, o2⟩, hm9.b⟩

theorem eqView_is (v v' : Value) (a b : MView) (w : World) (r : Bool) (hr : sameV a b = r) (h : RView w v a) (h' : RView w v' b) :
    Calls Try.prog 14 #[v, v'] w fun e w' => e = .returned (.bool r) ∧ Below w.heap.size w w' := by
  subst hr
  obtain ⟨Aaa, caa, Aab, cab, Aac, cac, rfl⟩ := h.form
  obtain ⟨Aba, cba, Abb, cbb, Abc, cbc, rfl⟩ := h'.form
  have hb : Below w.heap.size w ((w.alloc (.cells #[.slice Aaa a.along.sorts.length caa, .slice Aab a.along.ops.length cab, .slice Aac a.proofs.length cac] 45)).alloc (.cells #[.slice Aba b.along.sorts.length cba, .slice Abb b.along.ops.length cbb, .slice Abc b.proofs.length cbc] 45)) := (below_alloc _ _).alloc (by simp) _
  have HB := Lib.hid hb
  have hsz : ((w.alloc (.cells #[.slice Aaa a.along.sorts.length caa, .slice Aab a.along.ops.length cab, .slice Aac a.proofs.length cac] 45)).alloc (.cells #[.slice Aba b.along.sorts.length cba, .slice Abb b.along.ops.length cbb, .slice Abc b.proofs.length cbc] 45)).heap.size = w.heap.size + 2 := by simp
  have Ha := Lib.hid (h.keep hb)
  have a0 := cell_keep (below_alloc (w.alloc (.cells #[.slice Aaa a.along.sorts.length caa, .slice Aab a.along.ops.length cab, .slice Aac a.proofs.length cac] 45)) (.cells #[.slice Aba b.along.sorts.length cba, .slice Abb b.along.ops.length cbb, .slice Abc b.proofs.length cbc] 45)) (bx_at (w) #[.slice Aaa a.along.sorts.length caa, .slice Aab a.along.ops.length cab, .slice Aac a.proofs.length cac] 45 (k := 0) rfl)
  have a1 := cell_keep (below_alloc (w.alloc (.cells #[.slice Aaa a.along.sorts.length caa, .slice Aab a.along.ops.length cab, .slice Aac a.proofs.length cac] 45)) (.cells #[.slice Aba b.along.sorts.length cba, .slice Abb b.along.ops.length cbb, .slice Abc b.proofs.length cbc] 45)) (bx_at (w) #[.slice Aaa a.along.sorts.length caa, .slice Aab a.along.ops.length cab, .slice Aac a.proofs.length cac] 45 (k := 1) rfl)
  have a2 := cell_keep (below_alloc (w.alloc (.cells #[.slice Aaa a.along.sorts.length caa, .slice Aab a.along.ops.length cab, .slice Aac a.proofs.length cac] 45)) (.cells #[.slice Aba b.along.sorts.length cba, .slice Abb b.along.ops.length cbb, .slice Abc b.proofs.length cbc] 45)) (bx_at (w) #[.slice Aaa a.along.sorts.length caa, .slice Aab a.along.ops.length cab, .slice Aac a.proofs.length cac] 45 (k := 2) rfl)
  have Hb := Lib.hid (h'.keep hb)
  have b0 := bx_at (w.alloc (.cells #[.slice Aaa a.along.sorts.length caa, .slice Aab a.along.ops.length cab, .slice Aac a.proofs.length cac] 45)) #[.slice Aba b.along.sorts.length cba, .slice Abb b.along.ops.length cbb, .slice Abc b.proofs.length cbc] 45 (k := 0) rfl
  have b1 := bx_at (w.alloc (.cells #[.slice Aaa a.along.sorts.length caa, .slice Aab a.along.ops.length cab, .slice Aac a.proofs.length cac] 45)) #[.slice Aba b.along.sorts.length cba, .slice Abb b.along.ops.length cbb, .slice Abc b.proofs.length cbc] 45 (k := 1) rfl
  have b2 := bx_at (w.alloc (.cells #[.slice Aaa a.along.sorts.length caa, .slice Aab a.along.ops.length cab, .slice Aac a.proofs.length cac] 45)) #[.slice Aba b.along.sorts.length cba, .slice Abb b.along.ops.length cbb, .slice Abc b.proofs.length cbc] 45 (k := 2) rfl
  simp only [World.size_alloc] at b0 b1 b2
  generalize hW : (w.alloc (.cells #[.slice Aaa a.along.sorts.length caa, .slice Aab a.along.ops.length cab, .slice Aac a.proofs.length cac] 45)).alloc (.cells #[.slice Aba b.along.sorts.length cba, .slice Abb b.along.ops.length cbb, .slice Abc b.proofs.length cbc] 45) = W at HB hsz Ha a0 a1 a2 Hb b0 b1 b2
  clear hb h h'
  obtain ⟨r0, r1, r2⟩ := Ha.out.of
  obtain ⟨k0, k1, k2⟩ := Hb.out.of
  have R1 := Lib.hid (show RMap W (.agg #[.slice Aaa a.along.sorts.length caa, .slice Aab a.along.ops.length cab]) a.along from ⟨_, _, rfl, r0, r1⟩)
  have K1 := Lib.hid (show RMap W (.agg #[.slice Aba b.along.sorts.length cba, .slice Abb b.along.ops.length cbb]) b.along from ⟨_, _, rfl, k0, k1⟩)
  have R2 := Lib.hid r2
  have K2 := Lib.hid k2
  clear r0 r1 r2 k0 k1 k2
  cases x0 : sameMp a.along b.along with
  | false =>
    have X0 := Lib.hid x0
    clear x0
    go_enter Try.func14, Try.ntmps14
    go_wp2_with fail
    clear hW
    refine (eqMap_is _ _ _ _ _ _ X0.out R1.out K1.out).mono ?_
    rintro e w1 ⟨rfl, hd⟩
    go_wp2
    go_ret
    exact ⟨ret_bool (by unfold sameV; rw [X0.out]; rfl), sz_keep HB.out hd⟩
  | true =>
    have X0 := Lib.hid x0
    clear x0
    obtain ⟨r, hr⟩ : ∃ r, samePss a.proofs b.proofs = r := ⟨_, rfl⟩
    have HR := Lib.hid hr
    clear hr
    go_enter Try.func14, Try.ntmps14
    go_wp2_with fail
    clear hW
    refine (eqMap_is _ _ _ _ _ _ X0.out R1.out K1.out).mono ?_
    rintro e w1 ⟨rfl, hb⟩
    have HB1 := Lib.hid (sz_keep HB.out hb)
    have m1 := cell_keep hb a2
    have m2 := cell_keep hb b2
    have R2' := Lib.hid (R2.out.keep hb)
    have K2' := Lib.hid (K2.out.keep hb)
    clear hb a0 a1 a2 b0 b1 b2
    go_wp2_with fail
    refine (eqStepSS_any _ _ _ _ _ R2'.out K2'.out).mono ?_
    rw [HR.out]
    rintro e w2 ⟨rfl, hb⟩
    have HB2 := Lib.hid (sz_keep HB1.out hb)
    clear hb m1 m2
    cases r with
    | false =>
      go_wp2
      go_ret
      exact ⟨ret_bool (by unfold sameV; rw [X0.out, HR.out]; rfl), HB2.out⟩
    | true =>
      go_wp2
      go_ret
      exact ⟨ret_bool (by unfold sameV; rw [X0.out, HR.out]; rfl), HB2.out⟩
end

section
open Go.ChangeShapes Go.WideShapes Go.ChangeAt Go.RowKit Go.Deep Go.Joins
set_option linter.unusedVariables false

set_option maxRecDepth 100000 in
theorem cells_StepS : Try.prog.cellsOf 56 = 1 := by kernel_rfl
set_option maxRecDepth 100000 in
theorem pss_cell {H : Type} {enc : TypeId × Value → H} {W : World} {fuel : Nat} {u : Value} {x : DataW H × List MemPlace} (hf : DataW.trod enc Try.prog W 0 (fun _ => true) true fuel 31 [u] = some x) : ∃ es, RPss W u es ∧ SmallPss es := by
  rcases open_slice Try.underlying31 hf with ⟨hcs, -⟩ | ⟨a, len, cap, m, n, D, Pl, hcs, hb, hl, hm, hmm, -, hx⟩
  · simp at hcs
    subst hcs
    exact ⟨[], RPss.nil _, fun e he => by simp at he⟩
  · simp at hcs
    subst hcs
    have hlm : len ≤ m := by rw [hmm]; split <;> omega
    have each : ∀ i, i < len → ∃ q : List MStep, (∃ b o u, a = ⟨b, o, none⟩ ∧ W.cell? ⟨b, o + i, none⟩ = some u ∧ RSteps W u q) ∧ SmallPs q := by
      intro i hi
      obtain ⟨cs', h1, h2⟩ := hx i (by omega)
      rw [cells_StepS] at h1
      obtain ⟨-, hlen, hcell⟩ := World.cells?_some h1
      match cs', hlen with
      | [v0], _ =>
        have c0 := hcell 0 (by omega)
        have hsp0 : a.spot = none := by
          obtain ⟨cs0, k1, -⟩ := hx 0 (by omega)
          rw [cells_StepS] at k1
          obtain ⟨-, hl0, hc0⟩ := World.cells?_some k1
          have c := hc0 0 (by omega)
          rw [List.getElem?_eq_getElem (by omega)] at c
          have := spot_none c
          simpa [Addr.add] using this
        obtain ⟨b, o, sp⟩ := a
        simp only at hsp0
        subst hsp0
        rw [add_add, add_plain] at c0
        obtain ⟨q, r1, s1⟩ := steps_cell h2
        exact ⟨q, ⟨b, o, v0, rfl, by simpa using c0, r1⟩, s1⟩
    obtain ⟨q, hq⟩ := choose_lt each
    refine ⟨(List.range len).map q, ⟨some a, cap, by simp, by simpa using hl, hm, fun j e hj => ?_⟩, fun e he => ?_⟩
    · simp only [List.getElem?_map] at hj
      obtain ⟨r, hr', rfl⟩ := Option.map_eq_some_iff.1 hj
      obtain ⟨hjl, hrj⟩ := List.getElem?_eq_some_iff.1 hr'
      simp at hjl hrj
      subst hrj
      obtain ⟨⟨b, o, u, rfl, r⟩, -⟩ := hq j hjl
      exact ⟨b, o, u, rfl, r⟩
    · obtain ⟨r, hr', rfl⟩ := List.mem_map.1 he
      simp at hr'
      exact (hq r hr').2
set_option maxRecDepth 100000 in
theorem cells_View : Try.prog.cellsOf 33 = 3 := by kernel_rfl
set_option maxRecDepth 100000 in
theorem view_of {H : Type} {enc : TypeId × Value → H} {W : World} {base : Nat} {v : Value} {d : DataW H} {p : List MemPlace} (hv : Value.okWide Try.prog W .any base 33 v)
    (h : DataW.Trod enc Try.prog W 0 (fun _ => true) true 33 v d p) : ∃ t, RView W v t ∧ SmallV t := by
  obtain ⟨cs, rfl, hsz⟩ := okWide_struct Try.underlying33 hv
  obtain ⟨c0, c1, c2, rfl⟩ := array3 (hsz.trans cells_View)
  obtain ⟨fuel, hf⟩ := h
  obtain ⟨y0, y1, n, -, -, h0, h1⟩ := trod_struct2 Try.underlying33 hf
  have k2 : Try.prog.cellsOf 30 = 2 := by kernel_rfl
  have k1 : Try.prog.cellsOf 31 = 1 := by kernel_rfl
  simp [Value.cells, k1, k2] at h0 h1
  obtain ⟨z0, z1, n', -, -, g0, g1⟩ := trod_struct2 Try.underlying30 h0
  have k3 : Try.prog.cellsOf 28 = 1 := by kernel_rfl
  simp [k3] at g0 g1
  obtain ⟨xs0, r0, -⟩ := ints_cell g0
  obtain ⟨xs1, r1, -⟩ := ints_cell g1
  obtain ⟨es, r2, s2⟩ := pss_cell h1
  exact ⟨⟨⟨xs0, xs1⟩, es⟩, ⟨_, _, _, rfl, r0, r1, r2⟩, s2⟩
end

section
open Go.RowKit
set_option linter.unusedVariables false
set_option linter.unusedSimpArgs false

/-- a row with its numbers replaced by those to which they are led; letters stay -/
def ledM (tq row : List Int) : List Int := row.map fun x => if x < 100 then tq.getD x.toNat 0 else x
def InTo (tq row : List Int) : Prop := ∀ x ∈ row, x < 100 → 0 ≤ x ∧ x < (tq.length : Int)
theorem ledM_len (tq row : List Int) : (ledM tq row).length = row.length := by simp [ledM]
theorem ledM_at {tq row : List Int} {k : Nat} (hk : k < row.length) : (ledM tq row)[k]? = some (if row[k] < 100 then tq.getD (row[k]).toNat 0 else row[k]) := by
  simp [ledM, List.getElem?_eq_getElem hk]
theorem ledM_take {tq row : List Int} {k : Nat} (hk : k < row.length) : ledM tq (row.take (k + 1)) = ledM tq (row.take k) ++ [if row[k] < 100 then tq.getD (row[k]).toNat 0 else row[k]] := by
  rw [List.take_succ_eq_append_getElem hk]; unfold ledM; rw [List.map_append]; rfl
theorem ledM_nil (tq : List Int) : ledM tq [] = [] := rfl
/-- the same of a row of sorts -/
def rowLed (tq row : List Int) : List Int := row.map fun x => tq.getD x.toNat 0
theorem rowLed_len (tq row : List Int) : (rowLed tq row).length = row.length := by simp [rowLed]
theorem rowLed_take {tq row : List Int} {k : Nat} (hk : k < row.length) : rowLed tq (row.take (k + 1)) = rowLed tq (row.take k) ++ [tq.getD (row[k]).toNat 0] := by
  rw [List.take_succ_eq_append_getElem hk]; unfold rowLed; rw [List.map_append]; rfl
theorem rowLed_led {tq row : List Int} (h : ∀ x ∈ row, x < 100) : rowLed tq row = ledM tq row := by
  unfold rowLed ledM
  refine List.map_congr_left fun x hx => ?_
  rw [if_pos (h x hx)]
def ledOp (a b : MSig) (m : MMap) (k : Nat) : Bool := (decide (0 ≤ m.ops.getD k 0) && decide (m.ops.getD k 0 < (b.ops.length : Int))) && decide (ledM m.sorts (a.ops.getD k []) = b.ops.getD (m.ops.getD k 0).toNat [])
def allLed (a b : MSig) (m : MMap) (n : Nat) : Bool := (List.range n).all (ledOp a b m)
theorem allLed_zero (a b : MSig) (m : MMap) : allLed a b m 0 = true := rfl
theorem allLed_succ (a b : MSig) (m : MMap) (n : Nat) : allLed a b m (n + 1) = (allLed a b m n && ledOp a b m n) := by
  unfold allLed; rw [List.range_succ, List.all_append]; simp
theorem allLed_bad {a b : MSig} {m : MMap} {k n : Nat} (hk : k < n) (h : ledOp a b m k = false) : allLed a b m n = false := by
  unfold allLed; rw [List.all_eq_false]; exact ⟨k, List.mem_range.2 hk, by simp [h]⟩
def mapOkB (a b : MSig) (m : MMap) : Bool := ((((validB a && validB b) && decide ((m.sorts.length : Int) = a.sorts)) && decide (m.ops.length = a.ops.length)) && belowB m.sorts b.sorts) && allLed a b m m.ops.length
theorem mapOk_no1 {a b : MSig} {m : MMap} (h : validB a = false) : mapOkB a b m = false := by unfold mapOkB; simp [h]
theorem mapOk_no2 {a b : MSig} {m : MMap} (h : validB b = false) : mapOkB a b m = false := by unfold mapOkB; simp [h]
theorem mapOk_no3 {a b : MSig} {m : MMap} (h : ¬ (m.sorts.length : Int) = a.sorts) : mapOkB a b m = false := by unfold mapOkB; simp [h]
theorem mapOk_no4 {a b : MSig} {m : MMap} (h : ¬ m.ops.length = a.ops.length) : mapOkB a b m = false := by unfold mapOkB; simp [h]
theorem mapOk_no5 {a b : MSig} {m : MMap} (h : belowB m.sorts b.sorts = false) : mapOkB a b m = false := by unfold mapOkB; simp [h]
theorem mapOk_no6 {a b : MSig} {m : MMap} {k : Nat} (hk : k < m.ops.length) (h : ledOp a b m k = false) : mapOkB a b m = false := by unfold mapOkB; simp [allLed_bad hk h]
theorem mapOk_yes {a b : MSig} {m : MMap} (h1 : validB a = true) (h2 : validB b = true) (h3 : (m.sorts.length : Int) = a.sorts) (h4 : m.ops.length = a.ops.length) (h5 : belowB m.sorts b.sorts = true) (h6 : allLed a b m m.ops.length = true) : mapOkB a b m = true := by
  unfold mapOkB; simp [h1, h2, h3, h4, h5]; rw [← h4]; exact h6
structure MapFacts (a b : MSig) (m : MMap) : Prop where
  va : validB a = true
  vb : validB b = true
  sl : (m.sorts.length : Int) = a.sorts
  ol : m.ops.length = a.ops.length
  sb : ∀ x ∈ m.sorts, 0 ≤ x ∧ x < b.sorts
  ob : ∀ x ∈ m.ops, 0 ≤ x ∧ x < (b.ops.length : Int)
  oo : ∀ (k : Nat) (h1 : k < a.ops.length) (h2 : k < m.ops.length), b.ops[(m.ops[k]).toNat]? = some (ledM m.sorts a.ops[k])
theorem mapOk_facts {a b : MSig} {m : MMap} (h : mapOkB a b m = true) : MapFacts a b m := by
  unfold mapOkB at h
  simp only [Bool.and_eq_true, decide_eq_true_eq] at h
  obtain ⟨⟨⟨⟨⟨h1, h2⟩, h3⟩, h4⟩, h5⟩, h6⟩ := h
  have op : ∀ k, (h : k < m.ops.length) → ((0 ≤ m.ops[k] ∧ m.ops[k] < (b.ops.length : Int)) ∧ ledM m.sorts (a.ops.getD k []) = b.ops.getD (m.ops[k]).toNat []) := by
    intro k hk
    unfold allLed at h6
    rw [List.all_eq_true] at h6
    have := h6 k (List.mem_range.2 hk)
    unfold ledOp at this
    rw [getD_at _ hk] at this
    simpa using this
  refine ⟨h1, h2, h3, h4, by simpa [belowB] using h5, fun x hx => ?_, fun k hk1 hk2 => ?_⟩
  · obtain ⟨k, hk, rfl⟩ := List.getElem_of_mem hx
    exact (op k hk).1
  · obtain ⟨⟨p, q⟩, r⟩ := op k hk2
    rw [getD_at _ hk1] at r
    have hl : (m.ops[k]).toNat < b.ops.length := by omega
    rw [getD_at _ hl] at r
    rw [List.getElem?_eq_getElem hl, r]
theorem facts_ok {a b : MSig} {m : MMap} (h : MapFacts a b m) : mapOkB a b m = true := by
  refine mapOk_yes h.va h.vb h.sl h.ol (by simpa [belowB] using h.sb) ?_
  unfold allLed
  rw [List.all_eq_true]
  intro k hk
  have hk := List.mem_range.1 hk
  have hka : k < a.ops.length := by rw [← h.ol]; exact hk
  have hb := h.ob _ (List.getElem_mem hk)
  have ho := h.oo k hka hk
  unfold ledOp
  rw [getD_at _ hk, getD_at _ hka]
  have hl : (m.ops[k]).toNat < b.ops.length := by omega
  rw [getD_at _ hl]
  rw [List.getElem?_eq_getElem hl] at ho
  injection ho with ho
  simp [hb.1, hb.2, ho]
/-- sorts are led -/
theorem MapFacts.sorts_in {a b : MSig} {m : MMap} (h : MapFacts a b m) {row : List Int} (hr : ∀ x ∈ row, 0 ≤ x ∧ x < a.sorts) : InTo m.sorts row := fun x hx _ => by
  have := hr x hx; have := h.sl; omega
theorem MapFacts.op_in {a b : MSig} {m : MMap} (h : MapFacts a b m) {k : Nat} (hk : k < a.ops.length) : InTo m.sorts a.ops[k] := h.sorts_in (valid_row h.va hk).2.2
def noMap : MMap := ⟨[], []⟩
def countM (n : Nat) : List Int := (List.range n).map fun (i : Nat) => (i : Int)
theorem countM_len (n : Nat) : (countM n).length = n := by simp [countM]
theorem countM_at {n k : Nat} (h : k < n) : (countM n)[k]? = some (k : Int) := by simp [countM, h]
theorem countM_succ (n : Nat) : countM (n + 1) = countM n ++ [(n : Int)] := by unfold countM; rw [List.range_succ]; simp
def selfM (s : MSig) : MMap := if validB s then ⟨countM s.sorts.toNat, countM s.ops.length⟩ else noMap
def thenM (a b c : MSig) (m n : MMap) : MMap × Bool := if mapOkB a b m && mapOkB b c n then (⟨ledM n.sorts m.sorts, ledM n.ops m.ops⟩, true) else (noMap, false)
def mapTermM (a b : MSig) (m : MMap) (vars t : List Int) : List Int × List Int × Bool := if mapOkB a b m && decide (0 ≤ sortM a vars t) then (ledM m.sorts vars, ledM m.ops t, true) else ([], [], false)
def noEq : MEq := ⟨[], [], []⟩
def ledE (m : MMap) (e : MEq) : MEq := ⟨ledM m.sorts e.vars, ledM m.ops e.left, ledM m.ops e.right⟩
def mapEqM (a b : MSig) (m : MMap) (e : MEq) : MEq × Bool := if mapOkB a b m && eqOkB a e then (ledE m e, true) else (noEq, false)
end

section
open Go.RowKit
set_option linter.unusedVariables false
set_option linter.unusedSimpArgs false

theorem countM_getD {n k : Nat} (h : k < n) : (countM n).getD k 0 = (k : Int) := by
  rw [List.getD_eq_getElem?_getD, countM_at h]; rfl
theorem ledM_count {n : Nat} {row : List Int} (h : ∀ x ∈ row, (0 ≤ x ∧ x < (n : Int)) ∨ 100 ≤ x) : ledM (countM n) row = row := by
  unfold ledM
  conv => rhs; rw [← List.map_id row]
  refine List.map_congr_left fun x hx => ?_
  rcases h x hx with h | h
  · by_cases h1 : x < 100
    · rw [if_pos h1, countM_getD (by omega)]; simp; omega
    · rw [if_neg h1]; rfl
  · rw [if_neg (by omega)]; rfl
theorem ledM_mem {tq row : List Int} (h : InTo tq row) (x : Int) (hx : x ∈ ledM tq row) : x ∈ tq ∨ (x ∈ row ∧ 100 ≤ x) := by
  unfold ledM at hx
  obtain ⟨y, hy, rfl⟩ := List.mem_map.1 hx
  by_cases h1 : y < 100
  · left
    rw [if_pos h1, getD_at _ (by have := h y hy h1; omega)]
    exact List.getElem_mem _
  · right
    rw [if_neg h1]
    exact ⟨hy, by omega⟩
/-- one behind the other -/
theorem ledM_led {t1 t2 row : List Int} (h1 : InTo t1 row) (h2 : ∀ x ∈ t1, x < 100) : ledM t2 (ledM t1 row) = ledM (ledM t2 t1) row := by
  unfold ledM
  rw [List.map_map]
  refine List.map_congr_left fun x hx => ?_
  simp only [Function.comp]
  by_cases h : x < 100
  · have hb := h1 x hx h
    have hk : x.toNat < t1.length := by omega
    rw [if_pos h, if_pos h, getD_at _ hk, if_pos (h2 _ (List.getElem_mem hk)), List.getD_eq_getElem?_getD (l := List.map _ t1), List.getElem?_map, List.getElem?_eq_getElem hk]
    simp only [Option.map_some, Option.getD_some]
    rw [if_pos (h2 _ (List.getElem_mem hk))]
  · rw [if_neg h, if_neg h, if_neg h]
theorem MapFacts.ss {a b : MSig} {m : MMap} (h : MapFacts a b m) : ∀ x ∈ m.sorts, x < 100 := fun x hx => by
  have := h.sb x hx; have := valid_sorts h.vb; omega
theorem MapFacts.os {a b : MSig} {m : MMap} (h : MapFacts a b m) : ∀ x ∈ m.ops, x < 100 := fun x hx => by
  have := h.ob x hx; have := valid_sorts h.vb; omega
theorem selfM_ok {s : MSig} (h : validB s = true) : selfM s = ⟨countM s.sorts.toNat, countM s.ops.length⟩ := by unfold selfM; rw [if_pos h]
theorem self_facts {s : MSig} (h : validB s = true) : MapFacts s s (selfM s) := by
  rw [selfM_ok h]
  have hv := valid_sorts h
  refine ⟨h, h, by simp only [countM_len]; omega, countM_len _, fun x hx => ?_, fun x hx => ?_, fun k h1 h2 => ?_⟩
  · simp [countM] at hx; obtain ⟨i, hi, rfl⟩ := hx; omega
  · simp [countM] at hx; obtain ⟨i, hi, rfl⟩ := hx; omega
  · have he : (countM s.ops.length)[k] = (k : Int) := by
      have := countM_at h1; rw [List.getElem?_eq_getElem h2] at this; injection this
    simp only [he, Int.toNat_natCast]
    rw [List.getElem?_eq_getElem h1, ledM_count]
    intro x hx
    have := (valid_row h h1).2.2 x hx
    left; omega
theorem self_okB (s : MSig) : mapOkB s s (selfM s) = validB s := by
  cases h : validB s with
  | true => exact facts_ok (self_facts h)
  | false => exact mapOk_no1 h
theorem then_facts {a b c : MSig} {m n : MMap} (h : MapFacts a b m) (k : MapFacts b c n) : MapFacts a c ⟨ledM n.sorts m.sorts, ledM n.ops m.ops⟩ := by
  have is : InTo n.sorts m.sorts := k.sorts_in h.sb
  have io : InTo n.ops m.ops := fun x hx _ => by have := h.ob x hx; rw [k.ol]; exact this
  refine ⟨h.va, k.vb, by simp only [ledM_len]; exact h.sl, by simp only [ledM_len]; exact h.ol, fun x hx => ?_, fun x hx => ?_, fun i h1 h2 => ?_⟩
  · rcases ledM_mem is x hx with hx | hx
    · exact k.sb x hx
    · have := h.ss x hx.1; omega
  · rcases ledM_mem io x hx with hx | hx
    · exact k.ob x hx
    · have := h.os x hx.1; omega
  · have hm : i < m.ops.length := by rw [h.ol]; exact h1
    have e1 := h.oo i h1 hm
    have hb := h.ob _ (List.getElem_mem hm)
    have hos := h.os _ (List.getElem_mem hm)
    have hbl : (m.ops[i]).toNat < b.ops.length := by omega
    have hnl : (m.ops[i]).toNat < n.ops.length := by rw [k.ol]; exact hbl
    have e2 := k.oo _ hbl hnl
    have e3 : (ledM n.ops m.ops)[i] = n.ops[(m.ops[i]).toNat] := by
      have := ledM_at (tq := n.ops) hm
      rw [List.getElem?_eq_getElem h2] at this
      injection this with this
      rw [this, if_pos hos, getD_at _ hnl]
    simp only [e3]
    rw [e2]
    rw [List.getElem?_eq_getElem hbl] at e1
    injection e1 with e1
    rw [e1, ledM_led (h.op_in h1) h.ss]
theorem thenM_self {a c : MSig} {x : MMap} (h : mapOkB a c x = true) : thenM a a c (selfM a) x = (x, true) ∧ thenM a c c x (selfM c) = (x, true) := by
  have f := mapOk_facts h
  have fa := self_facts f.va
  have fc := self_facts f.vb
  have va := valid_sorts f.va
  have vc := valid_sorts f.vb
  obtain ⟨xs, xo⟩ := x
  constructor
  · unfold thenM
    rw [facts_ok fa, h, selfM_ok f.va]
    simp only [Bool.and_self, if_true]
    have e1 : ledM xs (countM a.sorts.toNat) = xs := by
      apply List.ext_getElem?
      intro i
      have hl : xs.length = a.sorts.toNat := by have := f.sl; simp only at this; omega
      by_cases hi : i < xs.length
      · have hc : i < (countM a.sorts.toNat).length := by rw [countM_len]; omega
        have hce : (countM a.sorts.toNat)[i] = (i : Int) := by have := countM_at (n := a.sorts.toNat) (k := i) (by omega); rw [List.getElem?_eq_getElem hc] at this; injection this
        rw [ledM_at hc, hce, if_pos (by omega), Int.toNat_natCast, getD_at _ hi, List.getElem?_eq_getElem hi]
      · rw [List.getElem?_eq_none (by rw [ledM_len, countM_len]; omega), List.getElem?_eq_none (by omega)]
    have e2 : ledM xo (countM a.ops.length) = xo := by
      apply List.ext_getElem?
      intro i
      have hl : xo.length = a.ops.length := f.ol
      by_cases hi : i < xo.length
      · have hc : i < (countM a.ops.length).length := by rw [countM_len]; omega
        have hce : (countM a.ops.length)[i] = (i : Int) := by have := countM_at (n := a.ops.length) (k := i) (by omega); rw [List.getElem?_eq_getElem hc] at this; injection this
        rw [ledM_at hc, hce, if_pos (by omega), Int.toNat_natCast, getD_at _ hi, List.getElem?_eq_getElem hi]
      · rw [List.getElem?_eq_none (by rw [ledM_len, countM_len]; omega), List.getElem?_eq_none (by omega)]
    rw [e1, e2]
  · unfold thenM
    rw [facts_ok fc, h, selfM_ok f.vb]
    simp only [Bool.and_self, if_true]
    rw [ledM_count (fun x hx => by have := f.sb x hx; left; omega), ledM_count (fun x hx => by have := f.ob x hx; left; omega)]
theorem thenM_ok {a b c : MSig} {m n : MMap} (h : (thenM a b c m n).2 = true) : mapOkB a c (thenM a b c m n).1 = true := by
  unfold thenM at h ⊢
  split at h
  · rename_i hc
    rw [if_pos hc]
    simp only [Bool.and_eq_true] at hc
    exact facts_ok (then_facts (mapOk_facts hc.1) (mapOk_facts hc.2))
  · cases h
theorem one_ok (b : MSig) : mapOkB ⟨1, []⟩ b ⟨[0], []⟩ = validB b := by
  cases h : validB b with
  | false => exact mapOk_no2 h
  | true =>
    have hv := valid_sorts h
    refine mapOk_yes rfl h rfl rfl ?_ rfl
    simp [belowB]; omega

/-! terms along maps -/
theorem led_last {tq row : List Int} (h : 0 < row.length) (hr : ∀ x ∈ row, x < 100) : (ledM tq row).getLastD (-1) = tq.getD (row.getLastD (-1)).toNat 0 := by
  have hl : row.length - 1 < row.length := by omega
  have := ledM_at (tq := tq) hl
  rw [last_at (by rw [ledM_len]; exact h), last_at h]
  rw [if_pos (hr _ (List.getElem_mem hl))] at this
  have h2 : (ledM tq row).length - 1 < (ledM tq row).length := by rw [ledM_len]; omega
  have e : (ledM tq row)[(ledM tq row).length - 1]? = some (tq.getD (row[row.length - 1]).toNat 0) := by rw [ledM_len]; exact this
  rw [List.getElem?_eq_getElem h2] at e
  injection e
theorem led_drop (tq row : List Int) : (ledM tq row).dropLast = ledM tq row.dropLast := by unfold ledM; rw [List.map_dropLast]
theorem led_cons {tq row : List Int} {x : Int} (h : x < 100) : ledM tq (x :: row) = tq.getD x.toNat 0 :: ledM tq row := by unfold ledM; simp [h]
theorem led_append (tq r s : List Int) : ledM tq (r ++ s) = ledM tq r ++ ledM tq s := by unfold ledM; simp
theorem led_getD {tq row : List Int} {k : Nat} (hk : k < row.length) (h : row[k] < 100) : (ledM tq row).getD k 0 = tq.getD (row[k]).toNat 0 := by
  rw [List.getD_eq_getElem?_getD, ledM_at hk, if_pos h]; rfl
mutual
theorem led_t {a b : MSig} {m : MMap} (f : MapFacts a b m) {vars : List Int} (hv : ∀ x ∈ vars, 0 ≤ x ∧ x < a.sorts) : ∀ tm : Tm, wfT a vars tm → ∃ tm' : Tm, wfT b (ledM m.sorts vars) tm' ∧ tm'.sort = m.sorts.getD tm.sort.toNat 0 ∧ tm'.row = ledM m.ops tm.row
  | .leaf k of, hw => by
    unfold wfT at hw
    obtain ⟨hk, rfl⟩ := hw
    have hx : vars[k] < 100 := by have := hv _ (List.getElem_mem hk); have := valid_sorts f.va; omega
    refine ⟨.leaf k (m.sorts.getD (vars.getD k 0).toNat 0), ?_, rfl, ?_⟩
    · unfold wfT
      refine ⟨by rw [ledM_len]; exact hk, ?_⟩
      rw [led_getD hk hx, getD_at _ hk]
    · simp only [Tm.row, ledM, List.map_cons, List.map_nil]
      rw [if_neg (by omega)]
  | .node op lv ts, hw => by
    unfold wfT at hw
    obtain ⟨ho, hl, hts⟩ := hw
    have hvr := valid_row f.va ho
    have hs := valid_sorts f.va
    have hom : op < m.ops.length := by rw [f.ol]; exact ho
    have e := f.oo op ho hom
    have hob := f.ob _ (List.getElem_mem hom)
    have hob2 := f.os _ (List.getElem_mem hom)
    have hbl : (m.ops[op]).toNat < b.ops.length := by omega
    have hrow : opRow b (m.ops[op]).toNat = ledM m.sorts (opRow a op) := by
      rw [opRow_at hbl, opRow_at ho]
      rw [List.getElem?_eq_getElem hbl] at e
      injection e
    rw [opRow_at ho] at hl hts
    obtain ⟨ts', h1, h2⟩ := led_ts f hv ts _ hts
    refine ⟨.node (m.ops[op]).toNat (m.sorts.getD lv.toNat 0) ts', ?_, rfl, ?_⟩
    · unfold wfT
      refine ⟨hbl, ?_, ?_⟩
      · rw [hrow, opRow_at ho, led_last (by omega) (fun x hx => by have := hvr.2.2 x hx; omega), hl]
      · rw [hrow, opRow_at ho, led_drop]; exact h1
    · simp only [Tm.row]
      rw [led_cons (by have := valid_sorts f.va; omega), Int.toNat_natCast, getD_at _ hom, h2, Int.toNat_of_nonneg hob.1]
theorem led_ts {a b : MSig} {m : MMap} (f : MapFacts a b m) {vars : List Int} (hv : ∀ x ∈ vars, 0 ≤ x ∧ x < a.sorts) : ∀ (ts : List Tm) (ss : List Int), wfTs a vars ss ts → ∃ ts' : List Tm, wfTs b (ledM m.sorts vars) (ledM m.sorts ss) ts' ∧ rowsOf ts' = ledM m.ops (rowsOf ts)
  | [], ss, hw => by
    unfold wfTs at hw
    subst hw
    exact ⟨[], by unfold wfTs; rfl, rfl⟩
  | t :: ts, ss, hw => by
    unfold wfTs at hw
    obtain ⟨x, ss', rfl, h1, h2, h3⟩ := hw
    obtain ⟨t', q1, q2, q3⟩ := led_t f hv t h2
    obtain ⟨ts', q4, q5⟩ := led_ts f hv ts ss' h3
    have hx : x < 100 := by
      subst h1
      cases t with
      | leaf k of =>
        unfold wfT at h2
        obtain ⟨hk, rfl⟩ := h2
        simp only [Tm.sort]
        rw [getD_at _ hk]
        have := hv _ (List.getElem_mem hk); have := valid_sorts f.va; omega
      | node op lv us =>
        unfold wfT at h2
        obtain ⟨hk, rfl, -⟩ := h2
        simp only [Tm.sort]
        have hr := valid_row f.va hk
        rw [opRow_at hk, last_at (by omega)]
        have := hr.2.2 _ (List.getElem_mem (show a.ops[op].length - 1 < a.ops[op].length by omega)); have := valid_sorts f.va; omega
    refine ⟨t' :: ts', ?_, by simp only [rowsOf]; rw [q3, q5, led_append]⟩
    unfold wfTs
    refine ⟨m.sorts.getD x.toNat 0, ledM m.sorts ss', led_cons hx, by rw [q2, h1], q1, q4⟩
end
theorem varsB_led {a b : MSig} {m : MMap} (f : MapFacts a b m) {vars : List Int} (h : varsB a vars = true) : varsB b (ledM m.sorts vars) = true := by
  obtain ⟨h1, h2, h3⟩ := vars_valid h
  unfold varsB
  rw [f.vb, decide_eq_true (by rw [ledM_len]; exact h2)]
  simp only [Bool.and_self, Bool.true_and]
  unfold belowB
  rw [List.all_eq_true]
  intro x hx
  have hin : InTo m.sorts vars := f.sorts_in (fun x hx => by obtain ⟨k, hk, rfl⟩ := List.getElem_of_mem hx; exact h3 k hk)
  rcases ledM_mem hin x hx with h | h
  · have := f.sb x h; simpa using this
  · obtain ⟨k, hk, rfl⟩ := List.getElem_of_mem h.1
    have := h3 k hk; have := valid_sorts f.va; omega
theorem vars_mem {s : MSig} {vars : List Int} (h : varsB s vars = true) : ∀ x ∈ vars, 0 ≤ x ∧ x < s.sorts := fun x hx => by
  obtain ⟨k, hk, rfl⟩ := List.getElem_of_mem hx; exact (vars_valid h).2.2 k hk
/-- the sort of a term along a map -/
theorem sortM_led {a b : MSig} {m : MMap} (f : MapFacts a b m) {vars t : List Int} (h : 0 ≤ sortM a vars t) : sortM b (ledM m.sorts vars) (ledM m.ops t) = m.sorts.getD (sortM a vars t).toNat 0 ∧ (sortM a vars t).toNat < m.sorts.length := by
  obtain ⟨tm, h1, h2, h3, rfl, h5⟩ := sortM_to h
  obtain ⟨tm', q1, q2, q3⟩ := led_t f (vars_mem h1) tm h3
  have hlt := sortM_lt (vars := vars) (t := tm.row) f.va
  refine ⟨?_, by have := f.sl; omega⟩
  rw [← q3, sortM_of (varsB_led f h1) (by rw [q3, ledM_len]; exact h2) q1, q2, h5]
theorem sorts_nonneg {a b : MSig} {m : MMap} (f : MapFacts a b m) {k : Nat} (hk : k < m.sorts.length) : 0 ≤ m.sorts.getD k 0 := by
  rw [getD_at _ hk]; exact (f.sb _ (List.getElem_mem hk)).1
/-- the numbers of a term are led -/
theorem term_in {a b : MSig} {m : MMap} (f : MapFacts a b m) {vars t : List Int} (h : 0 ≤ sortM a vars t) : InTo m.ops t ∧ t.length ≤ 30 ∧ InTo m.sorts vars ∧ vars.length ≤ 4 ∧ (∀ x ∈ vars, x < 100) := by
  obtain ⟨tm, h1, h2, h3, rfl, h5⟩ := sortM_to h
  refine ⟨fun x hx hlt => ?_, h2, f.sorts_in (vars_mem h1), (vars_valid h1).2.1, fun x hx => by have := vars_mem h1 x hx; have := valid_sorts f.va; omega⟩
  have := nums_t (ops_few f.va) tm h3 x hx
  have := f.ol
  omega
/-- by the map that leaves all a term is itself -/
theorem self_term {s : MSig} {vars t : List Int} (h : 0 ≤ sortM s vars t) (hv : validB s = true) : ledM (selfM s).ops t = t ∧ ledM (selfM s).sorts vars = vars := by
  obtain ⟨tm, h1, h2, h3, rfl, h5⟩ := sortM_to h
  rw [selfM_ok hv]
  constructor
  · refine ledM_count fun x hx => ?_
    have := nums_t (ops_few hv) tm h3 x hx
    omega
  · refine ledM_count fun x hx => ?_
    have := vars_mem h1 x hx; have := valid_sorts hv
    left; omega
end

section
open Go.RowKit
set_option linter.unusedVariables false
set_option linter.unusedSimpArgs false

def findFrom (e : MEq) : Nat → List MEq → Int
  | _, [] => -1
  | k, x :: xs => if sameE x e then (k : Int) else findFrom e (k + 1) xs
/-- the number of the first equation that is this one; -1 if there is none -/
def findE (es : List MEq) (e : MEq) : Int := findFrom e 0 es
theorem findFrom_at (e : MEq) : ∀ (es : List MEq) (k0 j : Nat) (hj : j < es.length), (∀ i (hi : i < j), sameE (es[i]'(by omega)) e = false) → sameE es[j] e = true → findFrom e k0 es = ((k0 + j : Nat) : Int)
  | [], k0, j, hj, _, _ => by simp at hj
  | x :: xs, k0, 0, hj, _, h => by
    simp only [List.getElem_cons_zero] at h
    simp [findFrom, h]
  | x :: xs, k0, j + 1, hj, hb, h => by
    have h0 := hb 0 (by omega)
    simp only [List.getElem_cons_zero] at h0
    simp only [findFrom, h0, Bool.false_eq_true, if_false]
    rw [findFrom_at e xs (k0 + 1) j (by simpa using hj) (fun i hi => by have := hb (i + 1) (by omega); simpa using this) (by simpa using h)]
    congr 1; omega
theorem findFrom_none (e : MEq) : ∀ (es : List MEq) (k0 : Nat), (∀ i (hi : i < es.length), sameE es[i] e = false) → findFrom e k0 es = -1
  | [], k0, _ => rfl
  | x :: xs, k0, hb => by
    have h0 := hb 0 (by simp)
    simp only [List.getElem_cons_zero] at h0
    simp only [findFrom, h0, Bool.false_eq_true, if_false]
    exact findFrom_none e xs (k0 + 1) (fun i hi => by have := hb (i + 1) (by simpa using hi); simpa using this)
theorem findE_at {es : List MEq} {e : MEq} {j : Nat} (hj : j < es.length) (hb : ∀ i (hi : i < j), sameE (es[i]'(by omega)) e = false) (h : sameE es[j] e = true) : findE es e = (j : Int) := by
  unfold findE; rw [findFrom_at e es 0 j hj hb h]; simp
theorem findE_none {es : List MEq} {e : MEq} (hb : ∀ i (hi : i < es.length), sameE es[i] e = false) : findE es e = -1 := findFrom_none e es 0 hb
/-- none of the first k is it -/
def NoneTo (es : List MEq) (e : MEq) (k : Nat) : Prop := ∀ i (hi : i < es.length), i < k → sameE es[i] e = false
theorem NoneTo.zero (es : List MEq) (e : MEq) : NoneTo es e 0 := fun i _ h => by omega
theorem NoneTo.succ {es : List MEq} {e : MEq} {k : Nat} (h : NoneTo es e k) (hk : k < es.length) (hn : sameE es[k] e = false) : NoneTo es e (k + 1) := fun i hi hlt => by
  by_cases he : i = k
  · subst he; exact hn
  · exact h i hi (by omega)
theorem NoneTo.found {es : List MEq} {e : MEq} {k : Nat} (h : NoneTo es e k) (hk : k < es.length) (hn : sameE es[k] e = true) : findE es e = (k : Int) := findE_at hk (fun i hi => h i (by omega) hi) hn
theorem NoneTo.all {es : List MEq} {e : MEq} {k : Nat} (h : NoneTo es e k) (hk : es.length ≤ k) : findE es e = -1 := findE_none (fun i hi => h i hi (by omega))
theorem findFrom_lt (e : MEq) : ∀ (es : List MEq) (k0 : Nat), -1 ≤ findFrom e k0 es ∧ findFrom e k0 es < ((k0 + es.length : Nat) : Int) + 1
  | [], k0 => by simp [findFrom]; omega
  | x :: xs, k0 => by
    have := findFrom_lt e xs (k0 + 1)
    simp only [findFrom, List.length_cons]
    split
    · omega
    · omega
theorem findE_lt (es : List MEq) (e : MEq) : -1 ≤ findE es e ∧ findE es e ≤ (es.length : Int) := by
  have := findFrom_lt e es 0
  unfold findE; omega
def axL (b : List MEq) (m : MMap) (a : List MEq) : List Int := a.map fun e => findE b (ledE m e)
theorem axL_len (b : List MEq) (m : MMap) (a : List MEq) : (axL b m a).length = a.length := by simp [axL]
theorem axL_at {b a : List MEq} {m : MMap} {k : Nat} (hk : k < a.length) : (axL b m a)[k]? = some (findE b (ledE m a[k])) := by simp [axL, List.getElem?_eq_getElem hk]
theorem axL_take {b a : List MEq} {m : MMap} {k : Nat} (hk : k < a.length) : axL b m (a.take (k + 1)) = axL b m (a.take k) ++ [findE b (ledE m a[k])] := by
  rw [List.take_succ_eq_append_getElem hk]; unfold axL; rw [List.map_append]; rfl
def allIn (xs : List Int) : Bool := xs.all fun x => decide (0 ≤ x)
def mapAxM (a b : MThy) (m : MMap) : List Int × Bool :=
  if ((thyB a && thyB b) && mapOkB a.over b.over m) && allIn (axL b.eqs m a.eqs) then (axL b.eqs m a.eqs, true) else ([], false)
theorem mapAx_no1 {a b : MThy} {m : MMap} (h : thyB a = false) : mapAxM a b m = ([], false) := by unfold mapAxM; simp [h]
theorem mapAx_no2 {a b : MThy} {m : MMap} (h : thyB b = false) : mapAxM a b m = ([], false) := by unfold mapAxM; simp [h]
theorem mapAx_no3 {a b : MThy} {m : MMap} (h : mapOkB a.over b.over m = false) : mapAxM a b m = ([], false) := by unfold mapAxM; simp [h]
theorem mapAx_no4 {a b : MThy} {m : MMap} {k : Nat} (hk : k < a.eqs.length) (h : findE b.eqs (ledE m a.eqs[k]) < 0) : mapAxM a b m = ([], false) := by
  have : allIn (axL b.eqs m a.eqs) = false := by
    unfold allIn axL
    rw [List.all_eq_false]
    exact ⟨_, List.mem_map_of_mem (List.getElem_mem hk), by simp; omega⟩
  unfold mapAxM; simp [this]
theorem mapAx_yes {a b : MThy} {m : MMap} (h1 : thyB a = true) (h2 : thyB b = true) (h3 : mapOkB a.over b.over m = true) (h4 : allIn (axL b.eqs m a.eqs) = true) : mapAxM a b m = (axL b.eqs m a.eqs, true) := by
  unfold mapAxM; simp [h1, h2, h3, h4]
theorem allIn_take {xs : List Int} {k : Nat} (hk : k < xs.length) : allIn (xs.take (k + 1)) = (allIn (xs.take k) && decide (0 ≤ xs[k])) := by
  unfold allIn; rw [all_take hk]
theorem allIn_snoc (xs : List Int) (x : Int) : allIn (xs ++ [x]) = (allIn xs && decide (0 ≤ x)) := by unfold allIn; rw [List.all_append]; simp
theorem thy_eq {t : MThy} (h : thyB t = true) {k : Nat} (hk : k < t.eqs.length) : eqOkB t.over t.eqs[k] = true := by
  unfold thyB at h
  simp only [Bool.and_eq_true, List.all_eq_true] at h
  exact h.2 _ (List.getElem_mem hk)
theorem thy_few {t : MThy} (h : thyB t = true) : t.eqs.length ≤ 6 := by
  unfold thyB at h
  simp only [Bool.and_eq_true, decide_eq_true_eq] at h
  exact h.1.2
end
end Go.Proofs.Ytbopcghbmbchkaa
