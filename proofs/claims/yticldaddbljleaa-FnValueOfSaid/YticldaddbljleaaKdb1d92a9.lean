/- The draws of letters and terms: l20Vars, l20Term, l20Anything. · The draws of terms: l20Anything, l20TermOf, l20Terms. · Boxes of two or three cells that are written. No walk. · ModelOk of package impl. -/
import Derived.Test.YticldaddbljleaaK3778cd2c
import Derived.Deep.RegionHeld3
import Derived.Deep.DeepCutAuto
namespace Go.Proofs.Yticldaddbljleaa
section
open Go.RowKit
set_option linter.unusedVariables false

theorem OSig.past {w w' : World} {g B : Nat} {v : Value} {s : MSig} (h : OSig w B v s) (hg : w.grownBy w' (some g)) (hB : g < B) : OSig w' B v s := by
  obtain ⟨u, e, h⟩ := h
  exact ⟨u, e, h.grown hg (fun k e => by injection e with e; omega)⟩
theorem ORows.nth {w : World} {B k : Nat} {v : Value} {rows : List (List Int)} (h : ORows w B v rows) (hk : k < rows.length) : ∃ u, OInts w B u rows[k] ∧ ∀ (w' : World) (g : Nat), g < B → w.grownBy w' (some g) → ∃ b o c, v = .slice (some ⟨b, o, none⟩) rows.length c ∧ w'.cell? ⟨b, o + k, none⟩ = some u := by
  obtain ⟨us, h1, h2, h3, h4⟩ := h
  have hku : k < us.length := by omega
  refine ⟨us[k], h3 k us[k] rows[k] (List.getElem?_eq_getElem hku) (List.getElem?_eq_getElem hk), fun w' g hg hgr => ?_⟩
  obtain ⟨A, c, e, -, -, h5⟩ := own_reads (own_past h1 hgr hg)
  obtain ⟨b, o, rfl, hc⟩ := h5 k us[k] (List.getElem?_eq_getElem hku)
  exact ⟨b, o, c, e, hc⟩
theorem OInts.past {w w' : World} {g B : Nat} {v : Value} {xs : List Int} (h : OInts w B v xs) (hg : w.grownBy w' (some g)) (hB : g < B) : OInts w' B v xs := own_past h hg hB
theorem gr_more {a b c : World} {g : Nat} (h : a.grownBy b (some g)) (k : b.grownBy c (some g)) : a.grownBy c (some g) := gr_trans h k (fun x e => by injection e with e; exact .inl e.symm)
theorem gr_box {w wr : World} {g : Nat} {o : Obj} (h : (w.alloc o).grownBy wr (some g)) : w.grownBy wr (some g) := gr_more (gr_alloc (gr_refl w g) o) h
theorem zeros5 (w : World) (cs : Array Value) (h : cs = #[.int .i64 0, .int .i64 0, .int .i64 0, .int .i64 0, .int .i64 0]) : OInts (w.alloc (.cells cs 3)) w.heap.size (.slice (some ⟨w.heap.size, 0, none⟩) 5 5) [0, 0, 0, 0, 0] := by
  subst h
  exact World.ownsRow_lit w _ 5 (Nat.le_refl _) (by unfold maxLen; omega) rfl

theorem made5 : madeCells #[Value.int .i64 0] 5 = #[.int .i64 0, .int .i64 0, .int .i64 0, .int .i64 0, .int .i64 0] := by kernel_rfl
def VarsPost (g p : Nat) (w : World) (e : Ending) (w' : World) : Prop :=
  ∃ (v : Value) (xs : List Int) (q : Nat), e = .returned v ∧ OInts w' w.heap.size v xs ∧ xs.length ≤ 5 ∧ RRd w' g q ∧ q ≤ p + 10 ∧ w.grownBy w' (some g)

theorem lit_new (w : World) (x : Int) : ∀ (j : Nat) (u : Value), [Value.int .i64 x][j]? = some u → (w.alloc (.cells #[.int .i64 x] 3)).cell? ((⟨w.heap.size, 0, none⟩ : Addr).add j) = some u := fun j u hj => by
  match j, hj with
  | 0, hj =>
    simp at hj
    subst hj
    rw [show (⟨w.heap.size, 0, none⟩ : Addr).add 0 = ⟨w.heap.size, 0, none⟩ by simp [Addr.add], World.cell?_alloc_at _ _ _ _ rfl]; rfl
theorem lit_one (x : Int) : ∀ u ∈ [Value.int .i64 x], u.oneCell' = true := fun u hu => by simp at hu; subst hu; rfl
theorem cell_gr {w w' : World} {g b o : Nat} {u : Value} (hg : w.grownBy w' (some g)) (hc : w.cell? ⟨b, o, none⟩ = some u) (hne : b ≠ g) : w'.cell? ⟨b, o, none⟩ = some u := hg.cell hc (fun e => hne (by injection e))
theorem app_own {w : World} {B m : Nat} {v : Value} {ps rs : List Int} (hm : rs.length = m) (h : w.ownsRow B 3 1 v (ps.length + m) (ps.map (Value.int .i64) ++ rs.map (Value.int .i64))) : OInts w B v (ps ++ rs) := by
  unfold OInts; rw [List.length_append, List.map_append, hm]; exact h
theorem own_some {w : World} {B c : Nat} {A : Option Addr} {xs : List Int} (h : OInts w B (.slice A xs.length c) xs) (h1 : 1 ≤ xs.length) : ∃ ad c', Value.slice A xs.length c = .slice (some ad) xs.length c' := by
  obtain ⟨b, o, c', e, -⟩ := h.reads.at_ (k := 0) (by omega)
  exact ⟨_, _, e⟩
theorem row_start1 {W w1 : World} {g q : Nat} (hgl : g < W.heap.size) (hr : RRd w1 g q) (hg : (W.alloc (.cells #[] 3)).grownBy w1 (some g)) : RowAt W W w1 g (.slice (some ⟨W.heap.size, 0, none⟩) 0 0) [] q :=
  ⟨own_past (World.ownsRow_lit W #[] 0 (Nat.le_refl _) (Nat.zero_le _) rfl) hg hgl, hr, gr_box hg⟩
theorem RowAt.later {wo wj w2 : World} {g q q' : Nat} {rv : Value} {row : List Int} (h : RowAt wo wo wj g rv row q) (hgl : g < wo.heap.size) (hp : wj.grownBy w2 (some g)) (hr : RRd w2 g q') : RowAt wo wo w2 g rv row q' :=
  ⟨own_past h.own hp hgl, hr, gr_more h.gr hp⟩
/-- the reader at an odd number of calls: some place -/
theorem box_after {W wr : World} {g b : Nat} {o : Obj} (hb : W.heap[b]? = some o) (hg : W.grownBy wr (some g)) (hne : b ≠ g) : wr.heap[b]? = some o := gr_at hg hne hb

set_option maxHeartbeats 800000 in
set_option maxRecDepth 100000 in
theorem drawVars_any (g p : Nat) (n : Int) (s : MSig) (sv : Value) (w : World) (h : RRd w g p) (hp : p ≤ 100000000) (hn : 0 ≤ n) (hn2 : n ≤ 1000000) (hs : RSig w sv s) :
    Calls Try.prog 126 #[.pointer (some ⟨g, 0, none⟩), sv, .int .i64 n] w (VarsPost g p w) := by
  obtain ⟨u0, rfl, hrr⟩ := hs
  obtain ⟨sorts, ops⟩ := s
  obtain ⟨A, c, rfl, -⟩ := hrr.form
  have hgl := h.lt
  obtain ⟨W, hW⟩ : ∃ W : World, W = w.alloc (.cells #[.int .i64 sorts, .slice A ops.length c] 25) := ⟨_, rfl⟩
  have hbW : Below w.heap.size w W := by rw [hW]; exact below_alloc _ _
  have HGW := Lib.hid (show w.grownBy W (some g) by rw [hW]; exact gr_alloc (gr_refl w g) _)
  have hboxW : W.heap[w.heap.size]? = some (.cells #[.int .i64 sorts, .slice A ops.length c] 25 (0, 0)) := by rw [hW]; exact heap_alloc_new w _
  have HBOX := Lib.hid hboxW
  have HRW := Lib.hid (h.keep hbW)
  have hzW : W.heap.size = w.heap.size + 1 := by rw [hW]; simp
  have HZW := Lib.hid hzW
  obtain ⟨i0, hi, hz0, hz1, hz2⟩ := info_parts Try.info_int
  have hmk : ∀ w : World, (Instr.makeSlice 26 (.int .i64 5) (.int .i64 5)).run Try.prog w = .ok (.slice (some ⟨w.heap.size, 0, none⟩) 5 5) (w.alloc (.cells (madeCells #[.int .i64 0] 5) 3)) := fun w => run_make_row' (P := Try.prog) 26 3 (.int .i64 0) 8 Try.underlying26 Try.tinfo_int rfl .i64 .i64 5 (by omega) (by omega) w
  have hgW : g < W.heap.size := by omega
  have HMK := Lib.hid hmk
  have HRA := Lib.hid (HRW.out.keep (below_alloc W (.cells #[] 3)))
  have hW' := hW.symm
  clear hboxW hbW h hrr hmk hzW
  clear hW
  go_enter Try.func126, Try.ntmps126
  go_wp2_with fail
  clear hW'
  refine (pick_any g p 4 _ HRA.out (by omega)).mono ?_
  rintro e w1 ⟨x, rfl, hx, hr, hg⟩
  have hx := hx.2 (by omega)
  obtain ⟨K, rfl⟩ := Int.eq_ofNat_of_zero_le hx.1
  have hK : K ≤ 3 := by omega
  have HST := Lib.hid (row_start1 hgW hr hg)
  clear hr hg hx
  go_wp2
  go_loopw [7, 8] (fun o k wr => ∃ (m : Nat) (xs : List Int) (q : Nat), k = .int .i64 m ∧ m ≤ 3 ∧ xs.length + m ≤ 3 ∧ q + m ≤ p + 4 ∧ RowAt W W wr g o xs q) (fun _ k _ => (intOf k).toNat)
  case atStart => exact ⟨K, [], p + 1, rfl, hK, by simp; omega, by omega, HST.out⟩
  case round =>
    obtain ⟨m, xs, q, rfl, hm, hxm, hqm, hrow⟩ := hrel
    obtain ⟨A9, c9, rfl, -⟩ := own_reads hrow.own
    have HROW := Lib.hid hrow
    have hbx := box_after HBOX.out hrow.gr (by omega)
    have f0 := block_cell hbx 0
    have f1 := block_cell hbx 1
    simp at f0 f1
    obtain ⟨wj, rfl⟩ : ∃ wj : World, wj = wr := ⟨_, rfl⟩
    clear hrow hbx
    by_cases hm0 : 0 < m
    · go_wp2_with fail
      all_goals
        refine (pick_any g q _ _ HROW.out.rd (by omega)).mono ?_
        rintro e w3 ⟨x, rfl, -, hr, hg⟩
        have HR3 := Lib.hid hr
        have HG3 := Lib.hid hg
        clear hr hg f0 f1
        have hown3 := own_past HROW.out.own HG3.out hgW
        have hz3 : W.heap.size ≤ w3.heap.size := Nat.le_trans HROW.out.gr.size HG3.out.size
        go_wp2_with (at_builtin; refine wpList_append_own _ rfl _ _ 26 rfl W.heap.size 3 i0 (.int .i64 0) 1 8 Try.underlying26 hi hz0 hz1 hz2 rfl (by decide) _ _ _ rfl (hown3.alloc _) ⟨w3.heap.size, 0, none⟩ 1 1 [.int .i64 x] rfl rfl (lit_new w3 x) (lit_one x) (by unfold maxLen; omega) (by omega) (by simp; omega) ?_)
        intro v' w4 hown4 hgrow4 _
        have HN := Lib.hid (info_append wj w4 W HROW.out hgW HG3.out HR3.out hown4 hgrow4)
        clear hown3 hown4 hgrow4
        go_wp2
        go_roundw
        case rel => exact ⟨m - 1, xs ++ [x], q + 1, by go_num, by omega, by simp; omega, by omega, HN.out⟩
        case measure => simp [intOf]; omega
    · have hm1 : ¬ (0 : Int) < (m : Int) := by omega
      clear f0 f1
      go_wp2_with fail
      refine (odd_any g q n _ HROW.out.rd (by omega) hn hn2).mono ?_
      rintro e w3 ⟨b, q3, rfl, hr, hq3, hg⟩
      have HR3 := Lib.hid (HROW.out.later hgW hg hr)
      clear hr hg
      cases b with
      | false =>
        go_wp2
        go_ret
        exact ⟨_, xs, q3, rfl, HR3.out.own.base (by have := HZW.out; omega), by omega, HR3.out.rd, by omega, gr_more HGW.out HR3.out.gr⟩
      | true =>
        go_wp2_with fail
        refine (pick_any g q3 2 _ HR3.out.rd (by omega)).mono ?_
        rintro e w5 ⟨x, rfl, -, hr, hg⟩
        have HR5 := Lib.hid (HR3.out.later hgW hg hr)
        clear hr hg
        by_cases hx0 : x = 0
        · subst hx0
          have hbx := box_after HBOX.out HR5.out.gr (by omega)
          have f0 := block_cell hbx 0
          simp at f0
          have hown5 := HR5.out.own
          clear hbx
          go_wp2_with (at_builtin; refine wpList_append_own _ rfl _ _ 26 rfl W.heap.size 3 i0 (.int .i64 0) 1 8 Try.underlying26 hi hz0 hz1 hz2 rfl (by decide) _ _ _ rfl (hown5.alloc _) ⟨w5.heap.size, 0, none⟩ 1 1 [.int .i64 sorts] rfl rfl (lit_new w5 sorts) (lit_one sorts) (by unfold maxLen; omega) (by omega) (by have := HR5.out.gr.size; simp; omega) ?_)
          intro v' w4 hown4 hgrow4 _
          have HN := Lib.hid (show RowAt W W w4 g v' (xs ++ [sorts]) (q3 + 1) from ⟨by unfold OInts; simpa using hown4, (HR5.out.rd.keep (below_alloc w5 _)).grown hgrow4 (fun k e => by have := (own_lt HR5.out.own k e).1; omega), gr_trans (gr_alloc HR5.out.gr _) hgrow4 (fun k e => .inr (own_lt HR5.out.own k e).1)⟩)
          clear hown5 hown4 hgrow4 f0
          go_wp2
          go_ret
          exact ⟨_, xs ++ [sorts], q3 + 1, rfl, HN.out.own.base (by have := HZW.out; omega), by simp; omega, HN.out.rd, by omega, gr_more HGW.out HN.out.gr⟩
        · have hmk := HMK.out
          go_wp2
          go_ret
          have hal := below_alloc w5 (.cells (madeCells #[.int .i64 0] 5) 3)
          refine ⟨_, [0, 0, 0, 0, 0], q3 + 1, rfl, (zeros5 w5 _ made5).base (by have := HR5.out.gr.size; have := HZW.out; omega), by simp, HR5.out.rd.keep hal, by omega, gr_below (gr_more HGW.out HR5.out.gr) hal⟩

/-! a term -/
def Lb : Nat → Nat
  | 0 => 1
  | d + 1 => 1 + 2 * Lb d
def Qb : Nat → Nat
  | 0 => 36
  | d + 1 => 36 + 24 * Qb d
def Cb : Nat → Nat
  | 0 => 3
  | d + 1 => 3 + 2 * Qb d
theorem Qb_eq (d : Nat) : Qb d = 12 * Cb d := by cases d <;> simp [Qb, Cb]; omega
def Lp : Nat → Nat
  | 0 => 0
  | d + 1 => Lb d
def Qp : Nat → Nat
  | 0 => 0
  | d + 1 => Qb d
theorem Lb_eq (d : Nat) : Lb d = 1 + 2 * Lp d := by cases d <;> rfl
theorem Cb_eq (d : Nat) : Cb d = 3 + 2 * Qp d := by cases d <;> rfl
theorem Lp_le {d : Nat} (h : d ≤ 4) : Lp d ≤ 15 := by
  match d, h with
  | 0, _ => decide
  | 1, _ => decide
  | 2, _ => decide
  | 3, _ => decide
  | 4, _ => decide
def DTermPost (g p d : Nat) (w : World) (e : Ending) (w' : World) : Prop :=
  ∃ (v : Value) (xs : List Int) (q : Nat), e = .returned v ∧ (∃ ad c, v = .slice (some ad) xs.length c) ∧ OInts w' w.heap.size v xs ∧ xs.length ≤ Lb d ∧ Small xs ∧ RRd w' g q ∧ q ≤ p + Qb d ∧ w.grownBy w' (some g)
def DTermAt (s : MSig) (vars : List Int) (d : Nat) : Prop := ∀ (g p : Nat) (sort : Int) (sv vv : Value) (w : World), RRd w g p → p + Qb d ≤ 1000000000 → OSig w (g + 1) sv s → OInts w (g + 1) vv vars →
  Calls Try.prog 135 #[.pointer (some ⟨g, 0, none⟩), sv, vv, .int .i64 sort, .int .i64 (d : Int)] w (DTermPost g p d w)

/-- a place in l20Term: W the world behind the box -/
structure TermSt (W wr : World) (g q : Nat) : Prop where
  rd : RRd wr g q
  gr : W.grownBy wr (some g)
theorem TermSt.later {W wr w2 : World} {g q q' : Nat} (h : TermSt W wr g q) (hr : RRd w2 g q') (hg : wr.grownBy w2 (some g)) : TermSt W w2 g q' := ⟨hr, gr_more h.gr hg⟩
theorem TermSt.below {W wr w2 : World} {g q : Nat} (h : TermSt W wr g q) (hb : Below wr.heap.size wr w2) : TermSt W w2 g q := ⟨h.rd.keep hb, gr_below h.gr hb⟩
theorem lit1 (w : World) (x : Int) {B : Nat} (hB : B ≤ w.heap.size) : OInts (w.alloc (.cells #[.int .i64 x] 3)) B (.slice (some ⟨w.heap.size, 0, none⟩) 1 1) [x] :=
  OInts.base (World.ownsRow_lit w #[.int .i64 x] 1 (Nat.le_refl _) (by unfold maxLen; omega) rfl) hB
theorem lit0 (w : World) {B : Nat} (hB : B ≤ w.heap.size) : OInts (w.alloc (.cells #[] 3)) B (.slice (some ⟨w.heap.size, 0, none⟩) 0 0) [] := (own_empty w).base hB
theorem small_one {x : Int} (h : x ≤ 9223372036854775807) : Small [x] := fun y hy => by simp at hy; subst hy; exact h

set_option maxHeartbeats 1600000 in
set_option maxRecDepth 100000 in
theorem dterm_step (s : MSig) (vars : List Int) (hv : validB s = true) (hvl : vars.length ≤ 1000) (d : Nat) (hd : d ≤ 4) (ih : ∀ d', d = d' + 1 → DTermAt s vars d') : DTermAt s vars d := by
  intro g p sort sv vv w h hp hs hvv
  obtain ⟨i0, hi, hz0, hz1, hz2⟩ := info_parts Try.info_int
  obtain ⟨u0, rfl, hoo⟩ := hs
  obtain ⟨sorts, ops⟩ := s
  simp only at hoo
  obtain ⟨A, c, rfl, -⟩ := hoo.reads.form
  obtain ⟨A2, c2, rfl, -⟩ := hvv.reads.form
  have hgl := h.lt
  have hvs := valid_sorts hv
  simp only at hvs
  obtain ⟨W, hW⟩ : ∃ W : World, W = w.alloc (.cells #[.int .i64 sorts, .slice A ops.length c] 25) := ⟨_, rfl⟩
  have hbW : Below w.heap.size w W := by rw [hW]; exact below_alloc _ _
  have HGW := Lib.hid (show w.grownBy W (some g) by rw [hW]; exact gr_alloc (gr_refl w g) _)
  have HBOX := Lib.hid (show W.heap[w.heap.size]? = some (.cells #[.int .i64 sorts, .slice A ops.length c] 25 (0, 0)) by rw [hW]; exact heap_alloc_new w _)
  have HRW := Lib.hid (h.keep hbW)
  have HZW := Lib.hid (show W.heap.size = w.heap.size + 1 by rw [hW]; simp)
  have HSW := Lib.hid (show OSig W (g + 1) (.agg #[.int .i64 sorts, .slice A ops.length c]) ⟨sorts, ops⟩ from (show OSig w (g + 1) (.agg #[.int .i64 sorts, .slice A ops.length c]) ⟨sorts, ops⟩ from ⟨_, rfl, hoo⟩).keep hbW)
  have HOW := Lib.hid (hoo.keep hbW)
  have HVW := Lib.hid (hvv.keep hbW)
  have hgW : g < W.heap.size := by have := HZW.out; omega
  have hW' := hW.symm
  obtain ⟨D, hD⟩ : ∃ D : Int, D = (d : Int) := ⟨_, rfl⟩
  rw [← hD]
  have HD := Lib.hid hD
  have HIH := Lib.hid ih
  have HV := Lib.hid hv
  have HQB := Lib.hid (Qb_eq d)
  rw [HQB.out] at hp
  have hl2 : vars.length ≤ 9223372036854775807 := by omega
  clear hbW h hoo hvv hD ih hv hW
  go_enter Try.func135, Try.ntmps135
  go_wp2_with fail
  clear hW'
  go_loopw [11, 12, 13, 14, 15, 16, 17] (fun t11 k12 k13 r14 o15 j16 p17 wr => ∃ (n q : Nat), n ≤ 12 ∧ t11 = .int .i64 n ∧ q ≤ p + n * Cb d ∧ TermSt W wr g q) (fun t _ _ _ _ _ _ _ => 12 - (intOf t).toNat)
  case atStart => exact ⟨0, p, Nat.zero_le _, rfl, by omega, ⟨HRW.out, gr_refl W g⟩⟩
  case round =>
    obtain ⟨n, q, hn, rfl, hq, hst⟩ := hrel
    have HST := Lib.hid hst
    clear hst
    by_cases hlt : n < 12
    · have hlt' : (n : Int) < 12 := by omega
      go_upto_region 4 with fail
      have HQN := Lib.hid (show q + Cb d ≤ p + (n + 1) * Cb d ∧ q + Cb d ≤ p + 12 * Cb d by
        have h1 : (n + 1) * Cb d = n * Cb d + Cb d := Nat.succ_mul _ _
        have h2 : (n + 1) * Cb d ≤ 12 * Cb d := Nat.mul_le_mul_right _ (by omega)
        omega)
      have HC3 := Lib.hid (show 3 ≤ Cb d by cases d <;> simp [Cb])
      have hqn : q + 3 ≤ 1000000000 := by have := HQN.out; have := HC3.out; omega
      go_cut [30] (fun s30 wx => ∃ (b : Bool) (q2 : Nat), s30 = .bool b ∧ (b = true → 0 < vars.length) ∧ q2 ≤ q + 1 ∧ TermSt W wx g q2)
      case first =>
        go_wp2_with fail
        refine (pick_any g q 2 _ HST.out.rd (by omega)).mono ?_
        rintro e w2 ⟨x, rfl, -, hr, hg⟩
        have H2 := Lib.hid (HST.out.later hr hg)
        clear hr hg
        by_cases hx0 : x = 0
        · subst hx0
          by_cases hv0 : 0 < (vars.length : Int)
          · go_wp2
            go_meet
            case rel => exact ⟨true, q + 1, (by simp; omega), (by simp; omega), by omega, H2.out⟩
          · go_wp2
            go_meet
            case rel => exact ⟨false, q + 1, (by simp; first | omega | exact List.eq_nil_of_length_eq_zero (by omega)), by simp, by omega, H2.out⟩
        · go_wp2
          go_meet
          case rel => exact ⟨false, q + 1, rfl, by simp, by omega, H2.out⟩
      case rest =>
        obtain ⟨b, q2, rfl, hb, hq2, hst2⟩ := hcut
        have HST2 := Lib.hid hst2
        have HBV := Lib.hid hb
        clear hst2 hb
        go_upto_if 30 with fail
        go_cut [] (fun wx => ∃ (q3 : Nat), q3 ≤ q2 + 1 ∧ TermSt W wx g q3)
        case first =>
          cases b with
          | false =>
            go_wp2
            go_meet
            case rel => exact ⟨q2, by omega, HST2.out⟩
          | true =>
            have hv0 := HBV.out rfl
            go_wp2_with fail
            refine (pick_any g q2 _ _ HST2.out.rd (by omega)).mono ?_
            rintro e w3 ⟨x, rfl, hx, hr, hg⟩
            have hx := hx.2 (by omega)
            obtain ⟨k, rfl⟩ := Int.eq_ofNat_of_zero_le hx.1
            have hk : k < vars.length := by omega
            have H3 := Lib.hid (HST2.out.later hr hg)
            obtain ⟨b6, o6, c6, e, hy⟩ := (HVW.out.past H3.out.gr (by omega)).reads.at_ hk
            cases e
            generalize vars[k] = y at hy
            have hk' : (k : Int) < (vars.length : Int) := by omega
            have hk0 : (0 : Int) ≤ (k : Int) := by omega
            clear hr hg
            by_cases hys : y = sort
            · subst hys
              go_wp2
              go_ret
              have hz := H3.out.gr.size
              refine ⟨_, [100 + (k : Int)], q2 + 1, rfl, ⟨_, _, rfl⟩, lit1 w3 _ (by have := HZW.out; omega), by cases d <;> simp [Lb], small_one (by omega), (H3.out.below (below_alloc w3 (.cells #[.int .i64 (100 + (k : Int))] 3))).rd, ?_, gr_more HGW.out (H3.out.below (below_alloc w3 (.cells #[.int .i64 (100 + (k : Int))] 3))).gr⟩
              have := HQN.out
              have := HC3.out
              rw [HQB.out]; omega
            · have hyb : (y == sort) = false := by simpa using hys
              go_wp2
              go_meet
              case rel => exact ⟨q2 + 1, by omega, H3.out⟩
        case rest =>
          obtain ⟨q3, hq3, hst3⟩ := hcut
          obtain ⟨wa, rfl⟩ : ∃ wa : World, wa = wc := ⟨_, rfl⟩
          have HST3 := Lib.hid hst3
          have hbx := box_after HBOX.out hst3.gr (by omega)
          have f0 := block_cell hbx 0
          have f1 := block_cell hbx 1
          simp at f0 f1
          clear hst3 hbx
          by_cases hops : 0 < (ops.length : Int)
          · go_wp2_with fail
            refine (pick_any g q3 _ _ HST3.out.rd (by omega)).mono ?_
            rintro e w4 ⟨x, rfl, hx, hr, hg⟩
            have hx := hx.2 (by omega)
            obtain ⟨k, rfl⟩ := Int.eq_ofNat_of_zero_le hx.1
            have hk : k < ops.length := by omega
            have H4 := Lib.hid (HST3.out.later hr hg)
            have hrow := valid_row HV.out hk
            simp only at hrow
            obtain ⟨u', hou, hcells⟩ := HOW.out.nth hk
            obtain ⟨b7, o7, c7, e, hcell⟩ := hcells w4 g (by omega) H4.out.gr
            cases e
            clear hcells
            generalize ops[k] = row at hou hrow
            have hri := (hou.past H4.out.gr (by omega)).reads
            have HOU := Lib.hid hou
            clear hou
            have hr1 := hrow.1
            have hr3 := hrow.2.1
            obtain ⟨m, hml⟩ : ∃ m, row.length = m + 1 := ⟨row.length - 1, by omega⟩
            obtain ⟨b8, o8, c8, rfl, hlast⟩ := hri.at_ (k := row.length - 1) (by omega)
            generalize row[row.length - 1]'(by omega) = lv at hlast
            rw [show row.length - 1 = m by omega] at hlast
            rw [hml] at hcell
            have HML := Lib.hid hml
            have HRI := Lib.hid hri
            have hbx := box_after HBOX.out H4.out.gr (by omega)
            have g0 := block_cell hbx 0
            have g1 := block_cell hbx 1
            simp at g0 g1
            have hk' : (k : Int) < (ops.length : Int) := by omega
            have hk0 : (0 : Int) ≤ (k : Int) := by omega
            have hm2 : m ≤ 2 := by omega
            clear hr hg f0 f1 hri hbx hrow hml
            by_cases hls : lv = sort
            · subst hls
              have hlb : (lv != lv) = false := by simp
              by_cases hdm : D = 0 ∧ 0 < m
              · obtain ⟨rfl, hm0⟩ := hdm
                have hmm : (1 : Int) < (m : Int) + 1 := by omega
                go_wp2
                go_roundw
                case rel => exact ⟨n + 1, q3 + 1, by omega, by go_num, by have := HQN.out; have := HC3.out; omega, H4.out⟩
                case measure => simp [intOf]; omega
              · have hcond : D = 0 → ¬ (1 : Int) < (m : Int) + 1 := fun h => by have : ¬ 0 < m := fun h' => hdm ⟨h, h'⟩; omega
                have HLIT := Lib.hid (lit1 w4 (k : Int) (B := W.heap.size) H4.out.gr.size)
                have H5 := Lib.hid (H4.out.below (below_alloc w4 (.cells #[.int .i64 (k : Int)] 3)))
                have HDM := Lib.hid (show D ≠ 0 ∨ m = 0 by by_cases h : D = 0; exact .inr (by have := hcond h; omega); exact .inl h)
                have main : (D == 0) = true ∧ m = 0 ∨ (D == 0) = false := by
                  by_cases h : D = 0
                  · left; subst h; exact ⟨rfl, by have := hcond rfl; omega⟩
                  · right; simpa using h
                have HMAIN := Lib.hid main
                clear hdm hcond main
                go_upto_region 11 with fail
                go_cut [74] (fun s74 wx => s74 = .bool false ∧ wx = w4)
                case first =>
                  rcases HMAIN.out with ⟨hd0, hm0⟩ | hd0
                  · subst hm0
                    have hz1' := hlast
                    rw [Nat.add_zero] at hz1'
                    go_wp2
                    go_meet
                    case rel => exact ⟨by simp, rfl⟩
                  · go_wp2
                    go_meet
                    case rel => exact ⟨by simp, rfl⟩
                case rest =>
                  obtain ⟨rfl, rfl⟩ := hcut
                  clear g0 g1 hcell hlast HMAIN
                  go_wp2
                  go_loopw [15, 16, 17] (fun o15 j16 p17 wr => ∃ (j : Nat) (xs : List Int) (q5 : Nat), j ≤ m ∧ j16 = .int .i64 j ∧ OInts wr W.heap.size o15 xs ∧ 1 ≤ xs.length ∧ xs.length ≤ 1 + j * Lp d ∧ Small xs ∧ q5 ≤ q3 + 1 + j * Qp d ∧ TermSt W wr g q5) (fun _ j _ _ => m - (intOf j).toNat)
                  case atStart => exact ⟨0, [(k : Int)], q3 + 1, Nat.zero_le _, rfl, HLIT.out, by simp, by simp, small_one (by omega), by omega, H5.out⟩
                  case round =>
                    obtain ⟨j, xs, q5, hj, rfl, ho, hx1, hxl, hsm, hq5, hst5⟩ := hrel
                    obtain ⟨A9, c9, rfl, -⟩ := own_reads ho
                    have HO := Lib.hid ho
                    have HST5 := Lib.hid hst5
                    have HSM := Lib.hid hsm
                    have HLP := Lib.hid (Lp_le hd)
                    have hjL : j * Lp d ≤ 2 * Lp d := Nat.mul_le_mul_right _ (by omega)
                    have hjQ : j * Qp d ≤ 2 * Qp d := Nat.mul_le_mul_right _ (by omega)
                    have HNUM := Lib.hid (And.intro hjL (And.intro hjQ (And.intro hxl hq5)))
                    have hx30 : xs.length ≤ 31 := by have := HLP.out; omega
                    clear ho hst5 hsm hjL hjQ hxl hq5
                    by_cases hjm : j < m
                    · have hjm' : (j : Int) + 1 < (m : Int) + 1 := by omega
                      have hj0 : (0 : Int) ≤ (j : Int) := by omega
                      obtain ⟨d', hdd⟩ : ∃ d', d = d' + 1 := by
                        rcases HDM.out with h | h
                        · exact ⟨d - 1, by have := HD.out; omega⟩
                        · omega
                      have hwD : IntKind.i64.wrap (D - 1) = (d' : Int) := by rw [IntKind.wrap_i64, HD.out, hdd]; omega
                      have HLQ := Lib.hid (show Lp d = Lb d' ∧ Qp d = Qb d' by rw [hdd]; exact ⟨rfl, rfl⟩)
                      have HCB := Lib.hid (Cb_eq d)
                      obtain ⟨b9, o9, c10, e, hx⟩ := (HOU.out.past HST5.out.gr (by omega)).reads.at_ (k := j) (by have := HML.out; omega)
                      cases e
                      generalize row[j]'(by have := HML.out; omega) = y at hx
                      have hbx := box_after HBOX.out HST5.out.gr (by omega)
                      have g0 := block_cell hbx 0
                      have g1 := block_cell hbx 1
                      simp at g0 g1
                      have hz5 : W.heap.size ≤ wr.heap.size := HST5.out.gr.size
                      have HBND := Lib.hid (show q5 + Qb d' ≤ 1000000000 by
                        have h1 := HNUM.out.2.2.2
                        have h2 := HLQ.out.2
                        have h3 := HCB.out
                        have h4 := HQN.out.2
                        have h5 : (j + 1) * Qp d ≤ 2 * Qp d := Nat.mul_le_mul_right _ (by omega)
                        have h6 : (j + 1) * Qp d = j * Qp d + Qp d := Nat.succ_mul _ _
                        omega)
                      clear hbx
                      go_wp2_with fail
                      have ea := World.new_ne wr _ g0
                      have eb := World.new_ne wr _ hx
                      have hjm2 : (j : Int) < (m : Int) + 1 := by omega
                      have HS5 := Lib.hid (HSW.out.past HST5.out.gr (by omega))
                      have HV5 := Lib.hid (HVW.out.past HST5.out.gr (by omega))
                      go_region_held3 (fun w' => w'.cell? ⟨w.heap.size, 0, none⟩ = some (.int .i64 sorts) ∧ w'.cell? ⟨w.heap.size, 1, none⟩ = some (.slice (some ⟨b7, o7, none⟩) ops.length c) ∧ w'.cell? ⟨b8, o8 + j, none⟩ = some (.int .i64 y)) (first | go_keep | exact ⟨j0, j1, j2⟩)
                        (first
                          | (go_at_call 135; refine (HIH.out d' hdd g q5 y _ _ wr.drew HST5.out.rd HBND.out HS5.out HV5.out).mono ?_; rintro e w6 ⟨pv, ys, q6, rfl, -, hoy, hly, hsy, hr6, hq6, hg6⟩; have HG6 := Lib.hid (gr_drew hg6); have HOY := Lib.hid hoy; obtain ⟨Ay, cy, rfl, -⟩ := own_reads hoy; have HSY := Lib.hid hsy; have HST6 := Lib.hid (HST5.out.later hr6 (gr_drew hg6)); have HLY := Lib.hid hly; have j0 := block_cell (box_after HBOX.out HST6.out.gr (by omega)) 0; have j1 := block_cell (box_after HBOX.out HST6.out.gr (by omega)) 1; have j2 : w6.cell? ⟨b8, o8 + j, none⟩ = some (.int .i64 y) := cell_gr (gr_drew hg6) hx (by have := own_lt HOU.out b8 rfl; omega); clear hoy hsy hr6 hg6 hly))
                      clear j0 j1 j2 g0 g1 ea eb hx
                      have HQ6 := Lib.hid (show q6 ≤ q3 + 1 + (j + 1) * Qp d by
                        have h1 := HNUM.out.2.2.2
                        have h2 := HLQ.out.2
                        have h6 : (j + 1) * Qp d = j * Qp d + Qp d := Nat.succ_mul _ _
                        omega)
                      clear hq6
                      by_cases hy0 : ys.length = 0
                      · go_wp2
                        go_roundw
                        case rel =>
                          refine ⟨n + 1, q6, by omega, by go_num, ?_, HST6.out.below (below_alloc w6 (.cells #[] 3))⟩
                          have h1 := HQ6.out
                          have h3 := HCB.out
                          have h4 := HQN.out.1
                          have h5 : (j + 1) * Qp d ≤ 2 * Qp d := Nat.mul_le_mul_right _ (by omega)
                          omega
                        case measure => simp [intOf]; omega
                      · have hyb : ((ys.length : Int) == 0) = false := by rw [beq_eq_false_iff_ne]; omega
                        obtain ⟨by_, oy, c11, e, -⟩ := HOY.out.reads.at_ (k := 0) (by omega)
                        cases e
                        have HNEWS := Lib.hid (news_of HOY.out.reads)
                        have hown6 := own_past HO.out HG6.out hgW
                        have hz6 : W.heap.size ≤ w6.heap.size := Nat.le_trans hz5 HG6.out.size
                        have hyl : ys.length ≤ 15 := by have := HLY.out; have := HLP.out; have := HLQ.out.1; omega
                        go_wp2_with (at_builtin; refine wpList_append_own _ rfl _ _ 26 rfl W.heap.size 3 i0 (.int .i64 0) 1 8 Try.underlying26 hi hz0 hz1 hz2 rfl (by decide) _ xs.length (xs.map (Value.int .i64)) rfl hown6 ⟨by_, oy, none⟩ ys.length cy (ys.map (Value.int .i64)) rfl (by simp) HNEWS.out (ints_one _) (by rw [maxLen_eq]; omega) (by omega) hz6 ?_)
                        intro v' w7 hown7 hgrow7 _
                        have HO7 := Lib.hid (app_own rfl hown7)
                        have hb6 : ∀ k, (Value.slice A9 xs.length c9).ownBlock = some k → W.heap.size ≤ k := fun k e => (own_lt HO.out k e).1
                        have HST7 := Lib.hid (show TermSt W w7 g q6 from ⟨HST6.out.rd.grown hgrow7 (fun k e => by have := hb6 k e; omega), gr_trans HST6.out.gr hgrow7 (fun k e => .inr (hb6 k e))⟩)
                        have HLEN := Lib.hid (show (xs ++ ys).length ≤ 1 + (j + 1) * Lp d by
                          have h1 := HNUM.out.2.2.1
                          have h2 := HLQ.out.1
                          have h3 := HLY.out
                          have h6 : (j + 1) * Lp d = j * Lp d + Lp d := Nat.succ_mul _ _
                          rw [List.length_append]; omega)
                        have HSM7 := Lib.hid (show Small (xs ++ ys) from fun x hx => by rcases List.mem_append.1 hx with h | h; exact HSM.out x h; exact HSY.out x h)
                        clear hown7 hgrow7 hown6 hb6
                        go_wp2
                        go_roundw
                        case rel => exact ⟨j + 1, xs ++ ys, q6, by omega, by go_num, HO7.out, by rw [List.length_append]; omega, HLEN.out, HSM7.out, HQ6.out, HST7.out⟩
                        case measure => simp [intOf]; omega
                    · have hjm' : ¬ (j : Int) + 1 < (m : Int) + 1 := by omega
                      have hx0 : (0 : Int) < (xs.length : Int) := by omega
                      go_wp2
                      go_ret
                      refine ⟨_, xs, q5, rfl, own_some HO.out (by omega), HO.out.base (by have := HZW.out; omega), ?_, HSM.out, HST5.out.rd, ?_, gr_more HGW.out HST5.out.gr⟩
                      · have := HNUM.out.1
                        have := HNUM.out.2.2.1
                        rw [Lb_eq]; omega
                      · have h1 := HNUM.out.2.1
                        have h2 := HNUM.out.2.2.2
                        have h3 := Cb_eq d
                        have h4 := HQN.out.2
                        rw [HQB.out]; omega
            · have hlb : (lv != sort) = true := by simpa using hls
              go_wp2
              go_roundw
              case rel => exact ⟨n + 1, q3 + 1, by omega, by go_num, by have := HQN.out; have := HC3.out; omega, H4.out⟩
              case measure => simp [intOf]; omega
          · have ho0 : ops.length = 0 := by omega
            go_wp2
            go_roundw
            case rel => exact ⟨n + 1, q3, by omega, by go_num, by have := HQN.out; have := HC3.out; omega, HST3.out⟩
            case measure => simp [intOf]; omega
    · have hlt' : ¬ (n : Int) < 12 := by omega
      have hqf : q ≤ p + 12 * Cb d := by have : n * Cb d ≤ 12 * Cb d := Nat.mul_le_mul_right _ hn; omega
      have HQF := Lib.hid hqf
      clear hqf hq
      go_wp2
      go_loop [18] (fun i => ∃ k : Nat, k ≤ vars.length ∧ i = .int .i64 k) (fun i => vars.length - (intOf i).toNat)
      case atStart => exact ⟨0, Nat.zero_le _, rfl⟩
      case round =>
        obtain ⟨k, hk, rfl⟩ := hrel
        by_cases hkl : k < vars.length
        · obtain ⟨b6, o6, c6, e, hy⟩ := (HVW.out.past HST.out.gr (by omega)).reads.at_ hkl
          cases e
          generalize vars[k] = y at hy
          have hk' : (k : Int) < (vars.length : Int) := by omega
          have hk0 : (0 : Int) ≤ (k : Int) := by omega
          by_cases hys : y = sort
          · subst hys
            go_wp2
            go_ret
            have hz := HST.out.gr.size
            refine ⟨_, [100 + (k : Int)], q, rfl, ⟨_, _, rfl⟩, lit1 wr _ (by have := HZW.out; omega), by cases d <;> simp [Lb], small_one (by omega), (HST.out.below (below_alloc wr (.cells #[.int .i64 (100 + (k : Int))] 3))).rd, ?_, gr_more HGW.out (HST.out.below (below_alloc wr (.cells #[.int .i64 (100 + (k : Int))] 3))).gr⟩
            have := HQF.out
            rw [HQB.out]; omega
          · have hyb : (y == sort) = false := by simpa using hys
            go_wp2
            go_round
            case rel => exact ⟨k + 1, by omega, by go_num⟩
            case measure => simp [intOf]; omega
        · have hk' : ¬ (k : Int) < (vars.length : Int) := by omega
          go_wp2
          go_ret
          have hz := HST.out.gr.size
          refine ⟨_, [], q, rfl, ⟨_, _, rfl⟩, lit0 wr (by have := HZW.out; omega), by simp, fun x hx => by simp at hx, (HST.out.below (below_alloc wr (.cells #[] 3))).rd, ?_, gr_more HGW.out (HST.out.below (below_alloc wr (.cells #[] 3))).gr⟩
          have := HQF.out
          rw [HQB.out]; omega

theorem dterm_any (s : MSig) (vars : List Int) (hv : validB s = true) (hvl : vars.length ≤ 1000) : ∀ d, d ≤ 4 → DTermAt s vars d := by
  intro d
  induction d with
  | zero => intro _; exact dterm_step s vars hv hvl 0 (by omega) (fun d' h => by omega)
  | succ d ih => intro hd; exact dterm_step s vars hv hvl (d + 1) hd (fun d' h => by have e : d' = d := (by omega); subst e; exact ih (by omega))
end

section
open Go.RowKit
set_option linter.unusedVariables false

def AnyPost (g p d : Nat) (w : World) (e : Ending) (w' : World) : Prop :=
  ∃ (v : Value) (xs : List Int) (q : Nat), e = .returned v ∧ (∃ ad c, v = .slice (some ad) xs.length c) ∧ OInts w' w.heap.size v xs ∧ xs.length ≤ Lb d ∧ Small xs ∧ RRd w' g q ∧ q ≤ p + 3 * (1 + Qb d) ∧ w.grownBy w' (some g)

set_option maxHeartbeats 800000 in
set_option maxRecDepth 100000 in
theorem drawAny_any (s : MSig) (vars : List Int) (hv : validB s = true) (hvl : vars.length ≤ 1000) (d : Nat) (hd : d ≤ 4) (g p : Nat) (sv vv : Value) (w : World) (h : RRd w g p) (hp : p + 3 * (1 + Qb d) ≤ 1000000000) (hs : OSig w (g + 1) sv s) (hvv : OInts w (g + 1) vv vars) :
    Calls Try.prog 124 #[.pointer (some ⟨g, 0, none⟩), sv, vv, .int .i64 (d : Int)] w (AnyPost g p d w) := by
  obtain ⟨u0, rfl, hoo⟩ := hs
  obtain ⟨sorts, ops⟩ := s
  simp only at hoo
  obtain ⟨A, c, rfl, -⟩ := hoo.reads.form
  obtain ⟨A2, c2, rfl, -⟩ := hvv.reads.form
  have hgl := h.lt
  have hvs := valid_sorts hv
  simp only at hvs
  obtain ⟨W, hW⟩ : ∃ W : World, W = w.alloc (.cells #[.int .i64 sorts, .slice A ops.length c] 25) := ⟨_, rfl⟩
  have hbW : Below w.heap.size w W := by rw [hW]; exact below_alloc _ _
  have HGW := Lib.hid (show w.grownBy W (some g) by rw [hW]; exact gr_alloc (gr_refl w g) _)
  have HBOX := Lib.hid (show W.heap[w.heap.size]? = some (.cells #[.int .i64 sorts, .slice A ops.length c] 25 (0, 0)) by rw [hW]; exact heap_alloc_new w _)
  have HRW := Lib.hid (h.keep hbW)
  have HZW := Lib.hid (show W.heap.size = w.heap.size + 1 by rw [hW]; simp)
  have HSW := Lib.hid (show OSig W (g + 1) (.agg #[.int .i64 sorts, .slice A ops.length c]) ⟨sorts, ops⟩ from (show OSig w (g + 1) (.agg #[.int .i64 sorts, .slice A ops.length c]) ⟨sorts, ops⟩ from ⟨_, rfl, hoo⟩).keep hbW)
  have HVW := Lib.hid (hvv.keep hbW)
  have hW' := hW.symm
  have HV := Lib.hid hv
  have hs0 : (1 : Int) ≤ sorts := hvs.1
  have hs3 : sorts ≤ 3 := hvs.2.1
  have hsb : (sorts == 0) = false := by rw [beq_eq_false_iff_ne]; omega
  have hsn : sorts ≠ 0 := by omega
  clear hbW h hoo hvv hv hW hvs
  go_enter Try.func124, Try.ntmps124
  go_wp2_with fail
  clear hW'
  go_loopw [9, 10] (fun k9 t10 wr => ∃ (k q : Nat), (k : Int) ≤ sorts ∧ k9 = .int .i64 k ∧ q ≤ p + k * (1 + Qb d) ∧ TermSt W wr g q) (fun k _ _ => 3 - (intOf k).toNat)
  case atStart => exact ⟨0, p, by omega, rfl, by omega, ⟨HRW.out, gr_refl W g⟩⟩
  case round =>
    obtain ⟨k, q, hk, rfl, hq, hst⟩ := hrel
    have HST := Lib.hid hst
    have hbx := box_after HBOX.out hst.gr (by omega)
    have g0 := block_cell hbx 0
    have g1 := block_cell hbx 1
    simp at g0 g1
    have hk3 : k ≤ 3 := by omega
    have HQ := Lib.hid hq
    clear hst hbx hq
    by_cases hlt : (k : Int) < sorts
    · have HQN := Lib.hid (show q + (1 + Qb d) ≤ p + (k + 1) * (1 + Qb d) ∧ q + (1 + Qb d) ≤ p + 3 * (1 + Qb d) by
        have h0 := HQ.out
        have h1 : (k + 1) * (1 + Qb d) = k * (1 + Qb d) + (1 + Qb d) := Nat.succ_mul _ _
        have h2 : (k + 1) * (1 + Qb d) ≤ 3 * (1 + Qb d) := Nat.mul_le_mul_right _ (by omega)
        omega)
      have hqb : q ≤ 999999999 := by have := HQN.out.2; omega
      have HS5 := Lib.hid (HSW.out.past HST.out.gr (by omega))
      have HV5 := Lib.hid (HVW.out.past HST.out.gr (by omega))
      go_wp2_with fail
      have ea := World.new_ne wr _ g0
      go_region_held3 (fun w' => w'.cell? ⟨w.heap.size, 0, none⟩ = some (.int .i64 sorts) ∧ w'.cell? ⟨w.heap.size, 1, none⟩ = some (.slice A ops.length c)) (first | go_keep | exact ⟨j0, j1⟩ | exact ⟨i0, i1⟩)
        (first
          | (go_at_call 123; refine (pick_any g q 3 wr.drew HST.out.rd (by omega)).mono ?_; rintro e w3 ⟨x, rfl, hx, hr, hg⟩; have HST3 := Lib.hid (HST.out.later hr (gr_drew hg)); have HG3 := Lib.hid (gr_drew hg); have j0 := block_cell (box_after HBOX.out HST3.out.gr (by omega)) 0; have j1 := block_cell (box_after HBOX.out HST3.out.gr (by omega)) 1; clear hr hg)
          | (go_at_call 135; refine (dterm_any ⟨sorts, ops⟩ vars HV.out hvl d hd g (q + 1) _ _ _ w3 HST3.out.rd (by have := HQN.out.2; omega) (HS5.out.past HG3.out (by omega)) (HV5.out.past HG3.out (by omega))).mono ?_; rintro e w6 ⟨pv, ys, q6, rfl, -, hoy, hly, hsy, hr6, hq6, hg6⟩; have HG6 := Lib.hid hg6; have HOY := Lib.hid hoy; obtain ⟨Ay, cy, rfl, -⟩ := own_reads hoy; have HSY := Lib.hid hsy; have HST6 := Lib.hid (HST3.out.later hr6 hg6); have HLY := Lib.hid (And.intro hly hq6); have i0 := block_cell (box_after HBOX.out HST6.out.gr (by omega)) 0; have i1 := block_cell (box_after HBOX.out HST6.out.gr (by omega)) 1; clear hoy hsy hr6 hg6 hly hq6))
      clear j0 j1 i0 i1 g0 g1 ea
      by_cases hy0 : 0 < (ys.length : Int)
      · go_wp2
        go_ret
        refine ⟨_, ys, q6, rfl, own_some HOY.out (by omega), HOY.out.base (by have := HST3.out.gr.size; have := HZW.out; omega), HLY.out.1, HSY.out, HST6.out.rd, ?_, gr_more HGW.out HST6.out.gr⟩
        have := HLY.out.2
        have := HQN.out.2
        omega
      · go_wp2
        go_roundw
        case rel =>
          refine ⟨k + 1, q6, by omega, by go_num, ?_, HST6.out⟩
          have := HLY.out.2
          have := HQN.out.1
          omega
        case measure => simp [intOf]; omega
    · have hk' : ¬ (k : Int) < sorts := hlt
      go_wp2
      go_ret
      refine ⟨_, [], q, rfl, ⟨_, _, rfl⟩, lit0 wr (by have := HST.out.gr.size; have := HZW.out; omega), by simp, fun x hx => by simp at hx, (HST.out.below (below_alloc wr (.cells #[] 3))).rd, ?_, gr_more HGW.out (HST.out.below (below_alloc wr (.cells #[] 3))).gr⟩
      have h0 := HQ.out
      have h2 : k * (1 + Qb d) ≤ 3 * (1 + Qb d) := Nat.mul_le_mul_right _ (by omega)
      omega

def TermOfPost (g p : Nat) (w : World) (e : Ending) (w' : World) : Prop :=
  ∃ (sv : Value) (s : MSig) (vv : Value) (vars : List Int) (tv : Value) (t : List Int) (q : Nat), e = .returned (.tuple #[sv, vv, tv]) ∧ OSig w' w.heap.size sv s ∧ OInts w' w.heap.size vv vars ∧ OInts w' w.heap.size tv t ∧ (∃ ad c, tv = .slice (some ad) t.length c) ∧ s.ops.length ≤ 5 ∧ vars.length ≤ 5 ∧ t.length ≤ 40 ∧ Small t ∧ RRd w' g q ∧ q ≤ p + 1600000 ∧ w.grownBy w' (some g)

/-- behind l20Vars: w6 the world there; the term under way lies behind it -/
structure OfSt (w w6 wx : World) (g b5 : Nat) (sorts : Int) (u : Value) (rows : List (List Int)) (tv : Value) (t : List Int) (q : Nat) : Prop where
  loc : LocAt w wx g b5 sorts u rows q
  gr : w6.grownBy wx (some g)
  own : OInts wx w6.heap.size tv t
  some_ : ∃ ad c, tv = .slice (some ad) t.length c
  small : Small t
  short : t.length ≤ 20
theorem OfSt.later {w w6 wx w' : World} {g b5 q q' : Nat} {sorts : Int} {u tv : Value} {rows : List (List Int)} {t : List Int} (h : OfSt w w6 wx g b5 sorts u rows tv t q) (hg : wx.grownBy w' (some g)) (hr : RRd w' g q') (h6 : g < w6.heap.size) : OfSt w w6 w' g b5 sorts u rows tv t q' :=
  ⟨h.loc.later hg hr, gr_more h.gr hg, h.own.past hg h6, h.some_, h.small, h.short⟩
theorem OfSt.below {w w6 wx w' : World} {g b5 q : Nat} {sorts : Int} {u tv : Value} {rows : List (List Int)} {t : List Int} (h : OfSt w w6 wx g b5 sorts u rows tv t q) (hb : Below wx.heap.size wx w') (h6 : g < w6.heap.size) : OfSt w w6 w' g b5 sorts u rows tv t q :=
  h.later (gr_below (gr_refl wx g) hb) (h.loc.rd.keep hb) h6
/-- the results, when the local signature is written into its cells -/
theorem of_done {w w6 wx : World} {g b5 q : Nat} {sorts : Int} {u vv tv : Value} {rows : List (List Int)} {t vars : List Int} (h : OfSt w w6 wx g b5 sorts u rows tv t q) (hv : OInts w6 (w.heap.size + 1) vv vars) (hw6 : w.heap.size + 1 ≤ w6.heap.size) :
    let w3 := (wx.setCell ⟨w.heap.size, 0, none⟩ (.int .i64 sorts)).setCell ⟨w.heap.size, 1, none⟩ u
    w3.heap[w.heap.size]? = some (.cells #[.int .i64 sorts, u] 25 (0, 0)) ∧ OSig w3 w.heap.size (.agg #[.int .i64 sorts, u]) ⟨sorts, rows⟩ ∧ OInts w3 w.heap.size vv vars ∧ OInts w3 w.heap.size tv t ∧ RRd w3 g q ∧ w.grownBy w3 (some g) := by
  intro w3
  have hgl := h.loc.gl
  obtain ⟨d1, d2, d3, d4⟩ := loc_done h.loc
  have low : ∀ {v : Value} {xs : List Int}, OInts wx (w.heap.size + 1) v xs → OInts w3 w.heap.size v xs := fun {v xs} ho =>
    OInts.base (ownsRow_setCell_below (ownsRow_setCell_below ho (by show w.heap.size < w.heap.size + 1; omega) _) (by show w.heap.size < w.heap.size + 1; omega) _) (by omega)
  exact ⟨d1, ⟨_, rfl, d2.base (by omega)⟩, low (hv.past h.gr (by omega)), low (h.own.base hw6), d3, d4⟩
theorem OfSt.append {w w6 wb w8 : World} {g b5 q q6 n c m : Nat} {sorts : Int} {u v8 : Value} {A : Option Addr} {rows : List (List Int)} {t rs : List Int} (h : OfSt w w6 wb g b5 sorts u rows (.slice A n c) t q) (h6 : LocAt w w6 g b5 sorts u rows q6) (hg6 : g < w6.heap.size) {o : Obj}
    (hown : w8.ownsRow w6.heap.size 3 1 v8 (t.length + m) (t.map (Value.int .i64) ++ rs.map (Value.int .i64))) (hm : rs.length = m) (h1 : 1 ≤ m) (hg : (wb.alloc o).drew.grownBy w8 (Value.slice A n c).ownBlock) (hs : Small rs) (hl : t.length + m ≤ 20) : OfSt w w6 w8 g b5 sorts u rows v8 (t ++ rs) q := by
  have hb : ∀ k, (Value.slice A n c).ownBlock = some k → w6.heap.size ≤ k := fun k e => (own_lt h.own k e).1
  have hg68 : w6.grownBy w8 (some g) := gr_trans (gr_alloc h.gr o) (gr_drew hg) (fun k e => .inr (hb k e))
  have hr : RRd w8 g q := (h.loc.rd.keep (below_alloc wb o)).grown (gr_drew hg) (fun k e => by have := hb k e; omega)
  have ho : OInts w8 w6.heap.size v8 (t ++ rs) := app_own hm hown
  have hlen : (t ++ rs).length = t.length + m := by rw [List.length_append, hm]
  obtain ⟨A', c', e, -⟩ := own_reads ho
  refine ⟨h6.later hg68 hr, hg68, ho, ?_, fun x hx => ?_, by omega⟩
  · rw [e]
    exact own_some (e ▸ ho) (by omega)
  · rcases List.mem_append.1 hx with hx | hx
    · exact h.small x hx
    · exact hs x hx
theorem OfSt.onto {w w6 wb w8 : World} {g b5 q : Nat} {sorts x : Int} {u v8 tv : Value} {rows : List (List Int)} {t : List Int} (h : OfSt w w6 wb g b5 sorts u rows tv t q) (hg6 : g < w6.heap.size)
    (hown : w8.ownsRow w6.heap.size 3 1 v8 (1 + t.length) ([.int .i64 x] ++ t.map (Value.int .i64))) (hg : (wb.alloc (.cells #[.int .i64 x] 3)).drew.grownBy w8 (Value.slice (some ⟨wb.heap.size, 0, none⟩) 1 1).ownBlock) (hs : x ≤ 9223372036854775807) (hl : t.length ≤ 19) : OfSt w w6 w8 g b5 sorts u rows v8 ([x] ++ t) q := by
  have hz := h.gr.size
  have hgb : wb.grownBy w8 (some g) := gr_trans (gr_alloc (gr_refl wb g) _) (gr_drew hg) (fun k e => by injection e with e; exact .inr (Nat.le_of_eq e))
  have hr : RRd w8 g q := (h.loc.rd.keep (below_alloc wb _)).grown (gr_drew hg) (fun k e => by injection e with e; have e2 : wb.heap.size = k := e; omega)
  have ho : OInts w8 w6.heap.size v8 ([x] ++ t) := app_own (ps := [x]) rfl hown
  obtain ⟨A', c', e, -⟩ := own_reads ho
  refine ⟨h.loc.later hgb hr, gr_more h.gr hgb, ho, ?_, fun y hy => ?_, by simp; omega⟩
  · rw [e]
    exact own_some (e ▸ ho) (by simp)
  · rcases List.mem_append.1 hy with hy | hy
    · simp at hy; subst hy; exact hs
    · exact h.small y hy
theorem qb3 : Qb 3 = 519300 := by decide
theorem lb3 : Lb 3 = 15 := by decide

set_option maxHeartbeats 1600000 in
set_option maxRecDepth 100000 in
theorem termOf_draw (g p : Nat) (n : Int) (w : World) (h : RRd w g p) (hp : p ≤ 1000000) (hn : 0 ≤ n) (hn2 : n ≤ 1000) :
    Calls Try.prog 121 #[.pointer (some ⟨g, 0, none⟩), .int .i64 n] w (TermOfPost g p w) := by
  obtain ⟨i0, hi, hz0, hz1, hz2⟩ := info_parts Try.info_int
  have H := Lib.hid h
  have hgl := h.lt
  clear h
  have HR0 := Lib.hid (H.out.keep (w' := (w.alloc (.cells #[.int .i64 0, .slice none 0 0] 25))) (below_alloc _ _))
  go_enter Try.func121, Try.ntmps121
  go_wp2_with fail
  refine (sig_any g p _ _ HR0.out (by omega) (by omega) (by omega)).mono ?_
  rintro e w4 ⟨v, ⟨sorts, rows⟩, q4, rfl, ⟨u, rfl, ho⟩, hs2, hr4, hq4, hg4⟩
  have hu := ho
  obtain ⟨us0, hu0, -⟩ := hu
  obtain ⟨Au, cu, rfl, -⟩ := own_reads hu0
  simp only at hs2 hu0 ho
  clear hu0
  have hw4 : w.heap.size + 1 ≤ w4.heap.size := by have := hg4.size; simp at this; omega
  have HL1 := Lib.hid (loc_start (w := w) (w4 := w4) (g := g) (q := q4) (s := ⟨sorts, rows⟩) rfl ho hr4 hgl hg4)
  simp only at HL1
  clear ho hr4 hg4 HR0
  generalize hW5 : w4.alloc (.cells #[.int .i64 sorts, .slice Au rows.length cu] 25) = w5 at HL1
  have HZ5 := Lib.hid (show w4.heap.size < w5.heap.size from (Array.getElem?_eq_some_iff.1 HL1.out.loc).1)
  have hl0 := block_cell HL1.out.loc 0
  have hl1 := block_cell HL1.out.loc 1
  simp at hl0 hl1
  have HRS := Lib.hid (show RSig w5 (.agg #[.int .i64 sorts, .slice Au rows.length cu]) ⟨sorts, rows⟩ from ⟨_, rfl, HL1.out.own.reads⟩)
  go_wp2_with fail
  clear hW5
  refine (drawVars_any g q4 n ⟨sorts, rows⟩ _ w5 HL1.out.rd (by omega) hn (by omega) HRS.out).mono ?_
  rintro e w6 ⟨vv, vars, q6, rfl, hov, hvl, hr6, hq6, hg6⟩
  obtain ⟨Av, cv, rfl, -⟩ := own_reads hov
  have HL6 := Lib.hid (HL1.out.later hg6 hr6)
  have hz6 : w5.heap.size ≤ w6.heap.size := hg6.size
  have HOV := Lib.hid (hov.base (B' := w.heap.size + 1) (by have := HZ5.out; omega))
  have HST0 := Lib.hid (show OfSt w w6 (w6.alloc (.cells #[] 3)) g w4.heap.size sorts (.slice Au rows.length cu) rows (.slice (some ⟨w6.heap.size, 0, none⟩) 0 0) [] q6 from
    ⟨HL6.out.later (gr_alloc (gr_refl w6 g) _) (hr6.keep (below_alloc _ _)), gr_alloc (gr_refl w6 g) _, own_empty w6, ⟨_, _, rfl⟩, fun x hx => by simp at hx, by simp⟩)
  have hw6 : w.heap.size + 1 ≤ w6.heap.size := by have := HZ5.out; omega
  have hg6' : g < w6.heap.size := by omega
  have hb46 : w4.heap.size < w6.heap.size := by have := HZ5.out; omega
  clear hov hr6 hg6 hl0 hl1
  generalize hW7 : w6.alloc (.cells #[] 3) = w7 at HST0
  have hl0 := block_cell HST0.out.loc.loc 0
  have hl1 := block_cell HST0.out.loc.loc 1
  simp at hl0 hl1
  have HRS7 := Lib.hid (show RSig w7 (.agg #[.int .i64 sorts, .slice Au rows.length cu]) ⟨sorts, rows⟩ from ⟨_, rfl, HST0.out.loc.own.reads⟩)
  have HRV7 := Lib.hid (HOV.out.past HST0.out.gr (by omega)).reads
  go_upto_if 20 with (go_at_call 71; refine (specVarsOk_any _ _ ⟨sorts, rows⟩ vars _ HRS7.out HRV7.out).mono ?_; rintro e w8 ⟨rfl, hb⟩; have HST8 := Lib.hid (HST0.out.below hb hg6'); clear hb hl0 hl1 hW7)
  go_cut [9] (fun t9 wx => ∃ (t : List Int) (q : Nat), OfSt w w6 wx g w4.heap.size sorts (.slice Au rows.length cu) rows t9 t q ∧ q ≤ q6 + 1557903 ∧ t.length ≤ 15)
  case first =>
    cases hvb : varsB ⟨sorts, rows⟩ vars with
    | false =>
      go_wp2
      go_meet
      case rel => exact ⟨[], q6, HST8.out, by omega, by simp⟩
    | true =>
      have hval := (vars_valid hvb).1
      have HVAL := Lib.hid hval
      have hl0 := block_cell HST8.out.loc.loc 0
      have hl1 := block_cell HST8.out.loc.loc 1
      simp at hl0 hl1
      clear hval
      go_wp2_with fail
      refine (drawAny_any ⟨sorts, rows⟩ vars HVAL.out (by omega) 3 (by omega) g q6 _ _ w8 HST8.out.loc.rd (by rw [qb3]; omega) ⟨_, rfl, HST8.out.loc.own.base (by omega)⟩ ((HOV.out.past HST8.out.gr (by omega)).base (by omega))).mono ?_
      rintro e w9 ⟨tv, t, q9, rfl, hsome, hot, htl, hts, hr9, hq9, hg9⟩
      rw [lb3] at htl
      rw [qb3] at hq9
      have HST9 := Lib.hid (show OfSt w w6 w9 g w4.heap.size sorts (.slice Au rows.length cu) rows tv t q9 from ⟨HST8.out.loc.later hg9 hr9, gr_more HST8.out.gr hg9, hot.base HST8.out.gr.size, hsome, hts, by omega⟩)
      clear hsome hot hts hr9 hg9 hl0 hl1
      go_wp2
      go_meet
      case rel => exact ⟨t, q9, HST9.out, by omega, htl⟩
  case rest =>
    obtain ⟨t, q9, hst9, hq9, ht15⟩ := hcut
    obtain ⟨wx, rfl⟩ : ∃ wx : World, wx = wc := ⟨_, rfl⟩
    have HST9 := Lib.hid hst9
    obtain ⟨ad, ct, rfl⟩ := hst9.some_
    clear hst9
    go_wp2_with fail
    refine (odd_any g q9 n _ HST9.out.loc.rd (by omega) hn (by omega)).mono ?_
    rintro e wa ⟨b, qa, rfl, hra, hqa, hga⟩
    have HSTA := Lib.hid (HST9.out.later hga hra hg6')
    clear hra hga
    cases b with
    | false =>
      have hl0 := block_cell HSTA.out.loc.loc 0
      have hl1 := block_cell HSTA.out.loc.loc 1
      simp at hl0 hl1
      have hr0 := block_cell HSTA.out.loc.res 0
      have hr1 := block_cell HSTA.out.loc.res 1
      have hr2 := block_free HSTA.out.loc.res 0
      have hr3 := block_free HSTA.out.loc.res 1
      simp at hr0 hr1
      go_wp2
      obtain ⟨d1, d2, d3, d4, d5, d6⟩ := of_done HSTA.out HOV.out hw6
      generalize (wa.setCell ⟨w.heap.size, 0, none⟩ (.int .i64 sorts)).setCell ⟨w.heap.size, 1, none⟩ (.slice Au rows.length cu) = w9 at d1 d2 d3 d4 d5 d6 ⊢
      have k0 := block_cell d1 0
      have k1 := block_cell d1 1
      simp at k0 k1
      clear hl0 hl1 hr0 hr1 hr2 hr3
      refine bodyPost_ret (v := .tuple #[.agg #[.int .i64 sorts, .slice Au rows.length cu], .slice Av vars.length cv, .slice (some ad) t.length ct]) (by simp [results, Try.results121, go_sem, k0, k1]) rfl ?_
      exact ⟨_, ⟨sorts, rows⟩, _, vars, _, t, qa, rfl, d2, d3, d4, ⟨_, _, rfl⟩, hs2, hvl, by have := HSTA.out.short; omega, HSTA.out.small, d5, by omega, d6⟩
    | true =>
      go_wp2_with fail
      refine (pick_any g qa 3 _ HSTA.out.loc.rd (by omega)).mono ?_
      rintro e wb ⟨x, rfl, hx, hrb, hgb⟩
      have hx := hx.2 (by omega)
      have HSTB := Lib.hid (HSTA.out.later hgb hrb hg6')
      have hl0 := block_cell HSTB.out.loc.loc 0
      have hl1 := block_cell HSTB.out.loc.loc 1
      simp at hl0 hl1
      clear hrb hgb
      have HTB := Lib.hid (show wb.ownsRow w6.heap.size 3 1 (.slice (some ad) t.length ct) t.length (t.map (Value.int .i64)) from HSTB.out.own)
      have hts := HSTB.out.short
      by_cases hx0 : x = 0
      · subst hx0
        go_wp2_with fail
        have ea := World.new_ne wb _ hl0
        have hz := HSTB.out.gr.size
        go_region_held3 (fun w' => w'.cell? ⟨w4.heap.size, 0, none⟩ = some (.int .i64 sorts) ∧ w'.cell? ⟨w4.heap.size, 1, none⟩ = some (.slice Au rows.length cu)) (first | go_keep | exact ⟨j0, j1⟩ | exact ⟨block_cell (block_set_ne (block_set_ne HST8.out.loc.loc 0 _ (by omega)) 1 _ (by omega)) 0, block_cell (block_set_ne (block_set_ne HST8.out.loc.loc 0 _ (by omega)) 1 _ (by omega)) 1⟩)
          (first
            | (refine step_append_own rfl (.tmp 37) (.tmp 38) 26 rfl w6.heap.size 3 i0 (.int .i64 0) 1 8 Try.underlying26 hi hz0 hz1 hz2 rfl (by omega) _ t.length (t.map (Value.int .i64)) rfl ((HTB.out.alloc _).drew) ⟨wb.heap.size, 0, none⟩ 1 1 [.int .i64 100] rfl rfl (lit_new wb 100) (lit_one 100) (by rw [maxLen_eq]; omega) (by omega) (by simp; omega) ?_; intro v8 w8 hown8 hgrow8; have HST8 := Lib.hid (HSTB.out.append HL6.out hg6' (rs := [100]) hown8 rfl (by omega) hgrow8 (small_one (by omega)) (by omega)); obtain ⟨A8, c8, rfl, -⟩ := own_reads hown8; have j0 := block_cell HST8.out.loc.loc 0; have j1 := block_cell HST8.out.loc.loc 1; have r0 := block_cell HST8.out.loc.res 0; have r1 := block_cell HST8.out.loc.res 1; simp at j0 j1 r0 r1; have r2 := block_free HST8.out.loc.res 0; have r3 := block_free HST8.out.loc.res 1; clear hown8 hgrow8))
        obtain ⟨d1, d2, d3, d4, d5, d6⟩ := of_done HST8.out HOV.out hw6
        generalize (w8.setCell ⟨w.heap.size, 0, none⟩ (.int .i64 sorts)).setCell ⟨w.heap.size, 1, none⟩ (.slice Au rows.length cu) = w9 at d1 d2 d3 d4 d5 d6 ⊢
        have k0 := block_cell d1 0
        have k1 := block_cell d1 1
        simp at k0 k1
        clear hl0 hl1 j0 j1 r0 r1 r2 r3
        go_wp2
        refine bodyPost_ret (v := .tuple #[.agg #[.int .i64 sorts, .slice Au rows.length cu], .slice Av vars.length cv, .slice A8 (t.length + 1) c8]) (by simp [results, Try.results121, go_sem, k0, k1]) rfl ?_
        exact ⟨_, ⟨sorts, rows⟩, _, vars, _, t ++ [100], _, rfl, d2, d3, d4, HST8.out.some_, hs2, hvl, by have := HST8.out.short; omega, HST8.out.small, d5, by omega, d6⟩
      by_cases hx1 : x = 1
      · subst hx1
        have HLIT := Lib.hid (lit1 wb (rows.length : Int) (B := w6.heap.size) HSTB.out.gr.size)
        have HNEWS := Lib.hid (news_any (HSTB.out.own.reads.keep (below_alloc wb (.cells #[.int .i64 (rows.length : Int)] 3))))
        go_wp2_with fail
        have ea := World.new_ne wb _ hl0
        have hz := HSTB.out.gr.size
        go_region_held3 (fun w' => w'.cell? ⟨w4.heap.size, 0, none⟩ = some (.int .i64 sorts) ∧ w'.cell? ⟨w4.heap.size, 1, none⟩ = some (.slice Au rows.length cu)) (first | go_keep | exact ⟨j0, j1⟩ | exact ⟨block_cell (block_set_ne (block_set_ne HST8.out.loc.loc 0 _ (by omega)) 1 _ (by omega)) 0, block_cell (block_set_ne (block_set_ne HST8.out.loc.loc 0 _ (by omega)) 1 _ (by omega)) 1⟩)
          (first
            | (refine step_append_own rfl (.tmp 47) (.tmp 48) 26 rfl w6.heap.size 3 i0 (.int .i64 0) 1 8 Try.underlying26 hi hz0 hz1 hz2 rfl (by omega) _ 1 [.int .i64 (rows.length : Int)] rfl (HLIT.out.drew) ad t.length ct (t.map (Value.int .i64)) rfl (by simp) HNEWS.out (ints_one _) (by rw [maxLen_eq]; omega) (by omega) (by simp; omega) ?_; intro v8 w8 hown8 hgrow8; have HST8 := Lib.hid (HSTB.out.onto hg6' (x := (rows.length : Int)) hown8 hgrow8 (by omega) (by omega)); obtain ⟨A8, c8, rfl, -⟩ := own_reads hown8; have j0 := block_cell HST8.out.loc.loc 0; have j1 := block_cell HST8.out.loc.loc 1; have r0 := block_cell HST8.out.loc.res 0; have r1 := block_cell HST8.out.loc.res 1; simp at j0 j1 r0 r1; have r2 := block_free HST8.out.loc.res 0; have r3 := block_free HST8.out.loc.res 1; clear hown8 hgrow8))
        obtain ⟨d1, d2, d3, d4, d5, d6⟩ := of_done HST8.out HOV.out hw6
        generalize (w8.setCell ⟨w.heap.size, 0, none⟩ (.int .i64 sorts)).setCell ⟨w.heap.size, 1, none⟩ (.slice Au rows.length cu) = w9 at d1 d2 d3 d4 d5 d6 ⊢
        have k0 := block_cell d1 0
        have k1 := block_cell d1 1
        simp at k0 k1
        clear hl0 hl1 j0 j1 r0 r1 r2 r3
        go_wp2
        refine bodyPost_ret (v := .tuple #[.agg #[.int .i64 sorts, .slice Au rows.length cu], .slice Av vars.length cv, .slice A8 (1 + t.length) c8]) (by simp [results, Try.results121, go_sem, k0, k1]) rfl ?_
        exact ⟨_, ⟨sorts, rows⟩, _, vars, _, [(rows.length : Int)] ++ t, _, rfl, d2, d3, d4, HST8.out.some_, hs2, hvl, by have := HST8.out.short; omega, HST8.out.small, d5, by omega, d6⟩
      have HST8 := Lib.hid (show OfSt w w6 (wb.alloc (.cells #[] 3)) g w4.heap.size sorts (.slice Au rows.length cu) rows (.slice (some ⟨wb.heap.size, 0, none⟩) 0 0) [] (qa + 1) from
        ⟨HSTB.out.loc.later (gr_alloc (gr_refl wb g) _) (HSTB.out.loc.rd.keep (below_alloc _ _)), gr_more HSTB.out.gr (gr_alloc (gr_refl wb g) _), (own_empty wb).base HSTB.out.gr.size, ⟨_, _, rfl⟩, fun x hx => by simp at hx, by simp⟩)
      generalize hW8 : wb.alloc (.cells #[] 3) = w8 at HST8
      have j0 := block_cell HST8.out.loc.loc 0
      have j1 := block_cell HST8.out.loc.loc 1
      have r0 := block_cell HST8.out.loc.res 0
      have r1 := block_cell HST8.out.loc.res 1
      simp at j0 j1 r0 r1
      have r2 := block_free HST8.out.loc.res 0
      have r3 := block_free HST8.out.loc.res 1
      go_wp2
      clear hW8
      obtain ⟨d1, d2, d3, d4, d5, d6⟩ := of_done HST8.out HOV.out hw6
      generalize (w8.setCell ⟨w.heap.size, 0, none⟩ (.int .i64 sorts)).setCell ⟨w.heap.size, 1, none⟩ (.slice Au rows.length cu) = w9 at d1 d2 d3 d4 d5 d6 ⊢
      have k0 := block_cell d1 0
      have k1 := block_cell d1 1
      simp at k0 k1
      clear hl0 hl1 j0 j1 r0 r1 r2 r3
      refine bodyPost_ret (v := .tuple #[.agg #[.int .i64 sorts, .slice Au rows.length cu], .slice Av vars.length cv, .slice (some ⟨wb.heap.size, 0, none⟩) 0 0]) (by simp [results, Try.results121, go_sem, k0, k1]) rfl ?_
      exact ⟨_, ⟨sorts, rows⟩, _, vars, _, [], _, rfl, d2, d3, d4, HST8.out.some_, hs2, hvl, by have := HST8.out.short; omega, HST8.out.small, d5, by omega, d6⟩
end

section
open Go.RowKit
set_option linter.unusedVariables false
set_option linter.unusedSimpArgs false

theorem put2_at {wz : World} {b : Nat} {t : TypeId} {c0 c1 x y : Value} (h : wz.heap[b]? = some (.cells #[c0, c1] t (0, 0))) : ((wz.setCell ⟨b, 0, none⟩ x).setCell ⟨b, 1, none⟩ y).heap[b]? = some (.cells #[x, y] t (0, 0)) := blk_set (blk_set h 0 x) 1 y
theorem put2_other {wz : World} {b k : Nat} {x y : Value} (hk : k ≠ b) : ((wz.setCell ⟨b, 0, none⟩ x).setCell ⟨b, 1, none⟩ y).heap[k]? = wz.heap[k]? :=
  (Below.heap_setCell _ ⟨b, 1, none⟩ y k hk).trans (Below.heap_setCell _ ⟨b, 0, none⟩ x k hk)
theorem put2_rd {wz : World} {b g q : Nat} {x y : Value} (h : RRd wz g q) (hg : g < b) : RRd ((wz.setCell ⟨b, 0, none⟩ x).setCell ⟨b, 1, none⟩ y) g q := (h.setCell hg x).setCell hg y
theorem put2_gr {w wz : World} {b g : Nat} {x y : Value} (h : w.grownBy wz (some g)) (hb : w.heap.size ≤ b) : w.grownBy ((wz.setCell ⟨b, 0, none⟩ x).setCell ⟨b, 1, none⟩ y) (some g) := gr_setCell (gr_setCell h (.inr hb) x) (.inr hb) y
theorem put2_bel {w wz : World} {b B : Nat} {x y : Value} (h : Below B w wz) (hb : B ≤ b) : Below B w ((wz.setCell ⟨b, 0, none⟩ x).setCell ⟨b, 1, none⟩ y) := (h.setCell (p := ⟨b, 0, none⟩) hb x).setCell (p := ⟨b, 1, none⟩) hb y
theorem put3_at {wz : World} {b : Nat} {t : TypeId} {c0 c1 c2 x y z : Value} (h : wz.heap[b]? = some (.cells #[c0, c1, c2] t (0, 0))) : (((wz.setCell ⟨b, 0, none⟩ x).setCell ⟨b, 1, none⟩ y).setCell ⟨b, 2, none⟩ z).heap[b]? = some (.cells #[x, y, z] t (0, 0)) := blk_set (blk_set (blk_set h 0 x) 1 y) 2 z
theorem put3_other {wz : World} {b k : Nat} {x y z : Value} (hk : k ≠ b) : (((wz.setCell ⟨b, 0, none⟩ x).setCell ⟨b, 1, none⟩ y).setCell ⟨b, 2, none⟩ z).heap[k]? = wz.heap[k]? :=
  (Below.heap_setCell _ ⟨b, 2, none⟩ z k hk).trans (put2_other hk)
theorem put3_rd {wz : World} {b g q : Nat} {x y z : Value} (h : RRd wz g q) (hg : g < b) : RRd (((wz.setCell ⟨b, 0, none⟩ x).setCell ⟨b, 1, none⟩ y).setCell ⟨b, 2, none⟩ z) g q := (put2_rd h hg).setCell hg z
theorem put3_gr {w wz : World} {b g : Nat} {x y z : Value} (h : w.grownBy wz (some g)) (hb : w.heap.size ≤ b) : w.grownBy (((wz.setCell ⟨b, 0, none⟩ x).setCell ⟨b, 1, none⟩ y).setCell ⟨b, 2, none⟩ z) (some g) := gr_setCell (put2_gr h hb) (.inr hb) z
theorem put3_bel {w wz : World} {b B : Nat} {x y z : Value} (h : Below B w wz) (hb : B ≤ b) : Below B w (((wz.setCell ⟨b, 0, none⟩ x).setCell ⟨b, 1, none⟩ y).setCell ⟨b, 2, none⟩ z) := (put2_bel h hb).setCell (p := ⟨b, 2, none⟩) hb z
theorem keep2m {w : World} {b c i : Nat} {x y u : Value} (h : w.cell? ⟨c, i, none⟩ = some u) (hne : c ≠ b) : ((w.setCell ⟨b, 0, none⟩ x).setCell ⟨b, 1, none⟩ y).cell? ⟨c, i, none⟩ = some u := (World.cell?_of_block (put2_other hne)).trans h
theorem keep3m {w : World} {b c i : Nat} {x y z u : Value} (h : w.cell? ⟨c, i, none⟩ = some u) (hne : c ≠ b) : (((w.setCell ⟨b, 0, none⟩ x).setCell ⟨b, 1, none⟩ y).setCell ⟨b, 2, none⟩ z).cell? ⟨c, i, none⟩ = some u := (World.cell?_of_block (put3_other hne)).trans h
theorem drew_cellm {w : World} {p : Addr} {v : Value} (h : w.cell? p = some v) : w.drew.cell? p = some v := h
theorem gr_todrewm {x w : World} {r : Option Nat} (h : w.grownBy x r) : w.grownBy x.drew r := ⟨h.os, h.tape, h.output, h.size, h.block⟩
theorem osig_drewm {x : World} {b : Nat} {v : Value} {s : MSig} (h : OSig x b v s) : OSig x.drew b v s := h
theorem osig_past {w w' : World} {B g : Nat} {v : Value} {s : MSig} (h : OSig w B v s) (hg : w.grownBy w' (some g)) (hB : g < B) : OSig w' B v s := by
  obtain ⟨u, e, h⟩ := h
  exact ⟨u, e, h.grown hg (fun k e => by injection e with e; omega)⟩
end

section
open Go.RowKit
set_option linter.unusedVariables false
set_option linter.unusedSimpArgs false

theorem inB13 {z : Int} : inB z 1 3 = (decide (1 ≤ z) && decide (z ≤ 3)) := rfl
theorem inB13_low {z : Int} (h : z < 1) : inB z 1 3 = false := by unfold inB; simp; omega
theorem inB13_high {z : Int} (h : 3 < z) : inB z 1 3 = false := by unfold inB; simp; omega
theorem inB13_yes {z : Int} (h1 : 1 ≤ z) (h2 : z ≤ 3) : inB z 1 3 = true := by unfold inB; simp [h1, h2]
theorem tabB_at {s : MSig} {m : MModel} {k : Nat} (hs : k < s.ops.length) (hm : k < m.tables.length) : tabB s m k = tableB m.sizes s.ops[k] m.tables[k] := by
  unfold tabB; rw [getD_at _ hs, getD_at _ hm]

set_option maxHeartbeats 3200000 in
set_option maxRecDepth 100000 in
theorem modelOk_any (s : MSig) (m : MModel) (w : World) (v v' : Value) (h1 : RSig w v s) (h2 : RModel w v' m) :
    Calls Try.prog 95 #[v, v'] w fun e w' => e = .returned (.bool (modelB s m)) ∧ Below w.heap.size w w' := by
  obtain ⟨Asa, csa, rfl⟩ := h1.form
  obtain ⟨Ama, cma, Amb, cmb, rfl⟩ := h2.form
  have hb : Below w.heap.size w ((w.alloc (.cells #[.int .i64 s.sorts, .slice Asa s.ops.length csa] 25)).alloc (.cells #[.slice Ama m.sizes.length cma, .slice Amb m.tables.length cmb] 28)) := (below_alloc _ _).alloc (by simp) _
  have HB := Lib.hid hb
  have hsz : ((w.alloc (.cells #[.int .i64 s.sorts, .slice Asa s.ops.length csa] 25)).alloc (.cells #[.slice Ama m.sizes.length cma, .slice Amb m.tables.length cmb] 28)).heap.size = w.heap.size + 2 := by simp
  have Hs := Lib.hid (h1.keep hb)
  have s0 := cell_keep (below_alloc (w.alloc (.cells #[.int .i64 s.sorts, .slice Asa s.ops.length csa] 25)) (.cells #[.slice Ama m.sizes.length cma, .slice Amb m.tables.length cmb] 28)) (bx_at (w) #[.int .i64 s.sorts, .slice Asa s.ops.length csa] 25 (k := 0) rfl)
  have s1 := cell_keep (below_alloc (w.alloc (.cells #[.int .i64 s.sorts, .slice Asa s.ops.length csa] 25)) (.cells #[.slice Ama m.sizes.length cma, .slice Amb m.tables.length cmb] 28)) (bx_at (w) #[.int .i64 s.sorts, .slice Asa s.ops.length csa] 25 (k := 1) rfl)
  have Hm := Lib.hid (h2.keep hb)
  have m0 := bx_at (w.alloc (.cells #[.int .i64 s.sorts, .slice Asa s.ops.length csa] 25)) #[.slice Ama m.sizes.length cma, .slice Amb m.tables.length cmb] 28 (k := 0) rfl
  have m1 := bx_at (w.alloc (.cells #[.int .i64 s.sorts, .slice Asa s.ops.length csa] 25)) #[.slice Ama m.sizes.length cma, .slice Amb m.tables.length cmb] 28 (k := 1) rfl
  simp only [World.size_alloc] at m0 m1
  generalize hW : (w.alloc (.cells #[.int .i64 s.sorts, .slice Asa s.ops.length csa] 25)).alloc (.cells #[.slice Ama m.sizes.length cma, .slice Amb m.tables.length cmb] 28) = W at HB hsz Hs s0 s1 Hm m0 m1
  clear hb h1 h2
  have hl1 := Hs.out.of.2.len
  have hl2 := Hm.out.of.1.len
  have hl3 := Hm.out.of.2.len
  cases hv : validB s with
  | false =>
    have HV := Lib.hid hv
    have HE := Lib.hid (model_no1 (m := m) hv)
    clear hv
    go_enter Try.func95, Try.ntmps95
    go_wp2_with fail
    clear hW
    refine (sigValid_any _ s _ Hs.out).mono ?_
    rw [HV.out]
    rintro e w1 ⟨rfl, hb⟩
    replace HB := Lib.hid (sz_keep HB.out hb)
    replace s0 := cell_keep hb s0
    replace s1 := cell_keep hb s1
    replace m0 := cell_keep hb m0
    replace m1 := cell_keep hb m1
    replace Hs := Lib.hid (Hs.out.keep hb)
    replace Hm := Lib.hid (Hm.out.keep hb)
    clear hb
    go_wp2
    go_ret
    exact ⟨ret_bool HE.out.symm, HB.out⟩
  | true =>
    have HV := Lib.hid hv
    have hsv := valid_sorts hv
    clear hv
    by_cases hs : (m.sizes.length : Int) = s.sorts
    · have e1 : ((m.sizes.length : Int) != s.sorts) = false := by simp [hs]
      have HSL := Lib.hid hs
      have hms3 : m.sizes.length ≤ 3 := by omega
      by_cases ho : m.tables.length = s.ops.length
      · have e2 : ((m.tables.length : Int) != (s.ops.length : Int)) = false := by simp [ho]
        have HOL := Lib.hid ho
        have hle : m.tables.length ≤ s.ops.length := by omega
        clear ho hs
        go_enter Try.func95, Try.ntmps95
        go_wp2_with fail
        clear hW
        refine (sigValid_any _ s _ Hs.out).mono ?_
        rw [HV.out]
        rintro e w1 ⟨rfl, hb⟩
        replace HB := Lib.hid (sz_keep HB.out hb)
        replace s0 := cell_keep hb s0
        replace s1 := cell_keep hb s1
        replace m0 := cell_keep hb m0
        replace m1 := cell_keep hb m1
        replace Hs := Lib.hid (Hs.out.keep hb)
        replace Hm := Lib.hid (Hm.out.keep hb)
        clear hb
        have HC := Lib.hid (And.intro s0 (And.intro s1 (And.intro m0 m1)))
        go_wp2
        clear s0 s1 m0 m1
        go_loopw [6, 32] (fun p i wr => ∃ k : Nat, k ≤ m.sizes.length ∧ i = .int .i64 k ∧ sizesB (m.sizes.take k) = true ∧ w1 = wr) (fun _ i _ => m.sizes.length - (intOf i).toNat)
        case atStart => exact ⟨0, Nat.zero_le _, rfl, rfl, rfl⟩
        case round =>
          obtain ⟨k, hk, rfl, hb0, rfl⟩ := hrel
          have HB0 := Lib.hid hb0
          clear hb0
          by_cases hlt : k < m.sizes.length
          · obtain ⟨b3, o3, c3, e, hx⟩ := Hm.out.of.1.at_ hlt
            cases e
            have hlt' : (k : Int) < (m.sizes.length : Int) := by omega
            have HT := Lib.hid (all_take (p := fun z => inB z 1 3) hlt)
            have HN := Lib.hid (sizesB_bad hlt)
            generalize m.sizes[k] = z at hx HT HN
            by_cases hz1 : z < 1
            · have HF := Lib.hid (model_no4 (s := s) (HN.out (inB13_low hz1)))
              go_wp2
              go_ret
              exact ⟨ret_bool HF.out.symm, HB.out⟩
            · by_cases hz3 : 3 < z
              · have HF := Lib.hid (model_no4 (s := s) (HN.out (inB13_high hz3)))
                go_wp2
                go_ret
                exact ⟨ret_bool HF.out.symm, HB.out⟩
              · have hz1' : 1 ≤ z := by omega
                have hz3' : z ≤ 3 := by omega
                have HR := Lib.hid (inB13_yes hz1' hz3')
                go_wp2
                go_roundw
                case rel => exact ⟨k + 1, by omega, by go_num, by unfold sizesB; rw [HT.out, HR.out]; have := HB0.out; unfold sizesB at this; rw [this]; rfl, by first | trivial | rfl⟩
                case measure => simp [intOf]; omega
          · have hkn : k = m.sizes.length := by omega
            have hlt' : ¬ (k : Int) < (m.sizes.length : Int) := by omega
            have HT := Lib.hid (show m.sizes.take k = m.sizes from take_all (by omega))
            rw [HT.out] at HB0
            have HZ := Lib.hid (sizesB_iff.1 HB0.out)
            have m1 := HC.out.2.2.2
            go_wp2
            clear m1
            go_loopw [7, 8, 46] (fun p q i wr => ∃ k : Nat, k ≤ m.tables.length ∧ i = .int .i64 k ∧ allTab s m k = true ∧ Below w1.heap.size w1 wr) (fun _ _ i _ => m.tables.length - (intOf i).toNat)
            case atStart => exact ⟨0, Nat.zero_le _, rfl, allTab_zero _ _, Below.refl _ _⟩
            case round =>
              obtain ⟨j, hj, rfl, hal, hd⟩ := hrel
              have HAL := Lib.hid hal
              have HD := Lib.hid hd
              have f1 := cell_keep hd HC.out.2.1
              have f2 := cell_keep hd HC.out.2.2.1
              have f3 := cell_keep hd HC.out.2.2.2
              clear hal hd
              by_cases hjl : j < m.tables.length
              · have hjl' : (j : Int) < (m.tables.length : Int) := by omega
                have hja : j < s.ops.length := by omega
                have hja' : (j : Int) < (s.ops.length : Int) := by omega
                have hj0 : (0 : Int) ≤ (j : Int) := by omega
                obtain ⟨b7, o7, c7, u7, e, hra, hri⟩ := (Hs.out.of.2.keep HD.out).at_ hja
                cases e
                obtain ⟨b8, o8, c8, u8, e, hrb, hrj⟩ := (Hm.out.of.2.keep HD.out).at_ hjl
                cases e
                have hvr := valid_row HV.out hja
                have HIN := Lib.hid (show ∀ x ∈ s.ops[j], 0 ≤ x ∧ x < (m.sizes.length : Int) from fun y hy => by have := hvr.2.2 y hy; have := HSL.out; omega)
                have HR13 := Lib.hid (And.intro hvr.1 hvr.2.1)
                have HTA := Lib.hid (tabB_at hja hjl)
                have HBAD := Lib.hid (fun h => model_no5 (s := s) hjl h)
                have HSUC := Lib.hid (allTab_succ s m j)
                generalize s.ops[j] = row at hri hra HIN HTA HR13
                generalize m.tables[j] = table at hrj hrb HTA
                have HRI := Lib.hid hri
                have HRJ := Lib.hid hrj
                obtain ⟨A7, d7, rfl, -⟩ := hri.form
                obtain ⟨A8, d8, rfl, -⟩ := hrj.form
                obtain ⟨r, hr⟩ : ∃ r, tableB m.sizes row table = r := ⟨_, rfl⟩
                rw [hr] at HTA
                have HR := Lib.hid hr
                clear hr hri hrj hvr
                go_wp2_with fail
                refine wp_region_held_drew (S := (fun w' => w'.cell? ⟨w.heap.size, 1, none⟩ = some (.slice (some ⟨b7, o7, none⟩) s.ops.length csa) ∧ w'.cell? ⟨w.heap.size + 1, 0, none⟩ = some (.slice Ama m.sizes.length cma) ∧ w'.cell? ⟨w.heap.size + 1, 1, none⟩ = some (.slice (some ⟨b8, o8, none⟩) m.tables.length cmb) ∧ w'.cell? ⟨b7, o7 + j, none⟩ = some (.slice A7 row.length d7))) (by kernel_rfl) ?_ (fun hHeld => ?_)
                · exact ⟨f1, f2, f3, hra⟩
                refine wpAnyH_take (i := 0) (oi := _) (v := ?_) rfl (by kernel_rfl) (by kernel_rfl) (by kernel_rfl) (fun _ _ _ h => h) (Or.inl ⟨by rfl, ?_⟩) (by assumption) ?_
                rotate_left
                · first | (intro w' hSw; (try dsimp only at hSw); go_simp; done) | (intro w' hSw; (try dsimp only at hSw); go_simp; with_reducible rfl)
                try simp only [Act.put, List.getElem_toArray, List.getElem_cons_zero, List.getElem_cons_succ, List.setIfInBounds_toArray, List.set_cons_zero, List.set_cons_succ]
                refine wpAnyH_take (i := 1) (oi := _) (v := ?_) rfl (by kernel_rfl) (by kernel_rfl) (by kernel_rfl) (fun _ _ _ h => h) (Or.inl ⟨by rfl, ?_⟩) (by assumption) ?_
                rotate_left
                · first | (intro w' hSw; (try dsimp only at hSw); go_simp; done) | (intro w' hSw; (try dsimp only at hSw); go_simp; with_reducible rfl)
                try simp only [Act.put, List.getElem_toArray, List.getElem_cons_zero, List.getElem_cons_succ, List.setIfInBounds_toArray, List.set_cons_zero, List.set_cons_succ]
                refine wpAnyH_take (i := 2) (oi := _) (v := ?_) rfl (by kernel_rfl) (by kernel_rfl) (by kernel_rfl) (fun _ _ _ h => h) (Or.inl ⟨by rfl, ?_⟩) (by assumption) ?_
                rotate_left
                · first | (intro w' hSw; (try dsimp only at hSw); go_simp; done) | (intro w' hSw; (try dsimp only at hSw); go_simp; with_reducible rfl)
                try simp only [Act.put, List.getElem_toArray, List.getElem_cons_zero, List.getElem_cons_succ, List.setIfInBounds_toArray, List.set_cons_zero, List.set_cons_succ]
                refine wpAnyH_take (i := 3) (oi := _) (v := ?_) rfl (by kernel_rfl) (by kernel_rfl) (by kernel_rfl) (fun _ _ _ h => h) (Or.inl ⟨by rfl, ?_⟩) (by assumption) ?_
                rotate_left
                · first | (intro w' hSw; (try dsimp only at hSw); go_simp; done) | (intro w' hSw; (try dsimp only at hSw); go_simp; with_reducible rfl)
                try simp only [Act.put, List.getElem_toArray, List.getElem_cons_zero, List.getElem_cons_succ, List.setIfInBounds_toArray, List.set_cons_zero, List.set_cons_succ]
                refine wpAnyH_take (i := 4) (oi := _) (v := ?_) rfl (by kernel_rfl) (by kernel_rfl) (by kernel_rfl) (fun _ _ _ h => h) (Or.inl ⟨by rfl, ?_⟩) (by assumption) ?_
                rotate_left
                · first | (intro w' hSw; (try dsimp only at hSw); go_simp; done) | (intro w' hSw; (try dsimp only at hSw); go_simp; with_reducible rfl)
                try simp only [Act.put, List.getElem_toArray, List.getElem_cons_zero, List.getElem_cons_succ, List.setIfInBounds_toArray, List.set_cons_zero, List.set_cons_succ]
                refine wpAnyH_take (i := 5) (oi := _) (v := ?_) rfl (by kernel_rfl) (by kernel_rfl) (by kernel_rfl) (fun _ _ _ h => h) (Or.inl ⟨by rfl, ?_⟩) (by assumption) ?_
                rotate_left
                · first | (intro w' hSw; (try dsimp only at hSw); go_simp; done) | (intro w' hSw; (try dsimp only at hSw); go_simp; with_reducible rfl)
                try simp only [Act.put, List.getElem_toArray, List.getElem_cons_zero, List.getElem_cons_succ, List.setIfInBounds_toArray, List.set_cons_zero, List.set_cons_succ]
                refine wpAnyH_take (i := 6) (oi := _) (v := ?_) rfl (by kernel_rfl) (by kernel_rfl) (by kernel_rfl) (fun _ _ _ h => h) (Or.inl ⟨by rfl, ?_⟩) (by assumption) ?_
                rotate_left
                · first | (intro w' hSw; (try dsimp only at hSw); go_simp; done) | (intro w' hSw; (try dsimp only at hSw); go_simp; with_reducible rfl)
                try simp only [Act.put, List.getElem_toArray, List.getElem_cons_zero, List.getElem_cons_succ, List.setIfInBounds_toArray, List.set_cons_zero, List.set_cons_succ]
                refine wpAnyH_ready (rs := [7]) (by kernel_rfl) (by simp) ?_
                refine AllReadyH.cons (o := _) rfl (fun K hK => ?_) AllReadyH.nil
                go_simp
                refine (tableOk_any m row table _ _ _ _ ((Hm.out.keep HD.out).keep (map_drew (Below.refl _ _))) (HRI.out.keep (map_drew (Below.refl _ _))) (HRJ.out.keep (map_drew (Below.refl _ _))) HR13.out.1 HR13.out.2 HZ.out HIN.out hms3).mono ?_
                rw [HR.out]
                rintro x w5 ⟨rfl, hb5⟩
                have hx5 := map_undrew hb5
                have HX5 := Lib.hid (sz_keep HD.out hx5)
                have q1 := cell_keep hx5 f1
                have q2 := cell_keep hx5 f2
                have q3 := cell_keep hx5 f3
                have q4 := cell_keep hx5 hra
                clear hx5 hb5
                go_wp2_with fail
                refine hK.out _ _ ?_ (fun hHeld => ?_)
                · exact ⟨q1, q2, q3, q4⟩
                clear hK K
                try simp only [Act.put, List.getElem_toArray, List.getElem_cons_zero, List.getElem_cons_succ, List.setIfInBounds_toArray, List.set_cons_zero, List.set_cons_succ]
                refine wpAnyH_take (i := 8) (oi := _) (v := ?_) rfl (by kernel_rfl) (by kernel_rfl) (by kernel_rfl) (fun _ _ _ h => h) (Or.inl ⟨by rfl, ?_⟩) (by assumption) ?_
                rotate_left
                · first | (intro w' hSw; (try dsimp only at hSw); go_simp; done) | (intro w' hSw; (try dsimp only at hSw); go_simp; with_reducible rfl)
                try simp only [Act.put, List.getElem_toArray, List.getElem_cons_zero, List.getElem_cons_succ, List.setIfInBounds_toArray, List.set_cons_zero, List.set_cons_succ]
                refine wpAnyH_done (by kernel_rfl) ?_ _
                clear f1 f2 f3 hra hrb q1 q2 q3 q4
                cases r with
                | true =>
                  go_wp2
                  go_roundw
                  case rel => exact ⟨j + 1, by omega, by go_num, by rw [HSUC.out, HAL.out, HTA.out]; rfl, HX5.out⟩
                  case measure => simp [intOf]; omega
                | false =>
                  have HF := Lib.hid (HBAD.out HTA.out)
                  go_wp2
                  go_ret
                  exact ⟨ret_bool HF.out.symm, sz_keep HB.out HX5.out⟩
              · have hkn2 : j = m.tables.length := by omega
                have hlt2 : ¬ (j : Int) < (m.tables.length : Int) := by omega
                have HE := Lib.hid (model_yes HV.out HSL.out HOL.out (sizesB_iff.2 HZ.out) (by rw [← hkn2]; exact HAL.out))
                clear f1 f2 f3
                go_wp2
                go_ret
                exact ⟨ret_bool HE.out.symm, sz_keep HB.out HD.out⟩
      · have e2 : ((m.tables.length : Int) != (s.ops.length : Int)) = true := by simp; omega
        have HE := Lib.hid (model_no3 ho)
        clear ho hs
        go_enter Try.func95, Try.ntmps95
        go_wp2_with fail
        clear hW
        refine (sigValid_any _ s _ Hs.out).mono ?_
        rw [HV.out]
        rintro e w1 ⟨rfl, hb⟩
        replace HB := Lib.hid (sz_keep HB.out hb)
        replace s0 := cell_keep hb s0
        replace s1 := cell_keep hb s1
        replace m0 := cell_keep hb m0
        replace m1 := cell_keep hb m1
        replace Hs := Lib.hid (Hs.out.keep hb)
        replace Hm := Lib.hid (Hm.out.keep hb)
        clear hb
        go_wp2
        go_ret
        exact ⟨ret_bool HE.out.symm, HB.out⟩
    · have e1 : ((m.sizes.length : Int) != s.sorts) = true := by simpa using hs
      have HE := Lib.hid (model_no2 hs)
      clear hs
      go_enter Try.func95, Try.ntmps95
      go_wp2_with fail
      clear hW
      refine (sigValid_any _ s _ Hs.out).mono ?_
      rw [HV.out]
      rintro e w1 ⟨rfl, hb⟩
      replace HB := Lib.hid (sz_keep HB.out hb)
      replace s0 := cell_keep hb s0
      replace s1 := cell_keep hb s1
      replace m0 := cell_keep hb m0
      replace m1 := cell_keep hb m1
      replace Hs := Lib.hid (Hs.out.keep hb)
      replace Hm := Lib.hid (Hm.out.keep hb)
      clear hb
      go_wp2
      go_ret
      exact ⟨ret_bool HE.out.symm, HB.out⟩
end
end Go.Proofs.Yticldaddbljleaa
