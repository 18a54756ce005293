/- The draws of letters and terms: l20Vars, l20Term, l20Anything. · The draws of equations: l20EqOf. · DrawEqOk. -/
import Derived.Test.YtbopcghbmbchkabKa23e6c4c
import Derived.Deep.RegionHeld3
import Derived.Deep.DeepCutAuto
namespace Go.Proofs.Ytbopcghbmbchkab
section
open Go.RowKit
set_option linter.unusedVariables false

theorem OSig.past {w w' : World} {g B : Nat} {v : Value} {s : MSig} (h : OSig w B v s) (hg : w.grownBy w' (some g)) (hB : g < B) : OSig w' B v s := by
  obtain ⟨u, e, h⟩ := h
  exact ⟨u, e, h.grown hg (fun k e => by injection e with e; omega)⟩
theorem ORows.nth {w : World} {B k : Nat} {v : Value} {rows : List (List Int)} (h : ORows w B v rows) (hk : k < rows.length) : ∃ u, OInts w B u rows[k] ∧ ∀ (w' : World) (g : Nat), g < B → w.grownBy w' (some g) → ∃ b o c, v = .slice (some ⟨b, o, none⟩) rows.length c ∧ w'.cell? ⟨b, o + k, none⟩ = some u := by
  obtain ⟨us, h1, h2, h3, h4⟩ := h
  have hku : k < us.length := by omega
  refine ⟨us[k], h3 k us[k] rows[k] (List.getElem?_eq_getElem hku) (List.getElem?_eq_getElem hk), fun w' g hg hgr => ?_⟩
  obtain ⟨A, c, e, -, -, h5⟩ := own_reads (own_past h1 hgr hg)
  obtain ⟨b, o, rfl, hc⟩ := h5 k us[k] (List.getElem?_eq_getElem hku)
  exact ⟨b, o, c, e, hc⟩
theorem OInts.past {w w' : World} {g B : Nat} {v : Value} {xs : List Int} (h : OInts w B v xs) (hg : w.grownBy w' (some g)) (hB : g < B) : OInts w' B v xs := own_past h hg hB
theorem gr_more {a b c : World} {g : Nat} (h : a.grownBy b (some g)) (k : b.grownBy c (some g)) : a.grownBy c (some g) := gr_trans h k (fun x e => by injection e with e; exact .inl e.symm)
theorem gr_box {w wr : World} {g : Nat} {o : Obj} (h : (w.alloc o).grownBy wr (some g)) : w.grownBy wr (some g) := gr_more (gr_alloc (gr_refl w g) o) h
theorem zeros5 (w : World) (cs : Array Value) (h : cs = #[.int .i64 0, .int .i64 0, .int .i64 0, .int .i64 0, .int .i64 0]) : OInts (w.alloc (.cells cs 3)) w.heap.size (.slice (some ⟨w.heap.size, 0, none⟩) 5 5) [0, 0, 0, 0, 0] := by
  subst h
  exact World.ownsRow_lit w _ 5 (Nat.le_refl _) (by unfold maxLen; omega) rfl

theorem made5 : madeCells #[Value.int .i64 0] 5 = #[.int .i64 0, .int .i64 0, .int .i64 0, .int .i64 0, .int .i64 0] := by kernel_rfl
def VarsPost (g p : Nat) (w : World) (e : Ending) (w' : World) : Prop :=
  ∃ (v : Value) (xs : List Int) (q : Nat), e = .returned v ∧ OInts w' w.heap.size v xs ∧ xs.length ≤ 5 ∧ RRd w' g q ∧ q ≤ p + 10 ∧ w.grownBy w' (some g)

theorem lit_new (w : World) (x : Int) : ∀ (j : Nat) (u : Value), [Value.int .i64 x][j]? = some u → (w.alloc (.cells #[.int .i64 x] 3)).cell? ((⟨w.heap.size, 0, none⟩ : Addr).add j) = some u := fun j u hj => by
  match j, hj with
  | 0, hj =>
    simp at hj
    subst hj
    rw [show (⟨w.heap.size, 0, none⟩ : Addr).add 0 = ⟨w.heap.size, 0, none⟩ by simp [Addr.add], World.cell?_alloc_at _ _ _ _ rfl]; rfl
theorem lit_one (x : Int) : ∀ u ∈ [Value.int .i64 x], u.oneCell' = true := fun u hu => by simp at hu; subst hu; rfl
theorem cell_gr {w w' : World} {g b o : Nat} {u : Value} (hg : w.grownBy w' (some g)) (hc : w.cell? ⟨b, o, none⟩ = some u) (hne : b ≠ g) : w'.cell? ⟨b, o, none⟩ = some u := hg.cell hc (fun e => hne (by injection e))
theorem app_own {w : World} {B m : Nat} {v : Value} {ps rs : List Int} (hm : rs.length = m) (h : w.ownsRow B 3 1 v (ps.length + m) (ps.map (Value.int .i64) ++ rs.map (Value.int .i64))) : OInts w B v (ps ++ rs) := by
  unfold OInts; rw [List.length_append, List.map_append, hm]; exact h
theorem own_some {w : World} {B c : Nat} {A : Option Addr} {xs : List Int} (h : OInts w B (.slice A xs.length c) xs) (h1 : 1 ≤ xs.length) : ∃ ad c', Value.slice A xs.length c = .slice (some ad) xs.length c' := by
  obtain ⟨b, o, c', e, -⟩ := h.reads.at_ (k := 0) (by omega)
  exact ⟨_, _, e⟩
theorem row_start1 {W w1 : World} {g q : Nat} (hgl : g < W.heap.size) (hr : RRd w1 g q) (hg : (W.alloc (.cells #[] 3)).grownBy w1 (some g)) : RowAt W W w1 g (.slice (some ⟨W.heap.size, 0, none⟩) 0 0) [] q :=
  ⟨own_past (World.ownsRow_lit W #[] 0 (Nat.le_refl _) (Nat.zero_le _) rfl) hg hgl, hr, gr_box hg⟩
theorem RowAt.later {wo wj w2 : World} {g q q' : Nat} {rv : Value} {row : List Int} (h : RowAt wo wo wj g rv row q) (hgl : g < wo.heap.size) (hp : wj.grownBy w2 (some g)) (hr : RRd w2 g q') : RowAt wo wo w2 g rv row q' :=
  ⟨own_past h.own hp hgl, hr, gr_more h.gr hp⟩
/-- the reader at an odd number of calls: some place -/
theorem box_after {W wr : World} {g b : Nat} {o : Obj} (hb : W.heap[b]? = some o) (hg : W.grownBy wr (some g)) (hne : b ≠ g) : wr.heap[b]? = some o := gr_at hg hne hb

set_option maxHeartbeats 800000 in
set_option maxRecDepth 100000 in
theorem drawVars_any (g p : Nat) (n : Int) (s : MSig) (sv : Value) (w : World) (h : RRd w g p) (hp : p ≤ 100000000) (hn : 0 ≤ n) (hn2 : n ≤ 1000000) (hs : RSig w sv s) :
    Calls Try.prog 112 #[.pointer (some ⟨g, 0, none⟩), sv, .int .i64 n] w (VarsPost g p w) := by
  obtain ⟨u0, rfl, hrr⟩ := hs
  obtain ⟨sorts, ops⟩ := s
  obtain ⟨A, c, rfl, -⟩ := hrr.form
  have hgl := h.lt
  obtain ⟨W, hW⟩ : ∃ W : World, W = w.alloc (.cells #[.int .i64 sorts, .slice A ops.length c] 25) := ⟨_, rfl⟩
  have hbW : Below w.heap.size w W := by rw [hW]; exact below_alloc _ _
  have HGW := Lib.hid (show w.grownBy W (some g) by rw [hW]; exact gr_alloc (gr_refl w g) _)
  have hboxW : W.heap[w.heap.size]? = some (.cells #[.int .i64 sorts, .slice A ops.length c] 25 (0, 0)) := by rw [hW]; exact heap_alloc_new w _
  have HBOX := Lib.hid hboxW
  have HRW := Lib.hid (h.keep hbW)
  have hzW : W.heap.size = w.heap.size + 1 := by rw [hW]; simp
  have HZW := Lib.hid hzW
  obtain ⟨i0, hi, hz0, hz1, hz2⟩ := info_parts Try.info_int
  have hmk : ∀ w : World, (Instr.makeSlice 26 (.int .i64 5) (.int .i64 5)).run Try.prog w = .ok (.slice (some ⟨w.heap.size, 0, none⟩) 5 5) (w.alloc (.cells (madeCells #[.int .i64 0] 5) 3)) := fun w => run_make_row' (P := Try.prog) 26 3 (.int .i64 0) 8 Try.underlying26 Try.tinfo_int rfl .i64 .i64 5 (by omega) (by omega) w
  have hgW : g < W.heap.size := by omega
  have HMK := Lib.hid hmk
  have HRA := Lib.hid (HRW.out.keep (below_alloc W (.cells #[] 3)))
  have hW' := hW.symm
  clear hboxW hbW h hrr hmk hzW
  clear hW
  go_enter Try.func112, Try.ntmps112
  go_wp2_with fail
  clear hW'
  refine (pick_any g p 4 _ HRA.out (by omega)).mono ?_
  rintro e w1 ⟨x, rfl, hx, hr, hg⟩
  have hx := hx.2 (by omega)
  obtain ⟨K, rfl⟩ := Int.eq_ofNat_of_zero_le hx.1
  have hK : K ≤ 3 := by omega
  have HST := Lib.hid (row_start1 hgW hr hg)
  clear hr hg hx
  go_wp2
  go_loopw [7, 8] (fun o k wr => ∃ (m : Nat) (xs : List Int) (q : Nat), k = .int .i64 m ∧ m ≤ 3 ∧ xs.length + m ≤ 3 ∧ q + m ≤ p + 4 ∧ RowAt W W wr g o xs q) (fun _ k _ => (intOf k).toNat)
  case atStart => exact ⟨K, [], p + 1, rfl, hK, by simp; omega, by omega, HST.out⟩
  case round =>
    obtain ⟨m, xs, q, rfl, hm, hxm, hqm, hrow⟩ := hrel
    obtain ⟨A9, c9, rfl, -⟩ := own_reads hrow.own
    have HROW := Lib.hid hrow
    have hbx := box_after HBOX.out hrow.gr (by omega)
    have f0 := block_cell hbx 0
    have f1 := block_cell hbx 1
    simp at f0 f1
    obtain ⟨wj, rfl⟩ : ∃ wj : World, wj = wr := ⟨_, rfl⟩
    clear hrow hbx
    by_cases hm0 : 0 < m
    · go_wp2_with fail
      all_goals
        refine (pick_any g q _ _ HROW.out.rd (by omega)).mono ?_
        rintro e w3 ⟨x, rfl, -, hr, hg⟩
        have HR3 := Lib.hid hr
        have HG3 := Lib.hid hg
        clear hr hg f0 f1
        have hown3 := own_past HROW.out.own HG3.out hgW
        have hz3 : W.heap.size ≤ w3.heap.size := Nat.le_trans HROW.out.gr.size HG3.out.size
        go_wp2_with (at_builtin; refine wpList_append_own _ rfl _ _ 26 rfl W.heap.size 3 i0 (.int .i64 0) 1 8 Try.underlying26 hi hz0 hz1 hz2 rfl (by decide) _ _ _ rfl (hown3.alloc _) ⟨w3.heap.size, 0, none⟩ 1 1 [.int .i64 x] rfl rfl (lit_new w3 x) (lit_one x) (by unfold maxLen; omega) (by omega) (by simp; omega) ?_)
        intro v' w4 hown4 hgrow4 _
        have HN := Lib.hid (info_append wj w4 W HROW.out hgW HG3.out HR3.out hown4 hgrow4)
        clear hown3 hown4 hgrow4
        go_wp2
        go_roundw
        case rel => exact ⟨m - 1, xs ++ [x], q + 1, by go_num, by omega, by simp; omega, by omega, HN.out⟩
        case measure => simp [intOf]; omega
    · have hm1 : ¬ (0 : Int) < (m : Int) := by omega
      clear f0 f1
      go_wp2_with fail
      refine (odd_any g q n _ HROW.out.rd (by omega) hn hn2).mono ?_
      rintro e w3 ⟨b, q3, rfl, hr, hq3, hg⟩
      have HR3 := Lib.hid (HROW.out.later hgW hg hr)
      clear hr hg
      cases b with
      | false =>
        go_wp2
        go_ret
        exact ⟨_, xs, q3, rfl, HR3.out.own.base (by have := HZW.out; omega), by omega, HR3.out.rd, by omega, gr_more HGW.out HR3.out.gr⟩
      | true =>
        go_wp2_with fail
        refine (pick_any g q3 2 _ HR3.out.rd (by omega)).mono ?_
        rintro e w5 ⟨x, rfl, -, hr, hg⟩
        have HR5 := Lib.hid (HR3.out.later hgW hg hr)
        clear hr hg
        by_cases hx0 : x = 0
        · subst hx0
          have hbx := box_after HBOX.out HR5.out.gr (by omega)
          have f0 := block_cell hbx 0
          simp at f0
          have hown5 := HR5.out.own
          clear hbx
          go_wp2_with (at_builtin; refine wpList_append_own _ rfl _ _ 26 rfl W.heap.size 3 i0 (.int .i64 0) 1 8 Try.underlying26 hi hz0 hz1 hz2 rfl (by decide) _ _ _ rfl (hown5.alloc _) ⟨w5.heap.size, 0, none⟩ 1 1 [.int .i64 sorts] rfl rfl (lit_new w5 sorts) (lit_one sorts) (by unfold maxLen; omega) (by omega) (by have := HR5.out.gr.size; simp; omega) ?_)
          intro v' w4 hown4 hgrow4 _
          have HN := Lib.hid (show RowAt W W w4 g v' (xs ++ [sorts]) (q3 + 1) from ⟨by unfold OInts; simpa using hown4, (HR5.out.rd.keep (below_alloc w5 _)).grown hgrow4 (fun k e => by have := (own_lt HR5.out.own k e).1; omega), gr_trans (gr_alloc HR5.out.gr _) hgrow4 (fun k e => .inr (own_lt HR5.out.own k e).1)⟩)
          clear hown5 hown4 hgrow4 f0
          go_wp2
          go_ret
          exact ⟨_, xs ++ [sorts], q3 + 1, rfl, HN.out.own.base (by have := HZW.out; omega), by simp; omega, HN.out.rd, by omega, gr_more HGW.out HN.out.gr⟩
        · have hmk := HMK.out
          go_wp2
          go_ret
          have hal := below_alloc w5 (.cells (madeCells #[.int .i64 0] 5) 3)
          refine ⟨_, [0, 0, 0, 0, 0], q3 + 1, rfl, (zeros5 w5 _ made5).base (by have := HR5.out.gr.size; have := HZW.out; omega), by simp, HR5.out.rd.keep hal, by omega, gr_below (gr_more HGW.out HR5.out.gr) hal⟩

/-! a term -/
def Lb : Nat → Nat
  | 0 => 1
  | d + 1 => 1 + 2 * Lb d
def Qb : Nat → Nat
  | 0 => 36
  | d + 1 => 36 + 24 * Qb d
def Cb : Nat → Nat
  | 0 => 3
  | d + 1 => 3 + 2 * Qb d
theorem Qb_eq (d : Nat) : Qb d = 12 * Cb d := by cases d <;> simp [Qb, Cb]; omega
def Lp : Nat → Nat
  | 0 => 0
  | d + 1 => Lb d
def Qp : Nat → Nat
  | 0 => 0
  | d + 1 => Qb d
theorem Lb_eq (d : Nat) : Lb d = 1 + 2 * Lp d := by cases d <;> rfl
theorem Cb_eq (d : Nat) : Cb d = 3 + 2 * Qp d := by cases d <;> rfl
theorem Lp_le {d : Nat} (h : d ≤ 4) : Lp d ≤ 15 := by
  match d, h with
  | 0, _ => decide
  | 1, _ => decide
  | 2, _ => decide
  | 3, _ => decide
  | 4, _ => decide
def DTermPost (g p d : Nat) (w : World) (e : Ending) (w' : World) : Prop :=
  ∃ (v : Value) (xs : List Int) (q : Nat), e = .returned v ∧ (∃ ad c, v = .slice (some ad) xs.length c) ∧ OInts w' w.heap.size v xs ∧ xs.length ≤ Lb d ∧ Small xs ∧ RRd w' g q ∧ q ≤ p + Qb d ∧ w.grownBy w' (some g)
def DTermAt (s : MSig) (vars : List Int) (d : Nat) : Prop := ∀ (g p : Nat) (sort : Int) (sv vv : Value) (w : World), RRd w g p → p + Qb d ≤ 1000000000 → OSig w (g + 1) sv s → OInts w (g + 1) vv vars →
  Calls Try.prog 113 #[.pointer (some ⟨g, 0, none⟩), sv, vv, .int .i64 sort, .int .i64 (d : Int)] w (DTermPost g p d w)

/-- a place in l20Term: W the world behind the box -/
structure TermSt (W wr : World) (g q : Nat) : Prop where
  rd : RRd wr g q
  gr : W.grownBy wr (some g)
theorem TermSt.later {W wr w2 : World} {g q q' : Nat} (h : TermSt W wr g q) (hr : RRd w2 g q') (hg : wr.grownBy w2 (some g)) : TermSt W w2 g q' := ⟨hr, gr_more h.gr hg⟩
theorem TermSt.below {W wr w2 : World} {g q : Nat} (h : TermSt W wr g q) (hb : Below wr.heap.size wr w2) : TermSt W w2 g q := ⟨h.rd.keep hb, gr_below h.gr hb⟩
theorem lit1 (w : World) (x : Int) {B : Nat} (hB : B ≤ w.heap.size) : OInts (w.alloc (.cells #[.int .i64 x] 3)) B (.slice (some ⟨w.heap.size, 0, none⟩) 1 1) [x] :=
  OInts.base (World.ownsRow_lit w #[.int .i64 x] 1 (Nat.le_refl _) (by unfold maxLen; omega) rfl) hB
theorem lit0 (w : World) {B : Nat} (hB : B ≤ w.heap.size) : OInts (w.alloc (.cells #[] 3)) B (.slice (some ⟨w.heap.size, 0, none⟩) 0 0) [] := (own_empty w).base hB
theorem small_one {x : Int} (h : x ≤ 9223372036854775807) : Small [x] := fun y hy => by simp at hy; subst hy; exact h

set_option maxHeartbeats 1600000 in
set_option maxRecDepth 100000 in
theorem dterm_step (s : MSig) (vars : List Int) (hv : validB s = true) (hvl : vars.length ≤ 1000) (d : Nat) (hd : d ≤ 4) (ih : ∀ d', d = d' + 1 → DTermAt s vars d') : DTermAt s vars d := by
  intro g p sort sv vv w h hp hs hvv
  obtain ⟨i0, hi, hz0, hz1, hz2⟩ := info_parts Try.info_int
  obtain ⟨u0, rfl, hoo⟩ := hs
  obtain ⟨sorts, ops⟩ := s
  simp only at hoo
  obtain ⟨A, c, rfl, -⟩ := hoo.reads.form
  obtain ⟨A2, c2, rfl, -⟩ := hvv.reads.form
  have hgl := h.lt
  have hvs := valid_sorts hv
  simp only at hvs
  obtain ⟨W, hW⟩ : ∃ W : World, W = w.alloc (.cells #[.int .i64 sorts, .slice A ops.length c] 25) := ⟨_, rfl⟩
  have hbW : Below w.heap.size w W := by rw [hW]; exact below_alloc _ _
  have HGW := Lib.hid (show w.grownBy W (some g) by rw [hW]; exact gr_alloc (gr_refl w g) _)
  have HBOX := Lib.hid (show W.heap[w.heap.size]? = some (.cells #[.int .i64 sorts, .slice A ops.length c] 25 (0, 0)) by rw [hW]; exact heap_alloc_new w _)
  have HRW := Lib.hid (h.keep hbW)
  have HZW := Lib.hid (show W.heap.size = w.heap.size + 1 by rw [hW]; simp)
  have HSW := Lib.hid (show OSig W (g + 1) (.agg #[.int .i64 sorts, .slice A ops.length c]) ⟨sorts, ops⟩ from (show OSig w (g + 1) (.agg #[.int .i64 sorts, .slice A ops.length c]) ⟨sorts, ops⟩ from ⟨_, rfl, hoo⟩).keep hbW)
  have HOW := Lib.hid (hoo.keep hbW)
  have HVW := Lib.hid (hvv.keep hbW)
  have hgW : g < W.heap.size := by have := HZW.out; omega
  have hW' := hW.symm
  obtain ⟨D, hD⟩ : ∃ D : Int, D = (d : Int) := ⟨_, rfl⟩
  rw [← hD]
  have HD := Lib.hid hD
  have HIH := Lib.hid ih
  have HV := Lib.hid hv
  have HQB := Lib.hid (Qb_eq d)
  rw [HQB.out] at hp
  have hl2 : vars.length ≤ 9223372036854775807 := by omega
  clear hbW h hoo hvv hD ih hv hW
  go_enter Try.func113, Try.ntmps113
  go_wp2_with fail
  clear hW'
  go_loopw [11, 12, 13, 14, 15, 16, 17] (fun t11 k12 k13 r14 o15 j16 p17 wr => ∃ (n q : Nat), n ≤ 12 ∧ t11 = .int .i64 n ∧ q ≤ p + n * Cb d ∧ TermSt W wr g q) (fun t _ _ _ _ _ _ _ => 12 - (intOf t).toNat)
  case atStart => exact ⟨0, p, Nat.zero_le _, rfl, by omega, ⟨HRW.out, gr_refl W g⟩⟩
  case round =>
    obtain ⟨n, q, hn, rfl, hq, hst⟩ := hrel
    have HST := Lib.hid hst
    clear hst
    by_cases hlt : n < 12
    · have hlt' : (n : Int) < 12 := by omega
      go_upto_region 4 with fail
      have HQN := Lib.hid (show q + Cb d ≤ p + (n + 1) * Cb d ∧ q + Cb d ≤ p + 12 * Cb d by
        have h1 : (n + 1) * Cb d = n * Cb d + Cb d := Nat.succ_mul _ _
        have h2 : (n + 1) * Cb d ≤ 12 * Cb d := Nat.mul_le_mul_right _ (by omega)
        omega)
      have HC3 := Lib.hid (show 3 ≤ Cb d by cases d <;> simp [Cb])
      have hqn : q + 3 ≤ 1000000000 := by have := HQN.out; have := HC3.out; omega
      go_cut [30] (fun s30 wx => ∃ (b : Bool) (q2 : Nat), s30 = .bool b ∧ (b = true → 0 < vars.length) ∧ q2 ≤ q + 1 ∧ TermSt W wx g q2)
      case first =>
        go_wp2_with fail
        refine (pick_any g q 2 _ HST.out.rd (by omega)).mono ?_
        rintro e w2 ⟨x, rfl, -, hr, hg⟩
        have H2 := Lib.hid (HST.out.later hr hg)
        clear hr hg
        by_cases hx0 : x = 0
        · subst hx0
          by_cases hv0 : 0 < (vars.length : Int)
          · go_wp2
            go_meet
            case rel => exact ⟨true, q + 1, (by simp; omega), (by simp; omega), by omega, H2.out⟩
          · go_wp2
            go_meet
            case rel => exact ⟨false, q + 1, (by simp; first | omega | exact List.eq_nil_of_length_eq_zero (by omega)), by simp, by omega, H2.out⟩
        · go_wp2
          go_meet
          case rel => exact ⟨false, q + 1, rfl, by simp, by omega, H2.out⟩
      case rest =>
        obtain ⟨b, q2, rfl, hb, hq2, hst2⟩ := hcut
        have HST2 := Lib.hid hst2
        have HBV := Lib.hid hb
        clear hst2 hb
        go_upto_if 30 with fail
        go_cut [] (fun wx => ∃ (q3 : Nat), q3 ≤ q2 + 1 ∧ TermSt W wx g q3)
        case first =>
          cases b with
          | false =>
            go_wp2
            go_meet
            case rel => exact ⟨q2, by omega, HST2.out⟩
          | true =>
            have hv0 := HBV.out rfl
            go_wp2_with fail
            refine (pick_any g q2 _ _ HST2.out.rd (by omega)).mono ?_
            rintro e w3 ⟨x, rfl, hx, hr, hg⟩
            have hx := hx.2 (by omega)
            obtain ⟨k, rfl⟩ := Int.eq_ofNat_of_zero_le hx.1
            have hk : k < vars.length := by omega
            have H3 := Lib.hid (HST2.out.later hr hg)
            obtain ⟨b6, o6, c6, e, hy⟩ := (HVW.out.past H3.out.gr (by omega)).reads.at_ hk
            cases e
            generalize vars[k] = y at hy
            have hk' : (k : Int) < (vars.length : Int) := by omega
            have hk0 : (0 : Int) ≤ (k : Int) := by omega
            clear hr hg
            by_cases hys : y = sort
            · subst hys
              go_wp2
              go_ret
              have hz := H3.out.gr.size
              refine ⟨_, [100 + (k : Int)], q2 + 1, rfl, ⟨_, _, rfl⟩, lit1 w3 _ (by have := HZW.out; omega), by cases d <;> simp [Lb], small_one (by omega), (H3.out.below (below_alloc w3 (.cells #[.int .i64 (100 + (k : Int))] 3))).rd, ?_, gr_more HGW.out (H3.out.below (below_alloc w3 (.cells #[.int .i64 (100 + (k : Int))] 3))).gr⟩
              have := HQN.out
              have := HC3.out
              rw [HQB.out]; omega
            · have hyb : (y == sort) = false := by simpa using hys
              go_wp2
              go_meet
              case rel => exact ⟨q2 + 1, by omega, H3.out⟩
        case rest =>
          obtain ⟨q3, hq3, hst3⟩ := hcut
          obtain ⟨wa, rfl⟩ : ∃ wa : World, wa = wc := ⟨_, rfl⟩
          have HST3 := Lib.hid hst3
          have hbx := box_after HBOX.out hst3.gr (by omega)
          have f0 := block_cell hbx 0
          have f1 := block_cell hbx 1
          simp at f0 f1
          clear hst3 hbx
          by_cases hops : 0 < (ops.length : Int)
          · go_wp2_with fail
            refine (pick_any g q3 _ _ HST3.out.rd (by omega)).mono ?_
            rintro e w4 ⟨x, rfl, hx, hr, hg⟩
            have hx := hx.2 (by omega)
            obtain ⟨k, rfl⟩ := Int.eq_ofNat_of_zero_le hx.1
            have hk : k < ops.length := by omega
            have H4 := Lib.hid (HST3.out.later hr hg)
            have hrow := valid_row HV.out hk
            simp only at hrow
            obtain ⟨u', hou, hcells⟩ := HOW.out.nth hk
            obtain ⟨b7, o7, c7, e, hcell⟩ := hcells w4 g (by omega) H4.out.gr
            cases e
            clear hcells
            generalize ops[k] = row at hou hrow
            have hri := (hou.past H4.out.gr (by omega)).reads
            have HOU := Lib.hid hou
            clear hou
            have hr1 := hrow.1
            have hr3 := hrow.2.1
            obtain ⟨m, hml⟩ : ∃ m, row.length = m + 1 := ⟨row.length - 1, by omega⟩
            obtain ⟨b8, o8, c8, rfl, hlast⟩ := hri.at_ (k := row.length - 1) (by omega)
            generalize row[row.length - 1]'(by omega) = lv at hlast
            rw [show row.length - 1 = m by omega] at hlast
            rw [hml] at hcell
            have HML := Lib.hid hml
            have HRI := Lib.hid hri
            have hbx := box_after HBOX.out H4.out.gr (by omega)
            have g0 := block_cell hbx 0
            have g1 := block_cell hbx 1
            simp at g0 g1
            have hk' : (k : Int) < (ops.length : Int) := by omega
            have hk0 : (0 : Int) ≤ (k : Int) := by omega
            have hm2 : m ≤ 2 := by omega
            clear hr hg f0 f1 hri hbx hrow hml
            by_cases hls : lv = sort
            · subst hls
              have hlb : (lv != lv) = false := by simp
              by_cases hdm : D = 0 ∧ 0 < m
              · obtain ⟨rfl, hm0⟩ := hdm
                have hmm : (1 : Int) < (m : Int) + 1 := by omega
                go_wp2
                go_roundw
                case rel => exact ⟨n + 1, q3 + 1, by omega, by go_num, by have := HQN.out; have := HC3.out; omega, H4.out⟩
                case measure => simp [intOf]; omega
              · have hcond : D = 0 → ¬ (1 : Int) < (m : Int) + 1 := fun h => by have : ¬ 0 < m := fun h' => hdm ⟨h, h'⟩; omega
                have HLIT := Lib.hid (lit1 w4 (k : Int) (B := W.heap.size) H4.out.gr.size)
                have H5 := Lib.hid (H4.out.below (below_alloc w4 (.cells #[.int .i64 (k : Int)] 3)))
                have HDM := Lib.hid (show D ≠ 0 ∨ m = 0 by by_cases h : D = 0; exact .inr (by have := hcond h; omega); exact .inl h)
                have main : (D == 0) = true ∧ m = 0 ∨ (D == 0) = false := by
                  by_cases h : D = 0
                  · left; subst h; exact ⟨rfl, by have := hcond rfl; omega⟩
                  · right; simpa using h
                have HMAIN := Lib.hid main
                clear hdm hcond main
                go_upto_region 11 with fail
                go_cut [74] (fun s74 wx => s74 = .bool false ∧ wx = w4)
                case first =>
                  rcases HMAIN.out with ⟨hd0, hm0⟩ | hd0
                  · subst hm0
                    have hz1' := hlast
                    rw [Nat.add_zero] at hz1'
                    go_wp2
                    go_meet
                    case rel => exact ⟨by simp, rfl⟩
                  · go_wp2
                    go_meet
                    case rel => exact ⟨by simp, rfl⟩
                case rest =>
                  obtain ⟨rfl, rfl⟩ := hcut
                  clear g0 g1 hcell hlast HMAIN
                  go_wp2
                  go_loopw [15, 16, 17] (fun o15 j16 p17 wr => ∃ (j : Nat) (xs : List Int) (q5 : Nat), j ≤ m ∧ j16 = .int .i64 j ∧ OInts wr W.heap.size o15 xs ∧ 1 ≤ xs.length ∧ xs.length ≤ 1 + j * Lp d ∧ Small xs ∧ q5 ≤ q3 + 1 + j * Qp d ∧ TermSt W wr g q5) (fun _ j _ _ => m - (intOf j).toNat)
                  case atStart => exact ⟨0, [(k : Int)], q3 + 1, Nat.zero_le _, rfl, HLIT.out, by simp, by simp, small_one (by omega), by omega, H5.out⟩
                  case round =>
                    obtain ⟨j, xs, q5, hj, rfl, ho, hx1, hxl, hsm, hq5, hst5⟩ := hrel
                    obtain ⟨A9, c9, rfl, -⟩ := own_reads ho
                    have HO := Lib.hid ho
                    have HST5 := Lib.hid hst5
                    have HSM := Lib.hid hsm
                    have HLP := Lib.hid (Lp_le hd)
                    have hjL : j * Lp d ≤ 2 * Lp d := Nat.mul_le_mul_right _ (by omega)
                    have hjQ : j * Qp d ≤ 2 * Qp d := Nat.mul_le_mul_right _ (by omega)
                    have HNUM := Lib.hid (And.intro hjL (And.intro hjQ (And.intro hxl hq5)))
                    have hx30 : xs.length ≤ 31 := by have := HLP.out; omega
                    clear ho hst5 hsm hjL hjQ hxl hq5
                    by_cases hjm : j < m
                    · have hjm' : (j : Int) + 1 < (m : Int) + 1 := by omega
                      have hj0 : (0 : Int) ≤ (j : Int) := by omega
                      obtain ⟨d', hdd⟩ : ∃ d', d = d' + 1 := by
                        rcases HDM.out with h | h
                        · exact ⟨d - 1, by have := HD.out; omega⟩
                        · omega
                      have hwD : IntKind.i64.wrap (D - 1) = (d' : Int) := by rw [IntKind.wrap_i64, HD.out, hdd]; omega
                      have HLQ := Lib.hid (show Lp d = Lb d' ∧ Qp d = Qb d' by rw [hdd]; exact ⟨rfl, rfl⟩)
                      have HCB := Lib.hid (Cb_eq d)
                      obtain ⟨b9, o9, c10, e, hx⟩ := (HOU.out.past HST5.out.gr (by omega)).reads.at_ (k := j) (by have := HML.out; omega)
                      cases e
                      generalize row[j]'(by have := HML.out; omega) = y at hx
                      have hbx := box_after HBOX.out HST5.out.gr (by omega)
                      have g0 := block_cell hbx 0
                      have g1 := block_cell hbx 1
                      simp at g0 g1
                      have hz5 : W.heap.size ≤ wr.heap.size := HST5.out.gr.size
                      have HBND := Lib.hid (show q5 + Qb d' ≤ 1000000000 by
                        have h1 := HNUM.out.2.2.2
                        have h2 := HLQ.out.2
                        have h3 := HCB.out
                        have h4 := HQN.out.2
                        have h5 : (j + 1) * Qp d ≤ 2 * Qp d := Nat.mul_le_mul_right _ (by omega)
                        have h6 : (j + 1) * Qp d = j * Qp d + Qp d := Nat.succ_mul _ _
                        omega)
                      clear hbx
                      go_wp2_with fail
                      have ea := World.new_ne wr _ g0
                      have eb := World.new_ne wr _ hx
                      have hjm2 : (j : Int) < (m : Int) + 1 := by omega
                      have HS5 := Lib.hid (HSW.out.past HST5.out.gr (by omega))
                      have HV5 := Lib.hid (HVW.out.past HST5.out.gr (by omega))
                      go_region_held3 (fun w' => w'.cell? ⟨w.heap.size, 0, none⟩ = some (.int .i64 sorts) ∧ w'.cell? ⟨w.heap.size, 1, none⟩ = some (.slice (some ⟨b7, o7, none⟩) ops.length c) ∧ w'.cell? ⟨b8, o8 + j, none⟩ = some (.int .i64 y)) (first | go_keep | exact ⟨j0, j1, j2⟩)
                        (first
                          | (go_at_call 113; refine (HIH.out d' hdd g q5 y _ _ wr.drew HST5.out.rd HBND.out HS5.out HV5.out).mono ?_; rintro e w6 ⟨pv, ys, q6, rfl, -, hoy, hly, hsy, hr6, hq6, hg6⟩; have HG6 := Lib.hid (gr_drew hg6); have HOY := Lib.hid hoy; obtain ⟨Ay, cy, rfl, -⟩ := own_reads hoy; have HSY := Lib.hid hsy; have HST6 := Lib.hid (HST5.out.later hr6 (gr_drew hg6)); have HLY := Lib.hid hly; have j0 := block_cell (box_after HBOX.out HST6.out.gr (by omega)) 0; have j1 := block_cell (box_after HBOX.out HST6.out.gr (by omega)) 1; have j2 : w6.cell? ⟨b8, o8 + j, none⟩ = some (.int .i64 y) := cell_gr (gr_drew hg6) hx (by have := own_lt HOU.out b8 rfl; omega); clear hoy hsy hr6 hg6 hly))
                      clear j0 j1 j2 g0 g1 ea eb hx
                      have HQ6 := Lib.hid (show q6 ≤ q3 + 1 + (j + 1) * Qp d by
                        have h1 := HNUM.out.2.2.2
                        have h2 := HLQ.out.2
                        have h6 : (j + 1) * Qp d = j * Qp d + Qp d := Nat.succ_mul _ _
                        omega)
                      clear hq6
                      by_cases hy0 : ys.length = 0
                      · go_wp2
                        go_roundw
                        case rel =>
                          refine ⟨n + 1, q6, by omega, by go_num, ?_, HST6.out.below (below_alloc w6 (.cells #[] 3))⟩
                          have h1 := HQ6.out
                          have h3 := HCB.out
                          have h4 := HQN.out.1
                          have h5 : (j + 1) * Qp d ≤ 2 * Qp d := Nat.mul_le_mul_right _ (by omega)
                          omega
                        case measure => simp [intOf]; omega
                      · have hyb : ((ys.length : Int) == 0) = false := by rw [beq_eq_false_iff_ne]; omega
                        obtain ⟨by_, oy, c11, e, -⟩ := HOY.out.reads.at_ (k := 0) (by omega)
                        cases e
                        have HNEWS := Lib.hid (news_of HOY.out.reads)
                        have hown6 := own_past HO.out HG6.out hgW
                        have hz6 : W.heap.size ≤ w6.heap.size := Nat.le_trans hz5 HG6.out.size
                        have hyl : ys.length ≤ 15 := by have := HLY.out; have := HLP.out; have := HLQ.out.1; omega
                        go_wp2_with (at_builtin; refine wpList_append_own _ rfl _ _ 26 rfl W.heap.size 3 i0 (.int .i64 0) 1 8 Try.underlying26 hi hz0 hz1 hz2 rfl (by decide) _ xs.length (xs.map (Value.int .i64)) rfl hown6 ⟨by_, oy, none⟩ ys.length cy (ys.map (Value.int .i64)) rfl (by simp) HNEWS.out (ints_one _) (by rw [maxLen_eq]; omega) (by omega) hz6 ?_)
                        intro v' w7 hown7 hgrow7 _
                        have HO7 := Lib.hid (app_own rfl hown7)
                        have hb6 : ∀ k, (Value.slice A9 xs.length c9).ownBlock = some k → W.heap.size ≤ k := fun k e => (own_lt HO.out k e).1
                        have HST7 := Lib.hid (show TermSt W w7 g q6 from ⟨HST6.out.rd.grown hgrow7 (fun k e => by have := hb6 k e; omega), gr_trans HST6.out.gr hgrow7 (fun k e => .inr (hb6 k e))⟩)
                        have HLEN := Lib.hid (show (xs ++ ys).length ≤ 1 + (j + 1) * Lp d by
                          have h1 := HNUM.out.2.2.1
                          have h2 := HLQ.out.1
                          have h3 := HLY.out
                          have h6 : (j + 1) * Lp d = j * Lp d + Lp d := Nat.succ_mul _ _
                          rw [List.length_append]; omega)
                        have HSM7 := Lib.hid (show Small (xs ++ ys) from fun x hx => by rcases List.mem_append.1 hx with h | h; exact HSM.out x h; exact HSY.out x h)
                        clear hown7 hgrow7 hown6 hb6
                        go_wp2
                        go_roundw
                        case rel => exact ⟨j + 1, xs ++ ys, q6, by omega, by go_num, HO7.out, by rw [List.length_append]; omega, HLEN.out, HSM7.out, HQ6.out, HST7.out⟩
                        case measure => simp [intOf]; omega
                    · have hjm' : ¬ (j : Int) + 1 < (m : Int) + 1 := by omega
                      have hx0 : (0 : Int) < (xs.length : Int) := by omega
                      go_wp2
                      go_ret
                      refine ⟨_, xs, q5, rfl, own_some HO.out (by omega), HO.out.base (by have := HZW.out; omega), ?_, HSM.out, HST5.out.rd, ?_, gr_more HGW.out HST5.out.gr⟩
                      · have := HNUM.out.1
                        have := HNUM.out.2.2.1
                        rw [Lb_eq]; omega
                      · have h1 := HNUM.out.2.1
                        have h2 := HNUM.out.2.2.2
                        have h3 := Cb_eq d
                        have h4 := HQN.out.2
                        rw [HQB.out]; omega
            · have hlb : (lv != sort) = true := by simpa using hls
              go_wp2
              go_roundw
              case rel => exact ⟨n + 1, q3 + 1, by omega, by go_num, by have := HQN.out; have := HC3.out; omega, H4.out⟩
              case measure => simp [intOf]; omega
          · have ho0 : ops.length = 0 := by omega
            go_wp2
            go_roundw
            case rel => exact ⟨n + 1, q3, by omega, by go_num, by have := HQN.out; have := HC3.out; omega, HST3.out⟩
            case measure => simp [intOf]; omega
    · have hlt' : ¬ (n : Int) < 12 := by omega
      have hqf : q ≤ p + 12 * Cb d := by have : n * Cb d ≤ 12 * Cb d := Nat.mul_le_mul_right _ hn; omega
      have HQF := Lib.hid hqf
      clear hqf hq
      go_wp2
      go_loop [18] (fun i => ∃ k : Nat, k ≤ vars.length ∧ i = .int .i64 k) (fun i => vars.length - (intOf i).toNat)
      case atStart => exact ⟨0, Nat.zero_le _, rfl⟩
      case round =>
        obtain ⟨k, hk, rfl⟩ := hrel
        by_cases hkl : k < vars.length
        · obtain ⟨b6, o6, c6, e, hy⟩ := (HVW.out.past HST.out.gr (by omega)).reads.at_ hkl
          cases e
          generalize vars[k] = y at hy
          have hk' : (k : Int) < (vars.length : Int) := by omega
          have hk0 : (0 : Int) ≤ (k : Int) := by omega
          by_cases hys : y = sort
          · subst hys
            go_wp2
            go_ret
            have hz := HST.out.gr.size
            refine ⟨_, [100 + (k : Int)], q, rfl, ⟨_, _, rfl⟩, lit1 wr _ (by have := HZW.out; omega), by cases d <;> simp [Lb], small_one (by omega), (HST.out.below (below_alloc wr (.cells #[.int .i64 (100 + (k : Int))] 3))).rd, ?_, gr_more HGW.out (HST.out.below (below_alloc wr (.cells #[.int .i64 (100 + (k : Int))] 3))).gr⟩
            have := HQF.out
            rw [HQB.out]; omega
          · have hyb : (y == sort) = false := by simpa using hys
            go_wp2
            go_round
            case rel => exact ⟨k + 1, by omega, by go_num⟩
            case measure => simp [intOf]; omega
        · have hk' : ¬ (k : Int) < (vars.length : Int) := by omega
          go_wp2
          go_ret
          have hz := HST.out.gr.size
          refine ⟨_, [], q, rfl, ⟨_, _, rfl⟩, lit0 wr (by have := HZW.out; omega), by simp, fun x hx => by simp at hx, (HST.out.below (below_alloc wr (.cells #[] 3))).rd, ?_, gr_more HGW.out (HST.out.below (below_alloc wr (.cells #[] 3))).gr⟩
          have := HQF.out
          rw [HQB.out]; omega

theorem dterm_any (s : MSig) (vars : List Int) (hv : validB s = true) (hvl : vars.length ≤ 1000) : ∀ d, d ≤ 4 → DTermAt s vars d := by
  intro d
  induction d with
  | zero => intro _; exact dterm_step s vars hv hvl 0 (by omega) (fun d' h => by omega)
  | succ d ih => intro hd; exact dterm_step s vars hv hvl (d + 1) hd (fun d' h => by have e : d' = d := (by omega); subst e; exact ih (by omega))
end

section
open Go.RowKit
set_option linter.unusedVariables false
set_option linter.unusedSimpArgs false

def OEqD (w : World) (B : Nat) (v : Value) (e : MEq) : Prop := ∃ a b c, v = .agg #[a, b, c] ∧ OInts w B a e.vars ∧ OInts w B b e.left ∧ OInts w B c e.right
theorem OEqD.keep {w w' : World} {B : Nat} {v : Value} {e : MEq} (h : OEqD w B v e) (hb : Below w.heap.size w w') : OEqD w' B v e := by
  obtain ⟨a, b, c, rfl, h1, h2, h3⟩ := h; exact ⟨a, b, c, rfl, h1.keep hb, h2.keep hb, h3.keep hb⟩
theorem OEqD.base {w : World} {B B' : Nat} {v : Value} {e : MEq} (h : OEqD w B v e) (hB : B' ≤ B) : OEqD w B' v e := by
  obtain ⟨a, b, c, rfl, h1, h2, h3⟩ := h; exact ⟨a, b, c, rfl, h1.base hB, h2.base hB, h3.base hB⟩
theorem OEqD.past {w w' : World} {B g : Nat} {v : Value} {e : MEq} (h : OEqD w B v e) (hg : w.grownBy w' (some g)) (hB : g < B) : OEqD w' B v e := by
  obtain ⟨a, b, c, rfl, h1, h2, h3⟩ := h; exact ⟨a, b, c, rfl, h1.past hg hB, h2.past hg hB, h3.past hg hB⟩
theorem OEqD.reads {w : World} {B : Nat} {v : Value} {e : MEq} (h : OEqD w B v e) : REq w v e := by
  obtain ⟨a, b, c, rfl, h1, h2, h3⟩ := h; exact ⟨a, b, c, rfl, h1.reads, h2.reads, h3.reads⟩
theorem OInts.low {w : World} {B b : Nat} {v x : Value} {xs : List Int} (h : OInts w B v xs) (hb : b < B) (i : Nat) : OInts (w.setCell ⟨b, i, none⟩ x) B v xs := ownsRow_setCell_below h hb _
/-- three cells of a box are written -/
theorem box3_set {w : World} {b : Nat} {x y z a c d : Value} {t : TypeId} (h : w.heap[b]? = some (.cells #[x, y, z] t (0, 0))) :
    (((w.setCell ⟨b, 0, none⟩ a).setCell ⟨b, 1, none⟩ c).setCell ⟨b, 2, none⟩ d).heap[b]? = some (.cells #[a, c, d] t (0, 0)) := block_set (block_set (block_set h 0 a) 1 c) 2 d
theorem keep3 {w : World} {b c i : Nat} {x y z u : Value} (h : w.cell? ⟨c, i, none⟩ = some u) (hne : c ≠ b) : (((w.setCell ⟨b, 0, none⟩ x).setCell ⟨b, 1, none⟩ y).setCell ⟨b, 2, none⟩ z).cell? ⟨c, i, none⟩ = some u :=
  (World.cell?_of_block (((Below.heap_setCell _ ⟨b, 2, none⟩ z c hne).trans (Below.heap_setCell _ ⟨b, 1, none⟩ y c hne)).trans (Below.heap_setCell w ⟨b, 0, none⟩ x c hne))).trans h
theorem gr_box3 {W w : World} {g b : Nat} (h : W.grownBy w (some g)) (hb : W.heap.size ≤ b) (x y z : Value) : W.grownBy (((w.setCell ⟨b, 0, none⟩ x).setCell ⟨b, 1, none⟩ y).setCell ⟨b, 2, none⟩ z) (some g) :=
  gr_setCell (gr_setCell (gr_setCell h (.inr hb) x) (.inr hb) y) (.inr hb) z
def EqSt (W wy : World) (g b q : Nat) (vv lv rv : Value) (e : MEq) : Prop :=
  wy.heap[b]? = some (.cells #[vv, lv, rv] 37 (0, 0)) ∧ W.heap.size ≤ b ∧ TermSt W wy g q ∧ OInts wy W.heap.size vv e.vars ∧ OInts wy W.heap.size lv e.left ∧ OInts wy W.heap.size rv e.right
/-- the terms are drawn and the box stands: its cells are written -/
theorem EqSt.stored {W w : World} {g b q : Nat} {vv lv rv x y z : Value} {e : MEq} (hz : w.heap[b]? = some (.cells #[x, y, z] 37 (0, 0))) (hst : TermSt W w g q) (hb : W.heap.size ≤ b) (hg : g < W.heap.size)
    (h1 : OInts w W.heap.size vv e.vars) (h1n : vv.ownBlock ≠ some b) (h2 : OInts w W.heap.size lv e.left) (h2n : lv.ownBlock ≠ some b) (h3 : OInts w W.heap.size rv e.right) (h3n : rv.ownBlock ≠ some b) :
    EqSt W (((w.setCell ⟨b, 0, none⟩ vv).setCell ⟨b, 1, none⟩ lv).setCell ⟨b, 2, none⟩ rv) g b q vv lv rv e := by
  have hgr : w.grownBy (((w.setCell ⟨b, 0, none⟩ vv).setCell ⟨b, 1, none⟩ lv).setCell ⟨b, 2, none⟩ rv) (some b) :=
    gr_setCell (gr_setCell (gr_setCell (gr_refl w b) (.inl rfl) vv) (.inl rfl) lv) (.inl rfl) rv
  refine ⟨box3_set hz, hb, ⟨((hst.rd.setCell (by omega) vv).setCell (by omega) lv).setCell (by omega) rv, gr_box3 hst.gr hb _ _ _⟩, own_grown h1 hgr (.inr h1n), own_grown h2 hgr (.inr h2n), own_grown h3 hgr (.inr h3n)⟩
def EqPost (g p : Nat) (w : World) (e : Ending) (w' : World) : Prop :=
  ∃ (v : Value) (eq : MEq) (q : Nat), e = .returned v ∧ OEqD w' w.heap.size v eq ∧ SmallE eq ∧ eq.vars.length ≤ 5 ∧ eq.left.length ≤ 7 ∧ eq.right.length ≤ 7 ∧ (∃ a b ad c, v = .agg #[a, b, .slice (some ad) eq.right.length c]) ∧ RRd w' g q ∧ q ≤ p + 500000 ∧ w.grownBy w' (some g)
/-- the result is written -/
theorem eq_done {w W wz : World} {g q : Nat} {vv lv rv : Value} {e : MEq} (hres : wz.heap[w.heap.size + 1]? = some (.cells #[.slice none 0 0, .slice none 0 0, .slice none 0 0] 37 (0, 0))) (ht : TermSt W wz g q) (hW : W.heap.size = w.heap.size + 2) (hgw : w.grownBy W (some g)) (hg : g < w.heap.size)
    (h1 : OInts wz W.heap.size vv e.vars) (h2 : OInts wz W.heap.size lv e.left) (h3 : OInts wz W.heap.size rv e.right) :
    let w9 := ((wz.setCell ⟨w.heap.size + 1, 0, none⟩ vv).setCell ⟨w.heap.size + 1, 1, none⟩ lv).setCell ⟨w.heap.size + 1, 2, none⟩ rv
    w9.heap[w.heap.size + 1]? = some (.cells #[vv, lv, rv] 37 (0, 0)) ∧ OEqD w9 w.heap.size (.agg #[vv, lv, rv]) e ∧ RRd w9 g q ∧ w.grownBy w9 (some g) := by
  intro w9
  have low : ∀ {v : Value} {xs : List Int}, OInts wz W.heap.size v xs → OInts w9 w.heap.size v xs := fun {v xs} ho => OInts.base (((ho.low (by omega) 0).low (by omega) 1).low (by omega) 2) (by omega)
  have hgr := gr_more hgw ht.gr
  refine ⟨box3_set hres, ⟨_, _, _, rfl, low h1, low h2, low h3⟩, ((ht.rd.setCell (by omega) vv).setCell (by omega) lv).setCell (by omega) rv, ?_⟩
  exact gr_setCell (gr_setCell (gr_setCell hgr (.inr (by show w.heap.size ≤ w.heap.size + 1; omega)) vv) (.inr (by show w.heap.size ≤ w.heap.size + 1; omega)) lv) (.inr (by show w.heap.size ≤ w.heap.size + 1; omega)) rv
theorem qb1 : Qb 1 = 900 := by decide
theorem qb2 : Qb 2 = 21636 := by decide
theorem lb1' : Lb 1 = 3 := by decide
theorem lb2' : Lb 2 = 7 := by decide

set_option maxHeartbeats 1600000 in
set_option maxRecDepth 100000 in
theorem eqOf_draw (s : MSig) (hv : validB s = true) (g p : Nat) (sv : Value) (w : World) (h : RRd w g p) (hp : p ≤ 1000000) (hs : OSig w (g + 1) sv s) :
    Calls Try.prog 62 #[.pointer (some ⟨g, 0, none⟩), sv] w (EqPost g p w) := by
  obtain ⟨u0, rfl, hoo⟩ := hs
  obtain ⟨sorts, ops⟩ := s
  simp only at hoo
  obtain ⟨A, c, rfl, -⟩ := hoo.reads.form
  have hgl := h.lt
  have hvs := valid_sorts hv
  simp only at hvs
  obtain ⟨W, hW⟩ : ∃ W : World, W = (w.alloc (.cells #[.int .i64 sorts, .slice A ops.length c] 25)).alloc (.cells #[.slice none 0 0, .slice none 0 0, .slice none 0 0] 37) := ⟨_, rfl⟩
  have hbW : Below w.heap.size w W := by rw [hW]; exact (below_alloc _ _).alloc (by simp) _
  have HGW := Lib.hid (show w.grownBy W (some g) by rw [hW]; exact gr_alloc (gr_alloc (gr_refl w g) _) _)
  have HBOX := Lib.hid (show W.heap[w.heap.size]? = some (.cells #[.int .i64 sorts, .slice A ops.length c] 25 (0, 0)) by rw [hW]; exact (heap_alloc_old _ _ (by simp)).trans (heap_alloc_new w _))
  have HRES := Lib.hid (show W.heap[w.heap.size + 1]? = some (.cells #[.slice none 0 0, .slice none 0 0, .slice none 0 0] 37 (0, 0)) by rw [hW]; exact (congrArg (fun i => ((w.alloc (.cells #[.int .i64 sorts, .slice A ops.length c] 25)).alloc (.cells #[.slice none 0 0, .slice none 0 0, .slice none 0 0] 37)).heap[i]?) (by simp)).trans (heap_alloc_new (w.alloc (.cells #[.int .i64 sorts, .slice A ops.length c] 25)) _))
  have HRW := Lib.hid (h.keep hbW)
  have HZW := Lib.hid (show W.heap.size = w.heap.size + 2 by rw [hW]; simp)
  have hzw : W.heap.size = w.heap.size + 2 := HZW.out
  have HSW := Lib.hid (show OSig W (g + 1) (.agg #[.int .i64 sorts, .slice A ops.length c]) ⟨sorts, ops⟩ from (show OSig w (g + 1) (.agg #[.int .i64 sorts, .slice A ops.length c]) ⟨sorts, ops⟩ from ⟨_, rfl, hoo⟩).keep hbW)
  have hW' := hW.symm
  have HV := Lib.hid hv
  have f0 := block_cell HBOX.out 0
  have f1 := block_cell HBOX.out 1
  simp at f0 f1
  clear hbW h hoo hv hW hvs
  go_enter Try.func62, Try.ntmps62
  go_wp2_with fail
  clear hW'
  refine (drawVars_any g p 0 ⟨sorts, ops⟩ _ W HRW.out (by omega) (by omega) (by omega) HSW.out.reads).mono ?_
  rintro e wv ⟨vv, vars, q0, rfl, hov, hvl, hr, hq0, hg⟩
  have HST0 := Lib.hid (show TermSt W wv g q0 from ⟨hr, hg⟩)
  have HOV0 := Lib.hid hov
  clear hov hr hg f0 f1
  go_wp2_with fail
  go_loopw [5, 6, 7, 8] (fun v5 i t7 t8 wr => ∃ (k q : Nat) (vars : List Int), k ≤ 6 ∧ i = .int .i64 k ∧ q ≤ p + 10 + k * 70000 ∧ TermSt W wr g q ∧ OInts wr W.heap.size v5 vars ∧ vars.length ≤ 5) (fun _ i _ _ _ => 6 - (intOf i).toNat)
  case atStart => exact ⟨0, q0, vars, by omega, rfl, by omega, HST0.out, HOV0.out, hvl⟩
  case round =>
    clear HST0 HOV0 hvl hq0
    obtain ⟨k, q, vars, hk, rfl, hq, hst, hov, hvl⟩ := hrel
    obtain ⟨Av, cv, rfl, -⟩ := own_reads hov
    have HST := Lib.hid hst
    have HOV := Lib.hid hov
    have HQ := Lib.hid hq
    have hq' : q ≤ 1500000 := by omega
    have hwr := hst.gr.size
    have hbx := box_after HBOX.out hst.gr (by omega)
    have g0 := block_cell hbx 0
    have g1 := block_cell hbx 1
    simp at g0 g1
    clear hst hov hbx hq
    by_cases hlt : k < 6
    · have hlt' : (k : Int) < 6 := by omega
      go_upto_region 6 with (go_at_call 79; refine (pick_any g q sorts wr HST.out.rd (by omega)).mono ?_; rintro e w3 ⟨x, rfl, hx, hr, hg⟩; have HG3 := Lib.hid hg; have HST3 := Lib.hid (HST.out.later hr hg); clear hr hg hx g0 g1)
      have hz3 := HST3.out.gr.size
      have HOV3 := Lib.hid (HOV.out.past HG3.out (by omega))
      have HS3 := Lib.hid (HSW.out.past HST3.out.gr (by omega))
      have hbx := box_after HBOX.out HST3.out.gr (by omega)
      have g0 := block_cell hbx 0
      have g1 := block_cell hbx 1
      simp at g0 g1
      clear hbx
      go_cut [8] (fun t8 wy => ∃ (b qB : Nat) (lv rv : Value) (ls rs : List Int), t8 = .pointer (some ⟨b, 0, none⟩) ∧ EqSt W wy g b qB (.slice Av vars.length cv) lv rv ⟨vars, ls, rs⟩ ∧ qB ≤ q + 22537 ∧ Small ls ∧ Small rs ∧ ls.length ≤ 7 ∧ rs.length ≤ 7 ∧ (∃ ad c, rv = .slice (some ad) rs.length c))
      case first =>
        go_wp2_with fail
        have ea := World.new_ne w3 _ g0
        have HST3D := Lib.hid (show TermSt W w3.drew g (q + 1) from ⟨HST3.out.rd, ⟨HST3.out.gr.os, HST3.out.gr.tape, HST3.out.gr.output, HST3.out.gr.size, HST3.out.gr.block⟩⟩)
        have HS3D := Lib.hid (show OSig w3.drew (g + 1) (.agg #[.int .i64 sorts, .slice A ops.length c]) ⟨sorts, ops⟩ from HS3.out)
        have HOV3D := Lib.hid (show OInts w3.drew W.heap.size (.slice Av vars.length cv) vars from HOV3.out)
        go_region_held3 (fun w' => w'.cell? ⟨w.heap.size, 0, none⟩ = some (.int .i64 sorts) ∧ w'.cell? ⟨w.heap.size, 1, none⟩ = some (.slice A ops.length c)) (first | go_keep | exact ⟨j0, j1⟩ | exact ⟨i0, i1⟩ | exact ⟨keep3 i0 (by omega), keep3 i1 (by omega)⟩ | exact ⟨keep3 (cell_keep (below_alloc _ _) i0) (by omega), keep3 (cell_keep (below_alloc _ _) i1) (by omega)⟩)
          (first
            | (go_at_call_of 113 (Value.int .i64 1); refine (dterm_any ⟨sorts, ops⟩ vars HV.out (by omega) 1 (by omega) g qA _ _ _ _ (by first | exact HSTA.out.rd | exact (HSTA.out.below (below_alloc wA (.cells #[.slice none 0 0, .slice none 0 0, .slice none 0 0] 37))).rd) (by have := HSL.out.2.2; rw [qb2] at this; rw [qb1]; omega) (by first | exact HSA.out | exact HSA.out.keep (below_alloc wA (.cells #[.slice none 0 0, .slice none 0 0, .slice none 0 0] 37))) (by first | exact HOVA.out.base (by omega) | exact (HOVA.out.keep (below_alloc wA (.cells #[.slice none 0 0, .slice none 0 0, .slice none 0 0] 37))).base (by omega))).mono ?_; rintro e wB ⟨rv, rs, qB, rfl, ⟨adr, cr, rfl⟩, hor, hlr, hsr, hrB, hqB, hgB⟩; have HGB := Lib.hid (show wA.grownBy wB (some g) from by first | exact hgB | exact gr_box hgB); have HSTB := Lib.hid (HSTA.out.later hrB HGB.out); have HOR := Lib.hid (show OInts wB wA.heap.size (.slice (some adr) rs.length cr) rs from hor.base (by first | exact Nat.le_refl _ | simp)); (try have HORN := Lib.hid (show OInts wB (wA.heap.size + 1) (.slice (some adr) rs.length cr) rs from hor.base (by show wA.heap.size + 1 ≤ (wA.alloc (.cells #[.slice none 0 0, .slice none 0 0, .slice none 0 0] 37)).heap.size; simp))); have HSR := Lib.hid (And.intro hsr (And.intro hlr hqB)); (first | have HZB := Lib.hid (gr_at (k := w3.heap.size) hgB (by omega) HZA.out) | have HZB := Lib.hid (gr_at (k := wA.heap.size) hgB (by omega) (heap_alloc_new wA (.cells #[.slice none 0 0, .slice none 0 0, .slice none 0 0] 37))) | skip); have hzB : wA.heap.size ≤ wB.heap.size := HGB.out.size; have i0 := block_cell (box_after HBOX.out HSTB.out.gr (by omega)) 0; have i1 := block_cell (box_after HBOX.out HSTB.out.gr (by omega)) 1; (try (have z0 := block_cell HZB.out 0; have z1 := block_cell HZB.out 1; have z2 := block_cell HZB.out 2; have zf0 := block_free HZB.out 0; have zf1 := block_free HZB.out 1; have zf2 := block_free HZB.out 2; simp at z0 z1 z2)); clear hor hlr hsr hrB hqB hgB)
            | (go_at_call_of 113 (Value.int .i64 2); refine (dterm_any ⟨sorts, ops⟩ vars HV.out (by omega) 2 (by omega) g (q + 1) _ _ _ _ (by first | exact HST3.out.rd | exact (HST3D.out.below (below_alloc _ _)).rd) (by rw [qb2]; omega) (by first | exact HS3.out | exact HS3D.out.keep (below_alloc _ _)) (by first | exact HOV3.out.base (by omega) | exact (HOV3D.out.keep (below_alloc _ _)).base (by omega))).mono ?_; rintro e wA ⟨lv, ls, qA, rfl, ⟨adl, cl, rfl⟩, hol, hll, hsl, hrA, hqA, hgA⟩; have HGA := Lib.hid (show w3.grownBy wA (some g) from by first | exact gr_drew hgA | exact gr_drew (gr_box hgA)); have HSTA := Lib.hid (HST3.out.later hrA HGA.out); have HOL := Lib.hid (show OInts wA W.heap.size (.slice (some adl) ls.length cl) ls from hol.base (by first | exact hz3 | exact Nat.le_trans hz3 (by show w3.heap.size ≤ (w3.alloc (.cells #[.slice none 0 0, .slice none 0 0, .slice none 0 0] 37)).heap.size; simp))); (try have HOLN := Lib.hid (show OInts wA (w3.heap.size + 1) (.slice (some adl) ls.length cl) ls from hol.base (by show w3.heap.size + 1 ≤ (w3.alloc (.cells #[.slice none 0 0, .slice none 0 0, .slice none 0 0] 37)).heap.size; simp))); have HSL := Lib.hid (And.intro hsl (And.intro hll hqA)); have HOVA := Lib.hid (HOV3.out.past HGA.out (by omega)); have HSA := Lib.hid (HS3.out.past HGA.out (by omega)); (try have HZA := Lib.hid (gr_at (k := w3.heap.size) hgA (by omega) (heap_alloc_new w3.drew (.cells #[.slice none 0 0, .slice none 0 0, .slice none 0 0] 37)))); have hzA : w3.heap.size ≤ wA.heap.size := HGA.out.size; have j0 := block_cell (box_after HBOX.out HSTA.out.gr (by omega)) 0; have j1 := block_cell (box_after HBOX.out HSTA.out.gr (by omega)) 1; clear hol hll hsl hrA hqA hgA))
        all_goals
          have hqB := HSR.out.2.2
          have hqA := HSL.out.2.2
          have hlr := HSR.out.2.1
          have hll := HSL.out.2.1
          rw [qb1] at hqB
          rw [qb2] at hqA
          rw [lb1'] at hlr
          rw [lb2'] at hll
          have HOVB := Lib.hid (HOVA.out.past HGB.out (by omega))
          have HOLB := Lib.hid (HOL.out.past HGB.out (by omega))
          have HORB := Lib.hid (HOR.out.base (B' := W.heap.size) (by omega))
          clear j0 j1 i0 i1 g0 g1 ea
          go_wp2
          go_meet
          case rel => first
            | exact ⟨w3.heap.size, qB, _, _, ls, rs, rfl, EqSt.stored HZB.out HSTB.out hz3 (by omega) HOVB.out (fun e => by have := own_lt HOV3.out _ e; omega) HOLB.out (fun e => by have := own_lt HOLN.out _ e; omega) HORB.out (fun e => by have := own_lt HOR.out _ e; have := (Array.getElem?_eq_some_iff.1 HZA.out).1; omega), by omega, HSL.out.1, HSR.out.1, hll, by omega, ⟨_, _, rfl⟩⟩
            | exact ⟨wA.heap.size, qB, _, _, ls, rs, rfl, EqSt.stored HZB.out HSTB.out (by omega) (by omega) HOVB.out (fun e => by have := own_lt HOV3.out _ e; omega) HOLB.out (fun e => by have := own_lt HOL.out _ e; omega) HORB.out (fun e => by have := own_lt HORN.out _ e; omega), by omega, HSL.out.1, HSR.out.1, hll, by omega, ⟨_, _, rfl⟩⟩
            | exact ⟨wB.heap.size, qB, _, _, ls, rs, rfl, ⟨heap_alloc_new wB _, by omega, HSTB.out.below (below_alloc wB _), HOVB.out.keep (below_alloc wB _), HOLB.out.keep (below_alloc wB _), HORB.out.keep (below_alloc wB _)⟩, by omega, HSL.out.1, HSR.out.1, hll, by omega, ⟨_, _, rfl⟩⟩
      case rest =>
        obtain ⟨b, qB, lv, rv, ls, rs, rfl, hst, hqB, hsl, hsr, hll, hlr, ⟨adr, cr, rfl⟩⟩ := hcut
        obtain ⟨wy, rfl⟩ : ∃ wy : World, wy = wc := ⟨_, rfl⟩
        obtain ⟨hbx, hbW, htm, hov, hol, hor⟩ := hst
        simp only at hov hol hor
        obtain ⟨Al, cl, rfl, -⟩ := own_reads hol
        have HTM := Lib.hid htm
        have HOW := Lib.hid (And.intro hov (And.intro hol hor))
        have HSM := Lib.hid (And.intro hsl hsr)
        have HRE := Lib.hid (show REq wy (.agg #[.slice Av vars.length cv, .slice Al ls.length cl, .slice (some adr) rs.length cr]) ⟨vars, ls, rs⟩ from ⟨_, _, _, rfl, hov.reads, hol.reads, hor.reads⟩)
        have HRS := Lib.hid (HSW.out.past htm.gr (by omega)).reads
        have hbs := box_after HBOX.out htm.gr (by omega)
        clear g0 g1
        have g0 := block_cell hbs 0
        have g1 := block_cell hbs 1
        have e0 := block_cell hbx 0
        have e1 := block_cell hbx 1
        have e2 := block_cell hbx 2
        simp at g0 g1 e0 e1 e2
        clear hbx hbs htm hov hol hor hsl hsr
        cases heq : eqOkB ⟨sorts, ops⟩ ⟨vars, ls, rs⟩ with
        | true =>
          have HEQ := Lib.hid heq
          clear heq
          go_wp2_with fail
          refine (specEqOk_any ⟨sorts, ops⟩ ⟨vars, ls, rs⟩ wy _ _ HRS.out HRE.out).mono ?_
          rw [HEQ.out]
          rintro e wz ⟨rfl, hb⟩
          have HTZ := Lib.hid (HTM.out.below hb)
          have hrz := box_after HRES.out HTZ.out.gr (by omega)
          have HOZ := Lib.hid (And.intro (HOW.out.1.keep hb) (And.intro (HOW.out.2.1.keep hb) (HOW.out.2.2.keep hb)))
          replace e0 := cell_keep hb e0
          replace e1 := cell_keep hb e1
          replace e2 := cell_keep hb e2
          have D := Lib.hid (eq_done (e := ⟨vars, ls, rs⟩) hrz HTZ.out HZW.out HGW.out hgl HOZ.out.1 HOZ.out.2.1 HOZ.out.2.2)
          have r0 := block_cell hrz 0
          have r1 := block_cell hrz 1
          have r2 := block_cell hrz 2
          have rf0 := block_free hrz 0
          have rf1 := block_free hrz 1
          have rf2 := block_free hrz 2
          simp at r0 r1 r2
          clear hb hrz g0 g1
          go_wp2
          obtain ⟨d1, d2, d3, d4⟩ := D.out
          generalize ((wz.setCell ⟨w.heap.size + 1, 0, none⟩ (.slice Av vars.length cv)).setCell ⟨w.heap.size + 1, 1, none⟩ (.slice Al ls.length cl)).setCell ⟨w.heap.size + 1, 2, none⟩ (.slice (some adr) rs.length cr) = w9 at d1 d2 d3 d4 ⊢
          have k0 := block_cell d1 0
          have k1 := block_cell d1 1
          have k2 := block_cell d1 2
          simp at k0 k1 k2
          clear r0 r1 r2 rf0 rf1 rf2 e0 e1 e2
          refine bodyPost_ret (v := .agg #[.slice Av vars.length cv, .slice Al ls.length cl, .slice (some adr) rs.length cr]) (by simp [results, Try.results62, go_sem, k0, k1, k2]) rfl ?_
          exact ⟨_, ⟨vars, ls, rs⟩, qB, rfl, d2, HSM.out, hvl, hll, hlr, ⟨_, _, _, _, rfl⟩, d3, by have := HQ.out; omega, d4⟩
        | false =>
          have HEQ := Lib.hid heq
          clear heq
          go_wp2_with fail
          refine (specEqOk_any ⟨sorts, ops⟩ ⟨vars, ls, rs⟩ wy _ _ HRS.out HRE.out).mono ?_
          rw [HEQ.out]
          rintro e wz ⟨rfl, hb⟩
          have HTZ := Lib.hid (HTM.out.below hb)
          have HRSZ := Lib.hid (HRS.out.keep hb)
          replace g0 := cell_keep hb g0
          replace g1 := cell_keep hb g1
          clear hb e0 e1 e2
          go_wp2_with fail
          refine (drawVars_any g qB 0 ⟨sorts, ops⟩ _ wz HTZ.out.rd (by omega) (by omega) (by omega) HRSZ.out).mono ?_
          rintro e wv ⟨vw, vars', q', rfl, hov, hvl', hr, hq', hg⟩
          have HTV := Lib.hid (HTZ.out.later hr hg)
          have HOX := Lib.hid (hov.base (B' := W.heap.size) HTZ.out.gr.size)
          clear hov hr hg g0 g1
          go_wp2
          go_roundw
          case rel => exact ⟨k + 1, q', vars', by omega, by go_num, by have := HQ.out; omega, HTV.out, HOX.out, hvl'⟩
          case measure => simp [intOf]; omega
    · have hlt' : ¬ (k : Int) < 6 := by omega
      have O1 := (lit1 wr 0 hwr).keep ((below_alloc (wr.alloc (.cells #[.int .i64 0] 3)) (.cells #[.int .i64 100] 3)).trans ((below_alloc _ (.cells #[.int .i64 100] 3)).mono (by simp)))
      have O2 := (lit1 (wr.alloc (.cells #[.int .i64 0] 3)) 100 (B := W.heap.size) (by simp; omega)).keep (below_alloc _ (.cells #[.int .i64 100] 3))
      have O3 := lit1 ((wr.alloc (.cells #[.int .i64 0] 3)).alloc (.cells #[.int .i64 100] 3)) 100 (B := W.heap.size) (by simp; omega)
      simp only [World.size_alloc] at O2 O3
      have hb3 := (below_alloc wr (.cells #[.int .i64 0] 3)).trans (((below_alloc (wr.alloc (.cells #[.int .i64 0] 3)) (.cells #[.int .i64 100] 3)).trans ((below_alloc _ (.cells #[.int .i64 100] 3)).mono (by simp))).mono (by simp))
      have HTZ := Lib.hid (HST.out.below hb3)
      have hrz := box_after HRES.out HTZ.out.gr (by omega)
      generalize hW3 : ((wr.alloc (.cells #[.int .i64 0] 3)).alloc (.cells #[.int .i64 100] 3)).alloc (.cells #[.int .i64 100] 3) = wz at O1 O2 O3 hb3 HTZ hrz
      have D := Lib.hid (eq_done (e := ⟨[0], [100], [100]⟩) hrz HTZ.out HZW.out HGW.out hgl O1 O2 O3)
      have r0 := block_cell hrz 0
      have r1 := block_cell hrz 1
      have r2 := block_cell hrz 2
      have rf0 := block_free hrz 0
      have rf1 := block_free hrz 1
      have rf2 := block_free hrz 2
      simp at r0 r1 r2
      clear hb3 hrz g0 g1 O1 O2 O3
      go_wp2
      clear hW3
      obtain ⟨d1, d2, d3, d4⟩ := D.out
      generalize ((wz.setCell ⟨w.heap.size + 1, 0, none⟩ (.slice (some ⟨wr.heap.size, 0, none⟩) 1 1)).setCell ⟨w.heap.size + 1, 1, none⟩ (.slice (some ⟨wr.heap.size + 1, 0, none⟩) 1 1)).setCell ⟨w.heap.size + 1, 2, none⟩ (.slice (some ⟨wr.heap.size + 1 + 1, 0, none⟩) 1 1) = w9 at d1 d2 d3 d4 ⊢
      have k0 := block_cell d1 0
      have k1 := block_cell d1 1
      have k2 := block_cell d1 2
      simp at k0 k1 k2
      clear r0 r1 r2 rf0 rf1 rf2
      refine bodyPost_ret (v := .agg #[.slice (some ⟨wr.heap.size, 0, none⟩) 1 1, .slice (some ⟨wr.heap.size + 1, 0, none⟩) 1 1, .slice (some ⟨wr.heap.size + 1 + 1, 0, none⟩) 1 1]) (by simp [results, Try.results62, go_sem, k0, k1, k2]) rfl ?_
      exact ⟨_, ⟨[0], [100], [100]⟩, q, rfl, d2, ⟨by intro x hx; simp at hx; subst hx; decide, by intro x hx; simp at hx; subst hx; decide⟩, by simp, by simp, by simp, ⟨_, _, _, _, rfl⟩, d3, by have := HQ.out; omega, d4⟩
end

section
open Go.RowKit
set_option linter.unusedVariables false
set_option linter.unusedSimpArgs false

theorem blk_two {w : World} {b c i : Nat} {o : Obj} {y : Value} (h : w.heap[c]? = some o) (hne : c ≠ b) : (w.setCell ⟨b, i, none⟩ y).heap[c]? = some o := (Below.heap_setCell w ⟨b, i, none⟩ y c hne).trans h
theorem small_snocE {t : List Int} (h : Small t) : Small (t ++ [100]) := fun x hx => by
  rcases List.mem_append.1 hx with hx | hx
  · exact h x hx
  · simp at hx; omega
def DrawEqPost (w : World) (e : Ending) (w' : World) : Prop :=
  ∃ (sv : Value) (s : MSig) (ev : Value) (eq : MEq), e = .returned (.tuple #[sv, ev]) ∧ OSig w' w.heap.size sv s ∧ OEqD w' w.heap.size ev eq ∧ SmallE eq ∧ eq.vars.length ≤ 5 ∧ eq.left.length ≤ 8 ∧ eq.right.length ≤ 8 ∧ s.ops.length ≤ 5 ∧ Below w.heap.size w w'
/-- both results are written; b: where they lie -/
theorem eq_fin {wz : World} {b B : Nat} {sorts : Int} {u vv lv rv : Value} {rows : List (List Int)} {e : MEq} {w : World} (hs : wz.heap[b]? = some (.cells #[.int .i64 0, .slice none 0 0] 25 (0, 0))) (he : wz.heap[b + 1]? = some (.cells #[.slice none 0 0, .slice none 0 0, .slice none 0 0] 37 (0, 0)))
    (ho : ORows wz B u rows) (hB : b + 1 < B) (h1 : OInts wz B vv e.vars) (h2 : OInts wz B lv e.left) (h3 : OInts wz B rv e.right) (hb : Below b w wz) :
    let w9 := ((((wz.setCell ⟨b, 0, none⟩ (.int .i64 sorts)).setCell ⟨b, 1, none⟩ u).setCell ⟨b + 1, 0, none⟩ vv).setCell ⟨b + 1, 1, none⟩ lv).setCell ⟨b + 1, 2, none⟩ rv
    w9.heap[b]? = some (.cells #[.int .i64 sorts, u] 25 (0, 0)) ∧ w9.heap[b + 1]? = some (.cells #[vv, lv, rv] 37 (0, 0)) ∧ OSig w9 b (.agg #[.int .i64 sorts, u]) ⟨sorts, rows⟩ ∧ OEqD w9 b (.agg #[vv, lv, rv]) e ∧ Below b w w9 := by
  intro w9
  have a1 := block_set (block_set hs 0 (.int .i64 sorts)) 1 u
  have a2 : ((wz.setCell ⟨b, 0, none⟩ (.int .i64 sorts)).setCell ⟨b, 1, none⟩ u).heap[b + 1]? = _ := blk_two (blk_two he (by omega)) (by omega)
  have low : ∀ {v : Value} {xs : List Int}, OInts wz B v xs → OInts w9 b v xs := fun {v xs} ho => OInts.base (((((ho.low (by omega) 0).low (by omega) 1).low (by omega) 0).low (by omega) 1).low (by omega) 2) (by omega)
  refine ⟨blk_two (blk_two (blk_two a1 (by omega)) (by omega)) (by omega), box3_set a2, ⟨_, rfl, ?_⟩, ⟨_, _, _, rfl, low h1, low h2, low h3⟩, ?_⟩
  · exact (((((ho.setLow' (by omega) 0 _).setLow' (by omega) 1 _).setLow' (by omega) 0 _).setLow' (by omega) 1 _).setLow' (by omega) 2 _).base (by omega)
  · exact ((((hb.setCell (p := ⟨b, 0, none⟩) (Nat.le_refl _) _).setCell (p := ⟨b, 1, none⟩) (Nat.le_refl _) _).setCell (p := ⟨b + 1, 0, none⟩) (by show b ≤ b + 1; omega) _).setCell (p := ⟨b + 1, 1, none⟩) (by show b ≤ b + 1; omega) _).setCell (p := ⟨b + 1, 2, none⟩) (by show b ≤ b + 1; omega) _

theorem sig_drew {x : World} {b : Nat} {v : Value} {s : MSig} (h : OSig x b v s) : OSig x.drew b v s := h
theorem ints_drew {x : World} {b : Nat} {v : Value} {s : List Int} (h : OInts x b v s) : OInts x.drew b v s := h
theorem eqd_drew {x : World} {b : Nat} {v : Value} {e : MEq} (h : OEqD x b v e) : OEqD x.drew b v e := by
  obtain ⟨a, b, c, rfl, h1, h2, h3⟩ := h; exact ⟨a, b, c, rfl, ints_drew h1, ints_drew h2, ints_drew h3⟩
theorem fin_drew {x w : World} {b : Nat} {o1 o2 : Option Obj} {v u : Value} {s : MSig} {e : MEq} (h : x.heap[b]? = o1 ∧ x.heap[b + 1]? = o2 ∧ OSig x b v s ∧ OEqD x b u e ∧ Below b w x) :
    x.drew.heap[b]? = o1 ∧ x.drew.heap[b + 1]? = o2 ∧ OSig x.drew b v s ∧ OEqD x.drew b u e ∧ Below b w x.drew := ⟨h.1, h.2.1, sig_drew h.2.2.1, eqd_drew h.2.2.2.1, map_drew h.2.2.2.2⟩

set_option maxHeartbeats 3200000 in
set_option maxRecDepth 100000 in
theorem drawEqOk_any (v : Value) (bs : List Int) (w : World) (h : RBytes w w.heap.size v bs) :
    Calls Try.prog 14 #[v] w (DrawEqPost w) := by
  obtain ⟨i0, hi0, hy0, hy1, hy2⟩ := info_parts Try.tinfo_int
  obtain ⟨W, hW⟩ : ∃ W : World, W = (w.alloc (.cells #[.int .i64 0, .slice none 0 0] 25)).alloc (.cells #[.slice none 0 0, .slice none 0 0, .slice none 0 0] 37) := ⟨_, rfl⟩
  have hb0 : Below w.heap.size w W := by rw [hW]; exact (below_alloc _ _).alloc (by simp) _
  have HB0 := Lib.hid hb0
  have HZ0 := Lib.hid (show W.heap.size = w.heap.size + 2 by rw [hW]; simp)
  have HRS0 := Lib.hid (show W.heap[w.heap.size]? = some (.cells #[.int .i64 0, .slice none 0 0] 25 (0, 0)) by rw [hW]; exact (heap_alloc_old _ _ (by simp)).trans (heap_alloc_new w _))
  have HRE0 := Lib.hid (show W.heap[w.heap.size + 1]? = some (.cells #[.slice none 0 0, .slice none 0 0, .slice none 0 0] 37 (0, 0)) by rw [hW]; exact (congrArg (fun i => ((w.alloc (.cells #[.int .i64 0, .slice none 0 0] 25)).alloc (.cells #[.slice none 0 0, .slice none 0 0, .slice none 0 0] 37)).heap[i]?) (by simp)).trans (heap_alloc_new (w.alloc (.cells #[.int .i64 0, .slice none 0 0] 25)) _))
  have HW := Lib.hid (bytes_alloc h hb0)
  obtain ⟨A, c, rfl, -⟩ := h
  have hW' := hW.symm
  clear hb0 hW
  go_enter Try.func14, Try.ntmps14
  go_wp2_with fail
  clear hW'
  refine (open_any _ bs _ HW.out).mono ?_
  rintro e w1 ⟨rfl, hr1, hb1⟩
  rw [HZ0.out] at hr1
  have HR1 := Lib.hid hr1
  have HB1 := Lib.hid hb1
  rw [HZ0.out]
  clear hr1 hb1
  go_wp2_with fail
  refine (sig_any (w.heap.size + 2) 0 _ _ HR1.out (by omega) (by omega) (by omega)).mono ?_
  rintro e w2 ⟨sv, ⟨sorts, rows⟩, q, rfl, ⟨u, rfl, ho⟩, hs1, hr2, hq2, hg2⟩
  obtain ⟨Au, cu, rfl, -⟩ := ho.reads.form
  simp only at hs1 ho
  have hzW := HZ0.out
  have hz1 := HB1.out.size
  have hz2 : w1.heap.size ≤ w2.heap.size := hg2.size
  have hlt1 : w.heap.size + 2 < w1.heap.size := HR1.out.lt
  have hal := below_alloc w2 (.cells #[.int .i64 sorts, .slice Au rows.length cu] 25)
  have HG3 := Lib.hid (gr_alloc hg2 (.cells #[.int .i64 sorts, .slice Au rows.length cu] 25))
  have HBX := Lib.hid (heap_alloc_new w2 (.cells #[.int .i64 sorts, .slice Au rows.length cu] 25))
  have HO := Lib.hid (ho.keep hal)
  have HR := Lib.hid (hr2.keep hal)
  clear ho hr2 hg2 hal
  generalize hW3 : w2.alloc (.cells #[.int .i64 sorts, .slice Au rows.length cu] 25) = w3 at HG3 HBX HO HR
  have hz3 : w2.heap.size < w3.heap.size := (Array.getElem?_eq_some_iff.1 HBX.out).1
  have g0 := block_cell HBX.out 0
  have g1 := block_cell HBX.out 1
  simp at g0 g1
  have HRS := Lib.hid (show RSig w3 (.agg #[.int .i64 sorts, .slice Au rows.length cu]) ⟨sorts, rows⟩ from ⟨_, rfl, HO.out.reads⟩)
  have HBW := Lib.hid (show Below w.heap.size w w1 from HB0.out.trans (HB1.out.mono (by omega)))
  have HRSW := Lib.hid (show w1.heap[w.heap.size]? = some (.cells #[.int .i64 0, .slice none 0 0] 25 (0, 0)) from (HB1.out.block _ (by omega)).trans HRS0.out)
  have HREW := Lib.hid (show w1.heap[w.heap.size + 1]? = some (.cells #[.slice none 0 0, .slice none 0 0, .slice none 0 0] 37 (0, 0)) from (HB1.out.block _ (by omega)).trans HRE0.out)
  cases hv : validB ⟨sorts, rows⟩ with
  | false =>
    have HV := Lib.hid hv
    clear hv
    go_wp2_with fail
    clear hW3
    refine (specSigValid_any _ ⟨sorts, rows⟩ w3 HRS.out).mono ?_
    rw [HV.out]
    rintro e wz ⟨rfl, hb⟩
    have HGZ := Lib.hid (gr_below HG3.out hb)
    have HOZ := Lib.hid (HO.out.keep hb)
    replace g0 := cell_keep hb g0
    replace g1 := cell_keep hb g1
    clear hb
    have hrs := gr_at HGZ.out (by omega) HRSW.out
    have hre := gr_at HGZ.out (by omega) HREW.out
    have D := Lib.hid (eq_fin (sorts := sorts) (e := ⟨[], [], []⟩) hrs hre (HOZ.out) (by omega) (OInts.nil _ _) (OInts.nil _ _) (OInts.nil _ _) (HBW.out.trans (below_of_gr' HGZ.out (by omega) (by omega))))
    have r0 := block_cell hrs 0
    have r1 := block_cell hrs 1
    have r2 := block_cell hre 0
    have r3 := block_cell hre 1
    have r4 := block_cell hre 2
    have rf0 := block_free hrs 0
    have rf1 := block_free hrs 1
    have rf2 := block_free hre 0
    have rf3 := block_free hre 1
    have rf4 := block_free hre 2
    simp at r0 r1 r2 r3 r4
    clear hrs hre
    go_wp2
    obtain ⟨d1, d2, d3, d4, d5⟩ := D.out
    generalize ((((wz.setCell ⟨w.heap.size, 0, none⟩ (.int .i64 sorts)).setCell ⟨w.heap.size, 1, none⟩ (.slice Au rows.length cu)).setCell ⟨w.heap.size + 1, 0, none⟩ (.slice none 0 0)).setCell ⟨w.heap.size + 1, 1, none⟩ (.slice none 0 0)).setCell ⟨w.heap.size + 1, 2, none⟩ (.slice none 0 0) = w9 at d1 d2 d3 d4 d5 ⊢
    have k0 := block_cell d1 0
    have k1 := block_cell d1 1
    have k2 := block_cell d2 0
    have k3 := block_cell d2 1
    have k4 := block_cell d2 2
    simp at k0 k1 k2 k3 k4
    clear r0 r1 r2 r3 r4 rf0 rf1 rf2 rf3 rf4 g0 g1
    refine bodyPost_ret (v := .tuple #[.agg #[.int .i64 sorts, .slice Au rows.length cu], .agg #[.slice none 0 0, .slice none 0 0, .slice none 0 0]]) (by simp [results, Try.results14, go_sem, k0, k1, k2, k3, k4]) rfl ?_
    exact ⟨_, ⟨sorts, rows⟩, _, ⟨[], [], []⟩, rfl, d3, d4, ⟨fun x hx => by simp at hx, fun x hx => by simp at hx⟩, by simp, by simp, by simp, hs1, d5⟩
  | true =>
    have HV := Lib.hid hv
    clear hv
    go_wp2_with fail
    clear hW3
    refine (specSigValid_any _ ⟨sorts, rows⟩ w3 HRS.out).mono ?_
    rw [HV.out]
    rintro e w4 ⟨rfl, hb⟩
    have HG4 := Lib.hid (gr_below HG3.out hb)
    have HG34 := Lib.hid (gr_below (gr_refl w3 (w.heap.size + 2)) hb)
    have HBX4 := Lib.hid ((hb.block _ hz3).trans HBX.out)
    have HO4 := Lib.hid (HO.out.keep hb)
    have HR4 := Lib.hid (HR.out.keep hb)
    have hz4 := hb.size
    replace g0 := cell_keep hb g0
    replace g1 := cell_keep hb g1
    clear hb
    go_wp2_with fail
    refine (eqOf_draw ⟨sorts, rows⟩ HV.out (w.heap.size + 2) q _ w4 HR4.out (by omega) ⟨_, rfl, HO4.out.base (by omega)⟩).mono ?_
    rintro e w5 ⟨ev, ⟨vars, ls, rs⟩, q5, rfl, hoe, hsm, hvl, hll, hlr, hform, hr5, hq5, hg5⟩
    obtain ⟨vv, lv, rv, rfl, hov, hol, hor⟩ := hoe
    obtain ⟨a', b', adr, cr, hf⟩ := hform
    injection hf with hf
    simp at hf
    obtain ⟨rfl, rfl, rfl⟩ := hf
    simp only at hsm hvl hll hlr hov hol hor
    obtain ⟨Av, cv, rfl, -⟩ := own_reads hov
    obtain ⟨Al, cl, rfl, -⟩ := own_reads hol
    have hal := below_alloc w5 (.cells #[.slice Av vars.length cv, .slice Al ls.length cl, .slice (some adr) rs.length cr] 37)
    have HSM := Lib.hid hsm
    have HG6 := Lib.hid (gr_alloc hg5 (.cells #[.slice Av vars.length cv, .slice Al ls.length cl, .slice (some adr) rs.length cr] 37))
    have HEX := Lib.hid (heap_alloc_new w5 (.cells #[.slice Av vars.length cv, .slice Al ls.length cl, .slice (some adr) rs.length cr] 37))
    have HOV5 := Lib.hid (And.intro hov hol)
    have HG56 := Lib.hid (gr_alloc (gr_refl w5 (w.heap.size + 2)) (.cells #[.slice Av vars.length cv, .slice Al ls.length cl, .slice (some adr) rs.length cr] 37))
    have HOV := Lib.hid (And.intro (hov.keep hal) (And.intro (hol.keep hal) (hor.keep hal)))
    have HR6 := Lib.hid (hr5.keep hal)
    have hz5 : w4.heap.size ≤ w5.heap.size := hg5.size
    have HSZ6 := Lib.hid (show (w5.alloc (.cells #[.slice Av vars.length cv, .slice Al ls.length cl, .slice (some adr) rs.length cr] 37)).heap.size = w5.heap.size + 1 by simp)
    clear hsm hov hol hor hr5 hg5 hal g0 g1
    generalize hW6 : w5.alloc (.cells #[.slice Av vars.length cv, .slice Al ls.length cl, .slice (some adr) rs.length cr] 37) = w6 at HG6 HEX HOV HR6 HSZ6 HG56
    go_wp2_with fail
    clear hW6
    refine (odd_any (w.heap.size + 2) q5 4 w6 HR6.out (by omega) (by omega) (by omega)).mono ?_
    rintro e w7 ⟨b, q7, rfl, hr7, hq7, hg7⟩
    have HG7 := Lib.hid (gr_more HG6.out hg7)
    have HGW := Lib.hid (gr_more HG4.out HG7.out)
    have HG37 := Lib.hid (gr_more HG34.out HG7.out)
    have HG57 := Lib.hid (gr_more HG56.out hg7)
    have HE7 := Lib.hid (gr_at hg7 (by omega) HEX.out)
    have HS7 := Lib.hid (gr_at HG7.out (by omega) HBX4.out)
    have HO7 := Lib.hid (show ORows w7 w1.heap.size (.slice Au rows.length cu) rows from HO4.out.grown HG7.out (fun k e => by injection e with e; omega))
    have HV7 := Lib.hid (And.intro (HOV.out.1.past hg7 (by omega)) (And.intro (HOV.out.2.1.past hg7 (by omega)) (HOV.out.2.2.past hg7 (by omega))))
    have hz7 : w6.heap.size ≤ w7.heap.size := hg7.size
    have hz6 := HSZ6.out
    clear hr7 hg7
    cases b with
    | false =>
      have hrs := gr_at HGW.out (by omega) HRSW.out
      have hre := gr_at HGW.out (by omega) HREW.out
      have e0 := block_cell HE7.out 0
      have e1 := block_cell HE7.out 1
      have e2 := block_cell HE7.out 2
      have s0 := block_cell HS7.out 0
      have s1 := block_cell HS7.out 1
      simp at e0 e1 e2 s0 s1
      have D := Lib.hid (fin_drew (eq_fin (wz := w7) (sorts := sorts) (e := ⟨vars, ls, rs⟩) hrs hre (B := w.heap.size + 2) (show ORows w7 (w.heap.size + 2) (.slice Au rows.length cu) rows from HO7.out.base (by omega)) (by omega) (show OInts w7 (w.heap.size + 2) _ _ from HV7.out.1.base (by omega)) (show OInts w7 (w.heap.size + 2) _ _ from HV7.out.2.1.base (by omega)) (show OInts w7 (w.heap.size + 2) _ _ from HV7.out.2.2.base (by omega)) (HBW.out.trans (below_of_gr' HGW.out (by omega) (by omega)))))
      have r0 := block_cell hrs 0
      have r1 := block_cell hrs 1
      have r2 := block_cell hre 0
      have r3 := block_cell hre 1
      have r4 := block_cell hre 2
      have rf0 := block_free hrs 0
      have rf1 := block_free hrs 1
      have rf2 := block_free hre 0
      have rf3 := block_free hre 1
      have rf4 := block_free hre 2
      simp at r0 r1 r2 r3 r4
      clear hrs hre
      have t0 := (show w7.drew.cell? ⟨w2.heap.size, 0, none⟩ = some (.int .i64 sorts) from s0)
      have t1 := (show w7.drew.cell? ⟨w2.heap.size, 1, none⟩ = some (.slice Au rows.length cu) from s1)
      have t2 := (show w7.drew.cell? ⟨w5.heap.size, 0, none⟩ = some (.slice Av vars.length cv) from e0)
      have t3 := (show w7.drew.cell? ⟨w5.heap.size, 1, none⟩ = some (.slice Al ls.length cl) from e1)
      have t4 := (show w7.drew.cell? ⟨w5.heap.size, 2, none⟩ = some (.slice (some adr) rs.length cr) from e2)
      go_wp2_with fail
      refine wp_region_held_drew (S := (fun w' => w'.cell? ⟨w2.heap.size, 0, none⟩ = some (.int .i64 sorts) ∧ w'.cell? ⟨w2.heap.size, 1, none⟩ = some (.slice Au rows.length cu) ∧ w'.cell? ⟨w5.heap.size, 0, none⟩ = some (.slice Av vars.length cv) ∧ w'.cell? ⟨w5.heap.size, 1, none⟩ = some (.slice Al ls.length cl) ∧ w'.cell? ⟨w5.heap.size, 2, none⟩ = some (.slice (some adr) rs.length cr))) (by kernel_rfl) ?_ (fun hHeld => ?_)
      · exact ⟨t0, t1, t2, t3, t4⟩
      refine wpAnyH_take (i := 0) (oi := _) (v := ?_) rfl (by kernel_rfl) (by kernel_rfl) (by kernel_rfl) (fun _ _ _ h => h) (Or.inl ⟨by rfl, ?_⟩) (by assumption) ?_
      rotate_left
      · first | (intro w' hSw; (try dsimp only at hSw); go_simp; done) | (intro w' hSw; (try dsimp only at hSw); go_simp; with_reducible rfl)
      try simp only [Act.put, List.getElem_toArray, List.getElem_cons_zero, List.getElem_cons_succ, List.setIfInBounds_toArray, List.set_cons_zero, List.set_cons_succ]
      refine wpAnyH_take (i := 1) (oi := _) (v := ?_) rfl (by kernel_rfl) (by kernel_rfl) (by kernel_rfl) (fun _ _ _ h => h) (Or.inl ⟨by rfl, ?_⟩) (by assumption) ?_
      rotate_left
      · first | (intro w' hSw; (try dsimp only at hSw); go_simp; done) | (intro w' hSw; (try dsimp only at hSw); go_simp; with_reducible rfl)
      try simp only [Act.put, List.getElem_toArray, List.getElem_cons_zero, List.getElem_cons_succ, List.setIfInBounds_toArray, List.set_cons_zero, List.set_cons_succ]
      refine wpAnyH_ready (rs := [2]) (by kernel_rfl) (by simp) ?_
      refine AllReadyH.cons (o := _) rfl (fun K hK => ?_) AllReadyH.nil
      go_simp
      refine hK.out _ _ ?_ (fun hHeld => ?_)
      · exact ⟨drew_cell (keep2 s0 (by omega)), drew_cell (keep2 s1 (by omega)), drew_cell (keep2 e0 (by omega)), drew_cell (keep2 e1 (by omega)), drew_cell (keep2 e2 (by omega))⟩
      clear hK K
      try simp only [Act.put, List.getElem_toArray, List.getElem_cons_zero, List.getElem_cons_succ, List.setIfInBounds_toArray, List.set_cons_zero, List.set_cons_succ]
      refine wpAnyH_ready (rs := [3]) (by kernel_rfl) (by simp) ?_
      refine AllReadyH.cons (o := _) rfl (fun K hK => ?_) AllReadyH.nil
      go_simp
      refine hK.out _ _ ?_ (fun hHeld => ?_)
      · exact ⟨drew_cell (keep3 (keep2 s0 (by omega)) (by omega)), drew_cell (keep3 (keep2 s1 (by omega)) (by omega)), drew_cell (keep3 (keep2 e0 (by omega)) (by omega)), drew_cell (keep3 (keep2 e1 (by omega)) (by omega)), drew_cell (keep3 (keep2 e2 (by omega)) (by omega))⟩
      clear hK K
      try simp only [Act.put, List.getElem_toArray, List.getElem_cons_zero, List.getElem_cons_succ, List.setIfInBounds_toArray, List.set_cons_zero, List.set_cons_succ]
      refine wpAnyH_done (by kernel_rfl) ?_ _
      clear s0 s1 e0 e1 e2 t0 t1 t2 t3 t4
      obtain ⟨d1, d2, d3, d4, d5⟩ := D.out
      generalize ((((((w7).setCell ⟨w.heap.size, 0, none⟩ (.int .i64 sorts)).setCell ⟨w.heap.size, 1, none⟩ (.slice Au rows.length cu)).setCell ⟨w.heap.size + 1, 0, none⟩ (.slice Av vars.length cv)).setCell ⟨w.heap.size + 1, 1, none⟩ (.slice Al ls.length cl)).setCell ⟨w.heap.size + 1, 2, none⟩ (.slice (some adr) rs.length cr)).drew = wn at d1 d2 d3 d4 d5 ⊢
      have k0 := block_cell d1 0
      have k1 := block_cell d1 1
      have k2 := block_cell d2 0
      have k3 := block_cell d2 1
      have k4 := block_cell d2 2
      simp at k0 k1 k2 k3 k4
      clear r0 r1 r2 r3 r4 rf0 rf1 rf2 rf3 rf4
      go_wp2
      refine bodyPost_ret (v := .tuple #[.agg #[.int .i64 sorts, .slice Au rows.length cu], .agg #[.slice Av vars.length cv, .slice Al ls.length cl, .slice (some adr) rs.length cr]]) (by simp [results, Try.results14, go_sem, k0, k1, k2, k3, k4]) rfl ?_
      exact ⟨_, ⟨sorts, rows⟩, _, ⟨vars, ls, rs⟩, rfl, d3, d4, HSM.out, hvl, by simp only; omega, by simp only; omega, hs1, d5⟩
    | true =>
      have e2 := block_cell HE7.out 2
      simp at e2
      have HN := Lib.hid (news_any (HV7.out.2.2.reads.keep (below_alloc w7 (.cells #[] 3))))
      have hA1 : (rs.map (Value.int .i64)).length = rs.length * 1 := by simp
      have HA1 := Lib.hid hA1
      have hblt : w5.heap.size < w7.heap.size := by omega
      clear hA1
      go_wp2_with (at_builtin; refine wpList_append_own _ rfl (.tmp 21) (.tmp 23) 26 rfl w7.heap.size 3 i0 (.int .i64 0) 1 8 Try.underlying26 hi0 hy0 hy1 hy2 rfl (by decide) _ 0 [] rfl (own_empty w7) adr rs.length cr (rs.map (Value.int .i64)) rfl HA1.out HN.out (ints_one _) (by rw [maxLen_eq]; omega) (by omega) (by simp) ?_)
      intro v8 w8 hv8 hg8 _
      try simp only [Nat.zero_add, List.nil_append] at hv8
      obtain ⟨A8, c8, rfl, -⟩ := own_reads hv8
      have hb8 : Below w7.heap.size w7 w8 := bel_grow5 hg8 (fun k e => by injection e with e; exact Nat.le_of_eq e)
      have hz8 := hb8.size
      have HB8 := Lib.hid hb8
      have HO8 := Lib.hid (show OInts w8 w7.heap.size (.slice A8 rs.length c8) rs from hv8)
      have p2 := cell_keep hb8 e2
      clear hv8 hg8 hb8
      go_wp2_with (at_builtin; refine wpList_append_own _ rfl (.tmp 24) (.tmp 25) 26 rfl w7.heap.size 3 i0 (.int .i64 0) 1 8 Try.underlying26 hi0 hy0 hy1 hy2 rfl (by decide) _ rs.length (rs.map (Value.int .i64)) rfl (own_keep HO8.out (below_alloc w8 _)) ⟨w8.heap.size, 0, none⟩ 1 1 ([(100 : Int)].map (Value.int .i64)) rfl (by simp) (led_new w8 100) (ints_one _) (by rw [maxLen_eq]; omega) (by omega) (by simp; omega) ?_)
      intro v9 w9 hv9 hg9 _
      have HO9 := Lib.hid (led_app (rs := [100]) rfl hv9)
      obtain ⟨A9, c9, rfl, -⟩ := own_reads hv9
      have hb9 : Below w7.heap.size w7 w9 := (HB8.out.alloc (by omega) _).grown hg9 (by simp; omega) (fun k e => (own_lt HO8.out k e).1)
      have HB9 := Lib.hid hb9
      have HEB := Lib.hid ((hb9.block _ (by omega)).trans HE7.out)
      have t2 := block_cell HEB.out 2
      have tf2 := block_free HEB.out 2
      simp at t2
      clear hv9 hg9 hb9 e2 p2
      go_upto_region 8 with fail
      clear t2 tf2
      have HE10 := Lib.hid (block_set HEB.out 2 (.slice A9 (rs.length + 1) c9))
      have HS10 := Lib.hid (blk_two (b := w5.heap.size) (i := 2) (y := .slice A9 (rs.length + 1) c9) ((HB9.out.block _ (by omega)).trans HS7.out) (by omega))
      have hrs := blk_two (b := w5.heap.size) (i := 2) (y := .slice A9 (rs.length + 1) c9) ((HB9.out.block _ (by omega)).trans (gr_at HGW.out (by omega) HRSW.out)) (by omega)
      have hre := blk_two (b := w5.heap.size) (i := 2) (y := .slice A9 (rs.length + 1) c9) ((HB9.out.block _ (by omega)).trans (gr_at HGW.out (by omega) HREW.out)) (by omega)
      have HO10 := Lib.hid (HO.out.same (w' := w9.setCell ⟨w5.heap.size, 2, none⟩ (.slice A9 (rs.length + 1) c9)) (fun k q1 q2 => (Below.heap_setCell w9 ⟨w5.heap.size, 2, none⟩ _ k (by show k ≠ w5.heap.size; omega)).trans ((HB9.out.block k (by omega)).trans (HG37.out.block k q2 (fun e => by injection e with e; omega)))))
      have HV10 := Lib.hid (HOV5.out.1.same (w' := w9.setCell ⟨w5.heap.size, 2, none⟩ (.slice A9 (rs.length + 1) c9)) (fun k q1 q2 => (Below.heap_setCell w9 ⟨w5.heap.size, 2, none⟩ _ k (by show k ≠ w5.heap.size; omega)).trans ((HB9.out.block k (by omega)).trans (HG57.out.block k q2 (fun e => by injection e with e; omega)))))
      have HL10 := Lib.hid (HOV5.out.2.same (w' := w9.setCell ⟨w5.heap.size, 2, none⟩ (.slice A9 (rs.length + 1) c9)) (fun k q1 q2 => (Below.heap_setCell w9 ⟨w5.heap.size, 2, none⟩ _ k (by show k ≠ w5.heap.size; omega)).trans ((HB9.out.block k (by omega)).trans (HG57.out.block k q2 (fun e => by injection e with e; omega)))))
      have HN10 := Lib.hid (HO9.out.low (b := w5.heap.size) (by omega) 2 (x := .slice A9 (rs.length + 1) c9))
      have HBX10 := Lib.hid (show Below w.heap.size w (w9.setCell ⟨w5.heap.size, 2, none⟩ (.slice A9 (rs.length + 1) c9)) from ((HBW.out.trans (below_of_gr' HGW.out (by omega) (by omega))).trans (HB9.out.mono (by omega))).setCell (p := ⟨w5.heap.size, 2, none⟩) (by show w.heap.size ≤ w5.heap.size; omega) _)
      generalize hWX : w9.setCell ⟨w5.heap.size, 2, none⟩ (.slice A9 (rs.length + 1) c9) = wx at HE10 HS10 hrs hre HO10 HV10 HL10 HN10 HBX10 ⊢
      have e0 := block_cell HE10.out 0
      have e1 := block_cell HE10.out 1
      have e2 := block_cell HE10.out 2
      have s0 := block_cell HS10.out 0
      have s1 := block_cell HS10.out 1
      simp at e0 e1 e2 s0 s1
      have D := Lib.hid (fin_drew (eq_fin (wz := wx) (sorts := sorts) (e := ⟨vars, ls, rs ++ [100]⟩) hrs hre (B := w.heap.size + 2) (show ORows wx (w.heap.size + 2) (.slice Au rows.length cu) rows from HO10.out.base (by omega)) (by omega) (show OInts wx (w.heap.size + 2) _ _ from HV10.out.base (by omega)) (show OInts wx (w.heap.size + 2) _ _ from HL10.out.base (by omega)) (show OInts wx (w.heap.size + 2) _ _ from HN10.out.base (by omega)) HBX10.out))
      have r0 := block_cell hrs 0
      have r1 := block_cell hrs 1
      have r2 := block_cell hre 0
      have r3 := block_cell hre 1
      have r4 := block_cell hre 2
      have rf0 := block_free hrs 0
      have rf1 := block_free hrs 1
      have rf2 := block_free hre 0
      have rf3 := block_free hre 1
      have rf4 := block_free hre 2
      simp at r0 r1 r2 r3 r4
      clear hrs hre
      clear hWX
      have t0 := (show wx.drew.cell? ⟨w2.heap.size, 0, none⟩ = some (.int .i64 sorts) from s0)
      have t1 := (show wx.drew.cell? ⟨w2.heap.size, 1, none⟩ = some (.slice Au rows.length cu) from s1)
      have t2 := (show wx.drew.cell? ⟨w5.heap.size, 0, none⟩ = some (.slice Av vars.length cv) from e0)
      have t3 := (show wx.drew.cell? ⟨w5.heap.size, 1, none⟩ = some (.slice Al ls.length cl) from e1)
      have t4 := (show wx.drew.cell? ⟨w5.heap.size, 2, none⟩ = some (.slice A9 (rs.length + 1) c9) from e2)
      go_wp2_with fail
      refine wp_region_held_drew (S := (fun w' => w'.cell? ⟨w2.heap.size, 0, none⟩ = some (.int .i64 sorts) ∧ w'.cell? ⟨w2.heap.size, 1, none⟩ = some (.slice Au rows.length cu) ∧ w'.cell? ⟨w5.heap.size, 0, none⟩ = some (.slice Av vars.length cv) ∧ w'.cell? ⟨w5.heap.size, 1, none⟩ = some (.slice Al ls.length cl) ∧ w'.cell? ⟨w5.heap.size, 2, none⟩ = some (.slice A9 (rs.length + 1) c9))) (by kernel_rfl) ?_ (fun hHeld => ?_)
      · exact ⟨t0, t1, t2, t3, t4⟩
      refine wpAnyH_take (i := 0) (oi := _) (v := ?_) rfl (by kernel_rfl) (by kernel_rfl) (by kernel_rfl) (fun _ _ _ h => h) (Or.inl ⟨by rfl, ?_⟩) (by assumption) ?_
      rotate_left
      · first | (intro w' hSw; (try dsimp only at hSw); go_simp; done) | (intro w' hSw; (try dsimp only at hSw); go_simp; with_reducible rfl)
      try simp only [Act.put, List.getElem_toArray, List.getElem_cons_zero, List.getElem_cons_succ, List.setIfInBounds_toArray, List.set_cons_zero, List.set_cons_succ]
      refine wpAnyH_take (i := 1) (oi := _) (v := ?_) rfl (by kernel_rfl) (by kernel_rfl) (by kernel_rfl) (fun _ _ _ h => h) (Or.inl ⟨by rfl, ?_⟩) (by assumption) ?_
      rotate_left
      · first | (intro w' hSw; (try dsimp only at hSw); go_simp; done) | (intro w' hSw; (try dsimp only at hSw); go_simp; with_reducible rfl)
      try simp only [Act.put, List.getElem_toArray, List.getElem_cons_zero, List.getElem_cons_succ, List.setIfInBounds_toArray, List.set_cons_zero, List.set_cons_succ]
      refine wpAnyH_ready (rs := [2]) (by kernel_rfl) (by simp) ?_
      refine AllReadyH.cons (o := _) rfl (fun K hK => ?_) AllReadyH.nil
      go_simp
      refine hK.out _ _ ?_ (fun hHeld => ?_)
      · exact ⟨drew_cell (keep2 s0 (by omega)), drew_cell (keep2 s1 (by omega)), drew_cell (keep2 e0 (by omega)), drew_cell (keep2 e1 (by omega)), drew_cell (keep2 e2 (by omega))⟩
      clear hK K
      try simp only [Act.put, List.getElem_toArray, List.getElem_cons_zero, List.getElem_cons_succ, List.setIfInBounds_toArray, List.set_cons_zero, List.set_cons_succ]
      refine wpAnyH_ready (rs := [3]) (by kernel_rfl) (by simp) ?_
      refine AllReadyH.cons (o := _) rfl (fun K hK => ?_) AllReadyH.nil
      go_simp
      refine hK.out _ _ ?_ (fun hHeld => ?_)
      · exact ⟨drew_cell (keep3 (keep2 s0 (by omega)) (by omega)), drew_cell (keep3 (keep2 s1 (by omega)) (by omega)), drew_cell (keep3 (keep2 e0 (by omega)) (by omega)), drew_cell (keep3 (keep2 e1 (by omega)) (by omega)), drew_cell (keep3 (keep2 e2 (by omega)) (by omega))⟩
      clear hK K
      try simp only [Act.put, List.getElem_toArray, List.getElem_cons_zero, List.getElem_cons_succ, List.setIfInBounds_toArray, List.set_cons_zero, List.set_cons_succ]
      refine wpAnyH_done (by kernel_rfl) ?_ _
      clear s0 s1 e0 e1 e2 t0 t1 t2 t3 t4
      obtain ⟨d1, d2, d3, d4, d5⟩ := D.out
      generalize ((((((wx).setCell ⟨w.heap.size, 0, none⟩ (.int .i64 sorts)).setCell ⟨w.heap.size, 1, none⟩ (.slice Au rows.length cu)).setCell ⟨w.heap.size + 1, 0, none⟩ (.slice Av vars.length cv)).setCell ⟨w.heap.size + 1, 1, none⟩ (.slice Al ls.length cl)).setCell ⟨w.heap.size + 1, 2, none⟩ (.slice A9 (rs.length + 1) c9)).drew = wn at d1 d2 d3 d4 d5 ⊢
      have k0 := block_cell d1 0
      have k1 := block_cell d1 1
      have k2 := block_cell d2 0
      have k3 := block_cell d2 1
      have k4 := block_cell d2 2
      simp at k0 k1 k2 k3 k4
      clear r0 r1 r2 r3 r4 rf0 rf1 rf2 rf3 rf4
      go_wp2
      refine bodyPost_ret (v := .tuple #[.agg #[.int .i64 sorts, .slice Au rows.length cu], .agg #[.slice Av vars.length cv, .slice Al ls.length cl, .slice A9 (rs.length + 1) c9]]) (by simp [results, Try.results14, go_sem, k0, k1, k2, k3, k4]) rfl ?_
      exact ⟨_, ⟨sorts, rows⟩, _, ⟨vars, ls, rs ++ [100]⟩, rfl, d3, d4, ⟨HSM.out.1, small_snocE HSM.out.2⟩, hvl, by simp only; omega, by simp; omega, hs1, d5⟩
end
end Go.Proofs.Ytbopcghbmbchkab
