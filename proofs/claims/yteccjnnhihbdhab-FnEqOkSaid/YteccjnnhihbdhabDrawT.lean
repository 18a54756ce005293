/- The draws of letters and terms: l20Vars, l20Term, l20Anything. -/
import Derived.Test.YteccjnnhihbdhabDraw4
import Derived.Test.YteccjnnhihbdhabTerm2
import Derived.Test.YteccjnnhihbdhabTakes2
import Derived.Deep.RegionHeld3
import Derived.Deep.DeepCutAuto
namespace Go.Proofs.Yteccjnnhihbdhab
open Go.RowKit
set_option linter.unusedVariables false

theorem OSig.past {w w' : World} {g B : Nat} {v : Value} {s : MSig} (h : OSig w B v s) (hg : w.grownBy w' (some g)) (hB : g < B) : OSig w' B v s := by
  obtain ⟨u, e, h⟩ := h
  exact ⟨u, e, h.grown hg (fun k e => by injection e with e; omega)⟩
theorem ORows.nth {w : World} {B k : Nat} {v : Value} {rows : List (List Int)} (h : ORows w B v rows) (hk : k < rows.length) : ∃ u, OInts w B u rows[k] ∧ ∀ (w' : World) (g : Nat), g < B → w.grownBy w' (some g) → ∃ b o c, v = .slice (some ⟨b, o, none⟩) rows.length c ∧ w'.cell? ⟨b, o + k, none⟩ = some u := by
  obtain ⟨us, h1, h2, h3, h4⟩ := h
  have hku : k < us.length := by omega
  refine ⟨us[k], h3 k us[k] rows[k] (List.getElem?_eq_getElem hku) (List.getElem?_eq_getElem hk), fun w' g hg hgr => ?_⟩
  obtain ⟨A, c, e, -, -, h5⟩ := own_reads (own_past h1 hgr hg)
  obtain ⟨b, o, rfl, hc⟩ := h5 k us[k] (List.getElem?_eq_getElem hku)
  exact ⟨b, o, c, e, hc⟩
theorem OInts.past {w w' : World} {g B : Nat} {v : Value} {xs : List Int} (h : OInts w B v xs) (hg : w.grownBy w' (some g)) (hB : g < B) : OInts w' B v xs := own_past h hg hB
theorem gr_more {a b c : World} {g : Nat} (h : a.grownBy b (some g)) (k : b.grownBy c (some g)) : a.grownBy c (some g) := gr_trans h k (fun x e => by injection e with e; exact .inl e.symm)
theorem gr_box {w wr : World} {g : Nat} {o : Obj} (h : (w.alloc o).grownBy wr (some g)) : w.grownBy wr (some g) := gr_more (gr_alloc (gr_refl w g) o) h
theorem zeros5 (w : World) (cs : Array Value) (h : cs = #[.int .i64 0, .int .i64 0, .int .i64 0, .int .i64 0, .int .i64 0]) : OInts (w.alloc (.cells cs 3)) w.heap.size (.slice (some ⟨w.heap.size, 0, none⟩) 5 5) [0, 0, 0, 0, 0] := by
  subst h
  exact World.ownsRow_lit w _ 5 (Nat.le_refl _) (by unfold maxLen; omega) rfl

theorem made5 : madeCells #[Value.int .i64 0] 5 = #[.int .i64 0, .int .i64 0, .int .i64 0, .int .i64 0, .int .i64 0] := by kernel_rfl
def VarsPost (g p : Nat) (w : World) (e : Ending) (w' : World) : Prop :=
  ∃ (v : Value) (xs : List Int) (q : Nat), e = .returned v ∧ OInts w' w.heap.size v xs ∧ xs.length ≤ 5 ∧ RRd w' g q ∧ q ≤ p + 10 ∧ w.grownBy w' (some g)

theorem lit_new (w : World) (x : Int) : ∀ (j : Nat) (u : Value), [Value.int .i64 x][j]? = some u → (w.alloc (.cells #[.int .i64 x] 3)).cell? ((⟨w.heap.size, 0, none⟩ : Addr).add j) = some u := fun j u hj => by
  match j, hj with
  | 0, hj =>
    simp at hj
    subst hj
    rw [show (⟨w.heap.size, 0, none⟩ : Addr).add 0 = ⟨w.heap.size, 0, none⟩ by simp [Addr.add], World.cell?_alloc_at _ _ _ _ rfl]; rfl
theorem lit_one (x : Int) : ∀ u ∈ [Value.int .i64 x], u.oneCell' = true := fun u hu => by simp at hu; subst hu; rfl
theorem cell_gr {w w' : World} {g b o : Nat} {u : Value} (hg : w.grownBy w' (some g)) (hc : w.cell? ⟨b, o, none⟩ = some u) (hne : b ≠ g) : w'.cell? ⟨b, o, none⟩ = some u := hg.cell hc (fun e => hne (by injection e))
theorem app_own {w : World} {B m : Nat} {v : Value} {ps rs : List Int} (hm : rs.length = m) (h : w.ownsRow B 3 1 v (ps.length + m) (ps.map (Value.int .i64) ++ rs.map (Value.int .i64))) : OInts w B v (ps ++ rs) := by
  unfold OInts; rw [List.length_append, List.map_append, hm]; exact h
theorem own_some {w : World} {B c : Nat} {A : Option Addr} {xs : List Int} (h : OInts w B (.slice A xs.length c) xs) (h1 : 1 ≤ xs.length) : ∃ ad c', Value.slice A xs.length c = .slice (some ad) xs.length c' := by
  obtain ⟨b, o, c', e, -⟩ := h.reads.at_ (k := 0) (by omega)
  exact ⟨_, _, e⟩
theorem row_start1 {W w1 : World} {g q : Nat} (hgl : g < W.heap.size) (hr : RRd w1 g q) (hg : (W.alloc (.cells #[] 3)).grownBy w1 (some g)) : RowAt W W w1 g (.slice (some ⟨W.heap.size, 0, none⟩) 0 0) [] q :=
  ⟨own_past (World.ownsRow_lit W #[] 0 (Nat.le_refl _) (Nat.zero_le _) rfl) hg hgl, hr, gr_box hg⟩
theorem RowAt.later {wo wj w2 : World} {g q q' : Nat} {rv : Value} {row : List Int} (h : RowAt wo wo wj g rv row q) (hgl : g < wo.heap.size) (hp : wj.grownBy w2 (some g)) (hr : RRd w2 g q') : RowAt wo wo w2 g rv row q' :=
  ⟨own_past h.own hp hgl, hr, gr_more h.gr hp⟩
/-- the reader at an odd number of calls: some place -/
theorem box_after {W wr : World} {g b : Nat} {o : Obj} (hb : W.heap[b]? = some o) (hg : W.grownBy wr (some g)) (hne : b ≠ g) : wr.heap[b]? = some o := gr_at hg hne hb

set_option maxHeartbeats 800000 in
set_option maxRecDepth 100000 in
theorem drawVars_any (g p : Nat) (n : Int) (s : MSig) (sv : Value) (w : World) (h : RRd w g p) (hp : p ≤ 100000000) (hn : 0 ≤ n) (hn2 : n ≤ 1000000) (hs : RSig w sv s) :
    Calls Try.prog 89 #[.pointer (some ⟨g, 0, none⟩), sv, .int .i64 n] w (VarsPost g p w) := by
  obtain ⟨u0, rfl, hrr⟩ := hs
  obtain ⟨sorts, ops⟩ := s
  obtain ⟨A, c, rfl, -⟩ := hrr.form
  have hgl := h.lt
  obtain ⟨W, hW⟩ : ∃ W : World, W = w.alloc (.cells #[.int .i64 sorts, .slice A ops.length c] 35) := ⟨_, rfl⟩
  have hbW : Below w.heap.size w W := by rw [hW]; exact below_alloc _ _
  have HGW := Lib.hid (show w.grownBy W (some g) by rw [hW]; exact gr_alloc (gr_refl w g) _)
  have hboxW : W.heap[w.heap.size]? = some (.cells #[.int .i64 sorts, .slice A ops.length c] 35 (0, 0)) := by rw [hW]; exact heap_alloc_new w _
  have HBOX := Lib.hid hboxW
  have HRW := Lib.hid (h.keep hbW)
  have hzW : W.heap.size = w.heap.size + 1 := by rw [hW]; simp
  have HZW := Lib.hid hzW
  obtain ⟨i0, hi, hz0, hz1, hz2⟩ := info_parts Try.info_int
  have hmk : ∀ w : World, (Instr.makeSlice 25 (.int .i64 5) (.int .i64 5)).run Try.prog w = .ok (.slice (some ⟨w.heap.size, 0, none⟩) 5 5) (w.alloc (.cells (madeCells #[.int .i64 0] 5) 3)) := fun w => run_make_row' (P := Try.prog) 25 3 (.int .i64 0) 8 Try.underlying25 Try.tinfo_int rfl .i64 .i64 5 (by omega) (by omega) w
  have hgW : g < W.heap.size := by omega
  have HMK := Lib.hid hmk
  have HRA := Lib.hid (HRW.out.keep (below_alloc W (.cells #[] 3)))
  have hW' := hW.symm
  clear hboxW hbW h hrr hmk hzW
  clear hW
  go_enter Try.func89, Try.ntmps89
  go_wp2_with fail
  clear hW'
  refine (pick_any g p 4 _ HRA.out (by omega)).mono ?_
  rintro e w1 ⟨x, rfl, hx, hr, hg⟩
  have hx := hx.2 (by omega)
  obtain ⟨K, rfl⟩ := Int.eq_ofNat_of_zero_le hx.1
  have hK : K ≤ 3 := by omega
  have HST := Lib.hid (row_start1 hgW hr hg)
  clear hr hg hx
  go_wp2
  go_loopw [7, 8] (fun o k wr => ∃ (m : Nat) (xs : List Int) (q : Nat), k = .int .i64 m ∧ m ≤ 3 ∧ xs.length + m ≤ 3 ∧ q + m ≤ p + 4 ∧ RowAt W W wr g o xs q) (fun _ k _ => (intOf k).toNat)
  case atStart => exact ⟨K, [], p + 1, rfl, hK, by simp; omega, by omega, HST.out⟩
  case round =>
    obtain ⟨m, xs, q, rfl, hm, hxm, hqm, hrow⟩ := hrel
    obtain ⟨A9, c9, rfl, -⟩ := own_reads hrow.own
    have HROW := Lib.hid hrow
    have hbx := box_after HBOX.out hrow.gr (by omega)
    have f0 := block_cell hbx 0
    have f1 := block_cell hbx 1
    simp at f0 f1
    obtain ⟨wj, rfl⟩ : ∃ wj : World, wj = wr := ⟨_, rfl⟩
    clear hrow hbx
    by_cases hm0 : 0 < m
    · go_wp2_with fail
      all_goals
        refine (pick_any g q _ _ HROW.out.rd (by omega)).mono ?_
        rintro e w3 ⟨x, rfl, -, hr, hg⟩
        have HR3 := Lib.hid hr
        have HG3 := Lib.hid hg
        clear hr hg f0 f1
        have hown3 := own_past HROW.out.own HG3.out hgW
        have hz3 : W.heap.size ≤ w3.heap.size := Nat.le_trans HROW.out.gr.size HG3.out.size
        go_wp2_with (at_builtin; refine wpList_append_own _ rfl _ _ 25 rfl W.heap.size 3 i0 (.int .i64 0) 1 8 Try.underlying25 hi hz0 hz1 hz2 rfl (by decide) _ _ _ rfl (hown3.alloc _) ⟨w3.heap.size, 0, none⟩ 1 1 [.int .i64 x] rfl rfl (lit_new w3 x) (lit_one x) (by unfold maxLen; omega) (by omega) (by simp; omega) ?_)
        intro v' w4 hown4 hgrow4 _
        have HN := Lib.hid (info_append wj w4 W HROW.out hgW HG3.out HR3.out hown4 hgrow4)
        clear hown3 hown4 hgrow4
        go_wp2
        go_roundw
        case rel => exact ⟨m - 1, xs ++ [x], q + 1, by go_num, by omega, by simp; omega, by omega, HN.out⟩
        case measure => simp [intOf]; omega
    · have hm1 : ¬ (0 : Int) < (m : Int) := by omega
      clear f0 f1
      go_wp2_with fail
      refine (odd_any g q n _ HROW.out.rd (by omega) hn hn2).mono ?_
      rintro e w3 ⟨b, q3, rfl, hr, hq3, hg⟩
      have HR3 := Lib.hid (HROW.out.later hgW hg hr)
      clear hr hg
      cases b with
      | false =>
        go_wp2
        go_ret
        exact ⟨_, xs, q3, rfl, HR3.out.own.base (by have := HZW.out; omega), by omega, HR3.out.rd, by omega, gr_more HGW.out HR3.out.gr⟩
      | true =>
        go_wp2_with fail
        refine (pick_any g q3 2 _ HR3.out.rd (by omega)).mono ?_
        rintro e w5 ⟨x, rfl, -, hr, hg⟩
        have HR5 := Lib.hid (HR3.out.later hgW hg hr)
        clear hr hg
        by_cases hx0 : x = 0
        · subst hx0
          have hbx := box_after HBOX.out HR5.out.gr (by omega)
          have f0 := block_cell hbx 0
          simp at f0
          have hown5 := HR5.out.own
          clear hbx
          go_wp2_with (at_builtin; refine wpList_append_own _ rfl _ _ 25 rfl W.heap.size 3 i0 (.int .i64 0) 1 8 Try.underlying25 hi hz0 hz1 hz2 rfl (by decide) _ _ _ rfl (hown5.alloc _) ⟨w5.heap.size, 0, none⟩ 1 1 [.int .i64 sorts] rfl rfl (lit_new w5 sorts) (lit_one sorts) (by unfold maxLen; omega) (by omega) (by have := HR5.out.gr.size; simp; omega) ?_)
          intro v' w4 hown4 hgrow4 _
          have HN := Lib.hid (show RowAt W W w4 g v' (xs ++ [sorts]) (q3 + 1) from ⟨by unfold OInts; simpa using hown4, (HR5.out.rd.keep (below_alloc w5 _)).grown hgrow4 (fun k e => by have := (own_lt HR5.out.own k e).1; omega), gr_trans (gr_alloc HR5.out.gr _) hgrow4 (fun k e => .inr (own_lt HR5.out.own k e).1)⟩)
          clear hown5 hown4 hgrow4 f0
          go_wp2
          go_ret
          exact ⟨_, xs ++ [sorts], q3 + 1, rfl, HN.out.own.base (by have := HZW.out; omega), by simp; omega, HN.out.rd, by omega, gr_more HGW.out HN.out.gr⟩
        · have hmk := HMK.out
          go_wp2
          go_ret
          have hal := below_alloc w5 (.cells (madeCells #[.int .i64 0] 5) 3)
          refine ⟨_, [0, 0, 0, 0, 0], q3 + 1, rfl, (zeros5 w5 _ made5).base (by have := HR5.out.gr.size; have := HZW.out; omega), by simp, HR5.out.rd.keep hal, by omega, gr_below (gr_more HGW.out HR5.out.gr) hal⟩

/-! a term -/
def Lb : Nat → Nat
  | 0 => 1
  | d + 1 => 1 + 2 * Lb d
def Qb : Nat → Nat
  | 0 => 36
  | d + 1 => 36 + 24 * Qb d
def Cb : Nat → Nat
  | 0 => 3
  | d + 1 => 3 + 2 * Qb d
theorem Qb_eq (d : Nat) : Qb d = 12 * Cb d := by cases d <;> simp [Qb, Cb]; omega
def Lp : Nat → Nat
  | 0 => 0
  | d + 1 => Lb d
def Qp : Nat → Nat
  | 0 => 0
  | d + 1 => Qb d
theorem Lb_eq (d : Nat) : Lb d = 1 + 2 * Lp d := by cases d <;> rfl
theorem Cb_eq (d : Nat) : Cb d = 3 + 2 * Qp d := by cases d <;> rfl
theorem Lp_le {d : Nat} (h : d ≤ 4) : Lp d ≤ 15 := by
  match d, h with
  | 0, _ => decide
  | 1, _ => decide
  | 2, _ => decide
  | 3, _ => decide
  | 4, _ => decide
def DTermPost (g p d : Nat) (w : World) (e : Ending) (w' : World) : Prop :=
  ∃ (v : Value) (xs : List Int) (q : Nat), e = .returned v ∧ (∃ ad c, v = .slice (some ad) xs.length c) ∧ OInts w' w.heap.size v xs ∧ xs.length ≤ Lb d ∧ Small xs ∧ RRd w' g q ∧ q ≤ p + Qb d ∧ w.grownBy w' (some g)
def DTermAt (s : MSig) (vars : List Int) (d : Nat) : Prop := ∀ (g p : Nat) (sort : Int) (sv vv : Value) (w : World), RRd w g p → p + Qb d ≤ 1000000000 → OSig w (g + 1) sv s → OInts w (g + 1) vv vars →
  Calls Try.prog 95 #[.pointer (some ⟨g, 0, none⟩), sv, vv, .int .i64 sort, .int .i64 (d : Int)] w (DTermPost g p d w)

/-- a place in l20Term: W the world behind the box -/
structure TermSt (W wr : World) (g q : Nat) : Prop where
  rd : RRd wr g q
  gr : W.grownBy wr (some g)
theorem TermSt.later {W wr w2 : World} {g q q' : Nat} (h : TermSt W wr g q) (hr : RRd w2 g q') (hg : wr.grownBy w2 (some g)) : TermSt W w2 g q' := ⟨hr, gr_more h.gr hg⟩
theorem TermSt.below {W wr w2 : World} {g q : Nat} (h : TermSt W wr g q) (hb : Below wr.heap.size wr w2) : TermSt W w2 g q := ⟨h.rd.keep hb, gr_below h.gr hb⟩
theorem lit1 (w : World) (x : Int) {B : Nat} (hB : B ≤ w.heap.size) : OInts (w.alloc (.cells #[.int .i64 x] 3)) B (.slice (some ⟨w.heap.size, 0, none⟩) 1 1) [x] :=
  OInts.base (World.ownsRow_lit w #[.int .i64 x] 1 (Nat.le_refl _) (by unfold maxLen; omega) rfl) hB
theorem lit0 (w : World) {B : Nat} (hB : B ≤ w.heap.size) : OInts (w.alloc (.cells #[] 3)) B (.slice (some ⟨w.heap.size, 0, none⟩) 0 0) [] := (own_empty w).base hB
theorem small_one {x : Int} (h : x ≤ 9223372036854775807) : Small [x] := fun y hy => by simp at hy; subst hy; exact h

set_option maxHeartbeats 1600000 in
set_option maxRecDepth 100000 in
theorem dterm_step (s : MSig) (vars : List Int) (hv : validB s = true) (hvl : vars.length ≤ 1000) (d : Nat) (hd : d ≤ 4) (ih : ∀ d', d = d' + 1 → DTermAt s vars d') : DTermAt s vars d := by
  intro g p sort sv vv w h hp hs hvv
  obtain ⟨i0, hi, hz0, hz1, hz2⟩ := info_parts Try.info_int
  obtain ⟨u0, rfl, hoo⟩ := hs
  obtain ⟨sorts, ops⟩ := s
  simp only at hoo
  obtain ⟨A, c, rfl, -⟩ := hoo.reads.form
  obtain ⟨A2, c2, rfl, -⟩ := hvv.reads.form
  have hgl := h.lt
  have hvs := valid_sorts hv
  simp only at hvs
  obtain ⟨W, hW⟩ : ∃ W : World, W = w.alloc (.cells #[.int .i64 sorts, .slice A ops.length c] 35) := ⟨_, rfl⟩
  have hbW : Below w.heap.size w W := by rw [hW]; exact below_alloc _ _
  have HGW := Lib.hid (show w.grownBy W (some g) by rw [hW]; exact gr_alloc (gr_refl w g) _)
  have HBOX := Lib.hid (show W.heap[w.heap.size]? = some (.cells #[.int .i64 sorts, .slice A ops.length c] 35 (0, 0)) by rw [hW]; exact heap_alloc_new w _)
  have HRW := Lib.hid (h.keep hbW)
  have HZW := Lib.hid (show W.heap.size = w.heap.size + 1 by rw [hW]; simp)
  have HSW := Lib.hid (show OSig W (g + 1) (.agg #[.int .i64 sorts, .slice A ops.length c]) ⟨sorts, ops⟩ from (show OSig w (g + 1) (.agg #[.int .i64 sorts, .slice A ops.length c]) ⟨sorts, ops⟩ from ⟨_, rfl, hoo⟩).keep hbW)
  have HOW := Lib.hid (hoo.keep hbW)
  have HVW := Lib.hid (hvv.keep hbW)
  have hgW : g < W.heap.size := by have := HZW.out; omega
  have hW' := hW.symm
  obtain ⟨D, hD⟩ : ∃ D : Int, D = (d : Int) := ⟨_, rfl⟩
  rw [← hD]
  have HD := Lib.hid hD
  have HIH := Lib.hid ih
  have HV := Lib.hid hv
  have HQB := Lib.hid (Qb_eq d)
  rw [HQB.out] at hp
  have hl2 : vars.length ≤ 9223372036854775807 := by omega
  clear hbW h hoo hvv hD ih hv hW
  go_enter Try.func95, Try.ntmps95
  go_wp2_with fail
  clear hW'
  go_loopw [11, 12, 13, 14, 15, 16, 17] (fun t11 k12 k13 r14 o15 j16 p17 wr => ∃ (n q : Nat), n ≤ 12 ∧ t11 = .int .i64 n ∧ q ≤ p + n * Cb d ∧ TermSt W wr g q) (fun t _ _ _ _ _ _ _ => 12 - (intOf t).toNat)
  case atStart => exact ⟨0, p, Nat.zero_le _, rfl, by omega, ⟨HRW.out, gr_refl W g⟩⟩
  case round =>
    obtain ⟨n, q, hn, rfl, hq, hst⟩ := hrel
    have HST := Lib.hid hst
    clear hst
    by_cases hlt : n < 12
    · have hlt' : (n : Int) < 12 := by omega
      go_upto_region 4 with fail
      have HQN := Lib.hid (show q + Cb d ≤ p + (n + 1) * Cb d ∧ q + Cb d ≤ p + 12 * Cb d by
        have h1 : (n + 1) * Cb d = n * Cb d + Cb d := Nat.succ_mul _ _
        have h2 : (n + 1) * Cb d ≤ 12 * Cb d := Nat.mul_le_mul_right _ (by omega)
        omega)
      have HC3 := Lib.hid (show 3 ≤ Cb d by cases d <;> simp [Cb])
      have hqn : q + 3 ≤ 1000000000 := by have := HQN.out; have := HC3.out; omega
      go_cut [30] (fun s30 wx => ∃ (b : Bool) (q2 : Nat), s30 = .bool b ∧ (b = true → 0 < vars.length) ∧ q2 ≤ q + 1 ∧ TermSt W wx g q2)
      case first =>
        go_wp2_with fail
        refine (pick_any g q 2 _ HST.out.rd (by omega)).mono ?_
        rintro e w2 ⟨x, rfl, -, hr, hg⟩
        have H2 := Lib.hid (HST.out.later hr hg)
        clear hr hg
        by_cases hx0 : x = 0
        · subst hx0
          by_cases hv0 : 0 < (vars.length : Int)
          · go_wp2
            go_meet
            case rel => exact ⟨true, q + 1, (by simp; omega), (by simp; omega), by omega, H2.out⟩
          · go_wp2
            go_meet
            case rel => exact ⟨false, q + 1, (by simp; first | omega | exact List.eq_nil_of_length_eq_zero (by omega)), by simp, by omega, H2.out⟩
        · go_wp2
          go_meet
          case rel => exact ⟨false, q + 1, rfl, by simp, by omega, H2.out⟩
      case rest =>
        obtain ⟨b, q2, rfl, hb, hq2, hst2⟩ := hcut
        have HST2 := Lib.hid hst2
        have HBV := Lib.hid hb
        clear hst2 hb
        go_upto_if 30 with fail
        go_cut [] (fun wx => ∃ (q3 : Nat), q3 ≤ q2 + 1 ∧ TermSt W wx g q3)
        case first =>
          cases b with
          | false =>
            go_wp2
            go_meet
            case rel => exact ⟨q2, by omega, HST2.out⟩
          | true =>
            have hv0 := HBV.out rfl
            go_wp2_with fail
            refine (pick_any g q2 _ _ HST2.out.rd (by omega)).mono ?_
            rintro e w3 ⟨x, rfl, hx, hr, hg⟩
            have hx := hx.2 (by omega)
            obtain ⟨k, rfl⟩ := Int.eq_ofNat_of_zero_le hx.1
            have hk : k < vars.length := by omega
            have H3 := Lib.hid (HST2.out.later hr hg)
            obtain ⟨b6, o6, c6, e, hy⟩ := (HVW.out.past H3.out.gr (by omega)).reads.at_ hk
            cases e
            generalize vars[k] = y at hy
            have hk' : (k : Int) < (vars.length : Int) := by omega
            have hk0 : (0 : Int) ≤ (k : Int) := by omega
            clear hr hg
            by_cases hys : y = sort
            · subst hys
              go_wp2
              go_ret
              have hz := H3.out.gr.size
              refine ⟨_, [100 + (k : Int)], q2 + 1, rfl, ⟨_, _, rfl⟩, lit1 w3 _ (by have := HZW.out; omega), by cases d <;> simp [Lb], small_one (by omega), (H3.out.below (below_alloc w3 (.cells #[.int .i64 (100 + (k : Int))] 3))).rd, ?_, gr_more HGW.out (H3.out.below (below_alloc w3 (.cells #[.int .i64 (100 + (k : Int))] 3))).gr⟩
              have := HQN.out
              have := HC3.out
              rw [HQB.out]; omega
            · have hyb : (y == sort) = false := by simpa using hys
              go_wp2
              go_meet
              case rel => exact ⟨q2 + 1, by omega, H3.out⟩
        case rest =>
          obtain ⟨q3, hq3, hst3⟩ := hcut
          obtain ⟨wa, rfl⟩ : ∃ wa : World, wa = wc := ⟨_, rfl⟩
          have HST3 := Lib.hid hst3
          have hbx := box_after HBOX.out hst3.gr (by omega)
          have f0 := block_cell hbx 0
          have f1 := block_cell hbx 1
          simp at f0 f1
          clear hst3 hbx
          by_cases hops : 0 < (ops.length : Int)
          · go_wp2_with fail
            refine (pick_any g q3 _ _ HST3.out.rd (by omega)).mono ?_
            rintro e w4 ⟨x, rfl, hx, hr, hg⟩
            have hx := hx.2 (by omega)
            obtain ⟨k, rfl⟩ := Int.eq_ofNat_of_zero_le hx.1
            have hk : k < ops.length := by omega
            have H4 := Lib.hid (HST3.out.later hr hg)
            have hrow := valid_row HV.out hk
            simp only at hrow
            obtain ⟨u', hou, hcells⟩ := HOW.out.nth hk
            obtain ⟨b7, o7, c7, e, hcell⟩ := hcells w4 g (by omega) H4.out.gr
            cases e
            clear hcells
            generalize ops[k] = row at hou hrow
            have hri := (hou.past H4.out.gr (by omega)).reads
            have HOU := Lib.hid hou
            clear hou
            have hr1 := hrow.1
            have hr3 := hrow.2.1
            obtain ⟨m, hml⟩ : ∃ m, row.length = m + 1 := ⟨row.length - 1, by omega⟩
            obtain ⟨b8, o8, c8, rfl, hlast⟩ := hri.at_ (k := row.length - 1) (by omega)
            generalize row[row.length - 1]'(by omega) = lv at hlast
            rw [show row.length - 1 = m by omega] at hlast
            rw [hml] at hcell
            have HML := Lib.hid hml
            have HRI := Lib.hid hri
            have hbx := box_after HBOX.out H4.out.gr (by omega)
            have g0 := block_cell hbx 0
            have g1 := block_cell hbx 1
            simp at g0 g1
            have hk' : (k : Int) < (ops.length : Int) := by omega
            have hk0 : (0 : Int) ≤ (k : Int) := by omega
            have hm2 : m ≤ 2 := by omega
            clear hr hg f0 f1 hri hbx hrow hml
            by_cases hls : lv = sort
            · subst hls
              have hlb : (lv != lv) = false := by simp
              by_cases hdm : D = 0 ∧ 0 < m
              · obtain ⟨rfl, hm0⟩ := hdm
                have hmm : (1 : Int) < (m : Int) + 1 := by omega
                go_wp2
                go_roundw
                case rel => exact ⟨n + 1, q3 + 1, by omega, by go_num, by have := HQN.out; have := HC3.out; omega, H4.out⟩
                case measure => simp [intOf]; omega
              · have hcond : D = 0 → ¬ (1 : Int) < (m : Int) + 1 := fun h => by have : ¬ 0 < m := fun h' => hdm ⟨h, h'⟩; omega
                have HLIT := Lib.hid (lit1 w4 (k : Int) (B := W.heap.size) H4.out.gr.size)
                have H5 := Lib.hid (H4.out.below (below_alloc w4 (.cells #[.int .i64 (k : Int)] 3)))
                have HDM := Lib.hid (show D ≠ 0 ∨ m = 0 by by_cases h : D = 0; exact .inr (by have := hcond h; omega); exact .inl h)
                have main : (D == 0) = true ∧ m = 0 ∨ (D == 0) = false := by
                  by_cases h : D = 0
                  · left; subst h; exact ⟨rfl, by have := hcond rfl; omega⟩
                  · right; simpa using h
                have HMAIN := Lib.hid main
                clear hdm hcond main
                go_upto_region 11 with fail
                go_cut [74] (fun s74 wx => s74 = .bool false ∧ wx = w4)
                case first =>
                  rcases HMAIN.out with ⟨hd0, hm0⟩ | hd0
                  · subst hm0
                    have hz1' := hlast
                    rw [Nat.add_zero] at hz1'
                    go_wp2
                    go_meet
                    case rel => exact ⟨by simp, rfl⟩
                  · go_wp2
                    go_meet
                    case rel => exact ⟨by simp, rfl⟩
                case rest =>
                  obtain ⟨rfl, rfl⟩ := hcut
                  clear g0 g1 hcell hlast HMAIN
                  go_wp2
                  go_loopw [15, 16, 17] (fun o15 j16 p17 wr => ∃ (j : Nat) (xs : List Int) (q5 : Nat), j ≤ m ∧ j16 = .int .i64 j ∧ OInts wr W.heap.size o15 xs ∧ 1 ≤ xs.length ∧ xs.length ≤ 1 + j * Lp d ∧ Small xs ∧ q5 ≤ q3 + 1 + j * Qp d ∧ TermSt W wr g q5) (fun _ j _ _ => m - (intOf j).toNat)
                  case atStart => exact ⟨0, [(k : Int)], q3 + 1, Nat.zero_le _, rfl, HLIT.out, by simp, by simp, small_one (by omega), by omega, H5.out⟩
                  case round =>
                    obtain ⟨j, xs, q5, hj, rfl, ho, hx1, hxl, hsm, hq5, hst5⟩ := hrel
                    obtain ⟨A9, c9, rfl, -⟩ := own_reads ho
                    have HO := Lib.hid ho
                    have HST5 := Lib.hid hst5
                    have HSM := Lib.hid hsm
                    have HLP := Lib.hid (Lp_le hd)
                    have hjL : j * Lp d ≤ 2 * Lp d := Nat.mul_le_mul_right _ (by omega)
                    have hjQ : j * Qp d ≤ 2 * Qp d := Nat.mul_le_mul_right _ (by omega)
                    have HNUM := Lib.hid (And.intro hjL (And.intro hjQ (And.intro hxl hq5)))
                    have hx30 : xs.length ≤ 31 := by have := HLP.out; omega
                    clear ho hst5 hsm hjL hjQ hxl hq5
                    by_cases hjm : j < m
                    · have hjm' : (j : Int) + 1 < (m : Int) + 1 := by omega
                      have hj0 : (0 : Int) ≤ (j : Int) := by omega
                      obtain ⟨d', hdd⟩ : ∃ d', d = d' + 1 := by
                        rcases HDM.out with h | h
                        · exact ⟨d - 1, by have := HD.out; omega⟩
                        · omega
                      have hwD : IntKind.i64.wrap (D - 1) = (d' : Int) := by rw [IntKind.wrap_i64, HD.out, hdd]; omega
                      have HLQ := Lib.hid (show Lp d = Lb d' ∧ Qp d = Qb d' by rw [hdd]; exact ⟨rfl, rfl⟩)
                      have HCB := Lib.hid (Cb_eq d)
                      obtain ⟨b9, o9, c10, e, hx⟩ := (HOU.out.past HST5.out.gr (by omega)).reads.at_ (k := j) (by have := HML.out; omega)
                      cases e
                      generalize row[j]'(by have := HML.out; omega) = y at hx
                      have hbx := box_after HBOX.out HST5.out.gr (by omega)
                      have g0 := block_cell hbx 0
                      have g1 := block_cell hbx 1
                      simp at g0 g1
                      have hz5 : W.heap.size ≤ wr.heap.size := HST5.out.gr.size
                      have HBND := Lib.hid (show q5 + Qb d' ≤ 1000000000 by
                        have h1 := HNUM.out.2.2.2
                        have h2 := HLQ.out.2
                        have h3 := HCB.out
                        have h4 := HQN.out.2
                        have h5 : (j + 1) * Qp d ≤ 2 * Qp d := Nat.mul_le_mul_right _ (by omega)
                        have h6 : (j + 1) * Qp d = j * Qp d + Qp d := Nat.succ_mul _ _
                        omega)
                      clear hbx
                      go_wp2_with fail
                      have ea := World.new_ne wr _ g0
                      have eb := World.new_ne wr _ hx
                      have hjm2 : (j : Int) < (m : Int) + 1 := by omega
                      have HS5 := Lib.hid (HSW.out.past HST5.out.gr (by omega))
                      have HV5 := Lib.hid (HVW.out.past HST5.out.gr (by omega))
                      go_region_held3 (fun w' => w'.cell? ⟨w.heap.size, 0, none⟩ = some (.int .i64 sorts) ∧ w'.cell? ⟨w.heap.size, 1, none⟩ = some (.slice (some ⟨b7, o7, none⟩) ops.length c) ∧ w'.cell? ⟨b8, o8 + j, none⟩ = some (.int .i64 y)) (first | go_keep | exact ⟨j0, j1, j2⟩)
                        (first
                          | (go_at_call 95; refine (HIH.out d' hdd g q5 y _ _ wr.drew HST5.out.rd HBND.out HS5.out HV5.out).mono ?_; rintro e w6 ⟨pv, ys, q6, rfl, -, hoy, hly, hsy, hr6, hq6, hg6⟩; have HG6 := Lib.hid (gr_drew hg6); have HOY := Lib.hid hoy; obtain ⟨Ay, cy, rfl, -⟩ := own_reads hoy; have HSY := Lib.hid hsy; have HST6 := Lib.hid (HST5.out.later hr6 (gr_drew hg6)); have HLY := Lib.hid hly; have j0 := block_cell (box_after HBOX.out HST6.out.gr (by omega)) 0; have j1 := block_cell (box_after HBOX.out HST6.out.gr (by omega)) 1; have j2 : w6.cell? ⟨b8, o8 + j, none⟩ = some (.int .i64 y) := cell_gr (gr_drew hg6) hx (by have := own_lt HOU.out b8 rfl; omega); clear hoy hsy hr6 hg6 hly))
                      clear j0 j1 j2 g0 g1 ea eb hx
                      have HQ6 := Lib.hid (show q6 ≤ q3 + 1 + (j + 1) * Qp d by
                        have h1 := HNUM.out.2.2.2
                        have h2 := HLQ.out.2
                        have h6 : (j + 1) * Qp d = j * Qp d + Qp d := Nat.succ_mul _ _
                        omega)
                      clear hq6
                      by_cases hy0 : ys.length = 0
                      · go_wp2
                        go_roundw
                        case rel =>
                          refine ⟨n + 1, q6, by omega, by go_num, ?_, HST6.out.below (below_alloc w6 (.cells #[] 3))⟩
                          have h1 := HQ6.out
                          have h3 := HCB.out
                          have h4 := HQN.out.1
                          have h5 : (j + 1) * Qp d ≤ 2 * Qp d := Nat.mul_le_mul_right _ (by omega)
                          omega
                        case measure => simp [intOf]; omega
                      · have hyb : ((ys.length : Int) == 0) = false := by rw [beq_eq_false_iff_ne]; omega
                        obtain ⟨by_, oy, c11, e, -⟩ := HOY.out.reads.at_ (k := 0) (by omega)
                        cases e
                        have HNEWS := Lib.hid (news_of HOY.out.reads)
                        have hown6 := own_past HO.out HG6.out hgW
                        have hz6 : W.heap.size ≤ w6.heap.size := Nat.le_trans hz5 HG6.out.size
                        have hyl : ys.length ≤ 15 := by have := HLY.out; have := HLP.out; have := HLQ.out.1; omega
                        go_wp2_with (at_builtin; refine wpList_append_own _ rfl _ _ 25 rfl W.heap.size 3 i0 (.int .i64 0) 1 8 Try.underlying25 hi hz0 hz1 hz2 rfl (by decide) _ xs.length (xs.map (Value.int .i64)) rfl hown6 ⟨by_, oy, none⟩ ys.length cy (ys.map (Value.int .i64)) rfl (by simp) HNEWS.out (ints_one _) (by rw [maxLen_eq]; omega) (by omega) hz6 ?_)
                        intro v' w7 hown7 hgrow7 _
                        have HO7 := Lib.hid (app_own rfl hown7)
                        have hb6 : ∀ k, (Value.slice A9 xs.length c9).ownBlock = some k → W.heap.size ≤ k := fun k e => (own_lt HO.out k e).1
                        have HST7 := Lib.hid (show TermSt W w7 g q6 from ⟨HST6.out.rd.grown hgrow7 (fun k e => by have := hb6 k e; omega), gr_trans HST6.out.gr hgrow7 (fun k e => .inr (hb6 k e))⟩)
                        have HLEN := Lib.hid (show (xs ++ ys).length ≤ 1 + (j + 1) * Lp d by
                          have h1 := HNUM.out.2.2.1
                          have h2 := HLQ.out.1
                          have h3 := HLY.out
                          have h6 : (j + 1) * Lp d = j * Lp d + Lp d := Nat.succ_mul _ _
                          rw [List.length_append]; omega)
                        have HSM7 := Lib.hid (show Small (xs ++ ys) from fun x hx => by rcases List.mem_append.1 hx with h | h; exact HSM.out x h; exact HSY.out x h)
                        clear hown7 hgrow7 hown6 hb6
                        go_wp2
                        go_roundw
                        case rel => exact ⟨j + 1, xs ++ ys, q6, by omega, by go_num, HO7.out, by rw [List.length_append]; omega, HLEN.out, HSM7.out, HQ6.out, HST7.out⟩
                        case measure => simp [intOf]; omega
                    · have hjm' : ¬ (j : Int) + 1 < (m : Int) + 1 := by omega
                      have hx0 : (0 : Int) < (xs.length : Int) := by omega
                      go_wp2
                      go_ret
                      refine ⟨_, xs, q5, rfl, own_some HO.out (by omega), HO.out.base (by have := HZW.out; omega), ?_, HSM.out, HST5.out.rd, ?_, gr_more HGW.out HST5.out.gr⟩
                      · have := HNUM.out.1
                        have := HNUM.out.2.2.1
                        rw [Lb_eq]; omega
                      · have h1 := HNUM.out.2.1
                        have h2 := HNUM.out.2.2.2
                        have h3 := Cb_eq d
                        have h4 := HQN.out.2
                        rw [HQB.out]; omega
            · have hlb : (lv != sort) = true := by simpa using hls
              go_wp2
              go_roundw
              case rel => exact ⟨n + 1, q3 + 1, by omega, by go_num, by have := HQN.out; have := HC3.out; omega, H4.out⟩
              case measure => simp [intOf]; omega
          · have ho0 : ops.length = 0 := by omega
            go_wp2
            go_roundw
            case rel => exact ⟨n + 1, q3, by omega, by go_num, by have := HQN.out; have := HC3.out; omega, HST3.out⟩
            case measure => simp [intOf]; omega
    · have hlt' : ¬ (n : Int) < 12 := by omega
      have hqf : q ≤ p + 12 * Cb d := by have : n * Cb d ≤ 12 * Cb d := Nat.mul_le_mul_right _ hn; omega
      have HQF := Lib.hid hqf
      clear hqf hq
      go_wp2
      go_loop [18] (fun i => ∃ k : Nat, k ≤ vars.length ∧ i = .int .i64 k) (fun i => vars.length - (intOf i).toNat)
      case atStart => exact ⟨0, Nat.zero_le _, rfl⟩
      case round =>
        obtain ⟨k, hk, rfl⟩ := hrel
        by_cases hkl : k < vars.length
        · obtain ⟨b6, o6, c6, e, hy⟩ := (HVW.out.past HST.out.gr (by omega)).reads.at_ hkl
          cases e
          generalize vars[k] = y at hy
          have hk' : (k : Int) < (vars.length : Int) := by omega
          have hk0 : (0 : Int) ≤ (k : Int) := by omega
          by_cases hys : y = sort
          · subst hys
            go_wp2
            go_ret
            have hz := HST.out.gr.size
            refine ⟨_, [100 + (k : Int)], q, rfl, ⟨_, _, rfl⟩, lit1 wr _ (by have := HZW.out; omega), by cases d <;> simp [Lb], small_one (by omega), (HST.out.below (below_alloc wr (.cells #[.int .i64 (100 + (k : Int))] 3))).rd, ?_, gr_more HGW.out (HST.out.below (below_alloc wr (.cells #[.int .i64 (100 + (k : Int))] 3))).gr⟩
            have := HQF.out
            rw [HQB.out]; omega
          · have hyb : (y == sort) = false := by simpa using hys
            go_wp2
            go_round
            case rel => exact ⟨k + 1, by omega, by go_num⟩
            case measure => simp [intOf]; omega
        · have hk' : ¬ (k : Int) < (vars.length : Int) := by omega
          go_wp2
          go_ret
          have hz := HST.out.gr.size
          refine ⟨_, [], q, rfl, ⟨_, _, rfl⟩, lit0 wr (by have := HZW.out; omega), by simp, fun x hx => by simp at hx, (HST.out.below (below_alloc wr (.cells #[] 3))).rd, ?_, gr_more HGW.out (HST.out.below (below_alloc wr (.cells #[] 3))).gr⟩
          have := HQF.out
          rw [HQB.out]; omega

theorem dterm_any (s : MSig) (vars : List Int) (hv : validB s = true) (hvl : vars.length ≤ 1000) : ∀ d, d ≤ 4 → DTermAt s vars d := by
  intro d
  induction d with
  | zero => intro _; exact dterm_step s vars hv hvl 0 (by omega) (fun d' h => by omega)
  | succ d ih => intro hd; exact dterm_step s vars hv hvl (d + 1) hd (fun d' h => by have e : d' = d := (by omega); subst e; exact ih (by omega))
end Go.Proofs.Yteccjnnhihbdhab
