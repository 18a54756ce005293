/- The draws of letters and terms: l20Vars, l20Term, l20Anything. · How a term that was read lies in memory: a letter, or an operation with a slice of terms. No walk. · firstTerm and opWithTerms: a row is read as a term. By induction on a number that bounds the row's length. · firstTerm, by induction; termOf. -/
import Derived.Test.YtkhabmoidpgapaaK9095994a
import Derived.Deep.RegionHeld3
import Derived.Deep.DeepCutAuto
import Derived.Deep.AppendLies
namespace Go.Proofs.Ytkhabmoidpgapaa
section
open Go.RowKit
set_option linter.unusedVariables false

theorem OSig.past {w w' : World} {g B : Nat} {v : Value} {s : MSig} (h : OSig w B v s) (hg : w.grownBy w' (some g)) (hB : g < B) : OSig w' B v s := by
  obtain ⟨u, e, h⟩ := h
  exact ⟨u, e, h.grown hg (fun k e => by injection e with e; omega)⟩
theorem ORows.nth {w : World} {B k : Nat} {v : Value} {rows : List (List Int)} (h : ORows w B v rows) (hk : k < rows.length) : ∃ u, OInts w B u rows[k] ∧ ∀ (w' : World) (g : Nat), g < B → w.grownBy w' (some g) → ∃ b o c, v = .slice (some ⟨b, o, none⟩) rows.length c ∧ w'.cell? ⟨b, o + k, none⟩ = some u := by
  obtain ⟨us, h1, h2, h3, h4⟩ := h
  have hku : k < us.length := by omega
  refine ⟨us[k], h3 k us[k] rows[k] (List.getElem?_eq_getElem hku) (List.getElem?_eq_getElem hk), fun w' g hg hgr => ?_⟩
  obtain ⟨A, c, e, -, -, h5⟩ := own_reads (own_past h1 hgr hg)
  obtain ⟨b, o, rfl, hc⟩ := h5 k us[k] (List.getElem?_eq_getElem hku)
  exact ⟨b, o, c, e, hc⟩
theorem OInts.past {w w' : World} {g B : Nat} {v : Value} {xs : List Int} (h : OInts w B v xs) (hg : w.grownBy w' (some g)) (hB : g < B) : OInts w' B v xs := own_past h hg hB
theorem gr_more {a b c : World} {g : Nat} (h : a.grownBy b (some g)) (k : b.grownBy c (some g)) : a.grownBy c (some g) := gr_trans h k (fun x e => by injection e with e; exact .inl e.symm)
theorem gr_box {w wr : World} {g : Nat} {o : Obj} (h : (w.alloc o).grownBy wr (some g)) : w.grownBy wr (some g) := gr_more (gr_alloc (gr_refl w g) o) h
theorem zeros5 (w : World) (cs : Array Value) (h : cs = #[.int .i64 0, .int .i64 0, .int .i64 0, .int .i64 0, .int .i64 0]) : OInts (w.alloc (.cells cs 3)) w.heap.size (.slice (some ⟨w.heap.size, 0, none⟩) 5 5) [0, 0, 0, 0, 0] := by
  subst h
  exact World.ownsRow_lit w _ 5 (Nat.le_refl _) (by unfold maxLen; omega) rfl

theorem made5 : madeCells #[Value.int .i64 0] 5 = #[.int .i64 0, .int .i64 0, .int .i64 0, .int .i64 0, .int .i64 0] := by kernel_rfl
def VarsPost (g p : Nat) (w : World) (e : Ending) (w' : World) : Prop :=
  ∃ (v : Value) (xs : List Int) (q : Nat), e = .returned v ∧ OInts w' w.heap.size v xs ∧ xs.length ≤ 5 ∧ RRd w' g q ∧ q ≤ p + 10 ∧ w.grownBy w' (some g)

theorem lit_new (w : World) (x : Int) : ∀ (j : Nat) (u : Value), [Value.int .i64 x][j]? = some u → (w.alloc (.cells #[.int .i64 x] 3)).cell? ((⟨w.heap.size, 0, none⟩ : Addr).add j) = some u := fun j u hj => by
  match j, hj with
  | 0, hj =>
    simp at hj
    subst hj
    rw [show (⟨w.heap.size, 0, none⟩ : Addr).add 0 = ⟨w.heap.size, 0, none⟩ by simp [Addr.add], World.cell?_alloc_at _ _ _ _ rfl]; rfl
theorem lit_one (x : Int) : ∀ u ∈ [Value.int .i64 x], u.oneCell' = true := fun u hu => by simp at hu; subst hu; rfl
theorem cell_gr {w w' : World} {g b o : Nat} {u : Value} (hg : w.grownBy w' (some g)) (hc : w.cell? ⟨b, o, none⟩ = some u) (hne : b ≠ g) : w'.cell? ⟨b, o, none⟩ = some u := hg.cell hc (fun e => hne (by injection e))
theorem app_own {w : World} {B m : Nat} {v : Value} {ps rs : List Int} (hm : rs.length = m) (h : w.ownsRow B 3 1 v (ps.length + m) (ps.map (Value.int .i64) ++ rs.map (Value.int .i64))) : OInts w B v (ps ++ rs) := by
  unfold OInts; rw [List.length_append, List.map_append, hm]; exact h
theorem own_some {w : World} {B c : Nat} {A : Option Addr} {xs : List Int} (h : OInts w B (.slice A xs.length c) xs) (h1 : 1 ≤ xs.length) : ∃ ad c', Value.slice A xs.length c = .slice (some ad) xs.length c' := by
  obtain ⟨b, o, c', e, -⟩ := h.reads.at_ (k := 0) (by omega)
  exact ⟨_, _, e⟩
theorem row_start1 {W w1 : World} {g q : Nat} (hgl : g < W.heap.size) (hr : RRd w1 g q) (hg : (W.alloc (.cells #[] 3)).grownBy w1 (some g)) : RowAt W W w1 g (.slice (some ⟨W.heap.size, 0, none⟩) 0 0) [] q :=
  ⟨own_past (World.ownsRow_lit W #[] 0 (Nat.le_refl _) (Nat.zero_le _) rfl) hg hgl, hr, gr_box hg⟩
theorem RowAt.later {wo wj w2 : World} {g q q' : Nat} {rv : Value} {row : List Int} (h : RowAt wo wo wj g rv row q) (hgl : g < wo.heap.size) (hp : wj.grownBy w2 (some g)) (hr : RRd w2 g q') : RowAt wo wo w2 g rv row q' :=
  ⟨own_past h.own hp hgl, hr, gr_more h.gr hp⟩
/-- the reader at an odd number of calls: some place -/
theorem box_after {W wr : World} {g b : Nat} {o : Obj} (hb : W.heap[b]? = some o) (hg : W.grownBy wr (some g)) (hne : b ≠ g) : wr.heap[b]? = some o := gr_at hg hne hb

set_option maxHeartbeats 800000 in
set_option maxRecDepth 100000 in
theorem drawVars_any (g p : Nat) (n : Int) (s : MSig) (sv : Value) (w : World) (h : RRd w g p) (hp : p ≤ 100000000) (hn : 0 ≤ n) (hn2 : n ≤ 1000000) (hs : RSig w sv s) :
    Calls Try.prog 89 #[.pointer (some ⟨g, 0, none⟩), sv, .int .i64 n] w (VarsPost g p w) := by
  obtain ⟨u0, rfl, hrr⟩ := hs
  obtain ⟨sorts, ops⟩ := s
  obtain ⟨A, c, rfl, -⟩ := hrr.form
  have hgl := h.lt
  obtain ⟨W, hW⟩ : ∃ W : World, W = w.alloc (.cells #[.int .i64 sorts, .slice A ops.length c] 25) := ⟨_, rfl⟩
  have hbW : Below w.heap.size w W := by rw [hW]; exact below_alloc _ _
  have HGW := Lib.hid (show w.grownBy W (some g) by rw [hW]; exact gr_alloc (gr_refl w g) _)
  have hboxW : W.heap[w.heap.size]? = some (.cells #[.int .i64 sorts, .slice A ops.length c] 25 (0, 0)) := by rw [hW]; exact heap_alloc_new w _
  have HBOX := Lib.hid hboxW
  have HRW := Lib.hid (h.keep hbW)
  have hzW : W.heap.size = w.heap.size + 1 := by rw [hW]; simp
  have HZW := Lib.hid hzW
  obtain ⟨i0, hi, hz0, hz1, hz2⟩ := info_parts Try.info_int
  have hmk : ∀ w : World, (Instr.makeSlice 26 (.int .i64 5) (.int .i64 5)).run Try.prog w = .ok (.slice (some ⟨w.heap.size, 0, none⟩) 5 5) (w.alloc (.cells (madeCells #[.int .i64 0] 5) 3)) := fun w => run_make_row' (P := Try.prog) 26 3 (.int .i64 0) 8 Try.underlying26 Try.tinfo_int rfl .i64 .i64 5 (by omega) (by omega) w
  have hgW : g < W.heap.size := by omega
  have HMK := Lib.hid hmk
  have HRA := Lib.hid (HRW.out.keep (below_alloc W (.cells #[] 3)))
  have hW' := hW.symm
  clear hboxW hbW h hrr hmk hzW
  clear hW
  go_enter Try.func89, Try.ntmps89
  go_wp2_with fail
  clear hW'
  refine (pick_any g p 4 _ HRA.out (by omega)).mono ?_
  rintro e w1 ⟨x, rfl, hx, hr, hg⟩
  have hx := hx.2 (by omega)
  obtain ⟨K, rfl⟩ := Int.eq_ofNat_of_zero_le hx.1
  have hK : K ≤ 3 := by omega
  have HST := Lib.hid (row_start1 hgW hr hg)
  clear hr hg hx
  go_wp2
  go_loopw [7, 8] (fun o k wr => ∃ (m : Nat) (xs : List Int) (q : Nat), k = .int .i64 m ∧ m ≤ 3 ∧ xs.length + m ≤ 3 ∧ q + m ≤ p + 4 ∧ RowAt W W wr g o xs q) (fun _ k _ => (intOf k).toNat)
  case atStart => exact ⟨K, [], p + 1, rfl, hK, by simp; omega, by omega, HST.out⟩
  case round =>
    obtain ⟨m, xs, q, rfl, hm, hxm, hqm, hrow⟩ := hrel
    obtain ⟨A9, c9, rfl, -⟩ := own_reads hrow.own
    have HROW := Lib.hid hrow
    have hbx := box_after HBOX.out hrow.gr (by omega)
    have f0 := block_cell hbx 0
    have f1 := block_cell hbx 1
    simp at f0 f1
    obtain ⟨wj, rfl⟩ : ∃ wj : World, wj = wr := ⟨_, rfl⟩
    clear hrow hbx
    by_cases hm0 : 0 < m
    · go_wp2_with fail
      all_goals
        refine (pick_any g q _ _ HROW.out.rd (by omega)).mono ?_
        rintro e w3 ⟨x, rfl, -, hr, hg⟩
        have HR3 := Lib.hid hr
        have HG3 := Lib.hid hg
        clear hr hg f0 f1
        have hown3 := own_past HROW.out.own HG3.out hgW
        have hz3 : W.heap.size ≤ w3.heap.size := Nat.le_trans HROW.out.gr.size HG3.out.size
        go_wp2_with (at_builtin; refine wpList_append_own _ rfl _ _ 26 rfl W.heap.size 3 i0 (.int .i64 0) 1 8 Try.underlying26 hi hz0 hz1 hz2 rfl (by decide) _ _ _ rfl (hown3.alloc _) ⟨w3.heap.size, 0, none⟩ 1 1 [.int .i64 x] rfl rfl (lit_new w3 x) (lit_one x) (by unfold maxLen; omega) (by omega) (by simp; omega) ?_)
        intro v' w4 hown4 hgrow4 _
        have HN := Lib.hid (info_append wj w4 W HROW.out hgW HG3.out HR3.out hown4 hgrow4)
        clear hown3 hown4 hgrow4
        go_wp2
        go_roundw
        case rel => exact ⟨m - 1, xs ++ [x], q + 1, by go_num, by omega, by simp; omega, by omega, HN.out⟩
        case measure => simp [intOf]; omega
    · have hm1 : ¬ (0 : Int) < (m : Int) := by omega
      clear f0 f1
      go_wp2_with fail
      refine (odd_any g q n _ HROW.out.rd (by omega) hn hn2).mono ?_
      rintro e w3 ⟨b, q3, rfl, hr, hq3, hg⟩
      have HR3 := Lib.hid (HROW.out.later hgW hg hr)
      clear hr hg
      cases b with
      | false =>
        go_wp2
        go_ret
        exact ⟨_, xs, q3, rfl, HR3.out.own.base (by have := HZW.out; omega), by omega, HR3.out.rd, by omega, gr_more HGW.out HR3.out.gr⟩
      | true =>
        go_wp2_with fail
        refine (pick_any g q3 2 _ HR3.out.rd (by omega)).mono ?_
        rintro e w5 ⟨x, rfl, -, hr, hg⟩
        have HR5 := Lib.hid (HR3.out.later hgW hg hr)
        clear hr hg
        by_cases hx0 : x = 0
        · subst hx0
          have hbx := box_after HBOX.out HR5.out.gr (by omega)
          have f0 := block_cell hbx 0
          simp at f0
          have hown5 := HR5.out.own
          clear hbx
          go_wp2_with (at_builtin; refine wpList_append_own _ rfl _ _ 26 rfl W.heap.size 3 i0 (.int .i64 0) 1 8 Try.underlying26 hi hz0 hz1 hz2 rfl (by decide) _ _ _ rfl (hown5.alloc _) ⟨w5.heap.size, 0, none⟩ 1 1 [.int .i64 sorts] rfl rfl (lit_new w5 sorts) (lit_one sorts) (by unfold maxLen; omega) (by omega) (by have := HR5.out.gr.size; simp; omega) ?_)
          intro v' w4 hown4 hgrow4 _
          have HN := Lib.hid (show RowAt W W w4 g v' (xs ++ [sorts]) (q3 + 1) from ⟨by unfold OInts; simpa using hown4, (HR5.out.rd.keep (below_alloc w5 _)).grown hgrow4 (fun k e => by have := (own_lt HR5.out.own k e).1; omega), gr_trans (gr_alloc HR5.out.gr _) hgrow4 (fun k e => .inr (own_lt HR5.out.own k e).1)⟩)
          clear hown5 hown4 hgrow4 f0
          go_wp2
          go_ret
          exact ⟨_, xs ++ [sorts], q3 + 1, rfl, HN.out.own.base (by have := HZW.out; omega), by simp; omega, HN.out.rd, by omega, gr_more HGW.out HN.out.gr⟩
        · have hmk := HMK.out
          go_wp2
          go_ret
          have hal := below_alloc w5 (.cells (madeCells #[.int .i64 0] 5) 3)
          refine ⟨_, [0, 0, 0, 0, 0], q3 + 1, rfl, (zeros5 w5 _ made5).base (by have := HR5.out.gr.size; have := HZW.out; omega), by simp, HR5.out.rd.keep hal, by omega, gr_below (gr_more HGW.out HR5.out.gr) hal⟩

/-! a term -/
def Lb : Nat → Nat
  | 0 => 1
  | d + 1 => 1 + 2 * Lb d
def Qb : Nat → Nat
  | 0 => 36
  | d + 1 => 36 + 24 * Qb d
def Cb : Nat → Nat
  | 0 => 3
  | d + 1 => 3 + 2 * Qb d
theorem Qb_eq (d : Nat) : Qb d = 12 * Cb d := by cases d <;> simp [Qb, Cb]; omega
def Lp : Nat → Nat
  | 0 => 0
  | d + 1 => Lb d
def Qp : Nat → Nat
  | 0 => 0
  | d + 1 => Qb d
theorem Lb_eq (d : Nat) : Lb d = 1 + 2 * Lp d := by cases d <;> rfl
theorem Cb_eq (d : Nat) : Cb d = 3 + 2 * Qp d := by cases d <;> rfl
theorem Lp_le {d : Nat} (h : d ≤ 4) : Lp d ≤ 15 := by
  match d, h with
  | 0, _ => decide
  | 1, _ => decide
  | 2, _ => decide
  | 3, _ => decide
  | 4, _ => decide
def DTermPost (g p d : Nat) (w : World) (e : Ending) (w' : World) : Prop :=
  ∃ (v : Value) (xs : List Int) (q : Nat), e = .returned v ∧ (∃ ad c, v = .slice (some ad) xs.length c) ∧ OInts w' w.heap.size v xs ∧ xs.length ≤ Lb d ∧ Small xs ∧ RRd w' g q ∧ q ≤ p + Qb d ∧ w.grownBy w' (some g)
def DTermAt (s : MSig) (vars : List Int) (d : Nat) : Prop := ∀ (g p : Nat) (sort : Int) (sv vv : Value) (w : World), RRd w g p → p + Qb d ≤ 1000000000 → OSig w (g + 1) sv s → OInts w (g + 1) vv vars →
  Calls Try.prog 102 #[.pointer (some ⟨g, 0, none⟩), sv, vv, .int .i64 sort, .int .i64 (d : Int)] w (DTermPost g p d w)

/-- a place in l20Term: W the world behind the box -/
structure TermSt (W wr : World) (g q : Nat) : Prop where
  rd : RRd wr g q
  gr : W.grownBy wr (some g)
theorem TermSt.later {W wr w2 : World} {g q q' : Nat} (h : TermSt W wr g q) (hr : RRd w2 g q') (hg : wr.grownBy w2 (some g)) : TermSt W w2 g q' := ⟨hr, gr_more h.gr hg⟩
theorem TermSt.below {W wr w2 : World} {g q : Nat} (h : TermSt W wr g q) (hb : Below wr.heap.size wr w2) : TermSt W w2 g q := ⟨h.rd.keep hb, gr_below h.gr hb⟩
theorem lit1 (w : World) (x : Int) {B : Nat} (hB : B ≤ w.heap.size) : OInts (w.alloc (.cells #[.int .i64 x] 3)) B (.slice (some ⟨w.heap.size, 0, none⟩) 1 1) [x] :=
  OInts.base (World.ownsRow_lit w #[.int .i64 x] 1 (Nat.le_refl _) (by unfold maxLen; omega) rfl) hB
theorem lit0 (w : World) {B : Nat} (hB : B ≤ w.heap.size) : OInts (w.alloc (.cells #[] 3)) B (.slice (some ⟨w.heap.size, 0, none⟩) 0 0) [] := (own_empty w).base hB
theorem small_one {x : Int} (h : x ≤ 9223372036854775807) : Small [x] := fun y hy => by simp at hy; subst hy; exact h

set_option maxHeartbeats 1600000 in
set_option maxRecDepth 100000 in
theorem dterm_step (s : MSig) (vars : List Int) (hv : validB s = true) (hvl : vars.length ≤ 1000) (d : Nat) (hd : d ≤ 4) (ih : ∀ d', d = d' + 1 → DTermAt s vars d') : DTermAt s vars d := by
  intro g p sort sv vv w h hp hs hvv
  obtain ⟨i0, hi, hz0, hz1, hz2⟩ := info_parts Try.info_int
  obtain ⟨u0, rfl, hoo⟩ := hs
  obtain ⟨sorts, ops⟩ := s
  simp only at hoo
  obtain ⟨A, c, rfl, -⟩ := hoo.reads.form
  obtain ⟨A2, c2, rfl, -⟩ := hvv.reads.form
  have hgl := h.lt
  have hvs := valid_sorts hv
  simp only at hvs
  obtain ⟨W, hW⟩ : ∃ W : World, W = w.alloc (.cells #[.int .i64 sorts, .slice A ops.length c] 25) := ⟨_, rfl⟩
  have hbW : Below w.heap.size w W := by rw [hW]; exact below_alloc _ _
  have HGW := Lib.hid (show w.grownBy W (some g) by rw [hW]; exact gr_alloc (gr_refl w g) _)
  have HBOX := Lib.hid (show W.heap[w.heap.size]? = some (.cells #[.int .i64 sorts, .slice A ops.length c] 25 (0, 0)) by rw [hW]; exact heap_alloc_new w _)
  have HRW := Lib.hid (h.keep hbW)
  have HZW := Lib.hid (show W.heap.size = w.heap.size + 1 by rw [hW]; simp)
  have HSW := Lib.hid (show OSig W (g + 1) (.agg #[.int .i64 sorts, .slice A ops.length c]) ⟨sorts, ops⟩ from (show OSig w (g + 1) (.agg #[.int .i64 sorts, .slice A ops.length c]) ⟨sorts, ops⟩ from ⟨_, rfl, hoo⟩).keep hbW)
  have HOW := Lib.hid (hoo.keep hbW)
  have HVW := Lib.hid (hvv.keep hbW)
  have hgW : g < W.heap.size := by have := HZW.out; omega
  have hW' := hW.symm
  obtain ⟨D, hD⟩ : ∃ D : Int, D = (d : Int) := ⟨_, rfl⟩
  rw [← hD]
  have HD := Lib.hid hD
  have HIH := Lib.hid ih
  have HV := Lib.hid hv
  have HQB := Lib.hid (Qb_eq d)
  rw [HQB.out] at hp
  have hl2 : vars.length ≤ 9223372036854775807 := by omega
  clear hbW h hoo hvv hD ih hv hW
  go_enter Try.func102, Try.ntmps102
  go_wp2_with fail
  clear hW'
  go_loopw [11, 12, 13, 14, 15, 16, 17] (fun t11 k12 k13 r14 o15 j16 p17 wr => ∃ (n q : Nat), n ≤ 12 ∧ t11 = .int .i64 n ∧ q ≤ p + n * Cb d ∧ TermSt W wr g q) (fun t _ _ _ _ _ _ _ => 12 - (intOf t).toNat)
  case atStart => exact ⟨0, p, Nat.zero_le _, rfl, by omega, ⟨HRW.out, gr_refl W g⟩⟩
  case round =>
    obtain ⟨n, q, hn, rfl, hq, hst⟩ := hrel
    have HST := Lib.hid hst
    clear hst
    by_cases hlt : n < 12
    · have hlt' : (n : Int) < 12 := by omega
      go_upto_region 4 with fail
      have HQN := Lib.hid (show q + Cb d ≤ p + (n + 1) * Cb d ∧ q + Cb d ≤ p + 12 * Cb d by
        have h1 : (n + 1) * Cb d = n * Cb d + Cb d := Nat.succ_mul _ _
        have h2 : (n + 1) * Cb d ≤ 12 * Cb d := Nat.mul_le_mul_right _ (by omega)
        omega)
      have HC3 := Lib.hid (show 3 ≤ Cb d by cases d <;> simp [Cb])
      have hqn : q + 3 ≤ 1000000000 := by have := HQN.out; have := HC3.out; omega
      go_cut [30] (fun s30 wx => ∃ (b : Bool) (q2 : Nat), s30 = .bool b ∧ (b = true → 0 < vars.length) ∧ q2 ≤ q + 1 ∧ TermSt W wx g q2)
      case first =>
        go_wp2_with fail
        refine (pick_any g q 2 _ HST.out.rd (by omega)).mono ?_
        rintro e w2 ⟨x, rfl, -, hr, hg⟩
        have H2 := Lib.hid (HST.out.later hr hg)
        clear hr hg
        by_cases hx0 : x = 0
        · subst hx0
          by_cases hv0 : 0 < (vars.length : Int)
          · go_wp2
            go_meet
            case rel => exact ⟨true, q + 1, (by simp; omega), (by simp; omega), by omega, H2.out⟩
          · go_wp2
            go_meet
            case rel => exact ⟨false, q + 1, (by simp; first | omega | exact List.eq_nil_of_length_eq_zero (by omega)), by simp, by omega, H2.out⟩
        · go_wp2
          go_meet
          case rel => exact ⟨false, q + 1, rfl, by simp, by omega, H2.out⟩
      case rest =>
        obtain ⟨b, q2, rfl, hb, hq2, hst2⟩ := hcut
        have HST2 := Lib.hid hst2
        have HBV := Lib.hid hb
        clear hst2 hb
        go_upto_if 30 with fail
        go_cut [] (fun wx => ∃ (q3 : Nat), q3 ≤ q2 + 1 ∧ TermSt W wx g q3)
        case first =>
          cases b with
          | false =>
            go_wp2
            go_meet
            case rel => exact ⟨q2, by omega, HST2.out⟩
          | true =>
            have hv0 := HBV.out rfl
            go_wp2_with fail
            refine (pick_any g q2 _ _ HST2.out.rd (by omega)).mono ?_
            rintro e w3 ⟨x, rfl, hx, hr, hg⟩
            have hx := hx.2 (by omega)
            obtain ⟨k, rfl⟩ := Int.eq_ofNat_of_zero_le hx.1
            have hk : k < vars.length := by omega
            have H3 := Lib.hid (HST2.out.later hr hg)
            obtain ⟨b6, o6, c6, e, hy⟩ := (HVW.out.past H3.out.gr (by omega)).reads.at_ hk
            cases e
            generalize vars[k] = y at hy
            have hk' : (k : Int) < (vars.length : Int) := by omega
            have hk0 : (0 : Int) ≤ (k : Int) := by omega
            clear hr hg
            by_cases hys : y = sort
            · subst hys
              go_wp2
              go_ret
              have hz := H3.out.gr.size
              refine ⟨_, [100 + (k : Int)], q2 + 1, rfl, ⟨_, _, rfl⟩, lit1 w3 _ (by have := HZW.out; omega), by cases d <;> simp [Lb], small_one (by omega), (H3.out.below (below_alloc w3 (.cells #[.int .i64 (100 + (k : Int))] 3))).rd, ?_, gr_more HGW.out (H3.out.below (below_alloc w3 (.cells #[.int .i64 (100 + (k : Int))] 3))).gr⟩
              have := HQN.out
              have := HC3.out
              rw [HQB.out]; omega
            · have hyb : (y == sort) = false := by simpa using hys
              go_wp2
              go_meet
              case rel => exact ⟨q2 + 1, by omega, H3.out⟩
        case rest =>
          obtain ⟨q3, hq3, hst3⟩ := hcut
          obtain ⟨wa, rfl⟩ : ∃ wa : World, wa = wc := ⟨_, rfl⟩
          have HST3 := Lib.hid hst3
          have hbx := box_after HBOX.out hst3.gr (by omega)
          have f0 := block_cell hbx 0
          have f1 := block_cell hbx 1
          simp at f0 f1
          clear hst3 hbx
          by_cases hops : 0 < (ops.length : Int)
          · go_wp2_with fail
            refine (pick_any g q3 _ _ HST3.out.rd (by omega)).mono ?_
            rintro e w4 ⟨x, rfl, hx, hr, hg⟩
            have hx := hx.2 (by omega)
            obtain ⟨k, rfl⟩ := Int.eq_ofNat_of_zero_le hx.1
            have hk : k < ops.length := by omega
            have H4 := Lib.hid (HST3.out.later hr hg)
            have hrow := valid_row HV.out hk
            simp only at hrow
            obtain ⟨u', hou, hcells⟩ := HOW.out.nth hk
            obtain ⟨b7, o7, c7, e, hcell⟩ := hcells w4 g (by omega) H4.out.gr
            cases e
            clear hcells
            generalize ops[k] = row at hou hrow
            have hri := (hou.past H4.out.gr (by omega)).reads
            have HOU := Lib.hid hou
            clear hou
            have hr1 := hrow.1
            have hr3 := hrow.2.1
            obtain ⟨m, hml⟩ : ∃ m, row.length = m + 1 := ⟨row.length - 1, by omega⟩
            obtain ⟨b8, o8, c8, rfl, hlast⟩ := hri.at_ (k := row.length - 1) (by omega)
            generalize row[row.length - 1]'(by omega) = lv at hlast
            rw [show row.length - 1 = m by omega] at hlast
            rw [hml] at hcell
            have HML := Lib.hid hml
            have HRI := Lib.hid hri
            have hbx := box_after HBOX.out H4.out.gr (by omega)
            have g0 := block_cell hbx 0
            have g1 := block_cell hbx 1
            simp at g0 g1
            have hk' : (k : Int) < (ops.length : Int) := by omega
            have hk0 : (0 : Int) ≤ (k : Int) := by omega
            have hm2 : m ≤ 2 := by omega
            clear hr hg f0 f1 hri hbx hrow hml
            by_cases hls : lv = sort
            · subst hls
              have hlb : (lv != lv) = false := by simp
              by_cases hdm : D = 0 ∧ 0 < m
              · obtain ⟨rfl, hm0⟩ := hdm
                have hmm : (1 : Int) < (m : Int) + 1 := by omega
                go_wp2
                go_roundw
                case rel => exact ⟨n + 1, q3 + 1, by omega, by go_num, by have := HQN.out; have := HC3.out; omega, H4.out⟩
                case measure => simp [intOf]; omega
              · have hcond : D = 0 → ¬ (1 : Int) < (m : Int) + 1 := fun h => by have : ¬ 0 < m := fun h' => hdm ⟨h, h'⟩; omega
                have HLIT := Lib.hid (lit1 w4 (k : Int) (B := W.heap.size) H4.out.gr.size)
                have H5 := Lib.hid (H4.out.below (below_alloc w4 (.cells #[.int .i64 (k : Int)] 3)))
                have HDM := Lib.hid (show D ≠ 0 ∨ m = 0 by by_cases h : D = 0; exact .inr (by have := hcond h; omega); exact .inl h)
                have main : (D == 0) = true ∧ m = 0 ∨ (D == 0) = false := by
                  by_cases h : D = 0
                  · left; subst h; exact ⟨rfl, by have := hcond rfl; omega⟩
                  · right; simpa using h
                have HMAIN := Lib.hid main
                clear hdm hcond main
                go_upto_region 11 with fail
                go_cut [74] (fun s74 wx => s74 = .bool false ∧ wx = w4)
                case first =>
                  rcases HMAIN.out with ⟨hd0, hm0⟩ | hd0
                  · subst hm0
                    have hz1' := hlast
                    rw [Nat.add_zero] at hz1'
                    go_wp2
                    go_meet
                    case rel => exact ⟨by simp, rfl⟩
                  · go_wp2
                    go_meet
                    case rel => exact ⟨by simp, rfl⟩
                case rest =>
                  obtain ⟨rfl, rfl⟩ := hcut
                  clear g0 g1 hcell hlast HMAIN
                  go_wp2
                  go_loopw [15, 16, 17] (fun o15 j16 p17 wr => ∃ (j : Nat) (xs : List Int) (q5 : Nat), j ≤ m ∧ j16 = .int .i64 j ∧ OInts wr W.heap.size o15 xs ∧ 1 ≤ xs.length ∧ xs.length ≤ 1 + j * Lp d ∧ Small xs ∧ q5 ≤ q3 + 1 + j * Qp d ∧ TermSt W wr g q5) (fun _ j _ _ => m - (intOf j).toNat)
                  case atStart => exact ⟨0, [(k : Int)], q3 + 1, Nat.zero_le _, rfl, HLIT.out, by simp, by simp, small_one (by omega), by omega, H5.out⟩
                  case round =>
                    obtain ⟨j, xs, q5, hj, rfl, ho, hx1, hxl, hsm, hq5, hst5⟩ := hrel
                    obtain ⟨A9, c9, rfl, -⟩ := own_reads ho
                    have HO := Lib.hid ho
                    have HST5 := Lib.hid hst5
                    have HSM := Lib.hid hsm
                    have HLP := Lib.hid (Lp_le hd)
                    have hjL : j * Lp d ≤ 2 * Lp d := Nat.mul_le_mul_right _ (by omega)
                    have hjQ : j * Qp d ≤ 2 * Qp d := Nat.mul_le_mul_right _ (by omega)
                    have HNUM := Lib.hid (And.intro hjL (And.intro hjQ (And.intro hxl hq5)))
                    have hx30 : xs.length ≤ 31 := by have := HLP.out; omega
                    clear ho hst5 hsm hjL hjQ hxl hq5
                    by_cases hjm : j < m
                    · have hjm' : (j : Int) + 1 < (m : Int) + 1 := by omega
                      have hj0 : (0 : Int) ≤ (j : Int) := by omega
                      obtain ⟨d', hdd⟩ : ∃ d', d = d' + 1 := by
                        rcases HDM.out with h | h
                        · exact ⟨d - 1, by have := HD.out; omega⟩
                        · omega
                      have hwD : IntKind.i64.wrap (D - 1) = (d' : Int) := by rw [IntKind.wrap_i64, HD.out, hdd]; omega
                      have HLQ := Lib.hid (show Lp d = Lb d' ∧ Qp d = Qb d' by rw [hdd]; exact ⟨rfl, rfl⟩)
                      have HCB := Lib.hid (Cb_eq d)
                      obtain ⟨b9, o9, c10, e, hx⟩ := (HOU.out.past HST5.out.gr (by omega)).reads.at_ (k := j) (by have := HML.out; omega)
                      cases e
                      generalize row[j]'(by have := HML.out; omega) = y at hx
                      have hbx := box_after HBOX.out HST5.out.gr (by omega)
                      have g0 := block_cell hbx 0
                      have g1 := block_cell hbx 1
                      simp at g0 g1
                      have hz5 : W.heap.size ≤ wr.heap.size := HST5.out.gr.size
                      have HBND := Lib.hid (show q5 + Qb d' ≤ 1000000000 by
                        have h1 := HNUM.out.2.2.2
                        have h2 := HLQ.out.2
                        have h3 := HCB.out
                        have h4 := HQN.out.2
                        have h5 : (j + 1) * Qp d ≤ 2 * Qp d := Nat.mul_le_mul_right _ (by omega)
                        have h6 : (j + 1) * Qp d = j * Qp d + Qp d := Nat.succ_mul _ _
                        omega)
                      clear hbx
                      go_wp2_with fail
                      have ea := World.new_ne wr _ g0
                      have eb := World.new_ne wr _ hx
                      have hjm2 : (j : Int) < (m : Int) + 1 := by omega
                      have HS5 := Lib.hid (HSW.out.past HST5.out.gr (by omega))
                      have HV5 := Lib.hid (HVW.out.past HST5.out.gr (by omega))
                      go_region_held3 (fun w' => w'.cell? ⟨w.heap.size, 0, none⟩ = some (.int .i64 sorts) ∧ w'.cell? ⟨w.heap.size, 1, none⟩ = some (.slice (some ⟨b7, o7, none⟩) ops.length c) ∧ w'.cell? ⟨b8, o8 + j, none⟩ = some (.int .i64 y)) (first | go_keep | exact ⟨j0, j1, j2⟩)
                        (first
                          | (go_at_call 102; refine (HIH.out d' hdd g q5 y _ _ wr.drew HST5.out.rd HBND.out HS5.out HV5.out).mono ?_; rintro e w6 ⟨pv, ys, q6, rfl, -, hoy, hly, hsy, hr6, hq6, hg6⟩; have HG6 := Lib.hid (gr_drew hg6); have HOY := Lib.hid hoy; obtain ⟨Ay, cy, rfl, -⟩ := own_reads hoy; have HSY := Lib.hid hsy; have HST6 := Lib.hid (HST5.out.later hr6 (gr_drew hg6)); have HLY := Lib.hid hly; have j0 := block_cell (box_after HBOX.out HST6.out.gr (by omega)) 0; have j1 := block_cell (box_after HBOX.out HST6.out.gr (by omega)) 1; have j2 : w6.cell? ⟨b8, o8 + j, none⟩ = some (.int .i64 y) := cell_gr (gr_drew hg6) hx (by have := own_lt HOU.out b8 rfl; omega); clear hoy hsy hr6 hg6 hly))
                      clear j0 j1 j2 g0 g1 ea eb hx
                      have HQ6 := Lib.hid (show q6 ≤ q3 + 1 + (j + 1) * Qp d by
                        have h1 := HNUM.out.2.2.2
                        have h2 := HLQ.out.2
                        have h6 : (j + 1) * Qp d = j * Qp d + Qp d := Nat.succ_mul _ _
                        omega)
                      clear hq6
                      by_cases hy0 : ys.length = 0
                      · go_wp2
                        go_roundw
                        case rel =>
                          refine ⟨n + 1, q6, by omega, by go_num, ?_, HST6.out.below (below_alloc w6 (.cells #[] 3))⟩
                          have h1 := HQ6.out
                          have h3 := HCB.out
                          have h4 := HQN.out.1
                          have h5 : (j + 1) * Qp d ≤ 2 * Qp d := Nat.mul_le_mul_right _ (by omega)
                          omega
                        case measure => simp [intOf]; omega
                      · have hyb : ((ys.length : Int) == 0) = false := by rw [beq_eq_false_iff_ne]; omega
                        obtain ⟨by_, oy, c11, e, -⟩ := HOY.out.reads.at_ (k := 0) (by omega)
                        cases e
                        have HNEWS := Lib.hid (news_of HOY.out.reads)
                        have hown6 := own_past HO.out HG6.out hgW
                        have hz6 : W.heap.size ≤ w6.heap.size := Nat.le_trans hz5 HG6.out.size
                        have hyl : ys.length ≤ 15 := by have := HLY.out; have := HLP.out; have := HLQ.out.1; omega
                        go_wp2_with (at_builtin; refine wpList_append_own _ rfl _ _ 26 rfl W.heap.size 3 i0 (.int .i64 0) 1 8 Try.underlying26 hi hz0 hz1 hz2 rfl (by decide) _ xs.length (xs.map (Value.int .i64)) rfl hown6 ⟨by_, oy, none⟩ ys.length cy (ys.map (Value.int .i64)) rfl (by simp) HNEWS.out (ints_one _) (by rw [maxLen_eq]; omega) (by omega) hz6 ?_)
                        intro v' w7 hown7 hgrow7 _
                        have HO7 := Lib.hid (app_own rfl hown7)
                        have hb6 : ∀ k, (Value.slice A9 xs.length c9).ownBlock = some k → W.heap.size ≤ k := fun k e => (own_lt HO.out k e).1
                        have HST7 := Lib.hid (show TermSt W w7 g q6 from ⟨HST6.out.rd.grown hgrow7 (fun k e => by have := hb6 k e; omega), gr_trans HST6.out.gr hgrow7 (fun k e => .inr (hb6 k e))⟩)
                        have HLEN := Lib.hid (show (xs ++ ys).length ≤ 1 + (j + 1) * Lp d by
                          have h1 := HNUM.out.2.2.1
                          have h2 := HLQ.out.1
                          have h3 := HLY.out
                          have h6 : (j + 1) * Lp d = j * Lp d + Lp d := Nat.succ_mul _ _
                          rw [List.length_append]; omega)
                        have HSM7 := Lib.hid (show Small (xs ++ ys) from fun x hx => by rcases List.mem_append.1 hx with h | h; exact HSM.out x h; exact HSY.out x h)
                        clear hown7 hgrow7 hown6 hb6
                        go_wp2
                        go_roundw
                        case rel => exact ⟨j + 1, xs ++ ys, q6, by omega, by go_num, HO7.out, by rw [List.length_append]; omega, HLEN.out, HSM7.out, HQ6.out, HST7.out⟩
                        case measure => simp [intOf]; omega
                    · have hjm' : ¬ (j : Int) + 1 < (m : Int) + 1 := by omega
                      have hx0 : (0 : Int) < (xs.length : Int) := by omega
                      go_wp2
                      go_ret
                      refine ⟨_, xs, q5, rfl, own_some HO.out (by omega), HO.out.base (by have := HZW.out; omega), ?_, HSM.out, HST5.out.rd, ?_, gr_more HGW.out HST5.out.gr⟩
                      · have := HNUM.out.1
                        have := HNUM.out.2.2.1
                        rw [Lb_eq]; omega
                      · have h1 := HNUM.out.2.1
                        have h2 := HNUM.out.2.2.2
                        have h3 := Cb_eq d
                        have h4 := HQN.out.2
                        rw [HQB.out]; omega
            · have hlb : (lv != sort) = true := by simpa using hls
              go_wp2
              go_roundw
              case rel => exact ⟨n + 1, q3 + 1, by omega, by go_num, by have := HQN.out; have := HC3.out; omega, H4.out⟩
              case measure => simp [intOf]; omega
          · have ho0 : ops.length = 0 := by omega
            go_wp2
            go_roundw
            case rel => exact ⟨n + 1, q3, by omega, by go_num, by have := HQN.out; have := HC3.out; omega, HST3.out⟩
            case measure => simp [intOf]; omega
    · have hlt' : ¬ (n : Int) < 12 := by omega
      have hqf : q ≤ p + 12 * Cb d := by have : n * Cb d ≤ 12 * Cb d := Nat.mul_le_mul_right _ hn; omega
      have HQF := Lib.hid hqf
      clear hqf hq
      go_wp2
      go_loop [18] (fun i => ∃ k : Nat, k ≤ vars.length ∧ i = .int .i64 k) (fun i => vars.length - (intOf i).toNat)
      case atStart => exact ⟨0, Nat.zero_le _, rfl⟩
      case round =>
        obtain ⟨k, hk, rfl⟩ := hrel
        by_cases hkl : k < vars.length
        · obtain ⟨b6, o6, c6, e, hy⟩ := (HVW.out.past HST.out.gr (by omega)).reads.at_ hkl
          cases e
          generalize vars[k] = y at hy
          have hk' : (k : Int) < (vars.length : Int) := by omega
          have hk0 : (0 : Int) ≤ (k : Int) := by omega
          by_cases hys : y = sort
          · subst hys
            go_wp2
            go_ret
            have hz := HST.out.gr.size
            refine ⟨_, [100 + (k : Int)], q, rfl, ⟨_, _, rfl⟩, lit1 wr _ (by have := HZW.out; omega), by cases d <;> simp [Lb], small_one (by omega), (HST.out.below (below_alloc wr (.cells #[.int .i64 (100 + (k : Int))] 3))).rd, ?_, gr_more HGW.out (HST.out.below (below_alloc wr (.cells #[.int .i64 (100 + (k : Int))] 3))).gr⟩
            have := HQF.out
            rw [HQB.out]; omega
          · have hyb : (y == sort) = false := by simpa using hys
            go_wp2
            go_round
            case rel => exact ⟨k + 1, by omega, by go_num⟩
            case measure => simp [intOf]; omega
        · have hk' : ¬ (k : Int) < (vars.length : Int) := by omega
          go_wp2
          go_ret
          have hz := HST.out.gr.size
          refine ⟨_, [], q, rfl, ⟨_, _, rfl⟩, lit0 wr (by have := HZW.out; omega), by simp, fun x hx => by simp at hx, (HST.out.below (below_alloc wr (.cells #[] 3))).rd, ?_, gr_more HGW.out (HST.out.below (below_alloc wr (.cells #[] 3))).gr⟩
          have := HQF.out
          rw [HQB.out]; omega

theorem dterm_any (s : MSig) (vars : List Int) (hv : validB s = true) (hvl : vars.length ≤ 1000) : ∀ d, d ≤ 4 → DTermAt s vars d := by
  intro d
  induction d with
  | zero => intro _; exact dterm_step s vars hv hvl 0 (by omega) (fun d' h => by omega)
  | succ d ih => intro hd; exact dterm_step s vars hv hvl (d + 1) hd (fun d' h => by have e : d' = d := (by omega); subst e; exact ih (by omega))
end

section
open Go.RowKit
set_option linter.unusedVariables false

theorem blk_set' {w : World} {b : Nat} {cs : Array Value} {t : TypeId} (h : w.heap[b]? = some (.cells cs t (0, 0))) (i : Nat) (u : Value) : (w.setCell ⟨b, i, none⟩ u).heap[b]? = some (.cells (cs.setIfInBounds i u) t (0, 0)) := by
  simp [World.setCell, Array.getElem?_modify, h]

-- M: the blocks in which it lies
mutual
def RTerm (w : World) (M : Nat → Prop) : Value → Tm → Prop
  | v, .leaf k of => v = .iface 118 (.agg #[.int .i64 (k : Int), .int .i64 of])
  | v, .node op lv ts => ∃ (A : Option Addr) (c : Nat) (us : List Value), v = .iface 121 (.agg #[.int .i64 (op : Int), .int .i64 lv, .slice A ts.length c]) ∧ ts.length ≤ c ∧ c ≤ maxLen ∧ us.length = ts.length ∧
      (∀ (j : Nat) (u : Value), us[j]? = some u → ∃ b o, A = some ⟨b, o, none⟩ ∧ M b ∧ w.cell? ⟨b, o + j, none⟩ = some u) ∧ RTerms w M us ts
def RTerms (w : World) (M : Nat → Prop) : List Value → List Tm → Prop
  | us, [] => us = []
  | us, t :: ts => ∃ u us', us = u :: us' ∧ RTerm w M u t ∧ RTerms w M us' ts
end

mutual
theorem RTerm.keep {w w' : World} {M M' : Nat → Prop} (hb : ∀ b, M b → b < w.heap.size → M' b ∧ w'.heap[b]? = w.heap[b]?) : ∀ {v : Value} {t : Tm}, RTerm w M v t → RTerm w' M' v t
  | v, .leaf k of, h => by unfold RTerm at h ⊢; exact h
  | v, .node op lv ts, h => by
    unfold RTerm at h ⊢
    obtain ⟨A, c, us, e, h1, h2, h3, h4, h5⟩ := h
    refine ⟨A, c, us, e, h1, h2, h3, fun j u hj => ?_, RTerms.keep hb h5⟩
    obtain ⟨b, o, ea, hm, hc⟩ := h4 j u hj
    obtain ⟨k1, k2⟩ := hb b hm (World.block_lt_of_cell? w ⟨b, o + j, none⟩ hc)
    exact ⟨b, o, ea, k1, by rw [← hc]; exact World.cell?_of_block k2⟩
theorem RTerms.keep {w w' : World} {M M' : Nat → Prop} (hb : ∀ b, M b → b < w.heap.size → M' b ∧ w'.heap[b]? = w.heap[b]?) : ∀ {us : List Value} {ts : List Tm}, RTerms w M us ts → RTerms w' M' us ts
  | us, [], h => by unfold RTerms at h ⊢; exact h
  | us, t :: ts, h => by
    unfold RTerms at h ⊢
    obtain ⟨u, us', e, h1, h2⟩ := h
    exact ⟨u, us', e, RTerm.keep hb h1, RTerms.keep hb h2⟩
end
theorem RTerm.below {w w' : World} {M : Nat → Prop} {v : Value} {t : Tm} (h : RTerm w M v t) (hb : Below w.heap.size w w') : RTerm w' M v t := h.keep fun b hm hl => ⟨hm, hb.block b hl⟩
theorem RTerms.below {w w' : World} {M : Nat → Prop} {us : List Value} {ts : List Tm} (h : RTerms w M us ts) (hb : Below w.heap.size w w') : RTerms w' M us ts := h.keep fun b hm hl => ⟨hm, hb.block b hl⟩
theorem RTerms.length {w : World} {M : Nat → Prop} : ∀ {us : List Value} {ts : List Tm}, RTerms w M us ts → us.length = ts.length
  | us, [], h => by unfold RTerms at h; subst h; rfl
  | us, t :: ts, h => by
    unfold RTerms at h
    obtain ⟨u, us', rfl, h1, h2⟩ := h
    simp [RTerms.length h2]
theorem RTerms.snoc {w : World} {M : Nat → Prop} {u : Value} {t : Tm} (hu : RTerm w M u t) : ∀ {us : List Value} {ts : List Tm}, RTerms w M us ts → RTerms w M (us ++ [u]) (ts ++ [t])
  | us, [], h => by
    unfold RTerms at h
    subst h
    simp only [List.nil_append]
    unfold RTerms
    exact ⟨u, [], rfl, hu, by unfold RTerms; rfl⟩
  | us, x :: ts, h => by
    unfold RTerms at h
    obtain ⟨u', us', rfl, h1, h2⟩ := h
    simp only [List.cons_append]
    unfold RTerms
    exact ⟨u', us' ++ [u], rfl, h1, RTerms.snoc hu h2⟩
theorem RTerms.at_ {w : World} {M : Nat → Prop} : ∀ {us : List Value} {ts : List Tm} {j : Nat}, RTerms w M us ts → (hj : j < ts.length) → ∃ u, us[j]? = some u ∧ RTerm w M u ts[j]
  | us, [], j, h, hj => by simp at hj
  | us, x :: ts, 0, h, hj => by
    unfold RTerms at h
    obtain ⟨u', us', rfl, h1, h2⟩ := h
    exact ⟨u', rfl, h1⟩
  | us, x :: ts, j + 1, h, hj => by
    unfold RTerms at h
    obtain ⟨u', us', rfl, h1, h2⟩ := h
    obtain ⟨u, a, b⟩ := RTerms.at_ (j := j) h2 (by simpa using hj)
    exact ⟨u, by simpa using a, by simpa using b⟩
/-- a term's value: which kind, and what it says of its sort -/
theorem RTerm.form {w : World} {M : Nat → Prop} {v : Value} {t : Tm} (h : RTerm w M v t) :
    (∃ k of : Int, v = .iface 118 (.agg #[.int .i64 k, .int .i64 of]) ∧ t.sort = of) ∨ (∃ (op lv : Int) (A : Option Addr) (n c : Nat), v = .iface 121 (.agg #[.int .i64 op, .int .i64 lv, .slice A n c]) ∧ t.sort = lv) := by
  cases t with
  | leaf k of => unfold RTerm at h; exact .inl ⟨k, of, h, rfl⟩
  | node op lv ts => unfold RTerm at h; obtain ⟨A, c, us, e, -⟩ := h; exact .inr ⟨op, lv, A, ts.length, c, e, rfl⟩

/-- inside opWithTerms: block b: the operation under way; the terms so far -/
structure TakesAt (w wr : World) (b : Nat) (op : Nat) (lv : Int) (tv : Value) (ts : List Tm) : Prop where
  box : wr.heap[b]? = some (.cells #[.int .i64 (op : Int), .int .i64 lv, tv] 121 (0, 0))
  own : ∃ us, wr.ownsRow (b + 1) 81 1 tv ts.length us ∧ RTerms wr (fun x => b < x ∧ some x ≠ tv.ownBlock) us ts
  bel : Below w.heap.size w wr
  ge : w.heap.size ≤ b

theorem TakesAt.start {w wr : World} {b : Nat} {op : Nat} {lv : Int} (h1 : wr.heap[b]? = some (.cells #[.int .i64 (op : Int), .int .i64 lv, .slice none 0 0] 121 (0, 0))) (h2 : Below w.heap.size w wr) (h3 : w.heap.size ≤ b) : TakesAt w wr b op lv (.slice none 0 0) [] :=
  ⟨h1, ⟨[], World.ownsRow_nil _ _ _ _, by unfold RTerms; rfl⟩, h2, h3⟩
theorem TakesAt.below {w wr w2 : World} {b op : Nat} {lv : Int} {tv : Value} {ts : List Tm} (h : TakesAt w wr b op lv tv ts) (hb : Below wr.heap.size wr w2) : TakesAt w w2 b op lv tv ts := by
  obtain ⟨us, h1, h2⟩ := h.own
  exact ⟨(hb.block b (Array.getElem?_eq_some_iff.1 h.box).1).trans h.box, ⟨us, own_keep h1 hb, h2.below hb⟩, h.bel.trans (hb.mono h.bel.size), h.ge⟩
/-- behind 'whole.takes = append(whole.takes, taken)'; w2: behind the call that read the term, w3: behind the box of one cell -/
theorem TakesAt.push {w wr w2 w4 : World} {b op g cap : Nat} {lv : Int} {tv u : Value} {ts : List Tm} {t : Tm} {us : List Value} {o : Obj} (h : TakesAt w wr b op lv tv ts) (hb : Below wr.heap.size wr w2) (ht : RTerm w2 (fun x => wr.heap.size ≤ x) u t)
    (h1 : wr.ownsRow (b + 1) 81 1 tv ts.length us) (h2 : RTerms wr (fun x => b < x ∧ some x ≠ tv.ownBlock) us ts)
    (ho : w4.ownsRow (b + 1) 81 1 (.slice (some ⟨g, 0, none⟩) (ts.length + 1) cap) (ts.length + 1) (us ++ [u])) (hg : (w2.alloc o).grownBy w4 tv.ownBlock) (hlies : tv.ownBlock = some g ∨ g = (w2.alloc o).heap.size) :
    w4.heap[b]? = some (.cells #[.int .i64 (op : Int), .int .i64 lv, tv] 121 (0, 0)) ∧
    TakesAt w (w4.setCell ⟨b, 2, none⟩ (.slice (some ⟨g, 0, none⟩) (ts.length + 1) cap)) b op lv (.slice (some ⟨g, 0, none⟩) (ts.length + 1) cap) (ts ++ [t]) := by
  have hbl := (Array.getElem?_eq_some_iff.1 h.box).1
  have hs2 := hb.size
  have hsa : (w2.alloc o).heap.size = w2.heap.size + 1 := by simp
  have htv : ∀ k, tv.ownBlock = some k → b + 1 ≤ k ∧ k < wr.heap.size := own_lt h1
  have hgb : b < g := by
    rcases hlies with e | e
    · have := htv g e; omega
    · omega
  have at_ : ∀ x, x < w2.heap.size → some x ≠ tv.ownBlock → w4.heap[x]? = w2.heap[x]? := fun x hx hne =>
    (hg.block x (by omega) hne).trans (heap_alloc_old _ _ hx)
  have hbox4 : w4.heap[b]? = some (.cells #[.int .i64 (op : Int), .int .i64 lv, tv] 121 (0, 0)) :=
    (at_ b (by omega) (fun e => by have := htv b e.symm; omega)).trans ((hb.block b hbl).trans h.box)
  refine ⟨hbox4, ?_, ⟨us ++ [u], ?_, ?_⟩, ?_, h.ge⟩
  · exact blk_set' hbox4 2 _
  · rw [List.length_append]
    exact ownsRow_setCell_below ho (by show b < b + 1; omega) _
  · have hset : ∀ x, b < x → (w4.setCell ⟨b, 2, none⟩ (.slice (some ⟨g, 0, none⟩) (ts.length + 1) cap)).heap[x]? = w4.heap[x]? := fun x hx => Below.heap_setCell w4 ⟨b, 2, none⟩ _ x (by show x ≠ b; omega)
    refine RTerms.snoc ?_ ?_
    · refine ht.keep fun x hx hl => ?_
      have hne : some x ≠ tv.ownBlock := fun e => by have := htv x e.symm; omega
      refine ⟨⟨by omega, fun e => ?_⟩, (hset x (by omega)).trans (at_ x hl hne)⟩
      simp only [Value.ownBlock] at e
      injection e with e
      rcases hlies with e' | e'
      · exact hne (by rw [e', e])
      · omega
    · refine h2.keep fun x hx hl => ?_
      refine ⟨⟨hx.1, fun e => ?_⟩, (hset x hx.1).trans ((at_ x (by omega) hx.2).trans (hb.block x hl))⟩
      simp only [Value.ownBlock] at e
      injection e with e
      rcases hlies with e' | e'
      · exact hx.2 (by rw [e', e])
      · omega
  · have hbel2 : Below w.heap.size w (w2.alloc o) := (h.bel.trans (hb.mono h.bel.size)).alloc (by have := h.bel.size; omega) o
    exact (hbel2.grown hg (by have := h.bel.size; omega) (fun k e => by have := htv k e; have := h.ge; omega)).setCell (by show w.heap.size ≤ b; exact h.ge) _
/-- done: the operation with its terms -/
theorem TakesAt.done {w wr : World} {b op : Nat} {lv : Int} {tv : Value} {ts : List Tm} (h : TakesAt w wr b op lv tv ts) : RTerm wr (fun x => w.heap.size ≤ x) (.iface 121 (.agg #[.int .i64 (op : Int), .int .i64 lv, tv])) (.node op lv ts) := by
  obtain ⟨us, h1, h2⟩ := h.own
  obtain ⟨A, c, rfl, a1, a2, a3⟩ := own_reads h1
  unfold RTerm
  refine ⟨A, c, us, rfl, a1, a2, h2.length, fun j u hj => ?_, h2.keep fun x hx _ => ⟨by have := h.ge; omega, rfl⟩⟩
  obtain ⟨b', o, e, hc⟩ := a3 j u hj
  refine ⟨b', o, e, ?_, hc⟩
  have := own_lt h1 b' (by rw [e]; rfl)
  have := h.ge
  omega
theorem at_blk {w : World} {b : Nat} {cs : Array Value} {t : TypeId} (h : w.heap[b]? = some (.cells cs t (0, 0))) (i : Nat) : w.cell? ⟨b, i, none⟩ = cs[i]? := by simp [World.cell?, h]
theorem at_free {w : World} {b : Nat} {cs : Array Value} {t : TypeId} (h : w.heap[b]? = some (.cells cs t (0, 0))) (i : Nat) : w.frozen? ⟨b, i, none⟩ = false := by simp [World.frozen?, h]

/-- wherever rv reads as r, bv reads as b -/
def SufOf (rv bv : Value) (r b : List Int) : Prop := (∃ A c, bv = .slice A b.length c) ∧ ∀ w' : World, RInts w' rv r → RInts w' bv b
theorem SufOf.refl {w : World} {rv : Value} {r : List Int} (h : RInts w rv r) : SufOf rv rv r r := by
  obtain ⟨A, c, e, -⟩ := h.form; exact ⟨⟨A, c, e⟩, fun _ h => h⟩
theorem SufOf.trans {a b c : Value} {x y z : List Int} (h : SufOf a b x y) (k : SufOf b c y z) : SufOf a c x z := ⟨k.1, fun w' hw => k.2 w' (h.2 w' hw)⟩
/-- 'row[1:]' -/
theorem SufOf.tail {b o c : Nat} {n : Int} {rest : List Int} {A : Option Addr} (hA : A = some ⟨b, o + 1, none⟩ ∨ c - 1 = 0) : SufOf (.slice (some ⟨b, o, none⟩) (n :: rest).length c) (.slice A rest.length (c - 1)) (n :: rest) rest := by
  refine ⟨⟨_, _, rfl⟩, fun w' h => ?_⟩
  obtain ⟨A', c', e, h1, h2, h3⟩ := h
  cases e
  simp only [List.length_cons] at h1
  refine ⟨A, c - 1, rfl, by omega, by omega, fun j x hj => ?_⟩
  obtain ⟨b', o', e, hc⟩ := h3 (j + 1) x (by simpa using hj)
  cases e
  have hjl := (List.getElem?_eq_some_iff.1 hj).1
  rcases hA with rfl | h0
  · exact ⟨b, o + 1, rfl, by rw [← hc]; congr 2; omega⟩
  · omega
end

section
open Go.RowKit
set_option linter.unusedVariables false

theorem three_cells (w : World) (a b c : Value) (t : TypeId) : (w.alloc (.cells #[a, b, c] t)).cell? ⟨w.heap.size, 0, none⟩ = some a ∧ (w.alloc (.cells #[a, b, c] t)).cell? ⟨w.heap.size, 1, none⟩ = some b ∧ (w.alloc (.cells #[a, b, c] t)).cell? ⟨w.heap.size, 2, none⟩ = some c := by
  refine ⟨?_, ?_, ?_⟩ <;> (rw [World.cell?_alloc_at _ _ _ _ rfl]; rfl)
theorem m_letterSort (k of : Int) (w : World) : (method 249 118 (.agg #[.int .i64 k, .int .i64 of]) "loop.example/theorymodules/impl.sort").run Try.prog w = .ok (121, .agg #[.int .i64 k, .int .i64 of]) w := by kernel_rfl
theorem m_opSort (op lv : Int) (A : Option Addr) (n c : Nat) (w : World) : (method 249 121 (.agg #[.int .i64 op, .int .i64 lv, .slice A n c]) "loop.example/theorymodules/impl.sort").run Try.prog w = .ok (124, .agg #[.int .i64 op, .int .i64 lv, .slice A n c]) w := by kernel_rfl
theorem letterSort_any (k of : Int) (w : World) :
    Calls Try.prog 121 #[.agg #[.int .i64 k, .int .i64 of]] w fun e w' => e = .returned (.int .i64 of) ∧ Below w.heap.size w w' := by
  have hx := (box_cells w (.int .i64 k) (.int .i64 of) 118).2
  go_enter Try.func121, Try.ntmps121
  go_wp2
  go_ret
  exact ⟨rfl, below_alloc _ _⟩
theorem opSort_any (op lv : Int) (x : Value) (w : World) (hx : ∃ A n c, x = .slice A n c) :
    Calls Try.prog 124 #[.agg #[.int .i64 op, .int .i64 lv, x]] w fun e w' => e = .returned (.int .i64 lv) ∧ Below w.heap.size w w' := by
  obtain ⟨A, n, c, rfl⟩ := hx
  have hx := (three_cells w (.int .i64 op) (.int .i64 lv) (.slice A n c) 121).2.1
  go_enter Try.func124, Try.ntmps124
  go_wp2
  go_ret
  exact ⟨rfl, below_alloc _ _⟩

/-- the method of a term's value that tells its sort -/
theorem RTerm.sorts {w : World} {M : Nat → Prop} {v : Value} {t : Tm} (h : RTerm w M v t) : ∃ (T : TypeId) (x : Value) (fid : FuncId), v = .iface T x ∧ (∀ w' : World, (method 249 T x "loop.example/theorymodules/impl.sort").run Try.prog w' = .ok (fid, x) w') ∧ (∀ w' : World, (callFunc fid #[x]).run Try.prog w' = .ok (.enter fid #[x]) w') ∧
    ∀ w' : World, Calls Try.prog fid #[x] w' fun e w'' => e = .returned (.int .i64 t.sort) ∧ Below w'.heap.size w' w'' := by
  rcases h.form with ⟨k, of, rfl, e⟩ | ⟨op, lv, A, n, c, rfl, e⟩
  · exact ⟨_, _, _, rfl, fun w' => m_letterSort k of w', fun w' => by kernel_rfl, fun w' => by rw [e]; exact letterSort_any k of w'⟩
  · exact ⟨_, _, _, rfl, fun w' => m_opSort op lv A n c w', fun w' => by kernel_rfl, fun w' => by rw [e]; exact opSort_any op lv _ w' ⟨A, n, c, rfl⟩⟩

def ReadPost (rv : Value) (r : List Int) (res : Option (Tm × List Int)) (w : World) (e : Ending) (w' : World) : Prop :=
  (match res with
    | some (tm, b) => ∃ u bv, e = .returned (.tuple #[u, bv, .bool true]) ∧ RTerm w' (fun x => w.heap.size ≤ x) u tm ∧ SufOf rv bv r b
    | none => e = .returned (.tuple #[.nilIface, .slice none 0 0, .bool false])) ∧ Below w.heap.size w w'
def nodeM (s : MSig) (vars : List Int) (f op : Nat) (r : List Int) : Option (Tm × List Int) :=
  match argsM (firstM s vars f) (opRow s op).dropLast r with
  | none => none
  | some (ts, b) => some (.node op ((opRow s op).getLastD (-1)) ts, b)
def FirstAt (s : MSig) (vars : List Int) (f : Nat) : Prop := ∀ (r : List Int) (w : World) (v vv rv : Value), r.length ≤ f → Small r → RSig w v s → RInts w vv vars → RInts w rv r →
  Calls Try.prog 92 #[v, vv, rv] w (ReadPost rv r (firstM s vars f r) w)
theorem args_small {s : MSig} {vars : List Int} {f : Nat} {ss r : List Int} {ts : List Tm} {b : List Int} (h : argsM (firstM s vars f) ss r = some (ts, b)) (hs : Small r) : Small b := by
  obtain ⟨h1, h2⟩ := argsM_sound (firstM_sound f) _ _ _ _ h
  intro x hx
  exact hs x (by rw [h1]; exact List.mem_append_right _ hx)
theorem args_shorter {s : MSig} {vars : List Int} {f : Nat} {ss r : List Int} {ts : List Tm} {b : List Int} (h : argsM (firstM s vars f) ss r = some (ts, b)) : b.length ≤ r.length ∧ ts.length = ss.length := by
  obtain ⟨h1, h2⟩ := argsM_sound (firstM_sound f) _ _ _ _ h
  refine ⟨by rw [h1]; simp, ?_⟩
  clear h h1
  induction ts generalizing ss with
  | nil => unfold wfTs at h2; subst h2; rfl
  | cons t ts ih => unfold wfTs at h2; obtain ⟨x, ss', rfl, -, -, h4⟩ := h2; simp [ih h4]

set_option maxHeartbeats 800000 in
set_option maxRecDepth 100000 in
theorem opWithTerms_any (s : MSig) (vars : List Int) (hv : varsB s vars = true) (f : Nat) (ih : FirstAt s vars f) (op : Nat) (hop : op < s.ops.length) (r : List Int) (w : World) (v vv rv : Value) (hr : r.length ≤ f) (hsm : Small r)
    (h1 : RSig w v s) (h2 : RInts w vv vars) (h3 : RInts w rv r) :
    Calls Try.prog 103 #[v, vv, .int .i64 (op : Int), rv] w (ReadPost rv r (nodeM s vars f op r) w) := by
  obtain ⟨i0, hi0, hz0, hz1, hz2⟩ := info_parts (show (Try.prog.info? 81).map (fun i => (i.zero, i.size, i.bytes)) = some (some .nilIface, 1, 16) by kernel_rfl)
  obtain ⟨u, rfl, hrr⟩ := h1
  obtain ⟨sorts, ops⟩ := s
  simp only at hop
  have hrow := opRow_valid (vars_valid hv).1 (k := op) hop
  rw [opRow_at hop] at hrow
  simp only at hrow
  have hN : nodeM ⟨sorts, ops⟩ vars f op r = (match argsM (firstM ⟨sorts, ops⟩ vars f) ops[op].dropLast r with
    | none => none
    | some (ts, b) => some (.node op (ops[op].getLastD (-1)) ts, b)) := by
    unfold nodeM; rw [opRow_at hop]
  have hn := hrr.len
  obtain ⟨A, c, rfl, -⟩ := hrr.form
  have hb1 := below_alloc w (.cells #[.int .i64 sorts, .slice A ops.length c] 25)
  have hbx := box_cells w (.int .i64 sorts) (.slice A ops.length c) 25
  obtain ⟨b, o, c', u', e, hcell, hri⟩ := (hrr.keep hb1).at_ hop
  cases e
  have hHS := Lib.hid (show RSig (w.alloc (.cells #[.int .i64 sorts, .slice (some ⟨b, o, none⟩) ops.length c] 25)) (.agg #[.int .i64 sorts, .slice (some ⟨b, o, none⟩) ops.length c]) ⟨sorts, ops⟩ from ⟨_, rfl, hrr.keep hb1⟩)
  generalize ops[op] = row at hcell hri hrow hN
  have hr1 := hrow.1
  have hr3 := hrow.2.1
  rw [last_at (by omega)] at hN
  obtain ⟨b', o', c3, rfl, hx⟩ := hri.at_ (k := row.length - 1) (by omega)
  generalize row[row.length - 1]'(by omega) = lv at hx hN
  have HN := Lib.hid hN
  have HRI := Lib.hid hri
  have HB1 := Lib.hid hb1
  have HV2 := Lib.hid (h2.keep hb1)
  have HV3 := Lib.hid (h3.keep hb1)
  obtain ⟨A2, c2, rfl, -⟩ := h2.form
  obtain ⟨A3, c4, rfl, -⟩ := h3.form
  have f0 := hbx.1
  have f1 := hbx.2
  have HIH := Lib.hid ih
  have HSM := Lib.hid hsm
  clear hN hri hb1 h2 h3 hrr hbx hrow ih hv hsm
  obtain ⟨n, hnl⟩ : ∃ n, row.length = n + 1 := ⟨row.length - 1, by omega⟩
  rw [show row.length - 1 = n by omega] at hx
  rw [hnl] at hcell
  have HC3 : Hid (n + 1 ≤ c3) := by obtain ⟨A', c', e, q1, q2⟩ := HRI.out.form; cases e; unfold Hid; omega
  have hb2 := below_alloc (w.alloc (.cells #[.int .i64 sorts, .slice (some ⟨b, o, none⟩) ops.length c] 25)) (.cells #[.int .i64 (op : Int), .int .i64 lv, .slice none 0 0] 121)
  have g0 := cell_keep hb2 f0
  have g1 := cell_keep hb2 f1
  have g2 := cell_keep hb2 hcell
  have HB2 := Lib.hid hb2
  clear hb2
  have hc3 : (n : Int) ≤ (c3 : Int) := by have := HC3.out; omega
  have hc3' : n ≤ c3 := by have := HC3.out; omega
  have hst := TakesAt.start (w := w) (op := op) (lv := lv) (wr := (w.alloc (.cells #[.int .i64 sorts, .slice (some ⟨b, o, none⟩) ops.length c] 25)).alloc (.cells #[.int .i64 (op : Int), .int .i64 lv, .slice none 0 0] 121)) (b := w.heap.size + 1)
    ((congrArg (fun i => ((w.alloc (.cells #[.int .i64 sorts, .slice (some ⟨b, o, none⟩) ops.length c] 25)).alloc (.cells #[.int .i64 (op : Int), .int .i64 lv, .slice none 0 0] 121)).heap[i]?) (by simp)).trans (heap_alloc_new (w.alloc (.cells #[.int .i64 sorts, .slice (some ⟨b, o, none⟩) ops.length c] 25)) _)) (HB1.out.trans (HB2.out.mono (by simp))) (by omega)
  have HST := Lib.hid hst
  have HF := Lib.hid (And.intro f0 (And.intro f1 hcell))
  clear hst
  go_enter Try.func103, Try.ntmps103
  go_wp2
  clear f0 f1 hcell g0 g1 g2 hx
  go_loopw [3, 14, 15, 16, 17, 43] (fun r3 s14 t15 b16 k17 i43 wr => ∃ (k : Nat) (tv : Value) (ts : List Tm) (rk : List Int), k ≤ n ∧ i43 = .int .i64 k ∧ SufOf (.slice A3 r.length c4) r3 r rk ∧ argsM (firstM ⟨sorts, ops⟩ vars f) (row.dropLast.take k) r = some (ts, rk) ∧ TakesAt w wr (w.heap.size + 1) op lv tv ts ∧ Below (w.heap.size + 1) (w.alloc (.cells #[.int .i64 sorts, .slice (some ⟨b, o, none⟩) ops.length c] 25)) wr) (fun _ _ _ _ _ i _ => n - (intOf i).toNat)
  case atStart => exact ⟨0, _, [], r, Nat.zero_le _, rfl, SufOf.refl HV3.out, rfl, HST.out, HB2.out.mono (by simp)⟩
  case round =>
    obtain ⟨k, tv, ts, rk, hk, rfl, hrk, harg, htk, hbw⟩ := hrel
    have hbw' : Below (w.alloc (.cells #[.int .i64 sorts, .slice (some ⟨b, o, none⟩) ops.length c] 25)).heap.size (w.alloc (.cells #[.int .i64 sorts, .slice (some ⟨b, o, none⟩) ops.length c] 25)) wr := by simpa using hbw
    have f0 := cell_keep hbw' HF.out.1
    have f1 := cell_keep hbw' HF.out.2.1
    have HBW := Lib.hid hbw'
    have HARG := Lib.hid harg
    have HTK := Lib.hid htk
    have HSUF := Lib.hid hrk
    have HRK := Lib.hid (hrk.2 _ (HV3.out.keep hbw'))
    obtain ⟨A5, c5, rfl⟩ := hrk.1
    have hkl := (args_shorter harg).2
    rw [List.length_take, List.length_dropLast] at hkl
    have HKL := Lib.hid (show ts.length = k by omega)
    have hwsz := htk.bel.size
    clear hbw hbw' harg htk hrk HST hkl
    by_cases hlt : k < n
    · obtain ⟨b2, o2, c6, e, hx⟩ := (HRI.out.keep HBW.out).at_ (k := k) (by omega)
      cases e
      have hstep := argsM_step (ss := row.dropLast) (by rw [List.length_dropLast]; omega) HARG.out
      rw [List.getElem_dropLast] at hstep
      generalize row[k]'(by omega) = x at hx hstep
      have HSTEP := Lib.hid hstep
      clear hstep
      have hlt' : (k : Int) < (n : Int) := by omega
      go_wp2_with fail
      refine (HIH.out rk _ _ _ _ (Nat.le_trans (args_shorter HARG.out).1 hr) (args_small HARG.out HSM.out) (hHS.out.keep HBW.out) (HV2.out.keep HBW.out) HRK.out).mono ?_
      rintro e w2 ⟨hm, hb⟩
      have HB := Lib.hid hb
      clear hb
      cases hf : firstM ⟨sorts, ops⟩ vars f rk with
      | none =>
        rw [hf] at hm
        simp only at hm
        subst hm
        have HFN := Lib.hid hf
        clear hf
        go_wp2
        refine bodyPost_ret (v := .tuple #[.nilIface, .slice none 0 0, .bool false]) (by simp [results, Try.results103, go_sem]) rfl ?_
        have h := HSTEP.out
        rw [HFN.out] at h
        rw [HN.out, argsM_take_none h]
        exact ⟨rfl, HTK.out.bel.trans (HB.out.mono HTK.out.bel.size)⟩
      | some q =>
        obtain ⟨t, rb⟩ := q
        rw [hf] at hm
        simp only at hm
        obtain ⟨u, bv, rfl, hu, hbv⟩ := hm
        have HFS := Lib.hid hf
        have HU := Lib.hid hu
        have HBV := Lib.hid hbv
        obtain ⟨A6, c7, rfl⟩ := hbv.1
        clear hf hbv
        obtain ⟨T, y, fid, rfl, hms, hcf, hsc⟩ := hu.sorts
        have HSC := Lib.hid hsc
        clear hu hsc
        go_wp2_with fail
        refine (HSC.out _).mono ?_
        rintro e w3 ⟨rfl, hb3⟩
        have HB3 := Lib.hid (HB.out.trans (hb3.mono HB.out.size))
        have HU3 := Lib.hid (HU.out.below hb3)
        have f03 := cell_keep HB3.out f0
        have f13 := cell_keep HB3.out f1
        clear hb3 hms hcf HSC f0 f1 hx
        by_cases hts : t.sort = x
        · subst hts
          have h := HSTEP.out
          rw [HFS.out] at h
          simp only [if_true] at h
          have HNEXT := Lib.hid h
          clear h
          obtain ⟨us, hus, hrt⟩ := HTK.out.own
          obtain ⟨A9, c9, rfl, -⟩ := own_reads hus
          have HOWN := Lib.hid hus
          have HRT := Lib.hid hrt
          have hbox := (HB3.out.block _ (Array.getElem?_eq_some_iff.1 HTK.out.box).1).trans HTK.out.box
          have e2 := at_blk hbox 2
          simp at e2
          have hown3 := (own_keep HOWN.out HB3.out).alloc (.cells #[.iface T y] 81)
          rw [HKL.out] at hown3 e2
          have e3 := at_free hbox 2
          have f3 : (w3.alloc (.cells #[.iface T y] 81)).cell? ⟨w3.heap.size, 0, none⟩ = some (.iface T y) := by
            rw [World.cell?_alloc_at _ _ _ _ rfl]; rfl
          have hsz3 := HB3.out.size
          have hbl2 := (Array.getElem?_eq_some_iff.1 HTK.out.box).1
          clear hus hrt hbox
          go_wp2_with (at_builtin; refine wpList_append_lies _ rfl _ _ 119 rfl (w.heap.size + 1 + 1) 81 i0 .nilIface 1 16 Try.underlying119 hi0 hz0 hz1 hz2 rfl (by decide) _ _ _ rfl hown3 ⟨w3.heap.size, 0, none⟩ 1 1 [.iface T y] rfl rfl ?c1 ?c2 (by decide) ?c3 ?c4 ?c5 _ rfl ?_)
          case c1 => intro j u hj; match j, hj with | 0, hj => simp at hj; subst hj; simp [Addr.add]
          case c2 => intro u hu; simp at hu; subst hu; rfl
          case c3 => rw [maxLen_eq]; omega
          case c4 => omega
          case c5 => simp; omega
          intro g cap w4 hown4 hgrow4 hlies hlt4
          rw [← HKL.out] at hown4 hgrow4 hlies
          obtain ⟨hbox4, hnext⟩ := HTK.out.push HB3.out (HU3.out.keep fun x hx hl => ⟨by have := HB.out.size; omega, rfl⟩) HOWN.out HRT.out hown4 hgrow4 (by simpa using hlies)
          rw [HKL.out] at hbox4
          have hbel4 := Lib.hid (((((HBW.out.mono (show w.heap.size + 1 ≤ _ by simp)).trans (HB3.out.mono (by omega))).alloc (by omega) (.cells #[.iface T y] 81)).grown hgrow4 (by simp; omega) (fun k e => by have := own_lt HOWN.out k e; omega)).setCell (p := ⟨w.heap.size + 1, 2, none⟩) (Nat.le_refl _) (.slice (some ⟨g, 0, none⟩) (ts.length + 1) cap))
          have HNX := Lib.hid hnext
          have e4 := at_blk hbox4 2
          have e5 := at_free hbox4 2
          simp at e4
          clear hbox4 hnext hown4 hgrow4 hlies hown3 f3 e2 e3 f03 f13
          rw [HKL.out] at hbel4 HNX
          go_wp2
          go_roundw
          case rel => exact ⟨k + 1, _, ts ++ [t], rb, by omega, by go_num, HSUF.out.trans HBV.out, HNEXT.out, HNX.out, hbel4.out⟩
          case measure => simp [intOf]; omega
        · have h := HSTEP.out
          rw [HFS.out] at h
          simp only [if_neg hts] at h
          have HNONE := Lib.hid (argsM_take_none h)
          clear h
          generalize t.sort = q at hts ⊢
          go_wp2
          refine bodyPost_ret (v := .tuple #[.nilIface, .slice none 0 0, .bool false]) (by simp [results, Try.results103, go_sem]) rfl ?_
          rw [HN.out, HNONE.out]
          exact ⟨rfl, HTK.out.bel.trans (HB3.out.mono hwsz)⟩
    · have hkn : k = n := by omega
      have h := HARG.out
      rw [take_all (by rw [List.length_dropLast]; omega)] at h
      have HARG2 := Lib.hid h
      have hbox := HTK.out.box
      have e0 := at_blk hbox 0
      have e1 := at_blk hbox 1
      have e2 := at_blk hbox 2
      simp at e0 e1 e2
      clear h hbox
      go_wp2
      refine bodyPost_ret (v := .tuple #[.iface 121 (.agg #[.int .i64 (op : Int), .int .i64 lv, tv]), .slice A5 rk.length c5, .bool true]) (by simp [results, Try.results103, go_sem]) rfl ?_
      rw [HN.out, HARG2.out]
      exact ⟨⟨_, _, rfl, HTK.out.done, HSUF.out⟩, HTK.out.bel⟩
end

section
open Go.RowKit
set_option linter.unusedVariables false

theorem firstM_op {s : MSig} {vars : List Int} {f : Nat} {n : Int} {rest : List Int} (h : 0 ≤ n ∧ n < s.ops.length) : firstM s vars (f + 1) (n :: rest) = nodeM s vars f n.toNat rest := by
  simp only [firstM, nodeM]; rw [if_pos h]; rfl
theorem firstM_bad {s : MSig} {vars : List Int} {f : Nat} {n : Int} {rest : List Int} (h : ¬ (0 ≤ n ∧ n < s.ops.length)) (h2 : ¬ (100 ≤ n ∧ n < 100 + vars.length)) : firstM s vars (f + 1) (n :: rest) = none := by
  simp only [firstM]; rw [if_neg h, if_neg h2]
theorem firstM_letter {s : MSig} {vars : List Int} {f : Nat} {n : Int} {rest : List Int} (h : ¬ (0 ≤ n ∧ n < s.ops.length)) (h2 : 100 ≤ n ∧ n < 100 + vars.length) : firstM s vars (f + 1) (n :: rest) = some (.leaf (n - 100).toNat (vars.getD (n - 100).toNat 0), rest) := by
  simp only [firstM]; rw [if_neg h, if_pos h2]
theorem firstM_nil {s : MSig} {vars : List Int} {f : Nat} : firstM s vars f [] = none := by cases f <;> rfl

theorem tail_addr {c : Nat} {x y : Addr} {A : Option Addr} (h : (if c = 1 then some x else some y) = A) : A = some y ∨ c - 1 = 0 := by
  by_cases hc : c = 1
  · right; omega
  · left; rw [← h, if_neg hc]

set_option maxRecDepth 100000 in
theorem first_empty (s : MSig) (vars : List Int) (f : Nat) (w : World) (v vv rv : Value) (h1 : RSig w v s) (h2 : RInts w vv vars) (h3 : RInts w rv []) :
    Calls Try.prog 92 #[v, vv, rv] w (ReadPost rv [] (firstM s vars f []) w) := by
  obtain ⟨u, rfl, hrr⟩ := h1
  obtain ⟨sorts, ops⟩ := s
  obtain ⟨A, c, rfl, -⟩ := hrr.form
  obtain ⟨A2, c2, rfl, -⟩ := h2.form
  obtain ⟨A3, c4, rfl, -⟩ := h3.form
  rw [firstM_nil]
  have HB := Lib.hid (below_alloc w (.cells #[.int .i64 sorts, .slice A ops.length c] 25))
  clear hrr h2 h3
  go_enter Try.func92, Try.ntmps92
  go_wp2
  refine bodyPost_ret (v := .tuple #[.nilIface, .slice none 0 0, .bool false]) (by simp [results, Try.results92, go_sem]) rfl ?_
  exact ⟨rfl, HB.out⟩

set_option maxHeartbeats 800000 in
set_option maxRecDepth 100000 in
theorem first_step (s : MSig) (vars : List Int) (hv : varsB s vars = true) (f : Nat) (ih : FirstAt s vars f) (n : Int) (rest : List Int) (w : World) (v vv rv : Value) (hr : rest.length ≤ f) (hsm : Small (n :: rest)) (h1 : RSig w v s) (h2 : RInts w vv vars) (h3 : RInts w rv (n :: rest)) :
    Calls Try.prog 92 #[v, vv, rv] w (ReadPost rv (n :: rest) (firstM s vars (f + 1) (n :: rest)) w) := by
  obtain ⟨u, rfl, hrr⟩ := h1
  obtain ⟨sorts, ops⟩ := s
  have hnb : n ≤ 9223372036854775807 := hsm n (List.mem_cons_self ..)
  have HSM := Lib.hid hsm
  clear hsm
  have hops := (valid_sorts (vars_valid hv).1).2.2
  have hvl := (vars_valid hv).2.1
  simp only at hops
  obtain ⟨A, c, rfl, -⟩ := hrr.form
  have hb1 := below_alloc w (.cells #[.int .i64 sorts, .slice A ops.length c] 25)
  have hbx := box_cells w (.int .i64 sorts) (.slice A ops.length c) 25
  have HS := Lib.hid (show RSig (w.alloc (.cells #[.int .i64 sorts, .slice A ops.length c] 25)) (.agg #[.int .i64 sorts, .slice A ops.length c]) ⟨sorts, ops⟩ from ⟨_, rfl, hrr.keep hb1⟩)
  have HV2 := Lib.hid (h2.keep hb1)
  have HV3 := Lib.hid (h3.keep hb1)
  have hlen3 := h3.len
  obtain ⟨b, o, c4, rfl, hx⟩ := (h3.keep hb1).at_ (k := 0) (by simp)
  obtain ⟨A', c4', e, hcl, hcm⟩ := h3.form
  cases e
  simp only [List.length_cons, List.getElem_cons_zero, Nat.add_zero] at hx hcl hlen3
  obtain ⟨A2, c2, rfl, -⟩ := h2.form
  have HB1 := Lib.hid hb1
  have f0 := hbx.1
  have f1 := hbx.2
  have hz : ((rest.length : Int) + 1 == 0) = false := by rw [beq_eq_false_iff_ne]; omega
  simp only [List.length_cons]
  by_cases c0 : n < 0
  · have HN := Lib.hid (firstM_bad (s := ⟨sorts, ops⟩) (vars := vars) (f := f) (rest := rest) (n := n) (by simp only; omega) (by omega))
    clear h2 h3 hrr hb1 hbx
    go_enter Try.func92, Try.ntmps92
    go_wp2
    refine bodyPost_ret (v := .tuple #[.nilIface, .slice none 0 0, .bool false]) (by simp [results, Try.results92, go_sem]) rfl ?_
    rw [HN.out]
    exact ⟨rfl, HB1.out⟩
  clear hb1 hbx hrr h3
  by_cases c1 : n < (ops.length : Int)
  · have HN := Lib.hid (firstM_op (s := ⟨sorts, ops⟩) (vars := vars) (f := f) (rest := rest) (n := n) ⟨by omega, c1⟩)
    clear h2
    obtain ⟨k, rfl⟩ := Int.eq_ofNat_of_zero_le (show 0 ≤ n by omega)
    go_enter Try.func92, Try.ntmps92
    go_wp2_with fail
    have hcc : (1 : Int) ≤ (c4 : Int) := by omega
    go_quiet (fail)
    generalize hA5 : (if c4 = 1 then (some (⟨b, o, none⟩ : Addr)) else some ⟨b, o + 1, none⟩) = A5
    have HSUF := Lib.hid (SufOf.tail (b := b) (o := o) (c := c4) (n := (k : Int)) (rest := rest) (A := A5) (tail_addr hA5))
    clear hA5
    go_wp2_with fail
    have HR5 := Lib.hid (HSUF.out.2 _ HV3.out)
    have hbq := below_drewN (Below.refl (w.alloc (.cells #[.int .i64 sorts, .slice A ops.length c] 25)).heap.size (w.alloc (.cells #[.int .i64 sorts, .slice A ops.length c] 25))) nq
    refine (opWithTerms_any ⟨sorts, ops⟩ vars hv f ih k (by simp only; omega) rest _ _ _ _ hr (fun x hx => HSM.out x (List.mem_cons_of_mem _ hx)) (HS.out.keep hbq) (HV2.out.keep hbq) (HR5.out.keep hbq)).mono ?_
    rintro e w2 ⟨hm, hb⟩
    have HBF := Lib.hid (HB1.out.trans ((below_drewN (Below.refl _ _) nq).trans hb |>.mono (by simp)))
    cases hf : nodeM ⟨sorts, ops⟩ vars f k rest with
    | none =>
      rw [hf] at hm
      simp only at hm
      subst hm
      have HFN := Lib.hid hf
      clear hf hb hbq
      go_wp2
      refine bodyPost_ret (v := .tuple #[.nilIface, .slice none 0 0, .bool false]) (by simp [results, Try.results92, go_sem]) rfl ?_
      rw [HN.out, Int.toNat_natCast, HFN.out]
      exact ⟨rfl, HBF.out⟩
    | some q =>
      obtain ⟨t, rb⟩ := q
      rw [hf] at hm
      simp only at hm
      obtain ⟨u, bv, rfl, hu, hbv⟩ := hm
      have HFS := Lib.hid hf
      have HU := Lib.hid hu
      have HBV := Lib.hid hbv
      obtain ⟨T, y, fid, rfl, -⟩ := hu.sorts
      obtain ⟨A6, c7, rfl⟩ := hbv.1
      clear hf hbv hb hbq hu
      go_wp2
      refine bodyPost_ret (v := .tuple #[.iface T y, .slice A6 rb.length c7, .bool true]) (by simp [results, Try.results92, go_sem]) rfl ?_
      rw [HN.out, Int.toNat_natCast, HFS.out]
      exact ⟨⟨_, _, rfl, HU.out.keep fun x hx _ => ⟨by simp at hx; omega, rfl⟩, HSUF.out.trans HBV.out⟩, HBF.out⟩
  · by_cases c2 : 100 ≤ n ∧ n < 100 + (vars.length : Int)
    · have HN := Lib.hid (firstM_letter (s := ⟨sorts, ops⟩) (vars := vars) (f := f) (rest := rest) (n := n) (by simp only; omega) c2)
      obtain ⟨k, rfl⟩ : ∃ k : Nat, n = 100 + (k : Int) := ⟨(n - 100).toNat, by omega⟩
      obtain ⟨hv2, hv3⟩ := c2
      have hk : k < vars.length := by omega
      obtain ⟨b6, o6, c6, e, hy⟩ := HV2.out.at_ hk
      cases e
      rw [show ((100 : Int) + (k : Int) - 100).toNat = k by omega, getD_at _ hk] at HN
      generalize vars[k] = y at hy HN
      go_enter Try.func92, Try.ntmps92
      go_wp2_with fail
      have hcc : (1 : Int) ≤ (c4 : Int) := by omega
      go_quiet (fail)
      generalize hA5 : (if c4 = 1 then (some (⟨b, o, none⟩ : Addr)) else some ⟨b, o + 1, none⟩) = A5
      have HSUF := Lib.hid (SufOf.tail (b := b) (o := o) (c := c4) (n := 100 + (k : Int)) (rest := rest) (A := A5) (tail_addr hA5))
      clear hA5
      have HBF := Lib.hid (below_drewN HB1.out nq)
      go_wp2
      refine bodyPost_ret (v := .tuple #[.iface 118 (.agg #[.int .i64 (100 + (k : Int) - 100), .int .i64 y]), .slice A5 rest.length (c4 - 1), .bool true]) (by simp [results, Try.results92, go_sem]) rfl ?_
      rw [HN.out]
      exact ⟨⟨_, _, rfl, by unfold RTerm; rw [show (100 : Int) + (k : Int) - 100 = (k : Int) by omega], HSUF.out⟩, HBF.out⟩
    · have HN := Lib.hid (firstM_bad (s := ⟨sorts, ops⟩) (vars := vars) (f := f) (rest := rest) (n := n) (by simp only; omega) c2)
      by_cases c3 : n < 100
      · go_enter Try.func92, Try.ntmps92
        go_wp2_with fail
        have hcc : (1 : Int) ≤ (c4 : Int) := by omega
        go_quiet (fail)
        generalize hA5 : (if c4 = 1 then (some (⟨b, o, none⟩ : Addr)) else some ⟨b, o + 1, none⟩) = A5
        clear hA5
        have HBF := Lib.hid (below_drewN HB1.out nq)
        go_wp2
        refine bodyPost_ret (v := .tuple #[.nilIface, .slice none 0 0, .bool false]) (by simp [results, Try.results92, go_sem]) rfl ?_
        rw [HN.out]
        exact ⟨rfl, HBF.out⟩
      · obtain ⟨k, rfl⟩ : ∃ k : Nat, n = 100 + (k : Int) := ⟨(n - 100).toNat, by omega⟩
        have hk : (vars.length : Int) ≤ 100 + (k : Int) - 100 := by omega
        go_enter Try.func92, Try.ntmps92
        go_wp2_with fail
        have hcc : (1 : Int) ≤ (c4 : Int) := by omega
        go_quiet (fail)
        generalize hA5 : (if c4 = 1 then (some (⟨b, o, none⟩ : Addr)) else some ⟨b, o + 1, none⟩) = A5
        clear hA5
        have HBF := Lib.hid (below_drewN HB1.out nq)
        go_wp2
        refine bodyPost_ret (v := .tuple #[.nilIface, .slice none 0 0, .bool false]) (by simp [results, Try.results92, go_sem]) rfl ?_
        rw [HN.out]
        exact ⟨rfl, HBF.out⟩

theorem first_any (s : MSig) (vars : List Int) (hv : varsB s vars = true) : ∀ f, FirstAt s vars f := by
  intro f
  induction f with
  | zero =>
    intro r w v vv rv hr hsm h1 h2 h3
    obtain rfl := List.eq_nil_of_length_eq_zero (Nat.le_zero.1 hr)
    exact first_empty s vars 0 w v vv rv h1 h2 h3
  | succ f ih =>
    intro r w v vv rv hr hsm h1 h2 h3
    cases r with
    | nil => exact first_empty s vars _ w v vv rv h1 h2 h3
    | cons n rest => exact first_step s vars hv f ih n rest w v vv rv (by simpa using hr) hsm h1 h2 h3

def TermPost (res : Option Tm) (w : World) (e : Ending) (w' : World) : Prop :=
  (match res with
    | some tm => ∃ u, e = .returned (.tuple #[u, .bool true]) ∧ RTerm w' (fun x => w.heap.size ≤ x) u tm
    | none => e = .returned (.tuple #[.nilIface, .bool false])) ∧ Below w.heap.size w w'
theorem termM_no {s : MSig} {vars t : List Int} (h : ¬ (varsB s vars = true ∧ t.length ≤ 30)) : termM s vars t = none := by unfold termM; rw [if_neg h]
theorem termM_yes {s : MSig} {vars t : List Int} (h : varsB s vars = true) (h2 : t.length ≤ 30) : termM s vars t = match firstM s vars 30 t with
    | some (tm, []) => some tm
    | _ => none := by
  unfold termM
  rw [if_pos ⟨h, h2⟩]
  cases firstM s vars 30 t with
  | none => rfl
  | some q => obtain ⟨tm, b⟩ := q; cases b <;> rfl

set_option maxRecDepth 100000 in
theorem termOf_any (s : MSig) (vars t : List Int) (w : World) (v vv tv : Value) (hsm : Small t) (h1 : RSig w v s) (h2 : RInts w vv vars) (h3 : RInts w tv t) :
    Calls Try.prog 58 #[v, vv, tv] w (TermPost (termM s vars t) w) := by
  obtain ⟨u, rfl, hrr⟩ := h1
  obtain ⟨sorts, ops⟩ := s
  obtain ⟨A, c, rfl, -⟩ := hrr.form
  have hb1 := below_alloc w (.cells #[.int .i64 sorts, .slice A ops.length c] 25)
  have hbx := Lib.hid (box_cells w (.int .i64 sorts) (.slice A ops.length c) 25)
  have HS := Lib.hid (show RSig (w.alloc (.cells #[.int .i64 sorts, .slice A ops.length c] 25)) (.agg #[.int .i64 sorts, .slice A ops.length c]) ⟨sorts, ops⟩ from ⟨_, rfl, hrr.keep hb1⟩)
  have HV2 := Lib.hid (h2.keep hb1)
  have HV3 := Lib.hid (h3.keep hb1)
  have hlen := h3.len
  obtain ⟨A2, c2, rfl, -⟩ := h2.form
  obtain ⟨A3, c3, rfl, -⟩ := h3.form
  have HB1 := Lib.hid hb1
  clear hrr h2 h3 hb1
  cases hv : varsB ⟨sorts, ops⟩ vars with
  | false =>
    have HN := Lib.hid (termM_no (s := ⟨sorts, ops⟩) (vars := vars) (t := t) (by rw [hv]; simp))
    have HV := Lib.hid hv
    clear hv
    go_enter Try.func58, Try.ntmps58
    go_wp2_with (go_at_call 18; refine (varsOk_any _ _ ⟨sorts, ops⟩ vars _ HS.out HV2.out).mono ?_; rw [HV.out]; rintro e w1 ⟨rfl, hb⟩)
    refine bodyPost_ret (v := .tuple #[.nilIface, .bool false]) (by simp [results, Try.results58, go_sem]) rfl ?_
    rw [HN.out]
    exact ⟨rfl, HB1.out.trans (hb.mono (by simp))⟩
  | true =>
    by_cases hl : 30 < (t.length : Int)
    · have HN := Lib.hid (termM_no (s := ⟨sorts, ops⟩) (vars := vars) (t := t) (by omega))
      have HV := Lib.hid hv
      clear hv
      go_enter Try.func58, Try.ntmps58
      go_wp2_with (go_at_call 18; refine (varsOk_any _ _ ⟨sorts, ops⟩ vars _ HS.out HV2.out).mono ?_; rw [HV.out]; rintro e w1 ⟨rfl, hb⟩)
      refine bodyPost_ret (v := .tuple #[.nilIface, .bool false]) (by simp [results, Try.results58, go_sem]) rfl ?_
      rw [HN.out]
      exact ⟨rfl, HB1.out.trans (hb.mono (by simp))⟩
    · have HN := Lib.hid (termM_yes hv (t := t) (by omega))
      have HV := Lib.hid hv
      clear hv
      have hl3 : (t.length : Int) ≤ 30 := by omega
      go_enter Try.func58, Try.ntmps58
      go_wp2_with (go_at_call 18; refine (varsOk_any _ _ ⟨sorts, ops⟩ vars _ HS.out HV2.out).mono ?_; rw [HV.out]; rintro e w1 ⟨rfl, hb⟩; have f0 := cell_keep hb hbx.out.1; have f1 := cell_keep hb hbx.out.2; have HB := Lib.hid hb; clear hb)
      refine (first_any ⟨sorts, ops⟩ vars HV.out 30 t _ _ _ _ (by omega) hsm (HS.out.keep HB.out) (HV2.out.keep HB.out) (HV3.out.keep HB.out)).mono ?_
      rintro e w2 ⟨hm, hb2⟩
      have s1 := HB.out.size
      simp at s1
      have HBF := Lib.hid ((HB1.out.trans (HB.out.mono (by simp))).trans (hb2.mono (by omega)))
      clear hb2 f0 f1
      cases hf : firstM ⟨sorts, ops⟩ vars 30 t with
      | none =>
        rw [hf] at hm
        simp only at hm
        subst hm
        have HF := Lib.hid hf
        clear hf
        go_wp2
        refine bodyPost_ret (v := .tuple #[.nilIface, .bool false]) (by simp [results, Try.results58, go_sem]) rfl ?_
        rw [HN.out, HF.out]
        exact ⟨rfl, HBF.out⟩
      | some q =>
        obtain ⟨tm, rb⟩ := q
        rw [hf] at hm
        simp only at hm
        obtain ⟨u, bv, rfl, hu, hbv⟩ := hm
        have HF := Lib.hid hf
        have HU := Lib.hid hu
        obtain ⟨T, y, fid, rfl, -⟩ := hu.sorts
        obtain ⟨A6, c7, rfl⟩ := hbv.1
        clear hf hbv hu
        by_cases hrb : 0 < (rb.length : Int)
        · go_wp2
          refine bodyPost_ret (v := .tuple #[.nilIface, .bool false]) (by simp [results, Try.results58, go_sem]) rfl ?_
          rw [HN.out, HF.out]
          cases rb with
          | nil => simp at hrb
          | cons x rb => exact ⟨rfl, HBF.out⟩
        · go_wp2
          refine bodyPost_ret (v := .tuple #[.iface T y, .bool true]) (by simp [results, Try.results58, go_sem]) rfl ?_
          rw [HN.out, HF.out]
          cases rb with
          | nil => exact ⟨⟨_, rfl, HU.out.keep fun x hx _ => ⟨by omega, rfl⟩⟩, HBF.out⟩
          | cons x rb => simp at hrb; omega
end
end Go.Proofs.Ytkhabmoidpgapaa
