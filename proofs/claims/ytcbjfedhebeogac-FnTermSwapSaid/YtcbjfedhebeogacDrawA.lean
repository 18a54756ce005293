/- The draws of terms: l20Anything, l20TermOf, l20Terms. -/
import Derived.Test.YtcbjfedhebeogacDrawT
import Derived.Test.YtcbjfedhebeogacVars
namespace Go.Proofs.Ytcbjfedhebeogac
open Go.RowKit
set_option linter.unusedVariables false

def AnyPost (g p d : Nat) (w : World) (e : Ending) (w' : World) : Prop :=
  ∃ (v : Value) (xs : List Int) (q : Nat), e = .returned v ∧ (∃ ad c, v = .slice (some ad) xs.length c) ∧ OInts w' w.heap.size v xs ∧ xs.length ≤ Lb d ∧ Small xs ∧ RRd w' g q ∧ q ≤ p + 3 * (1 + Qb d) ∧ w.grownBy w' (some g)

set_option maxHeartbeats 800000 in
set_option maxRecDepth 100000 in
theorem drawAny_any (s : MSig) (vars : List Int) (hv : validB s = true) (hvl : vars.length ≤ 1000) (d : Nat) (hd : d ≤ 4) (g p : Nat) (sv vv : Value) (w : World) (h : RRd w g p) (hp : p + 3 * (1 + Qb d) ≤ 1000000000) (hs : OSig w (g + 1) sv s) (hvv : OInts w (g + 1) vv vars) :
    Calls Try.prog 42 #[.pointer (some ⟨g, 0, none⟩), sv, vv, .int .i64 (d : Int)] w (AnyPost g p d w) := by
  obtain ⟨u0, rfl, hoo⟩ := hs
  obtain ⟨sorts, ops⟩ := s
  simp only at hoo
  obtain ⟨A, c, rfl, -⟩ := hoo.reads.form
  obtain ⟨A2, c2, rfl, -⟩ := hvv.reads.form
  have hgl := h.lt
  have hvs := valid_sorts hv
  simp only at hvs
  obtain ⟨W, hW⟩ : ∃ W : World, W = w.alloc (.cells #[.int .i64 sorts, .slice A ops.length c] 25) := ⟨_, rfl⟩
  have hbW : Below w.heap.size w W := by rw [hW]; exact below_alloc _ _
  have HGW := Lib.hid (show w.grownBy W (some g) by rw [hW]; exact gr_alloc (gr_refl w g) _)
  have HBOX := Lib.hid (show W.heap[w.heap.size]? = some (.cells #[.int .i64 sorts, .slice A ops.length c] 25 (0, 0)) by rw [hW]; exact heap_alloc_new w _)
  have HRW := Lib.hid (h.keep hbW)
  have HZW := Lib.hid (show W.heap.size = w.heap.size + 1 by rw [hW]; simp)
  have HSW := Lib.hid (show OSig W (g + 1) (.agg #[.int .i64 sorts, .slice A ops.length c]) ⟨sorts, ops⟩ from (show OSig w (g + 1) (.agg #[.int .i64 sorts, .slice A ops.length c]) ⟨sorts, ops⟩ from ⟨_, rfl, hoo⟩).keep hbW)
  have HVW := Lib.hid (hvv.keep hbW)
  have hW' := hW.symm
  have HV := Lib.hid hv
  have hs0 : (1 : Int) ≤ sorts := hvs.1
  have hs3 : sorts ≤ 3 := hvs.2.1
  have hsb : (sorts == 0) = false := by rw [beq_eq_false_iff_ne]; omega
  have hsn : sorts ≠ 0 := by omega
  clear hbW h hoo hvv hv hW hvs
  go_enter Try.func42, Try.ntmps42
  go_wp2_with fail
  clear hW'
  go_loopw [9, 10] (fun k9 t10 wr => ∃ (k q : Nat), (k : Int) ≤ sorts ∧ k9 = .int .i64 k ∧ q ≤ p + k * (1 + Qb d) ∧ TermSt W wr g q) (fun k _ _ => 3 - (intOf k).toNat)
  case atStart => exact ⟨0, p, by omega, rfl, by omega, ⟨HRW.out, gr_refl W g⟩⟩
  case round =>
    obtain ⟨k, q, hk, rfl, hq, hst⟩ := hrel
    have HST := Lib.hid hst
    have hbx := box_after HBOX.out hst.gr (by omega)
    have g0 := block_cell hbx 0
    have g1 := block_cell hbx 1
    simp at g0 g1
    have hk3 : k ≤ 3 := by omega
    have HQ := Lib.hid hq
    clear hst hbx hq
    by_cases hlt : (k : Int) < sorts
    · have HQN := Lib.hid (show q + (1 + Qb d) ≤ p + (k + 1) * (1 + Qb d) ∧ q + (1 + Qb d) ≤ p + 3 * (1 + Qb d) by
        have h0 := HQ.out
        have h1 : (k + 1) * (1 + Qb d) = k * (1 + Qb d) + (1 + Qb d) := Nat.succ_mul _ _
        have h2 : (k + 1) * (1 + Qb d) ≤ 3 * (1 + Qb d) := Nat.mul_le_mul_right _ (by omega)
        omega)
      have hqb : q ≤ 999999999 := by have := HQN.out.2; omega
      have HS5 := Lib.hid (HSW.out.past HST.out.gr (by omega))
      have HV5 := Lib.hid (HVW.out.past HST.out.gr (by omega))
      go_wp2_with fail
      have ea := World.new_ne wr _ g0
      go_region_held3 (fun w' => w'.cell? ⟨w.heap.size, 0, none⟩ = some (.int .i64 sorts) ∧ w'.cell? ⟨w.heap.size, 1, none⟩ = some (.slice A ops.length c)) (first | go_keep | exact ⟨j0, j1⟩ | exact ⟨i0, i1⟩)
        (first
          | (go_at_call 40; refine (pick_any g q 3 wr.drew HST.out.rd (by omega)).mono ?_; rintro e w3 ⟨x, rfl, hx, hr, hg⟩; have HST3 := Lib.hid (HST.out.later hr (gr_drew hg)); have HG3 := Lib.hid (gr_drew hg); have j0 := block_cell (box_after HBOX.out HST3.out.gr (by omega)) 0; have j1 := block_cell (box_after HBOX.out HST3.out.gr (by omega)) 1; clear hr hg)
          | (go_at_call 43; refine (dterm_any ⟨sorts, ops⟩ vars HV.out hvl d hd g (q + 1) _ _ _ w3 HST3.out.rd (by have := HQN.out.2; omega) (HS5.out.past HG3.out (by omega)) (HV5.out.past HG3.out (by omega))).mono ?_; rintro e w6 ⟨pv, ys, q6, rfl, -, hoy, hly, hsy, hr6, hq6, hg6⟩; have HG6 := Lib.hid hg6; have HOY := Lib.hid hoy; obtain ⟨Ay, cy, rfl, -⟩ := own_reads hoy; have HSY := Lib.hid hsy; have HST6 := Lib.hid (HST3.out.later hr6 hg6); have HLY := Lib.hid (And.intro hly hq6); have i0 := block_cell (box_after HBOX.out HST6.out.gr (by omega)) 0; have i1 := block_cell (box_after HBOX.out HST6.out.gr (by omega)) 1; clear hoy hsy hr6 hg6 hly hq6))
      clear j0 j1 i0 i1 g0 g1 ea
      by_cases hy0 : 0 < (ys.length : Int)
      · go_wp2
        go_ret
        refine ⟨_, ys, q6, rfl, own_some HOY.out (by omega), HOY.out.base (by have := HST3.out.gr.size; have := HZW.out; omega), HLY.out.1, HSY.out, HST6.out.rd, ?_, gr_more HGW.out HST6.out.gr⟩
        have := HLY.out.2
        have := HQN.out.2
        omega
      · go_wp2
        go_roundw
        case rel =>
          refine ⟨k + 1, q6, by omega, by go_num, ?_, HST6.out⟩
          have := HLY.out.2
          have := HQN.out.1
          omega
        case measure => simp [intOf]; omega
    · have hk' : ¬ (k : Int) < sorts := hlt
      go_wp2
      go_ret
      refine ⟨_, [], q, rfl, ⟨_, _, rfl⟩, lit0 wr (by have := HST.out.gr.size; have := HZW.out; omega), by simp, fun x hx => by simp at hx, (HST.out.below (below_alloc wr (.cells #[] 3))).rd, ?_, gr_more HGW.out (HST.out.below (below_alloc wr (.cells #[] 3))).gr⟩
      have h0 := HQ.out
      have h2 : k * (1 + Qb d) ≤ 3 * (1 + Qb d) := Nat.mul_le_mul_right _ (by omega)
      omega

def TermOfPost (g p : Nat) (w : World) (e : Ending) (w' : World) : Prop :=
  ∃ (sv : Value) (s : MSig) (vv : Value) (vars : List Int) (tv : Value) (t : List Int) (q : Nat), e = .returned (.tuple #[sv, vv, tv]) ∧ OSig w' w.heap.size sv s ∧ OInts w' w.heap.size vv vars ∧ OInts w' w.heap.size tv t ∧ (∃ ad c, tv = .slice (some ad) t.length c) ∧ s.ops.length ≤ 5 ∧ vars.length ≤ 5 ∧ t.length ≤ 40 ∧ Small t ∧ RRd w' g q ∧ q ≤ p + 1600000 ∧ w.grownBy w' (some g)

/-- behind l20Vars: w6 the world there; the term under way lies behind it -/
structure OfSt (w w6 wx : World) (g b5 : Nat) (sorts : Int) (u : Value) (rows : List (List Int)) (tv : Value) (t : List Int) (q : Nat) : Prop where
  loc : LocAt w wx g b5 sorts u rows q
  gr : w6.grownBy wx (some g)
  own : OInts wx w6.heap.size tv t
  some_ : ∃ ad c, tv = .slice (some ad) t.length c
  small : Small t
  short : t.length ≤ 20
theorem OfSt.later {w w6 wx w' : World} {g b5 q q' : Nat} {sorts : Int} {u tv : Value} {rows : List (List Int)} {t : List Int} (h : OfSt w w6 wx g b5 sorts u rows tv t q) (hg : wx.grownBy w' (some g)) (hr : RRd w' g q') (h6 : g < w6.heap.size) : OfSt w w6 w' g b5 sorts u rows tv t q' :=
  ⟨h.loc.later hg hr, gr_more h.gr hg, h.own.past hg h6, h.some_, h.small, h.short⟩
theorem OfSt.below {w w6 wx w' : World} {g b5 q : Nat} {sorts : Int} {u tv : Value} {rows : List (List Int)} {t : List Int} (h : OfSt w w6 wx g b5 sorts u rows tv t q) (hb : Below wx.heap.size wx w') (h6 : g < w6.heap.size) : OfSt w w6 w' g b5 sorts u rows tv t q :=
  h.later (gr_below (gr_refl wx g) hb) (h.loc.rd.keep hb) h6
/-- the results, when the local signature is written into its cells -/
theorem of_done {w w6 wx : World} {g b5 q : Nat} {sorts : Int} {u vv tv : Value} {rows : List (List Int)} {t vars : List Int} (h : OfSt w w6 wx g b5 sorts u rows tv t q) (hv : OInts w6 (w.heap.size + 1) vv vars) (hw6 : w.heap.size + 1 ≤ w6.heap.size) :
    let w3 := (wx.setCell ⟨w.heap.size, 0, none⟩ (.int .i64 sorts)).setCell ⟨w.heap.size, 1, none⟩ u
    w3.heap[w.heap.size]? = some (.cells #[.int .i64 sorts, u] 25 (0, 0)) ∧ OSig w3 w.heap.size (.agg #[.int .i64 sorts, u]) ⟨sorts, rows⟩ ∧ OInts w3 w.heap.size vv vars ∧ OInts w3 w.heap.size tv t ∧ RRd w3 g q ∧ w.grownBy w3 (some g) := by
  intro w3
  have hgl := h.loc.gl
  obtain ⟨d1, d2, d3, d4⟩ := loc_done h.loc
  have low : ∀ {v : Value} {xs : List Int}, OInts wx (w.heap.size + 1) v xs → OInts w3 w.heap.size v xs := fun {v xs} ho =>
    OInts.base (ownsRow_setCell_below (ownsRow_setCell_below ho (by show w.heap.size < w.heap.size + 1; omega) _) (by show w.heap.size < w.heap.size + 1; omega) _) (by omega)
  exact ⟨d1, ⟨_, rfl, d2.base (by omega)⟩, low (hv.past h.gr (by omega)), low (h.own.base hw6), d3, d4⟩
theorem OfSt.append {w w6 wb w8 : World} {g b5 q q6 n c m : Nat} {sorts : Int} {u v8 : Value} {A : Option Addr} {rows : List (List Int)} {t rs : List Int} (h : OfSt w w6 wb g b5 sorts u rows (.slice A n c) t q) (h6 : LocAt w w6 g b5 sorts u rows q6) (hg6 : g < w6.heap.size) {o : Obj}
    (hown : w8.ownsRow w6.heap.size 3 1 v8 (t.length + m) (t.map (Value.int .i64) ++ rs.map (Value.int .i64))) (hm : rs.length = m) (h1 : 1 ≤ m) (hg : (wb.alloc o).drew.grownBy w8 (Value.slice A n c).ownBlock) (hs : Small rs) (hl : t.length + m ≤ 20) : OfSt w w6 w8 g b5 sorts u rows v8 (t ++ rs) q := by
  have hb : ∀ k, (Value.slice A n c).ownBlock = some k → w6.heap.size ≤ k := fun k e => (own_lt h.own k e).1
  have hg68 : w6.grownBy w8 (some g) := gr_trans (gr_alloc h.gr o) (gr_drew hg) (fun k e => .inr (hb k e))
  have hr : RRd w8 g q := (h.loc.rd.keep (below_alloc wb o)).grown (gr_drew hg) (fun k e => by have := hb k e; omega)
  have ho : OInts w8 w6.heap.size v8 (t ++ rs) := app_own hm hown
  have hlen : (t ++ rs).length = t.length + m := by rw [List.length_append, hm]
  obtain ⟨A', c', e, -⟩ := own_reads ho
  refine ⟨h6.later hg68 hr, hg68, ho, ?_, fun x hx => ?_, by omega⟩
  · rw [e]
    exact own_some (e ▸ ho) (by omega)
  · rcases List.mem_append.1 hx with hx | hx
    · exact h.small x hx
    · exact hs x hx
theorem OfSt.onto {w w6 wb w8 : World} {g b5 q : Nat} {sorts x : Int} {u v8 tv : Value} {rows : List (List Int)} {t : List Int} (h : OfSt w w6 wb g b5 sorts u rows tv t q) (hg6 : g < w6.heap.size)
    (hown : w8.ownsRow w6.heap.size 3 1 v8 (1 + t.length) ([.int .i64 x] ++ t.map (Value.int .i64))) (hg : (wb.alloc (.cells #[.int .i64 x] 3)).drew.grownBy w8 (Value.slice (some ⟨wb.heap.size, 0, none⟩) 1 1).ownBlock) (hs : x ≤ 9223372036854775807) (hl : t.length ≤ 19) : OfSt w w6 w8 g b5 sorts u rows v8 ([x] ++ t) q := by
  have hz := h.gr.size
  have hgb : wb.grownBy w8 (some g) := gr_trans (gr_alloc (gr_refl wb g) _) (gr_drew hg) (fun k e => by injection e with e; exact .inr (Nat.le_of_eq e))
  have hr : RRd w8 g q := (h.loc.rd.keep (below_alloc wb _)).grown (gr_drew hg) (fun k e => by injection e with e; have e2 : wb.heap.size = k := e; omega)
  have ho : OInts w8 w6.heap.size v8 ([x] ++ t) := app_own (ps := [x]) rfl hown
  obtain ⟨A', c', e, -⟩ := own_reads ho
  refine ⟨h.loc.later hgb hr, gr_more h.gr hgb, ho, ?_, fun y hy => ?_, by simp; omega⟩
  · rw [e]
    exact own_some (e ▸ ho) (by simp)
  · rcases List.mem_append.1 hy with hy | hy
    · simp at hy; subst hy; exact hs
    · exact h.small y hy
theorem qb3 : Qb 3 = 519300 := by decide
theorem lb3 : Lb 3 = 15 := by decide

set_option maxHeartbeats 1600000 in
set_option maxRecDepth 100000 in
theorem termOf_draw (g p : Nat) (n : Int) (w : World) (h : RRd w g p) (hp : p ≤ 1000000) (hn : 0 ≤ n) (hn2 : n ≤ 1000) :
    Calls Try.prog 39 #[.pointer (some ⟨g, 0, none⟩), .int .i64 n] w (TermOfPost g p w) := by
  obtain ⟨i0, hi, hz0, hz1, hz2⟩ := info_parts Try.info_int
  have H := Lib.hid h
  have hgl := h.lt
  clear h
  have HR0 := Lib.hid (H.out.keep (w' := (w.alloc (.cells #[.int .i64 0, .slice none 0 0] 25))) (below_alloc _ _))
  go_enter Try.func39, Try.ntmps39
  go_wp2_with fail
  refine (sig_any g p _ _ HR0.out (by omega) (by omega) (by omega)).mono ?_
  rintro e w4 ⟨v, ⟨sorts, rows⟩, q4, rfl, ⟨u, rfl, ho⟩, hs2, hr4, hq4, hg4⟩
  have hu := ho
  obtain ⟨us0, hu0, -⟩ := hu
  obtain ⟨Au, cu, rfl, -⟩ := own_reads hu0
  simp only at hs2 hu0 ho
  clear hu0
  have hw4 : w.heap.size + 1 ≤ w4.heap.size := by have := hg4.size; simp at this; omega
  have HL1 := Lib.hid (loc_start (w := w) (w4 := w4) (g := g) (q := q4) (s := ⟨sorts, rows⟩) rfl ho hr4 hgl hg4)
  simp only at HL1
  clear ho hr4 hg4 HR0
  generalize hW5 : w4.alloc (.cells #[.int .i64 sorts, .slice Au rows.length cu] 25) = w5 at HL1
  have HZ5 := Lib.hid (show w4.heap.size < w5.heap.size from (Array.getElem?_eq_some_iff.1 HL1.out.loc).1)
  have hl0 := block_cell HL1.out.loc 0
  have hl1 := block_cell HL1.out.loc 1
  simp at hl0 hl1
  have HRS := Lib.hid (show RSig w5 (.agg #[.int .i64 sorts, .slice Au rows.length cu]) ⟨sorts, rows⟩ from ⟨_, rfl, HL1.out.own.reads⟩)
  go_wp2_with fail
  clear hW5
  refine (drawVars_any g q4 n ⟨sorts, rows⟩ _ w5 HL1.out.rd (by omega) hn (by omega) HRS.out).mono ?_
  rintro e w6 ⟨vv, vars, q6, rfl, hov, hvl, hr6, hq6, hg6⟩
  obtain ⟨Av, cv, rfl, -⟩ := own_reads hov
  have HL6 := Lib.hid (HL1.out.later hg6 hr6)
  have hz6 : w5.heap.size ≤ w6.heap.size := hg6.size
  have HOV := Lib.hid (hov.base (B' := w.heap.size + 1) (by have := HZ5.out; omega))
  have HST0 := Lib.hid (show OfSt w w6 (w6.alloc (.cells #[] 3)) g w4.heap.size sorts (.slice Au rows.length cu) rows (.slice (some ⟨w6.heap.size, 0, none⟩) 0 0) [] q6 from
    ⟨HL6.out.later (gr_alloc (gr_refl w6 g) _) (hr6.keep (below_alloc _ _)), gr_alloc (gr_refl w6 g) _, own_empty w6, ⟨_, _, rfl⟩, fun x hx => by simp at hx, by simp⟩)
  have hw6 : w.heap.size + 1 ≤ w6.heap.size := by have := HZ5.out; omega
  have hg6' : g < w6.heap.size := by omega
  have hb46 : w4.heap.size < w6.heap.size := by have := HZ5.out; omega
  clear hov hr6 hg6 hl0 hl1
  generalize hW7 : w6.alloc (.cells #[] 3) = w7 at HST0
  have hl0 := block_cell HST0.out.loc.loc 0
  have hl1 := block_cell HST0.out.loc.loc 1
  simp at hl0 hl1
  have HRS7 := Lib.hid (show RSig w7 (.agg #[.int .i64 sorts, .slice Au rows.length cu]) ⟨sorts, rows⟩ from ⟨_, rfl, HST0.out.loc.own.reads⟩)
  have HRV7 := Lib.hid (HOV.out.past HST0.out.gr (by omega)).reads
  go_upto_if 20 with (go_at_call 66; refine (specVarsOk_any _ _ ⟨sorts, rows⟩ vars _ HRS7.out HRV7.out).mono ?_; rintro e w8 ⟨rfl, hb⟩; have HST8 := Lib.hid (HST0.out.below hb hg6'); clear hb hl0 hl1 hW7)
  go_cut [9] (fun t9 wx => ∃ (t : List Int) (q : Nat), OfSt w w6 wx g w4.heap.size sorts (.slice Au rows.length cu) rows t9 t q ∧ q ≤ q6 + 1557903 ∧ t.length ≤ 15)
  case first =>
    cases hvb : varsB ⟨sorts, rows⟩ vars with
    | false =>
      go_wp2
      go_meet
      case rel => exact ⟨[], q6, HST8.out, by omega, by simp⟩
    | true =>
      have hval := (vars_valid hvb).1
      have HVAL := Lib.hid hval
      have hl0 := block_cell HST8.out.loc.loc 0
      have hl1 := block_cell HST8.out.loc.loc 1
      simp at hl0 hl1
      clear hval
      go_wp2_with fail
      refine (drawAny_any ⟨sorts, rows⟩ vars HVAL.out (by omega) 3 (by omega) g q6 _ _ w8 HST8.out.loc.rd (by rw [qb3]; omega) ⟨_, rfl, HST8.out.loc.own.base (by omega)⟩ ((HOV.out.past HST8.out.gr (by omega)).base (by omega))).mono ?_
      rintro e w9 ⟨tv, t, q9, rfl, hsome, hot, htl, hts, hr9, hq9, hg9⟩
      rw [lb3] at htl
      rw [qb3] at hq9
      have HST9 := Lib.hid (show OfSt w w6 w9 g w4.heap.size sorts (.slice Au rows.length cu) rows tv t q9 from ⟨HST8.out.loc.later hg9 hr9, gr_more HST8.out.gr hg9, hot.base HST8.out.gr.size, hsome, hts, by omega⟩)
      clear hsome hot hts hr9 hg9 hl0 hl1
      go_wp2
      go_meet
      case rel => exact ⟨t, q9, HST9.out, by omega, htl⟩
  case rest =>
    obtain ⟨t, q9, hst9, hq9, ht15⟩ := hcut
    obtain ⟨wx, rfl⟩ : ∃ wx : World, wx = wc := ⟨_, rfl⟩
    have HST9 := Lib.hid hst9
    obtain ⟨ad, ct, rfl⟩ := hst9.some_
    clear hst9
    go_wp2_with fail
    refine (odd_any g q9 n _ HST9.out.loc.rd (by omega) hn (by omega)).mono ?_
    rintro e wa ⟨b, qa, rfl, hra, hqa, hga⟩
    have HSTA := Lib.hid (HST9.out.later hga hra hg6')
    clear hra hga
    cases b with
    | false =>
      have hl0 := block_cell HSTA.out.loc.loc 0
      have hl1 := block_cell HSTA.out.loc.loc 1
      simp at hl0 hl1
      have hr0 := block_cell HSTA.out.loc.res 0
      have hr1 := block_cell HSTA.out.loc.res 1
      have hr2 := block_free HSTA.out.loc.res 0
      have hr3 := block_free HSTA.out.loc.res 1
      simp at hr0 hr1
      go_wp2
      obtain ⟨d1, d2, d3, d4, d5, d6⟩ := of_done HSTA.out HOV.out hw6
      generalize (wa.setCell ⟨w.heap.size, 0, none⟩ (.int .i64 sorts)).setCell ⟨w.heap.size, 1, none⟩ (.slice Au rows.length cu) = w9 at d1 d2 d3 d4 d5 d6 ⊢
      have k0 := block_cell d1 0
      have k1 := block_cell d1 1
      simp at k0 k1
      clear hl0 hl1 hr0 hr1 hr2 hr3
      refine bodyPost_ret (v := .tuple #[.agg #[.int .i64 sorts, .slice Au rows.length cu], .slice Av vars.length cv, .slice (some ad) t.length ct]) (by simp [results, Try.results39, go_sem, k0, k1]) rfl ?_
      exact ⟨_, ⟨sorts, rows⟩, _, vars, _, t, qa, rfl, d2, d3, d4, ⟨_, _, rfl⟩, hs2, hvl, by have := HSTA.out.short; omega, HSTA.out.small, d5, by omega, d6⟩
    | true =>
      go_wp2_with fail
      refine (pick_any g qa 3 _ HSTA.out.loc.rd (by omega)).mono ?_
      rintro e wb ⟨x, rfl, hx, hrb, hgb⟩
      have hx := hx.2 (by omega)
      have HSTB := Lib.hid (HSTA.out.later hgb hrb hg6')
      have hl0 := block_cell HSTB.out.loc.loc 0
      have hl1 := block_cell HSTB.out.loc.loc 1
      simp at hl0 hl1
      clear hrb hgb
      have HTB := Lib.hid (show wb.ownsRow w6.heap.size 3 1 (.slice (some ad) t.length ct) t.length (t.map (Value.int .i64)) from HSTB.out.own)
      have hts := HSTB.out.short
      by_cases hx0 : x = 0
      · subst hx0
        go_wp2_with fail
        have ea := World.new_ne wb _ hl0
        have hz := HSTB.out.gr.size
        go_region_held3 (fun w' => w'.cell? ⟨w4.heap.size, 0, none⟩ = some (.int .i64 sorts) ∧ w'.cell? ⟨w4.heap.size, 1, none⟩ = some (.slice Au rows.length cu)) (first | go_keep | exact ⟨j0, j1⟩ | exact ⟨block_cell (block_set_ne (block_set_ne HST8.out.loc.loc 0 _ (by omega)) 1 _ (by omega)) 0, block_cell (block_set_ne (block_set_ne HST8.out.loc.loc 0 _ (by omega)) 1 _ (by omega)) 1⟩)
          (first
            | (refine step_append_own rfl (.tmp 37) (.tmp 38) 26 rfl w6.heap.size 3 i0 (.int .i64 0) 1 8 Try.underlying26 hi hz0 hz1 hz2 rfl (by omega) _ t.length (t.map (Value.int .i64)) rfl ((HTB.out.alloc _).drew) ⟨wb.heap.size, 0, none⟩ 1 1 [.int .i64 100] rfl rfl (lit_new wb 100) (lit_one 100) (by rw [maxLen_eq]; omega) (by omega) (by simp; omega) ?_; intro v8 w8 hown8 hgrow8; have HST8 := Lib.hid (HSTB.out.append HL6.out hg6' (rs := [100]) hown8 rfl (by omega) hgrow8 (small_one (by omega)) (by omega)); obtain ⟨A8, c8, rfl, -⟩ := own_reads hown8; have j0 := block_cell HST8.out.loc.loc 0; have j1 := block_cell HST8.out.loc.loc 1; have r0 := block_cell HST8.out.loc.res 0; have r1 := block_cell HST8.out.loc.res 1; simp at j0 j1 r0 r1; have r2 := block_free HST8.out.loc.res 0; have r3 := block_free HST8.out.loc.res 1; clear hown8 hgrow8))
        obtain ⟨d1, d2, d3, d4, d5, d6⟩ := of_done HST8.out HOV.out hw6
        generalize (w8.setCell ⟨w.heap.size, 0, none⟩ (.int .i64 sorts)).setCell ⟨w.heap.size, 1, none⟩ (.slice Au rows.length cu) = w9 at d1 d2 d3 d4 d5 d6 ⊢
        have k0 := block_cell d1 0
        have k1 := block_cell d1 1
        simp at k0 k1
        clear hl0 hl1 j0 j1 r0 r1 r2 r3
        go_wp2
        refine bodyPost_ret (v := .tuple #[.agg #[.int .i64 sorts, .slice Au rows.length cu], .slice Av vars.length cv, .slice A8 (t.length + 1) c8]) (by simp [results, Try.results39, go_sem, k0, k1]) rfl ?_
        exact ⟨_, ⟨sorts, rows⟩, _, vars, _, t ++ [100], _, rfl, d2, d3, d4, HST8.out.some_, hs2, hvl, by have := HST8.out.short; omega, HST8.out.small, d5, by omega, d6⟩
      by_cases hx1 : x = 1
      · subst hx1
        have HLIT := Lib.hid (lit1 wb (rows.length : Int) (B := w6.heap.size) HSTB.out.gr.size)
        have HNEWS := Lib.hid (news_any (HSTB.out.own.reads.keep (below_alloc wb (.cells #[.int .i64 (rows.length : Int)] 3))))
        go_wp2_with fail
        have ea := World.new_ne wb _ hl0
        have hz := HSTB.out.gr.size
        go_region_held3 (fun w' => w'.cell? ⟨w4.heap.size, 0, none⟩ = some (.int .i64 sorts) ∧ w'.cell? ⟨w4.heap.size, 1, none⟩ = some (.slice Au rows.length cu)) (first | go_keep | exact ⟨j0, j1⟩ | exact ⟨block_cell (block_set_ne (block_set_ne HST8.out.loc.loc 0 _ (by omega)) 1 _ (by omega)) 0, block_cell (block_set_ne (block_set_ne HST8.out.loc.loc 0 _ (by omega)) 1 _ (by omega)) 1⟩)
          (first
            | (refine step_append_own rfl (.tmp 47) (.tmp 48) 26 rfl w6.heap.size 3 i0 (.int .i64 0) 1 8 Try.underlying26 hi hz0 hz1 hz2 rfl (by omega) _ 1 [.int .i64 (rows.length : Int)] rfl (HLIT.out.drew) ad t.length ct (t.map (Value.int .i64)) rfl (by simp) HNEWS.out (ints_one _) (by rw [maxLen_eq]; omega) (by omega) (by simp; omega) ?_; intro v8 w8 hown8 hgrow8; have HST8 := Lib.hid (HSTB.out.onto hg6' (x := (rows.length : Int)) hown8 hgrow8 (by omega) (by omega)); obtain ⟨A8, c8, rfl, -⟩ := own_reads hown8; have j0 := block_cell HST8.out.loc.loc 0; have j1 := block_cell HST8.out.loc.loc 1; have r0 := block_cell HST8.out.loc.res 0; have r1 := block_cell HST8.out.loc.res 1; simp at j0 j1 r0 r1; have r2 := block_free HST8.out.loc.res 0; have r3 := block_free HST8.out.loc.res 1; clear hown8 hgrow8))
        obtain ⟨d1, d2, d3, d4, d5, d6⟩ := of_done HST8.out HOV.out hw6
        generalize (w8.setCell ⟨w.heap.size, 0, none⟩ (.int .i64 sorts)).setCell ⟨w.heap.size, 1, none⟩ (.slice Au rows.length cu) = w9 at d1 d2 d3 d4 d5 d6 ⊢
        have k0 := block_cell d1 0
        have k1 := block_cell d1 1
        simp at k0 k1
        clear hl0 hl1 j0 j1 r0 r1 r2 r3
        go_wp2
        refine bodyPost_ret (v := .tuple #[.agg #[.int .i64 sorts, .slice Au rows.length cu], .slice Av vars.length cv, .slice A8 (1 + t.length) c8]) (by simp [results, Try.results39, go_sem, k0, k1]) rfl ?_
        exact ⟨_, ⟨sorts, rows⟩, _, vars, _, [(rows.length : Int)] ++ t, _, rfl, d2, d3, d4, HST8.out.some_, hs2, hvl, by have := HST8.out.short; omega, HST8.out.small, d5, by omega, d6⟩
      have HST8 := Lib.hid (show OfSt w w6 (wb.alloc (.cells #[] 3)) g w4.heap.size sorts (.slice Au rows.length cu) rows (.slice (some ⟨wb.heap.size, 0, none⟩) 0 0) [] (qa + 1) from
        ⟨HSTB.out.loc.later (gr_alloc (gr_refl wb g) _) (HSTB.out.loc.rd.keep (below_alloc _ _)), gr_more HSTB.out.gr (gr_alloc (gr_refl wb g) _), (own_empty wb).base HSTB.out.gr.size, ⟨_, _, rfl⟩, fun x hx => by simp at hx, by simp⟩)
      generalize hW8 : wb.alloc (.cells #[] 3) = w8 at HST8
      have j0 := block_cell HST8.out.loc.loc 0
      have j1 := block_cell HST8.out.loc.loc 1
      have r0 := block_cell HST8.out.loc.res 0
      have r1 := block_cell HST8.out.loc.res 1
      simp at j0 j1 r0 r1
      have r2 := block_free HST8.out.loc.res 0
      have r3 := block_free HST8.out.loc.res 1
      go_wp2
      clear hW8
      obtain ⟨d1, d2, d3, d4, d5, d6⟩ := of_done HST8.out HOV.out hw6
      generalize (w8.setCell ⟨w.heap.size, 0, none⟩ (.int .i64 sorts)).setCell ⟨w.heap.size, 1, none⟩ (.slice Au rows.length cu) = w9 at d1 d2 d3 d4 d5 d6 ⊢
      have k0 := block_cell d1 0
      have k1 := block_cell d1 1
      simp at k0 k1
      clear hl0 hl1 j0 j1 r0 r1 r2 r3
      refine bodyPost_ret (v := .tuple #[.agg #[.int .i64 sorts, .slice Au rows.length cu], .slice Av vars.length cv, .slice (some ⟨wb.heap.size, 0, none⟩) 0 0]) (by simp [results, Try.results39, go_sem, k0, k1]) rfl ?_
      exact ⟨_, ⟨sorts, rows⟩, _, vars, _, [], _, rfl, d2, d3, d4, HST8.out.some_, hs2, hvl, by have := HST8.out.short; omega, HST8.out.small, d5, by omega, d6⟩
end Go.Proofs.Ytcbjfedhebeogac
