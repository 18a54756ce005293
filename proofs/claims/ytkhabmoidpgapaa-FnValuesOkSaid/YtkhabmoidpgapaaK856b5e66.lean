/- The draws of terms: l20Anything, l20TermOf, l20Terms. · l20Valued: a signature, a model, letters, a term and values. · DrawValuesOk. -/
import Derived.Test.YtkhabmoidpgapaaK9730a853
namespace Go.Proofs.Ytkhabmoidpgapaa
section
open Go.RowKit
set_option linter.unusedVariables false

def AnyPost (g p d : Nat) (w : World) (e : Ending) (w' : World) : Prop :=
  ∃ (v : Value) (xs : List Int) (q : Nat), e = .returned v ∧ (∃ ad c, v = .slice (some ad) xs.length c) ∧ OInts w' w.heap.size v xs ∧ xs.length ≤ Lb d ∧ Small xs ∧ RRd w' g q ∧ q ≤ p + 3 * (1 + Qb d) ∧ w.grownBy w' (some g)

set_option maxHeartbeats 800000 in
set_option maxRecDepth 100000 in
theorem drawAny_any (s : MSig) (vars : List Int) (hv : validB s = true) (hvl : vars.length ≤ 1000) (d : Nat) (hd : d ≤ 4) (g p : Nat) (sv vv : Value) (w : World) (h : RRd w g p) (hp : p + 3 * (1 + Qb d) ≤ 1000000000) (hs : OSig w (g + 1) sv s) (hvv : OInts w (g + 1) vv vars) :
    Calls Try.prog 90 #[.pointer (some ⟨g, 0, none⟩), sv, vv, .int .i64 (d : Int)] w (AnyPost g p d w) := by
  obtain ⟨u0, rfl, hoo⟩ := hs
  obtain ⟨sorts, ops⟩ := s
  simp only at hoo
  obtain ⟨A, c, rfl, -⟩ := hoo.reads.form
  obtain ⟨A2, c2, rfl, -⟩ := hvv.reads.form
  have hgl := h.lt
  have hvs := valid_sorts hv
  simp only at hvs
  obtain ⟨W, hW⟩ : ∃ W : World, W = w.alloc (.cells #[.int .i64 sorts, .slice A ops.length c] 25) := ⟨_, rfl⟩
  have hbW : Below w.heap.size w W := by rw [hW]; exact below_alloc _ _
  have HGW := Lib.hid (show w.grownBy W (some g) by rw [hW]; exact gr_alloc (gr_refl w g) _)
  have HBOX := Lib.hid (show W.heap[w.heap.size]? = some (.cells #[.int .i64 sorts, .slice A ops.length c] 25 (0, 0)) by rw [hW]; exact heap_alloc_new w _)
  have HRW := Lib.hid (h.keep hbW)
  have HZW := Lib.hid (show W.heap.size = w.heap.size + 1 by rw [hW]; simp)
  have HSW := Lib.hid (show OSig W (g + 1) (.agg #[.int .i64 sorts, .slice A ops.length c]) ⟨sorts, ops⟩ from (show OSig w (g + 1) (.agg #[.int .i64 sorts, .slice A ops.length c]) ⟨sorts, ops⟩ from ⟨_, rfl, hoo⟩).keep hbW)
  have HVW := Lib.hid (hvv.keep hbW)
  have hW' := hW.symm
  have HV := Lib.hid hv
  have hs0 : (1 : Int) ≤ sorts := hvs.1
  have hs3 : sorts ≤ 3 := hvs.2.1
  have hsb : (sorts == 0) = false := by rw [beq_eq_false_iff_ne]; omega
  have hsn : sorts ≠ 0 := by omega
  clear hbW h hoo hvv hv hW hvs
  go_enter Try.func90, Try.ntmps90
  go_wp2_with fail
  clear hW'
  go_loopw [9, 10] (fun k9 t10 wr => ∃ (k q : Nat), (k : Int) ≤ sorts ∧ k9 = .int .i64 k ∧ q ≤ p + k * (1 + Qb d) ∧ TermSt W wr g q) (fun k _ _ => 3 - (intOf k).toNat)
  case atStart => exact ⟨0, p, by omega, rfl, by omega, ⟨HRW.out, gr_refl W g⟩⟩
  case round =>
    obtain ⟨k, q, hk, rfl, hq, hst⟩ := hrel
    have HST := Lib.hid hst
    have hbx := box_after HBOX.out hst.gr (by omega)
    have g0 := block_cell hbx 0
    have g1 := block_cell hbx 1
    simp at g0 g1
    have hk3 : k ≤ 3 := by omega
    have HQ := Lib.hid hq
    clear hst hbx hq
    by_cases hlt : (k : Int) < sorts
    · have HQN := Lib.hid (show q + (1 + Qb d) ≤ p + (k + 1) * (1 + Qb d) ∧ q + (1 + Qb d) ≤ p + 3 * (1 + Qb d) by
        have h0 := HQ.out
        have h1 : (k + 1) * (1 + Qb d) = k * (1 + Qb d) + (1 + Qb d) := Nat.succ_mul _ _
        have h2 : (k + 1) * (1 + Qb d) ≤ 3 * (1 + Qb d) := Nat.mul_le_mul_right _ (by omega)
        omega)
      have hqb : q ≤ 999999999 := by have := HQN.out.2; omega
      have HS5 := Lib.hid (HSW.out.past HST.out.gr (by omega))
      have HV5 := Lib.hid (HVW.out.past HST.out.gr (by omega))
      go_wp2_with fail
      have ea := World.new_ne wr _ g0
      go_region_held3 (fun w' => w'.cell? ⟨w.heap.size, 0, none⟩ = some (.int .i64 sorts) ∧ w'.cell? ⟨w.heap.size, 1, none⟩ = some (.slice A ops.length c)) (first | go_keep | exact ⟨j0, j1⟩ | exact ⟨i0, i1⟩)
        (first
          | (go_at_call 88; refine (pick_any g q 3 wr.drew HST.out.rd (by omega)).mono ?_; rintro e w3 ⟨x, rfl, hx, hr, hg⟩; have HST3 := Lib.hid (HST.out.later hr (gr_drew hg)); have HG3 := Lib.hid (gr_drew hg); have j0 := block_cell (box_after HBOX.out HST3.out.gr (by omega)) 0; have j1 := block_cell (box_after HBOX.out HST3.out.gr (by omega)) 1; clear hr hg)
          | (go_at_call 102; refine (dterm_any ⟨sorts, ops⟩ vars HV.out hvl d hd g (q + 1) _ _ _ w3 HST3.out.rd (by have := HQN.out.2; omega) (HS5.out.past HG3.out (by omega)) (HV5.out.past HG3.out (by omega))).mono ?_; rintro e w6 ⟨pv, ys, q6, rfl, -, hoy, hly, hsy, hr6, hq6, hg6⟩; have HG6 := Lib.hid hg6; have HOY := Lib.hid hoy; obtain ⟨Ay, cy, rfl, -⟩ := own_reads hoy; have HSY := Lib.hid hsy; have HST6 := Lib.hid (HST3.out.later hr6 hg6); have HLY := Lib.hid (And.intro hly hq6); have i0 := block_cell (box_after HBOX.out HST6.out.gr (by omega)) 0; have i1 := block_cell (box_after HBOX.out HST6.out.gr (by omega)) 1; clear hoy hsy hr6 hg6 hly hq6))
      clear j0 j1 i0 i1 g0 g1 ea
      by_cases hy0 : 0 < (ys.length : Int)
      · go_wp2
        go_ret
        refine ⟨_, ys, q6, rfl, own_some HOY.out (by omega), HOY.out.base (by have := HST3.out.gr.size; have := HZW.out; omega), HLY.out.1, HSY.out, HST6.out.rd, ?_, gr_more HGW.out HST6.out.gr⟩
        have := HLY.out.2
        have := HQN.out.2
        omega
      · go_wp2
        go_roundw
        case rel =>
          refine ⟨k + 1, q6, by omega, by go_num, ?_, HST6.out⟩
          have := HLY.out.2
          have := HQN.out.1
          omega
        case measure => simp [intOf]; omega
    · have hk' : ¬ (k : Int) < sorts := hlt
      go_wp2
      go_ret
      refine ⟨_, [], q, rfl, ⟨_, _, rfl⟩, lit0 wr (by have := HST.out.gr.size; have := HZW.out; omega), by simp, fun x hx => by simp at hx, (HST.out.below (below_alloc wr (.cells #[] 3))).rd, ?_, gr_more HGW.out (HST.out.below (below_alloc wr (.cells #[] 3))).gr⟩
      have h0 := HQ.out
      have h2 : k * (1 + Qb d) ≤ 3 * (1 + Qb d) := Nat.mul_le_mul_right _ (by omega)
      omega

def TermOfPost (g p : Nat) (w : World) (e : Ending) (w' : World) : Prop :=
  ∃ (sv : Value) (s : MSig) (vv : Value) (vars : List Int) (tv : Value) (t : List Int) (q : Nat), e = .returned (.tuple #[sv, vv, tv]) ∧ OSig w' w.heap.size sv s ∧ OInts w' w.heap.size vv vars ∧ OInts w' w.heap.size tv t ∧ (∃ ad c, tv = .slice (some ad) t.length c) ∧ s.ops.length ≤ 5 ∧ vars.length ≤ 5 ∧ t.length ≤ 40 ∧ Small t ∧ RRd w' g q ∧ q ≤ p + 1600000 ∧ w.grownBy w' (some g)

/-- behind l20Vars: w6 the world there; the term under way lies behind it -/
structure OfSt (w w6 wx : World) (g b5 : Nat) (sorts : Int) (u : Value) (rows : List (List Int)) (tv : Value) (t : List Int) (q : Nat) : Prop where
  loc : LocAt w wx g b5 sorts u rows q
  gr : w6.grownBy wx (some g)
  own : OInts wx w6.heap.size tv t
  some_ : ∃ ad c, tv = .slice (some ad) t.length c
  small : Small t
  short : t.length ≤ 20
theorem OfSt.later {w w6 wx w' : World} {g b5 q q' : Nat} {sorts : Int} {u tv : Value} {rows : List (List Int)} {t : List Int} (h : OfSt w w6 wx g b5 sorts u rows tv t q) (hg : wx.grownBy w' (some g)) (hr : RRd w' g q') (h6 : g < w6.heap.size) : OfSt w w6 w' g b5 sorts u rows tv t q' :=
  ⟨h.loc.later hg hr, gr_more h.gr hg, h.own.past hg h6, h.some_, h.small, h.short⟩
theorem OfSt.below {w w6 wx w' : World} {g b5 q : Nat} {sorts : Int} {u tv : Value} {rows : List (List Int)} {t : List Int} (h : OfSt w w6 wx g b5 sorts u rows tv t q) (hb : Below wx.heap.size wx w') (h6 : g < w6.heap.size) : OfSt w w6 w' g b5 sorts u rows tv t q :=
  h.later (gr_below (gr_refl wx g) hb) (h.loc.rd.keep hb) h6
/-- the results, when the local signature is written into its cells -/
theorem of_done {w w6 wx : World} {g b5 q : Nat} {sorts : Int} {u vv tv : Value} {rows : List (List Int)} {t vars : List Int} (h : OfSt w w6 wx g b5 sorts u rows tv t q) (hv : OInts w6 (w.heap.size + 1) vv vars) (hw6 : w.heap.size + 1 ≤ w6.heap.size) :
    let w3 := (wx.setCell ⟨w.heap.size, 0, none⟩ (.int .i64 sorts)).setCell ⟨w.heap.size, 1, none⟩ u
    w3.heap[w.heap.size]? = some (.cells #[.int .i64 sorts, u] 25 (0, 0)) ∧ OSig w3 w.heap.size (.agg #[.int .i64 sorts, u]) ⟨sorts, rows⟩ ∧ OInts w3 w.heap.size vv vars ∧ OInts w3 w.heap.size tv t ∧ RRd w3 g q ∧ w.grownBy w3 (some g) := by
  intro w3
  have hgl := h.loc.gl
  obtain ⟨d1, d2, d3, d4⟩ := loc_done h.loc
  have low : ∀ {v : Value} {xs : List Int}, OInts wx (w.heap.size + 1) v xs → OInts w3 w.heap.size v xs := fun {v xs} ho =>
    OInts.base (ownsRow_setCell_below (ownsRow_setCell_below ho (by show w.heap.size < w.heap.size + 1; omega) _) (by show w.heap.size < w.heap.size + 1; omega) _) (by omega)
  exact ⟨d1, ⟨_, rfl, d2.base (by omega)⟩, low (hv.past h.gr (by omega)), low (h.own.base hw6), d3, d4⟩
theorem OfSt.append {w w6 wb w8 : World} {g b5 q q6 n c m : Nat} {sorts : Int} {u v8 : Value} {A : Option Addr} {rows : List (List Int)} {t rs : List Int} (h : OfSt w w6 wb g b5 sorts u rows (.slice A n c) t q) (h6 : LocAt w w6 g b5 sorts u rows q6) (hg6 : g < w6.heap.size) {o : Obj}
    (hown : w8.ownsRow w6.heap.size 3 1 v8 (t.length + m) (t.map (Value.int .i64) ++ rs.map (Value.int .i64))) (hm : rs.length = m) (h1 : 1 ≤ m) (hg : (wb.alloc o).drew.grownBy w8 (Value.slice A n c).ownBlock) (hs : Small rs) (hl : t.length + m ≤ 20) : OfSt w w6 w8 g b5 sorts u rows v8 (t ++ rs) q := by
  have hb : ∀ k, (Value.slice A n c).ownBlock = some k → w6.heap.size ≤ k := fun k e => (own_lt h.own k e).1
  have hg68 : w6.grownBy w8 (some g) := gr_trans (gr_alloc h.gr o) (gr_drew hg) (fun k e => .inr (hb k e))
  have hr : RRd w8 g q := (h.loc.rd.keep (below_alloc wb o)).grown (gr_drew hg) (fun k e => by have := hb k e; omega)
  have ho : OInts w8 w6.heap.size v8 (t ++ rs) := app_own hm hown
  have hlen : (t ++ rs).length = t.length + m := by rw [List.length_append, hm]
  obtain ⟨A', c', e, -⟩ := own_reads ho
  refine ⟨h6.later hg68 hr, hg68, ho, ?_, fun x hx => ?_, by omega⟩
  · rw [e]
    exact own_some (e ▸ ho) (by omega)
  · rcases List.mem_append.1 hx with hx | hx
    · exact h.small x hx
    · exact hs x hx
theorem OfSt.onto {w w6 wb w8 : World} {g b5 q : Nat} {sorts x : Int} {u v8 tv : Value} {rows : List (List Int)} {t : List Int} (h : OfSt w w6 wb g b5 sorts u rows tv t q) (hg6 : g < w6.heap.size)
    (hown : w8.ownsRow w6.heap.size 3 1 v8 (1 + t.length) ([.int .i64 x] ++ t.map (Value.int .i64))) (hg : (wb.alloc (.cells #[.int .i64 x] 3)).drew.grownBy w8 (Value.slice (some ⟨wb.heap.size, 0, none⟩) 1 1).ownBlock) (hs : x ≤ 9223372036854775807) (hl : t.length ≤ 19) : OfSt w w6 w8 g b5 sorts u rows v8 ([x] ++ t) q := by
  have hz := h.gr.size
  have hgb : wb.grownBy w8 (some g) := gr_trans (gr_alloc (gr_refl wb g) _) (gr_drew hg) (fun k e => by injection e with e; exact .inr (Nat.le_of_eq e))
  have hr : RRd w8 g q := (h.loc.rd.keep (below_alloc wb _)).grown (gr_drew hg) (fun k e => by injection e with e; have e2 : wb.heap.size = k := e; omega)
  have ho : OInts w8 w6.heap.size v8 ([x] ++ t) := app_own (ps := [x]) rfl hown
  obtain ⟨A', c', e, -⟩ := own_reads ho
  refine ⟨h.loc.later hgb hr, gr_more h.gr hgb, ho, ?_, fun y hy => ?_, by simp; omega⟩
  · rw [e]
    exact own_some (e ▸ ho) (by simp)
  · rcases List.mem_append.1 hy with hy | hy
    · simp at hy; subst hy; exact hs
    · exact h.small y hy
theorem qb3 : Qb 3 = 519300 := by decide
theorem lb3 : Lb 3 = 15 := by decide
end

section
open Go.RowKit
set_option linter.unusedVariables false
set_option linter.unusedSimpArgs false

theorem gr_undrewv {w w' : World} {r : Option Nat} (h : w.drew.grownBy w' r) : w.grownBy w' r := ⟨h.os, h.tape, h.output, h.size, h.block⟩
theorem qb2v : Qb 2 = 21636 := by decide
/-- what l20Valued answers (nothing is told of the term); wn: a world in which all but the values lies already -/
def ValdPost (g p : Nat) (w : World) (x : Ending) (w' : World) : Prop :=
  ∃ (sv mv vv tv lv : Value) (s : MSig) (m : MModel) (vars vals : List Int) (q : Nat) (wn : World), x = .returned (.tuple #[sv, mv, vv, tv, lv]) ∧ w.heap.size + 2 ≤ wn.heap.size ∧ OSig wn (w.heap.size + 2) sv s ∧ OModel wn (w.heap.size + 2) mv m ∧ FewMo s m ∧ OInts wn (w.heap.size + 2) vv vars ∧ vars.length ≤ 5 ∧ (∀ k, w.heap.size + 2 ≤ k → k < wn.heap.size → w'.heap[k]? = wn.heap[k]?) ∧ OInts w' wn.heap.size lv vals ∧ vals.length ≤ 6 ∧ RRd w' g q ∧ q ≤ p + 100000 ∧ w.grownBy w' (some g)

set_option maxHeartbeats 3200000 in
set_option maxRecDepth 100000 in
theorem valued_any (g p : Nat) (w : World) (h : RRd w g p) (hp : p ≤ 100000) :
    Calls Try.prog 53 #[.pointer (some ⟨g, 0, none⟩)] w (ValdPost g p w) := by
  have hgl := h.lt
  obtain ⟨i0, hi0, hz0, hz1, hz2⟩ := info_parts Try.info_int
  obtain ⟨W, hW⟩ : ∃ W : World, W = (w.alloc (.cells #[.int .i64 0, .slice none 0 0] 25)).alloc (.cells #[.slice none 0 0, .slice none 0 0] 28) := ⟨_, rfl⟩
  have hb0 : Below w.heap.size w W := by rw [hW]; exact (below_alloc _ _).alloc (by simp) _
  have HB0 := Lib.hid hb0
  have HZ0 := Lib.hid (show W.heap.size = w.heap.size + 2 by rw [hW]; simp)
  have HZR0 := Lib.hid (show W.heap[w.heap.size]? = some (.cells #[.int .i64 0, .slice none 0 0] 25 (0, 0)) by rw [hW]; exact (heap_alloc_old (w.alloc (.cells #[.int .i64 0, .slice none 0 0] 25)) _ (by simp)).trans (heap_alloc_new (w) _))
  have HZR1 := Lib.hid (show W.heap[w.heap.size + 1]? = some (.cells #[.slice none 0 0, .slice none 0 0] 28 (0, 0)) by rw [hW]; exact (congrArg (fun i => ((w.alloc (.cells #[.int .i64 0, .slice none 0 0] 25)).alloc (.cells #[.slice none 0 0, .slice none 0 0] 28)).heap[i]?) (by simp)).trans (heap_alloc_new (w.alloc (.cells #[.int .i64 0, .slice none 0 0] 25)) _))
  have HR0 := Lib.hid (h.keep hb0)
  have hW' := hW.symm
  clear hb0 hW h
  go_enter Try.func53, Try.ntmps53
  go_wp2_with fail
  clear hW'
  refine (model_any g p 16 _ HR0.out (by omega) (by omega) (by omega)).mono ?_
  rintro x w2 ⟨sv, mv, ⟨sorts, rows⟩, m, q, rfl, ⟨u, rfl, ho⟩, hs1, hm, hl1, hl2, hl3, hl4, hr2, hq2, hg2⟩
  obtain ⟨x, y, rfl, o1, C, hC, hub, o2⟩ := hm
  obtain ⟨us, hu1, -⟩ := id ho
  obtain ⟨Au, cu, rfl, -⟩ := own_reads hu1
  obtain ⟨A0, c0, rfl, -⟩ := own_reads o1
  obtain ⟨us2, hu2, -⟩ := id o2
  obtain ⟨A1, c1, rfl, -⟩ := own_reads hu2
  have HF := Lib.hid (show FewMo ⟨sorts, rows⟩ m from ⟨hs1, hl1, hl2, hl3, hl4⟩)
  have hzW := HZ0.out
  have hzz2 : W.heap.size ≤ w2.heap.size := hg2.size
  have hba : Below w2.heap.size w2 ((w2.alloc (.cells #[.int .i64 sorts, .slice Au rows.length cu] 25)).alloc (.cells #[.slice A0 m.sizes.length c0, .slice A1 m.tables.length c1] 28)) := (below_alloc _ _).alloc (by simp) _
  have HG3 := Lib.hid (gr_alloc (gr_alloc hg2 (.cells #[.int .i64 sorts, .slice Au rows.length cu] 25)) (.cells #[.slice A0 m.sizes.length c0, .slice A1 m.tables.length c1] 28))
  have HBA3 := Lib.hid ((heap_alloc_old (w2.alloc (.cells #[.int .i64 sorts, .slice Au rows.length cu] 25)) (.cells #[.slice A0 m.sizes.length c0, .slice A1 m.tables.length c1] 28) (by simp)).trans (heap_alloc_new w2 (.cells #[.int .i64 sorts, .slice Au rows.length cu] 25)))
  have HBB3 := Lib.hid ((congrArg (fun i => ((w2.alloc (.cells #[.int .i64 sorts, .slice Au rows.length cu] 25)).alloc (.cells #[.slice A0 m.sizes.length c0, .slice A1 m.tables.length c1] 28)).heap[i]?) (show w2.heap.size + 1 = (w2.alloc (.cells #[.int .i64 sorts, .slice Au rows.length cu] 25)).heap.size by simp)).trans (heap_alloc_new (w2.alloc (.cells #[.int .i64 sorts, .slice Au rows.length cu] 25)) (.cells #[.slice A0 m.sizes.length c0, .slice A1 m.tables.length c1] 28)))
  have HO3 := Lib.hid ((ho.keep hba).base (B' := w.heap.size + 2) (by omega))
  have HM3 := Lib.hid (OModel.base (B' := w.heap.size + 2) (show OModel _ W.heap.size (.agg #[.slice A0 m.sizes.length c0, .slice A1 m.tables.length c1]) m from ⟨_, _, rfl, o1.keep hba, C, hC, hub, o2.keep hba⟩) (by omega))
  have HR3 := Lib.hid (hr2.keep hba)
  clear ho o1 o2 hu1 hu2 hub hr2 hg2 hba hs1 hl1 hl2 hl3 hl4
  generalize hW3 : (w2.alloc (.cells #[.int .i64 sorts, .slice Au rows.length cu] 25)).alloc (.cells #[.slice A0 m.sizes.length c0, .slice A1 m.tables.length c1] 28) = w3 at HG3 HBA3 HBB3 HO3 HM3 HR3
  have hz3 : w2.heap.size + 1 < w3.heap.size := (Array.getElem?_eq_some_iff.1 HBB3.out).1
  have p0 := block_cell HBA3.out 0
  have p1 := block_cell HBA3.out 1
  have p2 := block_cell HBB3.out 0
  have p3 := block_cell HBB3.out 1
  simp at p0 p1 p2 p3
  have HS := Lib.hid (show RSig w3 (.agg #[.int .i64 sorts, .slice Au rows.length cu]) ⟨sorts, rows⟩ from ⟨_, rfl, HO3.out.reads⟩)
  have HGW3 := Lib.hid (gr_trans (gr_below (gr_refl w g) HB0.out) HG3.out (fun x e => by injection e with e; exact .inl e.symm))
  go_wp2_with fail
  clear hW3
  refine (drawVars_any g q 16 ⟨sorts, rows⟩ _ w3 HR3.out (by omega) (by omega) (by omega) HS.out).mono ?_
  rintro x w4 ⟨vv, vars, q4, rfl, ov, hvl, hr4, hq4, hg4⟩
  obtain ⟨Av, cv, rfl, -⟩ := own_reads ov
  have hz4 := hg4.size
  have HGW4 := Lib.hid (gr_trans HGW3.out hg4 (fun x e => by injection e with e; exact .inl e.symm))
  have HBA := Lib.hid (gr_at hg4 (by omega) HBA3.out)
  have HBB := Lib.hid (gr_at hg4 (by omega) HBB3.out)
  have HO4 := Lib.hid (HO3.out.grown hg4 (fun k e => by injection e with e; omega))
  have HM4 := Lib.hid (OModel.past HM3.out hg4 (by omega))
  have HV4 := Lib.hid (ov.base (B' := w.heap.size + 2) (by omega))
  have hra4 := gr_at (gr_trans HG3.out hg4 (fun x e => by injection e with e; exact .inl e.symm)) (by omega) HZR0.out
  have hrb4 := gr_at (gr_trans HG3.out hg4 (fun x e => by injection e with e; exact .inl e.symm)) (by omega) HZR1.out
  have HRA4 := Lib.hid hra4
  have HRB4 := Lib.hid hrb4
  have hb5 : Below w4.heap.size w4 ((w4.alloc (.cells #[] 3)).alloc (.cells #[] 3)) := (below_alloc _ _).alloc (by simp) _
  have HG5 := Lib.hid (gr_below (gr_refl w4 g) hb5)
  have HZ5 := Lib.hid (show ((w4.alloc (.cells #[] 3)).alloc (.cells #[] 3)).heap.size = w4.heap.size + 2 by simp)
  have HL5 := Lib.hid (show OInts ((w4.alloc (.cells #[] 3)).alloc (.cells #[] 3)) (w4.heap.size + 1) (.slice (some ⟨w4.heap.size + 1, 0, none⟩) ([] : List Int).length 0) [] by simpa using own_empty (w4.alloc (.cells #[] 3)))
  have HR5 := Lib.hid (hr4.keep hb5)
  clear ov hr4 hg4 hb5 p0 p1 p2 p3 hra4 hrb4
  generalize hW5 : (w4.alloc (.cells #[] 3)).alloc (.cells #[] 3) = w5 at HG5 HZ5 HL5 HR5
  go_upto_region 5 with fail
  clear hW5
  have p0 := block_cell (gr_at HG5.out (by omega) HBA.out) 0
  have p1 := block_cell (gr_at HG5.out (by omega) HBA.out) 1
  have p2 := block_cell (gr_at HG5.out (by omega) HBB.out) 0
  have p3 := block_cell (gr_at HG5.out (by omega) HBB.out) 1
  simp at p0 p1 p2 p3
  have HSG5 := Lib.hid (show RSig w5 (.agg #[.int .i64 sorts, .slice Au rows.length cu]) ⟨sorts, rows⟩ from ⟨_, rfl, (HO4.out.grown HG5.out (fun k e => by injection e with e; omega)).reads⟩)
  have HMD5 := Lib.hid (OModel.past HM4.out HG5.out (by omega)).reads
  have HVR5 := Lib.hid (show OInts w5 (w.heap.size + 2) (.slice Av vars.length cv) vars from own_past HV4.out HG5.out (by omega))
  go_cut [30] (fun s30 wx => ∃ (b : Bool), s30 = .bool b ∧ (b = true → modelB ⟨sorts, rows⟩ m = true ∧ varsB ⟨sorts, rows⟩ vars = true) ∧ Below w5.heap.size w5 wx)
  case first =>
    go_wp2_with fail
    refine (specModelOk_any ⟨sorts, rows⟩ m w5 _ _ HSG5.out HMD5.out).mono ?_
    rintro x w6 ⟨rfl, hb6⟩
    have HB6 := Lib.hid hb6
    replace p0 := cell_keep hb6 p0
    replace p1 := cell_keep hb6 p1
    replace p2 := cell_keep hb6 p2
    replace p3 := cell_keep hb6 p3
    clear hb6
    cases hmb : modelB ⟨sorts, rows⟩ m with
    | false =>
      go_wp2
      go_meet
      case rel => exact ⟨false, rfl, by simp, HB6.out⟩
    | true =>
      go_wp2_with fail
      refine (specVarsOk_any _ _ ⟨sorts, rows⟩ vars w6 (HSG5.out.keep HB6.out) (HVR5.out.reads.keep HB6.out)).mono ?_
      rintro x w7 ⟨rfl, hb7⟩
      have HB7 := Lib.hid (sz_keep HB6.out hb7)
      clear hb7 p0 p1 p2 p3
      cases hvb : varsB ⟨sorts, rows⟩ vars with
      | false =>
        go_wp2
        go_meet
        case rel => exact ⟨false, rfl, by simp, HB7.out⟩
      | true =>
        go_wp2
        go_meet
        case rel => exact ⟨true, rfl, fun _ => ⟨hmb, hvb⟩, HB7.out⟩
  case rest =>
    obtain ⟨b, rfl, hbt, hb6⟩ := hcut
    obtain ⟨w6, hw6⟩ : ∃ x : World, x = wc := ⟨_, rfl⟩
    subst hw6
    have HBT := Lib.hid hbt
    have HG6 := Lib.hid (gr_below HG5.out hb6)
    have HR6 := Lib.hid (HR5.out.keep hb6)
    have HL6 := Lib.hid (HL5.out.keep hb6)
    clear hbt hb6 p0 p1 p2 p3
    go_upto_if 30 with fail
    go_cut [10, 11] (fun s10 s11 wx => ∃ (Al : Option Addr) (cl : Nat) (vals : List Int) (q' : Nat), s11 = .slice Al vals.length cl ∧ OInts wx (w4.heap.size + 1) (.slice Al vals.length cl) vals ∧ vals.length ≤ 5 ∧ w4.grownBy wx (some g) ∧ RRd wx g q' ∧ q' ≤ p + 90000)
    case first =>
      cases b with
      | false =>
        go_wp2
        go_meet
        case rel => exact ⟨_, _, [], q4, rfl, HL6.out, by simp, HG6.out, HR6.out, by omega⟩
      | true =>
        obtain ⟨hmb, hvb⟩ := HBT.out rfl
        have hf := model_facts hmb
        have HVA := Lib.hid hf.va
        have hvv := vars_valid hvb
        have HVI := Lib.hid (show ∀ (k : Nat) (h : k < vars.length), 0 ≤ vars[k] ∧ vars[k] < (m.sizes.length : Int) from fun k hk => by have := hvv.2.2 k hk; have := hf.sl; omega)
        have hv4 : vars.length ≤ 4 := hvv.2.1
        clear hmb hvb hf hvv
        have p0 := block_cell (gr_at HG6.out (by omega) HBA.out) 0
        have p1 := block_cell (gr_at HG6.out (by omega) HBA.out) 1
        have p2 := block_cell (gr_at HG6.out (by omega) HBB.out) 0
        have p3 := block_cell (gr_at HG6.out (by omega) HBB.out) 1
        simp at p0 p1 p2 p3
        go_wp2_with fail
        refine (drawAny_any ⟨sorts, rows⟩ vars HVA.out (by omega) 2 (by omega) g q4 _ _ w6 HR6.out (by rw [qb2v]; omega) ⟨_, rfl, (HO4.out.grown HG6.out (fun k e => by injection e with e; omega)).base (by omega)⟩ (OInts.base (show OInts w6 (w.heap.size + 2) (.slice Av vars.length cv) vars from own_past HV4.out HG6.out (by omega)) (by omega))).mono ?_
        rintro x w7 ⟨tv, t, q7, rfl, -, -, -, -, hr7, hq7, hg7⟩
        rw [qb2v] at hq7
        have HG7 := Lib.hid (gr_trans HG6.out hg7 (fun x e => by injection e with e; exact .inl e.symm))
        have HR7 := Lib.hid hr7
        have HL7 := Lib.hid (show OInts w7 (w4.heap.size + 1) (.slice (some ⟨w4.heap.size + 1, 0, none⟩) ([] : List Int).length 0) [] from own_past HL6.out hg7 (by omega))
        clear hr7 hg7 p0 p1 p2 p3
        go_wp2
        go_loopw [11, 12] (fun s11 i wr => ∃ (k : Nat) (Al : Option Addr) (cl : Nat) (vals : List Int) (q : Nat), k ≤ vars.length ∧ i = .int .i64 k ∧ s11 = .slice Al vals.length cl ∧ OInts wr (w4.heap.size + 1) (.slice Al vals.length cl) vals ∧ vals.length = k ∧ w4.grownBy wr (some g) ∧ RRd wr g q ∧ q ≤ q7 + k) (fun _ i _ => vars.length - (intOf i).toNat)
        case atStart => exact ⟨0, _, _, [], q7, Nat.zero_le _, rfl, rfl, HL7.out, rfl, HG7.out, HR7.out, Nat.le_refl _⟩
        case round =>
          obtain ⟨k, Al, cl, vals, q, hk, rfl, rfl, hlv, hll, hgk, hrk, hqk⟩ := hrel
          obtain ⟨wk, hwk⟩ : ∃ x : World, x = wr := ⟨_, rfl⟩
          subst hwk
          have HLV := Lib.hid hlv
          have HVL := Lib.hid hll
          have HGK := Lib.hid hgk
          have HRK := Lib.hid hrk
          have HQ := Lib.hid hqk
          by_cases hlt : k < vars.length
          · have hlt' : (k : Int) < (vars.length : Int) := by omega
            have HPP := Lib.hid (show vals.length + 1 ≤ maxLen ∧ (vals.length + 1) * 8 ≤ 140737488355328 by rw [maxLen_eq]; omega)
            have hq9 : q ≤ 1000000000 := by omega
            obtain ⟨bv, ovv, cvv, e, hx⟩ := (show OInts wk (w.heap.size + 2) (.slice Av vars.length cv) vars from own_past HV4.out hgk (by omega)).reads.at_ hlt
            cases e
            obtain ⟨hi1, hi2⟩ := HVI.out k hlt
            generalize vars[k] = so at hx hi1 hi2
            obtain ⟨sn, rfl⟩ : ∃ n : Nat, so = (n : Int) := ⟨so.toNat, by omega⟩
            have hsn : sn < m.sizes.length := by omega
            obtain ⟨bz, oz, cz, e, hzc⟩ := (OModel.past HM4.out hgk (by omega)).reads.of.1.at_ hsn
            cases e
            generalize m.sizes[sn] = z at hzc
            have e2 := block_cell (gr_at hgk (by omega) HBB.out) 0
            simp at e2
            replace hx : wk.drew.cell? _ = _ := hx
            replace hzc : wk.drew.cell? _ = _ := hzc
            replace e2 : wk.drew.cell? _ = _ := e2
            clear hlv hll hgk hrk hqk
            go_wp2_with fail
            refine wp_region_held_drew (S := (fun _ => True)) (by kernel_rfl) ?_ (fun hHeld => ?_)
            · exact trivial
            refine wpAnyH_take (i := 0) (oi := _) (v := ?_) rfl (by kernel_rfl) (by kernel_rfl) (by kernel_rfl) (fun _ _ _ h => h) (Or.inl ⟨by rfl, ?_⟩) (by assumption) ?_
            rotate_left
            · first | (intro w' hSw; (try dsimp only at hSw); go_simp; done) | (intro w' hSw; (try dsimp only at hSw); go_simp; with_reducible rfl)
            try simp only [Act.put, List.getElem_toArray, List.getElem_cons_zero, List.getElem_cons_succ, List.setIfInBounds_toArray, List.set_cons_zero, List.set_cons_succ]
            refine wpAnyH_take (i := 1) (oi := _) (v := ?_) rfl (by kernel_rfl) (by kernel_rfl) (by kernel_rfl) (fun _ _ _ h => h) (Or.inl ⟨by rfl, ?_⟩) (by assumption) ?_
            rotate_left
            · first | (intro w' hSw; (try dsimp only at hSw); go_simp; done) | (intro w' hSw; (try dsimp only at hSw); go_simp; with_reducible rfl)
            try simp only [Act.put, List.getElem_toArray, List.getElem_cons_zero, List.getElem_cons_succ, List.setIfInBounds_toArray, List.set_cons_zero, List.set_cons_succ]
            refine wpAnyH_take (i := 2) (oi := _) (v := ?_) rfl (by kernel_rfl) (by kernel_rfl) (by kernel_rfl) (fun _ _ _ h => h) (Or.inl ⟨by rfl, ?_⟩) (by assumption) ?_
            rotate_left
            · first | (intro w' hSw; (try dsimp only at hSw); go_simp; done) | (intro w' hSw; (try dsimp only at hSw); go_simp; with_reducible rfl)
            try simp only [Act.put, List.getElem_toArray, List.getElem_cons_zero, List.getElem_cons_succ, List.setIfInBounds_toArray, List.set_cons_zero, List.set_cons_succ]
            refine wpAnyH_take (i := 4) (oi := _) (v := ?_) rfl (by kernel_rfl) (by kernel_rfl) (by kernel_rfl) (fun _ _ _ h => h) (Or.inl ⟨by rfl, ?_⟩) (by assumption) ?_
            rotate_left
            · first | (intro w' hSw; (try dsimp only at hSw); go_simp; done) | (intro w' hSw; (try dsimp only at hSw); go_simp; with_reducible rfl)
            try simp only [Act.put, List.getElem_toArray, List.getElem_cons_zero, List.getElem_cons_succ, List.setIfInBounds_toArray, List.set_cons_zero, List.set_cons_succ]
            refine wpAnyH_take (i := 5) (oi := _) (v := ?_) rfl (by kernel_rfl) (by kernel_rfl) (by kernel_rfl) (fun _ _ _ h => h) (Or.inl ⟨by rfl, ?_⟩) (by assumption) ?_
            rotate_left
            · first | (intro w' hSw; (try dsimp only at hSw); go_simp; done) | (intro w' hSw; (try dsimp only at hSw); go_simp; with_reducible rfl)
            try simp only [Act.put, List.getElem_toArray, List.getElem_cons_zero, List.getElem_cons_succ, List.setIfInBounds_toArray, List.set_cons_zero, List.set_cons_succ]
            refine wpAnyH_take (i := 6) (oi := _) (v := ?_) rfl (by kernel_rfl) (by kernel_rfl) (by kernel_rfl) (fun _ _ _ h => h) (Or.inl ⟨by rfl, ?_⟩) (by assumption) ?_
            rotate_left
            · first | (intro w' hSw; (try dsimp only at hSw); go_simp; done) | (intro w' hSw; (try dsimp only at hSw); go_simp; with_reducible rfl)
            try simp only [Act.put, List.getElem_toArray, List.getElem_cons_zero, List.getElem_cons_succ, List.setIfInBounds_toArray, List.set_cons_zero, List.set_cons_succ]
            refine wpAnyH_ready (rs := [3, 7]) (by kernel_rfl) (by simp) ?_
            refine AllReadyH.cons (o := _) rfl (fun K hK => ?_) ?_
            · go_simp
              refine hK.out _ _ trivial (fun hHeld => ?_)
              clear hK K
              try simp only [Act.put, List.getElem_toArray, List.getElem_cons_zero, List.getElem_cons_succ, List.setIfInBounds_toArray, List.set_cons_zero, List.set_cons_succ]
              refine wpAnyH_ready (rs := [7]) (by kernel_rfl) (by simp) ?_
              refine AllReadyH.cons (o := _) rfl (fun K hK => ?_) ?_
              · go_simp
                refine hK.out _ _ trivial (fun hHeld => ?_)
                clear hK K
                try simp only [Act.put, List.getElem_toArray, List.getElem_cons_zero, List.getElem_cons_succ, List.setIfInBounds_toArray, List.set_cons_zero, List.set_cons_succ]
                refine wpAnyH_ready (rs := [8]) (by kernel_rfl) (by simp) ?_
                refine AllReadyH.cons (o := _) rfl (fun K hK => ?_) ?_
                · go_simp
                  refine hK.out _ _ trivial (fun hHeld => ?_)
                  clear hK K
                  try simp only [Act.put, List.getElem_toArray, List.getElem_cons_zero, List.getElem_cons_succ, List.setIfInBounds_toArray, List.set_cons_zero, List.set_cons_succ]
                  refine wpAnyH_ready (rs := [9]) (by kernel_rfl) (by simp) ?_
                  refine AllReadyH.cons (o := _) rfl (fun K hK => ?_) ?_
                  · go_simp
                    refine hK.out _ _ trivial (fun hHeld => ?_)
                    clear hK K
                    try simp only [Act.put, List.getElem_toArray, List.getElem_cons_zero, List.getElem_cons_succ, List.setIfInBounds_toArray, List.set_cons_zero, List.set_cons_succ]
                    refine wpAnyH_ready (rs := [10]) (by kernel_rfl) (by simp) ?_
                    refine AllReadyH.cons (o := _) rfl (fun K hK => ?_) ?_
                    · go_simp
                      refine (pick_any g q _ wk.drew (show RRd wk.drew g q from HRK.out) (by omega)).mono ?_
                      rintro e wp ⟨y, rfl, hy, hr, hgp⟩
                      have hgp := gr_undrewv hgp
                      have HRP := Lib.hid hr
                      have HGP := Lib.hid hgp
                      have HLP := Lib.hid (show OInts wp (w4.heap.size + 1) (.slice Al vals.length cl) vals from own_past HLV.out hgp (by omega))
                      clear hr hgp hy
                      go_wp2_with fail
                      refine hK.out _ _ trivial (fun hHeld => ?_)
                      clear hK K
                      try simp only [Act.put, List.getElem_toArray, List.getElem_cons_zero, List.getElem_cons_succ, List.setIfInBounds_toArray, List.set_cons_zero, List.set_cons_succ]
                      refine wpAnyH_ready (rs := [11]) (by kernel_rfl) (by simp) ?_
                      refine AllReadyH.cons (o := _) rfl (fun K hK => ?_) ?_
                      · go_simp
                        have HLQ := Lib.hid (HLP.out.keep (below_alloc wp (.cells #[.int .i64 y] 3)))
                        have HN1 := Lib.hid (led_new wp y)
                        refine hK.out _ _ trivial (fun hHeld => ?_)
                        clear hK K
                        try simp only [Act.put, List.getElem_toArray, List.getElem_cons_zero, List.getElem_cons_succ, List.setIfInBounds_toArray, List.set_cons_zero, List.set_cons_succ]
                        refine wpAnyH_ready (rs := [12]) (by kernel_rfl) (by simp) ?_
                        refine AllReadyH.cons (o := _) rfl (fun K hK => ?_) ?_
                        · refine step_append_own rfl (.tmp 41) (.tmp 52) 26 rfl (w4.heap.size + 1) 3 i0 (.int .i64 0) 1 8 Try.underlying26 hi0 hz0 hz1 hz2 rfl (by omega) _ vals.length (vals.map (Value.int .i64)) rfl HLQ.out ⟨wp.heap.size, 0, none⟩ 1 1 ([y].map (Value.int .i64)) rfl (by simp) HN1.out (ints_one _) HPP.out.1 HPP.out.2 (by have := HGK.out.size; have := HGP.out.size; have := HZ5.out; simp; omega) ?_
                          intro v6 w6 hv6 hg6
                          have HO6 := Lib.hid (led_app (rs := [y]) rfl hv6)
                          obtain ⟨A6, c6, rfl, -⟩ := own_reads hv6
                          have HG6 := Lib.hid (gr_trans (gr_trans HGK.out (gr_alloc HGP.out (.cells #[.int .i64 y] 3)) (fun k e => by injection e with e; exact .inl e.symm)) hg6 (fun k e => .inr (by have := (own_lt HLV.out k e).1; omega)))
                          have HR6 := Lib.hid ((HRP.out.keep (below_alloc wp (.cells #[.int .i64 y] 3))).grown hg6 (fun k e => by have := (own_lt HLV.out k e).1; omega))
                          clear hv6 hg6
                          refine hK.out _ _ trivial (fun hHeld => ?_)
                          clear hK K
                          try simp only [Act.put, List.getElem_toArray, List.getElem_cons_zero, List.getElem_cons_succ, List.setIfInBounds_toArray, List.set_cons_zero, List.set_cons_succ]
                          refine wpAnyH_ready (rs := [13]) (by kernel_rfl) (by simp) ?_
                          refine AllReadyH.cons (o := _) rfl (fun K hK => ?_) ?_
                          · go_simp
                            refine hK.out _ _ trivial (fun hHeld => ?_)
                            clear hK K
                            try simp only [Act.put, List.getElem_toArray, List.getElem_cons_zero, List.getElem_cons_succ, List.setIfInBounds_toArray, List.set_cons_zero, List.set_cons_succ]
                            refine wpAnyH_done (by kernel_rfl) ?_ _
                            go_wp2
                            go_roundw
                            case rel => exact ⟨k + 1, _, _, vals ++ [y], q + 1, by omega, by go_num, by rw [List.length_append]; rfl, by rw [List.length_append]; exact HO6.out, by have := HVL.out; simp; omega, HG6.out, HR6.out, by have := HQ.out; omega⟩
                            case measure => simp [intOf]; omega
                          exact AllReadyH.nil
                        exact AllReadyH.nil
                      exact AllReadyH.nil
                    exact AllReadyH.nil
                  exact AllReadyH.nil
                exact AllReadyH.nil
              exact AllReadyH.nil
            refine AllReadyH.cons (o := _) rfl (fun K hK => ?_) ?_
            · go_simp
              refine hK.out _ _ trivial (fun hHeld => ?_)
              clear hK K
              try simp only [Act.put, List.getElem_toArray, List.getElem_cons_zero, List.getElem_cons_succ, List.setIfInBounds_toArray, List.set_cons_zero, List.set_cons_succ]
              refine wpAnyH_ready (rs := [3]) (by kernel_rfl) (by simp) ?_
              refine AllReadyH.cons (o := _) rfl (fun K hK => ?_) ?_
              · go_simp
                refine hK.out _ _ trivial (fun hHeld => ?_)
                clear hK K
                try simp only [Act.put, List.getElem_toArray, List.getElem_cons_zero, List.getElem_cons_succ, List.setIfInBounds_toArray, List.set_cons_zero, List.set_cons_succ]
                refine wpAnyH_ready (rs := [8]) (by kernel_rfl) (by simp) ?_
                refine AllReadyH.cons (o := _) rfl (fun K hK => ?_) ?_
                · go_simp
                  refine hK.out _ _ trivial (fun hHeld => ?_)
                  clear hK K
                  try simp only [Act.put, List.getElem_toArray, List.getElem_cons_zero, List.getElem_cons_succ, List.setIfInBounds_toArray, List.set_cons_zero, List.set_cons_succ]
                  refine wpAnyH_ready (rs := [9]) (by kernel_rfl) (by simp) ?_
                  refine AllReadyH.cons (o := _) rfl (fun K hK => ?_) ?_
                  · go_simp
                    refine hK.out _ _ trivial (fun hHeld => ?_)
                    clear hK K
                    try simp only [Act.put, List.getElem_toArray, List.getElem_cons_zero, List.getElem_cons_succ, List.setIfInBounds_toArray, List.set_cons_zero, List.set_cons_succ]
                    refine wpAnyH_ready (rs := [10]) (by kernel_rfl) (by simp) ?_
                    refine AllReadyH.cons (o := _) rfl (fun K hK => ?_) ?_
                    · go_simp
                      refine (pick_any g q _ wk.drew (show RRd wk.drew g q from HRK.out) (by omega)).mono ?_
                      rintro e wp ⟨y, rfl, hy, hr, hgp⟩
                      have hgp := gr_undrewv hgp
                      have HRP := Lib.hid hr
                      have HGP := Lib.hid hgp
                      have HLP := Lib.hid (show OInts wp (w4.heap.size + 1) (.slice Al vals.length cl) vals from own_past HLV.out hgp (by omega))
                      clear hr hgp hy
                      go_wp2_with fail
                      refine hK.out _ _ trivial (fun hHeld => ?_)
                      clear hK K
                      try simp only [Act.put, List.getElem_toArray, List.getElem_cons_zero, List.getElem_cons_succ, List.setIfInBounds_toArray, List.set_cons_zero, List.set_cons_succ]
                      refine wpAnyH_ready (rs := [11]) (by kernel_rfl) (by simp) ?_
                      refine AllReadyH.cons (o := _) rfl (fun K hK => ?_) ?_
                      · go_simp
                        have HLQ := Lib.hid (HLP.out.keep (below_alloc wp (.cells #[.int .i64 y] 3)))
                        have HN1 := Lib.hid (led_new wp y)
                        refine hK.out _ _ trivial (fun hHeld => ?_)
                        clear hK K
                        try simp only [Act.put, List.getElem_toArray, List.getElem_cons_zero, List.getElem_cons_succ, List.setIfInBounds_toArray, List.set_cons_zero, List.set_cons_succ]
                        refine wpAnyH_ready (rs := [12]) (by kernel_rfl) (by simp) ?_
                        refine AllReadyH.cons (o := _) rfl (fun K hK => ?_) ?_
                        · refine step_append_own rfl (.tmp 41) (.tmp 52) 26 rfl (w4.heap.size + 1) 3 i0 (.int .i64 0) 1 8 Try.underlying26 hi0 hz0 hz1 hz2 rfl (by omega) _ vals.length (vals.map (Value.int .i64)) rfl HLQ.out ⟨wp.heap.size, 0, none⟩ 1 1 ([y].map (Value.int .i64)) rfl (by simp) HN1.out (ints_one _) HPP.out.1 HPP.out.2 (by have := HGK.out.size; have := HGP.out.size; have := HZ5.out; simp; omega) ?_
                          intro v6 w6 hv6 hg6
                          have HO6 := Lib.hid (led_app (rs := [y]) rfl hv6)
                          obtain ⟨A6, c6, rfl, -⟩ := own_reads hv6
                          have HG6 := Lib.hid (gr_trans (gr_trans HGK.out (gr_alloc HGP.out (.cells #[.int .i64 y] 3)) (fun k e => by injection e with e; exact .inl e.symm)) hg6 (fun k e => .inr (by have := (own_lt HLV.out k e).1; omega)))
                          have HR6 := Lib.hid ((HRP.out.keep (below_alloc wp (.cells #[.int .i64 y] 3))).grown hg6 (fun k e => by have := (own_lt HLV.out k e).1; omega))
                          clear hv6 hg6
                          refine hK.out _ _ trivial (fun hHeld => ?_)
                          clear hK K
                          try simp only [Act.put, List.getElem_toArray, List.getElem_cons_zero, List.getElem_cons_succ, List.setIfInBounds_toArray, List.set_cons_zero, List.set_cons_succ]
                          refine wpAnyH_ready (rs := [13]) (by kernel_rfl) (by simp) ?_
                          refine AllReadyH.cons (o := _) rfl (fun K hK => ?_) ?_
                          · go_simp
                            refine hK.out _ _ trivial (fun hHeld => ?_)
                            clear hK K
                            try simp only [Act.put, List.getElem_toArray, List.getElem_cons_zero, List.getElem_cons_succ, List.setIfInBounds_toArray, List.set_cons_zero, List.set_cons_succ]
                            refine wpAnyH_done (by kernel_rfl) ?_ _
                            go_wp2
                            go_roundw
                            case rel => exact ⟨k + 1, _, _, vals ++ [y], q + 1, by omega, by go_num, by rw [List.length_append]; rfl, by rw [List.length_append]; exact HO6.out, by have := HVL.out; simp; omega, HG6.out, HR6.out, by have := HQ.out; omega⟩
                            case measure => simp [intOf]; omega
                          exact AllReadyH.nil
                        exact AllReadyH.nil
                      exact AllReadyH.nil
                    exact AllReadyH.nil
                  exact AllReadyH.nil
                exact AllReadyH.nil
              exact AllReadyH.nil
            exact AllReadyH.nil
          · have hlt' : ¬ (k : Int) < (vars.length : Int) := by omega
            have hvk : vals.length ≤ 5 := by omega
            have hqk2 : q ≤ p + 90000 := by omega
            clear hlv hgk hrk hll hqk
            go_wp2
            go_meet
            case rel => exact ⟨_, _, vals, q, rfl, HLV.out, hvk, HGK.out, HRK.out, hqk2⟩
    case rest =>
      obtain ⟨Al, cl, vals, q8, rfl, hlv, hvl5, hg8, hr8, hq8⟩ := hcut
      obtain ⟨w8, hw8⟩ : ∃ x : World, x = wc := ⟨_, rfl⟩
      subst hw8
      have HLV := Lib.hid hlv
      have HG8 := Lib.hid hg8
      have HR8 := Lib.hid hr8
      clear hlv hg8 hr8
      go_wp2_with fail
      refine (odd_any g q8 16 _ HR8.out (by omega) (by omega) (by omega)).mono ?_
      rintro x w9 ⟨b, q9, rfl, hr9, hq9, hg9⟩
      have HG9 := Lib.hid (gr_trans HG8.out hg9 (fun x e => by injection e with e; exact .inl e.symm))
      have HR9 := Lib.hid hr9
      have HL9 := Lib.hid (show OInts w9 (w4.heap.size + 1) (.slice Al vals.length cl) vals from own_past HLV.out hg9 (by omega))
      clear hr9 hg9
      go_upto_if 55 with fail
      go_cut [11] (fun s11 wx => ∃ (Al : Option Addr) (cl : Nat) (vals : List Int) (q' : Nat), s11 = .slice Al vals.length cl ∧ OInts wx (w4.heap.size + 1) (.slice Al vals.length cl) vals ∧ vals.length ≤ 6 ∧ w4.grownBy wx (some g) ∧ RRd wx g q' ∧ q' ≤ p + 100000)
      case first =>
        cases b with
        | false =>
          go_wp2
          go_meet
          case rel => exact ⟨_, _, vals, q9, rfl, HL9.out, by omega, HG9.out, HR9.out, by omega⟩
        | true =>
          go_wp2_with (at_builtin; refine wpList_append_own _ rfl _ _ 26 rfl (w4.heap.size + 1) 3 i0 (.int .i64 0) 1 8 Try.underlying26 hi0 hz0 hz1 hz2 rfl (by decide) _ vals.length (vals.map (Value.int .i64)) rfl (own_keep HL9.out (below_alloc w9 _)) ⟨w9.heap.size, 0, none⟩ 1 1 ([(0 : Int)].map (Value.int .i64)) rfl (by simp) (led_new w9 (0 : Int)) (ints_one _) (by rw [maxLen_eq]; omega) (by omega) (by have := HG9.out.size; simp; have := (own_lt HL9.out); omega) ?_)
          intro v6 w6' hv6 hg6 _
          have HOA := Lib.hid (led_app (rs := [(0 : Int)]) rfl hv6)
          obtain ⟨A6, c6, rfl, -⟩ := own_reads hv6
          have HGA := Lib.hid (gr_trans (gr_alloc HG9.out (.cells #[.int .i64 (0 : Int)] 3)) hg6 (fun k e => .inr (by have := (own_lt HL9.out k e).1; omega)))
          have HRA := Lib.hid ((HR9.out.keep (below_alloc w9 (.cells #[.int .i64 (0 : Int)] 3))).grown hg6 (fun k e => by have := (own_lt HL9.out k e).1; omega))
          clear hv6 hg6
          go_wp2
          go_meet
          case rel => exact ⟨_, _, vals ++ [0], q9, by rw [List.length_append]; rfl, by rw [List.length_append]; exact HOA.out, by simp; omega, HGA.out, HRA.out, by omega⟩
      case rest =>
        obtain ⟨Al', cl', vals', qz, rfl, hlv, hvl6, hgz, hrz, hqz⟩ := hcut
        obtain ⟨wz, hwz⟩ : ∃ x : World, x = wc := ⟨_, rfl⟩
        subst hwz
        have HLZ := Lib.hid hlv
        have HGZ := Lib.hid hgz
        have HRZ := Lib.hid hrz
        clear hlv hgz hrz
        have p0 := block_cell (gr_at HGZ.out (by omega) HBA.out) 0
        have p1 := block_cell (gr_at HGZ.out (by omega) HBA.out) 1
        have p2 := block_cell (gr_at HGZ.out (by omega) HBB.out) 0
        have p3 := block_cell (gr_at HGZ.out (by omega) HBB.out) 1
        simp at p0 p1 p2 p3
        have hra := gr_at HGZ.out (by omega) HRA4.out
        have hrb := gr_at HGZ.out (by omega) HRB4.out
        have r0 := block_cell hra 0
        have rf0 := block_free hra 0
        have r1 := block_cell hra 1
        have rf1 := block_free hra 1
        have r2 := block_cell hrb 0
        have rf2 := block_free hrb 0
        have r3 := block_cell hrb 1
        have rf3 := block_free hrb 1
        simp at r0 r1 r2 r3
        have HGWZ := Lib.hid (gr_trans HGW4.out HGZ.out (fun x e => by injection e with e; exact .inl e.symm))
        go_wp2_with fail
        go_region_held3 (fun w' => w'.cell? ⟨w2.heap.size, 0, none⟩ = some (.int .i64 sorts) ∧ w'.cell? ⟨w2.heap.size, 1, none⟩ = some (.slice Au rows.length cu) ∧ w'.cell? ⟨w2.heap.size + 1, 0, none⟩ = some (.slice A0 m.sizes.length c0) ∧ w'.cell? ⟨w2.heap.size + 1, 1, none⟩ = some (.slice A1 m.tables.length c1)) (first | with_reducible exact ⟨drew_cellm p0, drew_cellm p1, drew_cellm p2, drew_cellm p3⟩ | with_reducible exact ⟨drew_cellm (keep2m p0 (by omega)), drew_cellm (keep2m p1 (by omega)), drew_cellm (keep2m p2 (by omega)), drew_cellm (keep2m p3 (by omega))⟩ | with_reducible exact ⟨drew_cellm (keep2m (keep2m p0 (by omega)) (by omega)), drew_cellm (keep2m (keep2m p1 (by omega)) (by omega)), drew_cellm (keep2m (keep2m p2 (by omega)) (by omega)), drew_cellm (keep2m (keep2m p3 (by omega)) (by omega))⟩) (fail)
        clear p0 p1 p2 p3
        have d0 := ((put2_other (x := (.slice A0 m.sizes.length c0)) (y := (.slice A1 m.tables.length c1)) (show w.heap.size ≠ w.heap.size + 1 by omega)).trans (put2_at (x := (.int .i64 sorts)) (y := (.slice Au rows.length cu)) hra))
        have d1 := (put2_at (x := (.slice A0 m.sizes.length c0)) (y := (.slice A1 m.tables.length c1)) ((put2_other (x := (.int .i64 sorts)) (y := (.slice Au rows.length cu)) (show w.heap.size + 1 ≠ w.heap.size by omega)).trans hrb))
        have HLOW := Lib.hid (fun (k : Nat) (hk : w.heap.size + 2 ≤ k) => ((put2_other (x := (.slice A0 m.sizes.length c0)) (y := (.slice A1 m.tables.length c1)) (show k ≠ w.heap.size + 1 by omega)).trans (put2_other (wz := wz) (x := (.int .i64 sorts)) (y := (.slice Au rows.length cu)) (show k ≠ w.heap.size by omega))))
        have HRDZ := Lib.hid (put2_rd (b := w.heap.size + 1) (x := (.slice A0 m.sizes.length c0)) (y := (.slice A1 m.tables.length c1)) (put2_rd (b := w.heap.size) (x := (.int .i64 sorts)) (y := (.slice Au rows.length cu)) HRZ.out (by omega)) (by omega))
        have HGRZ := Lib.hid (put2_gr (b := w.heap.size + 1) (x := (.slice A0 m.sizes.length c0)) (y := (.slice A1 m.tables.length c1)) (put2_gr (b := w.heap.size) (x := (.int .i64 sorts)) (y := (.slice Au rows.length cu)) HGWZ.out (by omega)) (by omega))
        clear r0 rf0 r1 rf1 r2 rf2 r3 rf3
        generalize (((wz.setCell ⟨w.heap.size, 0, none⟩ (.int .i64 sorts)).setCell ⟨w.heap.size, 1, none⟩ (.slice Au rows.length cu)).setCell ⟨w.heap.size + 1, 0, none⟩ (.slice A0 m.sizes.length c0)).setCell ⟨w.heap.size + 1, 1, none⟩ (.slice A1 m.tables.length c1) = w9z at d0 d1 HLOW HRDZ HGRZ ⊢
        have k0 := drew_cellm (block_cell d0 0)
        have k1 := drew_cellm (block_cell d0 1)
        have k2 := drew_cellm (block_cell d1 0)
        have k3 := drew_cellm (block_cell d1 1)
        simp at k0 k1 k2 k3
        go_wp2
        refine bodyPost_ret (v := .tuple #[.agg #[.int .i64 sorts, .slice Au rows.length cu], .agg #[.slice A0 m.sizes.length c0, .slice A1 m.tables.length c1], .slice Av vars.length cv, u10, .slice Al' vals'.length cl']) (by simp [results, Try.results53, go_sem, k0, k1, k2, k3]) rfl ?_
        exact ⟨_, _, _, _, _, ⟨sorts, rows⟩, m, vars, vals', qz, w4, rfl, by omega, ⟨_, rfl, HO4.out⟩, HM4.out, HF.out, HV4.out, hvl, (fun k h1 h2 => (HLOW.out k h1).trans (HGZ.out.block k h2 (fun e => by injection e with e; omega))), OInts.base (show OInts w9z.drew (w4.heap.size + 1) (.slice Al' vals'.length cl') vals' from HLZ.out.same (fun k h1 h2 => HLOW.out k (by omega))) (by omega), hvl6, HRDZ.out, hqz, gr_todrewm HGRZ.out⟩
end

section
open Go.RowKit
set_option linter.unusedVariables false
set_option linter.unusedSimpArgs false

def DrawVOPost (w : World) (x : Ending) (w' : World) : Prop :=
  ∃ (sv mv vv lv : Value) (s : MSig) (m : MModel) (vars vals : List Int), x = .returned (.tuple #[sv, mv, vv, lv]) ∧ RSig w' sv s ∧ RModel w' mv m ∧ RInts w' vv vars ∧ vars.length ≤ 5 ∧ RInts w' lv vals ∧ vals.length ≤ 6 ∧ Below w.heap.size w w'

set_option maxHeartbeats 3200000 in
set_option maxRecDepth 100000 in
theorem drawValuesOk_any (v : Value) (bs : List Int) (w : World) (h : RBytes w w.heap.size v bs) :
    Calls Try.prog 15 #[v] w (DrawVOPost w) := by
  obtain ⟨W, hW⟩ : ∃ W : World, W = (w.alloc (.cells #[.int .i64 0, .slice none 0 0] 25)).alloc (.cells #[.slice none 0 0, .slice none 0 0] 28) := ⟨_, rfl⟩
  have hb0 : Below w.heap.size w W := by rw [hW]; exact (below_alloc _ _).alloc (by simp) _
  have HB0 := Lib.hid hb0
  have HZ0 := Lib.hid (show W.heap.size = w.heap.size + 2 by rw [hW]; simp)
  have HZR0 := Lib.hid (show W.heap[w.heap.size]? = some (.cells #[.int .i64 0, .slice none 0 0] 25 (0, 0)) by rw [hW]; exact (heap_alloc_old (w.alloc (.cells #[.int .i64 0, .slice none 0 0] 25)) _ (by simp)).trans (heap_alloc_new (w) _))
  have HZR1 := Lib.hid (show W.heap[w.heap.size + 1]? = some (.cells #[.slice none 0 0, .slice none 0 0] 28 (0, 0)) by rw [hW]; exact (congrArg (fun i => ((w.alloc (.cells #[.int .i64 0, .slice none 0 0] 25)).alloc (.cells #[.slice none 0 0, .slice none 0 0] 28)).heap[i]?) (by simp)).trans (heap_alloc_new (w.alloc (.cells #[.int .i64 0, .slice none 0 0] 25)) _))
  have HW := Lib.hid (bytes_alloc h hb0)
  obtain ⟨A, c, rfl, -⟩ := h
  have hW' := hW.symm
  clear hb0 hW
  go_enter Try.func15, Try.ntmps15
  go_wp2_with fail
  clear hW'
  refine (open_any _ bs _ HW.out).mono ?_
  rintro e w1 ⟨rfl, hr1, hb1⟩
  rw [HZ0.out] at hr1
  have HR1 := Lib.hid hr1
  have HB1 := Lib.hid hb1
  rw [HZ0.out]
  have hzW := HZ0.out
  have hz1 := HB1.out.size
  have hlt1 : w.heap.size + 2 < w1.heap.size := HR1.out.lt
  clear hr1 hb1
  go_wp2_with fail
  refine (valued_any (w.heap.size + 2) 0 _ HR1.out (by omega)).mono ?_
  rintro x w2 ⟨sv, mv, vv, tv, lv, ⟨sorts, rows⟩, m, vars, vals, q, wn, rfl, hn1, ⟨u, rfl, ho⟩, ⟨x, y, rfl, o1, C, hC, hub, o2⟩, hf, ov, hvl, hsame, ol, hll, hr2, hq2, hg2⟩
  obtain ⟨us, hu1, -⟩ := id ho
  obtain ⟨Au, cu, rfl, -⟩ := own_reads hu1
  obtain ⟨A0, c0, rfl, -⟩ := own_reads o1
  obtain ⟨us2, hu2, -⟩ := id o2
  obtain ⟨A1, c1, rfl, -⟩ := own_reads hu2
  obtain ⟨Av, cv, rfl, -⟩ := own_reads ov
  obtain ⟨Al, cl, rfl, -⟩ := own_reads ol
  have hzz2 : w1.heap.size ≤ w2.heap.size := hg2.size
  have hba : Below w2.heap.size w2 ((w2.alloc (.cells #[.int .i64 sorts, .slice Au rows.length cu] 25)).alloc (.cells #[.slice A0 m.sizes.length c0, .slice A1 m.tables.length c1] 28)) := (below_alloc _ _).alloc (by simp) _
  have HG3 := Lib.hid (gr_alloc (gr_alloc hg2 (.cells #[.int .i64 sorts, .slice Au rows.length cu] 25)) (.cells #[.slice A0 m.sizes.length c0, .slice A1 m.tables.length c1] 28))
  have HBA := Lib.hid ((heap_alloc_old (w2.alloc (.cells #[.int .i64 sorts, .slice Au rows.length cu] 25)) (.cells #[.slice A0 m.sizes.length c0, .slice A1 m.tables.length c1] 28) (by simp)).trans (heap_alloc_new w2 (.cells #[.int .i64 sorts, .slice Au rows.length cu] 25)))
  have HBB := Lib.hid ((congrArg (fun i => ((w2.alloc (.cells #[.int .i64 sorts, .slice Au rows.length cu] 25)).alloc (.cells #[.slice A0 m.sizes.length c0, .slice A1 m.tables.length c1] 28)).heap[i]?) (show w2.heap.size + 1 = (w2.alloc (.cells #[.int .i64 sorts, .slice Au rows.length cu] 25)).heap.size by simp)).trans (heap_alloc_new (w2.alloc (.cells #[.int .i64 sorts, .slice Au rows.length cu] 25)) (.cells #[.slice A0 m.sizes.length c0, .slice A1 m.tables.length c1] 28)))
  have HOS := Lib.hid ho
  have HOM := Lib.hid (show OModel wn (w1.heap.size + 2) (.agg #[.slice A0 m.sizes.length c0, .slice A1 m.tables.length c1]) m from ⟨_, _, rfl, o1, C, hC, hub, o2⟩)
  have HOV := Lib.hid ov
  have HSAME := Lib.hid (show ∀ k, w1.heap.size + 2 ≤ k → k < wn.heap.size → ((w2.alloc (.cells #[.int .i64 sorts, .slice Au rows.length cu] 25)).alloc (.cells #[.slice A0 m.sizes.length c0, .slice A1 m.tables.length c1] 28)).heap[k]? = wn.heap[k]? from fun k h1 h2 => by
    have h3 := hsame k h1 h2
    have h4 : k < w2.heap.size := by
      rcases Nat.lt_or_ge k w2.heap.size with h | h
      · exact h
      · rw [Array.getElem?_eq_none h, Array.getElem?_eq_getElem h2] at h3; cases h3
    exact (hba.block k h4).trans h3)
  have HLV := Lib.hid (ol.keep hba)
  have HR3 := Lib.hid (hr2.keep hba)
  clear ho o1 o2 hu1 hu2 hub hr2 hg2 hba hf ov ol hsame
  generalize hW3 : (w2.alloc (.cells #[.int .i64 sorts, .slice Au rows.length cu] 25)).alloc (.cells #[.slice A0 m.sizes.length c0, .slice A1 m.tables.length c1] 28) = w3 at HG3 HBA HBB HSAME HLV HR3
  go_upto_region 3 with fail
  clear hW3
  go_cut [28] (fun s28 wx => ∃ (b : Bool), s28 = .bool b ∧ (b = true → 0 < vals.length) ∧ w3.grownBy wx (some (w.heap.size + 2)))
  case first =>
    go_wp2_with fail
    refine (odd_any (w.heap.size + 2) q 9 _ HR3.out (by omega) (by omega) (by omega)).mono ?_
    rintro x w4 ⟨b, q4, rfl, hr4, hq4, hg4⟩
    have HG := Lib.hid hg4
    clear hr4 hg4
    cases b with
    | false =>
      go_wp2
      go_meet
      case rel => exact ⟨false, rfl, by simp, HG.out⟩
    | true =>
      go_wp2
      go_meet
      case rel => exact ⟨decide (0 < vals.length), rfl, fun h => by simpa using h, HG.out⟩
  case rest =>
  obtain ⟨b, rfl, hbp, hg4⟩ := hcut
  obtain ⟨w4, hw4⟩ : ∃ x : World, x = wc := ⟨_, rfl⟩
  subst hw4
  have hgz : w.heap.size + 2 < w1.heap.size + 2 := by omega
  have HLV4 := Lib.hid (show OInts w4 wn.heap.size (.slice Al vals.length cl) vals from own_past HLV.out hg4 (by omega))
  have HS4 := Lib.hid (show ∀ k, w1.heap.size + 2 ≤ k → k < wn.heap.size → w4.heap[k]? = wn.heap[k]? from fun k h1 h2 => by
    have h3 := HSAME.out k h1 h2
    have h4 : k < w3.heap.size := by
      rcases Nat.lt_or_ge k w3.heap.size with h | h
      · exact h
      · rw [Array.getElem?_eq_none h, Array.getElem?_eq_getElem h2] at h3; cases h3
    exact (hg4.block k h4 (fun e => by injection e with e; omega)).trans h3)
  have HG4 := Lib.hid (gr_trans HG3.out hg4 (fun x e => by injection e with e; exact .inl e.symm))
  have HA4 := Lib.hid (gr_at hg4 (by omega) HBA.out)
  have HB4 := Lib.hid (gr_at hg4 (by omega) HBB.out)
  clear hg4
  go_upto_if 28 with fail
  go_cut [] (fun wx => ∃ (vals' : List Int), vals'.length = vals.length ∧ OInts wx wn.heap.size (.slice Al vals.length cl) vals' ∧ (∀ k, w1.heap.size + 2 ≤ k → k < wn.heap.size → wx.heap[k]? = wn.heap[k]?) ∧ wx.heap[w2.heap.size]? = some (.cells #[.int .i64 sorts, .slice Au rows.length cu] 25 (0, 0)) ∧ wx.heap[w2.heap.size + 1]? = some (.cells #[.slice A0 m.sizes.length c0, .slice A1 m.tables.length c1] 28 (0, 0)) ∧ w1.grownBy wx (some (w.heap.size + 2)))
  case first =>
    cases b with
    | false =>
      go_wp2
      go_meet
      case rel => exact ⟨vals, rfl, HLV4.out, HS4.out, HA4.out, HB4.out, HG4.out⟩
    | true =>
      have h0 := hbp rfl
      have h0' : (0 : Int) < (vals.length : Int) := by omega
      obtain ⟨gl, cl', e, hgl⟩ := own_at0 HLV4.out (by omega)
      injection e with e1 e2 e3
      subst e1 e3
      obtain ⟨k0, k1⟩ := own_cell (k := 0) HLV4.out (by omega)
      obtain ⟨s1, s2⟩ := own_set HLV4.out rfl 0 2
      have na : gl ≠ w2.heap.size := fun e => own_not HLV4.out HA4.out (by decide) (by rw [← e]; rfl)
      have nb : gl ≠ w2.heap.size + 1 := fun e => own_not HLV4.out HB4.out (by decide) (by rw [← e]; rfl)
      have HX := Lib.hid (show ∃ (vals' : List Int), vals'.length = vals.length ∧ OInts (w4.setCell ⟨gl, 0, none⟩ (.int .i64 2)) wn.heap.size (.slice (some ⟨gl, 0, none⟩) vals.length cl) vals' ∧ (∀ k, w1.heap.size + 2 ≤ k → k < wn.heap.size → (w4.setCell ⟨gl, 0, none⟩ (.int .i64 2)).heap[k]? = wn.heap[k]?) ∧ (w4.setCell ⟨gl, 0, none⟩ (.int .i64 2)).heap[w2.heap.size]? = some (.cells #[.int .i64 sorts, .slice Au rows.length cu] 25 (0, 0)) ∧ (w4.setCell ⟨gl, 0, none⟩ (.int .i64 2)).heap[w2.heap.size + 1]? = some (.cells #[.slice A0 m.sizes.length c0, .slice A1 m.tables.length c1] 28 (0, 0)) ∧ w1.grownBy (w4.setCell ⟨gl, 0, none⟩ (.int .i64 2)) (some (w.heap.size + 2)) from
        ⟨vals.set 0 2, by simp, s1, fun k h1 h2 => (Below.heap_setCell _ ⟨gl, 0, none⟩ _ k (by show k ≠ gl; omega)).trans (HS4.out k h1 h2), (Below.heap_setCell _ ⟨gl, 0, none⟩ _ _ (fun e => na e.symm)).trans HA4.out, (Below.heap_setCell _ ⟨gl, 0, none⟩ _ _ (fun e => nb e.symm)).trans HB4.out, gr_trans HG4.out s2 (fun x e => .inr (by injection e with e; omega))⟩)
      clear s1 s2
      go_wp2
      go_meet
      case rel => exact HX.out
  case rest =>
    obtain ⟨vals', hvl', hlv, hsm, ha5, hb5, hg5⟩ := hcut
    obtain ⟨wz, hwz⟩ : ∃ x : World, x = wc := ⟨_, rfl⟩
    subst hwz
    have HLZ := Lib.hid hlv
    have HSZ := Lib.hid hsm
    have HVL := Lib.hid hvl'
    have p0 := block_cell ha5 0
    have p1 := block_cell ha5 1
    have p2 := block_cell hb5 0
    have p3 := block_cell hb5 1
    simp at p0 p1 p2 p3
    have hra := gr_at hg5 (by omega) ((HB1.out.block _ (by omega)).trans HZR0.out)
    have hrb := gr_at hg5 (by omega) ((HB1.out.block _ (by omega)).trans HZR1.out)
    have r0 := block_cell hra 0
    have rf0 := block_free hra 0
    have r1 := block_cell hra 1
    have rf1 := block_free hra 1
    have r2 := block_cell hrb 0
    have rf2 := block_free hrb 0
    have r3 := block_cell hrb 1
    have rf3 := block_free hrb 1
    simp at r0 r1 r2 r3
    have HBL := Lib.hid (show Below w.heap.size w wz from (HB0.out.trans (HB1.out.mono (by omega))).trans (below_of_gr' hg5 (by omega) (by omega)))
    clear hlv hsm ha5 hb5 hg5 hvl'
    go_wp2_with fail
    go_region_held3 (fun w' => w'.cell? ⟨w2.heap.size, 0, none⟩ = some (.int .i64 sorts) ∧ w'.cell? ⟨w2.heap.size, 1, none⟩ = some (.slice Au rows.length cu) ∧ w'.cell? ⟨w2.heap.size + 1, 0, none⟩ = some (.slice A0 m.sizes.length c0) ∧ w'.cell? ⟨w2.heap.size + 1, 1, none⟩ = some (.slice A1 m.tables.length c1)) (first | with_reducible exact ⟨drew_cellm p0, drew_cellm p1, drew_cellm p2, drew_cellm p3⟩ | with_reducible exact ⟨drew_cellm (keep2m p0 (by omega)), drew_cellm (keep2m p1 (by omega)), drew_cellm (keep2m p2 (by omega)), drew_cellm (keep2m p3 (by omega))⟩ | with_reducible exact ⟨drew_cellm (keep2m (keep2m p0 (by omega)) (by omega)), drew_cellm (keep2m (keep2m p1 (by omega)) (by omega)), drew_cellm (keep2m (keep2m p2 (by omega)) (by omega)), drew_cellm (keep2m (keep2m p3 (by omega)) (by omega))⟩) (fail)
    clear p0 p1 p2 p3
    have d0 := ((put2_other (x := (.slice A0 m.sizes.length c0)) (y := (.slice A1 m.tables.length c1)) (show w.heap.size ≠ w.heap.size + 1 by omega)).trans (put2_at (x := (.int .i64 sorts)) (y := (.slice Au rows.length cu)) hra))
    have d1 := (put2_at (x := (.slice A0 m.sizes.length c0)) (y := (.slice A1 m.tables.length c1)) ((put2_other (x := (.int .i64 sorts)) (y := (.slice Au rows.length cu)) (show w.heap.size + 1 ≠ w.heap.size by omega)).trans hrb))
    have HLOW := Lib.hid (fun (k : Nat) (hk : w.heap.size + 2 ≤ k) => ((put2_other (x := (.slice A0 m.sizes.length c0)) (y := (.slice A1 m.tables.length c1)) (show k ≠ w.heap.size + 1 by omega)).trans (put2_other (wz := wz) (x := (.int .i64 sorts)) (y := (.slice Au rows.length cu)) (show k ≠ w.heap.size by omega))))
    have HBEL := Lib.hid (put2_bel (b := w.heap.size + 1) (x := (.slice A0 m.sizes.length c0)) (y := (.slice A1 m.tables.length c1)) (put2_bel (b := w.heap.size) (x := (.int .i64 sorts)) (y := (.slice Au rows.length cu)) HBL.out (by omega)) (by omega))
    clear r0 rf0 r1 rf1 r2 rf2 r3 rf3
    generalize (((wz.setCell ⟨w.heap.size, 0, none⟩ (.int .i64 sorts)).setCell ⟨w.heap.size, 1, none⟩ (.slice Au rows.length cu)).setCell ⟨w.heap.size + 1, 0, none⟩ (.slice A0 m.sizes.length c0)).setCell ⟨w.heap.size + 1, 1, none⟩ (.slice A1 m.tables.length c1) = w9 at d0 d1 HLOW HBEL ⊢
    have k0 := drew_cellm (block_cell d0 0)
    have k1 := drew_cellm (block_cell d0 1)
    have k2 := drew_cellm (block_cell d1 0)
    have k3 := drew_cellm (block_cell d1 1)
    simp at k0 k1 k2 k3
    go_wp2
    refine bodyPost_ret (v := .tuple #[.agg #[.int .i64 sorts, .slice Au rows.length cu], .agg #[.slice A0 m.sizes.length c0, .slice A1 m.tables.length c1], .slice Av vars.length cv, .slice Al vals.length cl]) (by simp [results, Try.results15, go_sem, k0, k1, k2, k3]) rfl ?_
    have hall : ∀ k, w1.heap.size + 2 ≤ k → k < wn.heap.size → w9.drew.heap[k]? = wn.heap[k]? := fun k h1 h2 => (HLOW.out k (by omega)).trans (HSZ.out k h1 h2)
    exact ⟨_, _, _, _, ⟨sorts, rows⟩, m, vars, vals', rfl, ⟨_, rfl, (HOS.out.same hall).reads⟩, (HOM.out.same hall).reads, (HOV.out.same hall).reads, hvl, (OInts.same (w' := w9.drew) HLZ.out (fun k h1 h2 => HLOW.out k (by omega))).reads, by rw [HVL.out]; exact hll, map_drew HBEL.out⟩
end
end Go.Proofs.Ytkhabmoidpgapaa
