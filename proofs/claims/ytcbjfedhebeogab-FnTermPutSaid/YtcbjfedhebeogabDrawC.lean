/- l20Terms, DrawTermsFit. -/
import Derived.Test.YtcbjfedhebeogabDrawB
namespace Go.Proofs.Ytcbjfedhebeogab
open Go.RowKit
set_option linter.unusedVariables false

def TermsPost (g p n d : Nat) (w : World) (e : Ending) (w' : World) : Prop :=
  ∃ (v : Value) (rows : List (List Int)) (q : Nat), e = .returned v ∧ ORows w' w.heap.size v rows ∧ rows.length = n ∧ (∀ r ∈ rows, Small r ∧ r.length ≤ Lb d) ∧ RRd w' g q ∧ q ≤ p + n * Qb d ∧ w.grownBy w' (some g)
theorem slice_one (v : Value) (h : ∃ A n c, v = .slice A n c) : ∀ u ∈ [v], u.oneCell' = true := fun u hu => by
  obtain ⟨A, n, c, rfl⟩ := h
  simp at hu; subst hu; rfl
theorem new_row (w : World) (v : Value) (t : TypeId) : (w.alloc (.cells #[v] t)).cell? ⟨w.heap.size, 0, none⟩ = some v := by rw [World.cell?_alloc_at _ _ _ _ rfl]; rfl

set_option maxHeartbeats 800000 in
set_option maxRecDepth 100000 in
theorem drawTerms_any (s : MSig) (vars others : List Int) (hv : validB s = true) (hvl : vars.length ≤ 10) (hol : others.length ≤ 1000) (d : Nat) (hd : d ≤ 4) (g p : Nat) (sv vv ov : Value) (w : World) (h : RRd w g p) (hp : p + 10 * Qb d ≤ 1000000000) (hs : OSig w (g + 1) sv s) (hvv : OInts w (g + 1) vv vars) (hov : OInts w (g + 1) ov others) :
    Calls Try.prog 37 #[.pointer (some ⟨g, 0, none⟩), sv, vv, ov, .int .i64 (d : Int)] w (TermsPost g p vars.length d w) := by
  obtain ⟨i1, hj, hy0, hy1, hy2⟩ := info_parts Try.info_ints
  obtain ⟨u0, rfl, hoo⟩ := hs
  obtain ⟨sorts, ops⟩ := s
  simp only at hoo
  obtain ⟨A, c, rfl, -⟩ := hoo.reads.form
  obtain ⟨A2, c2, rfl, -⟩ := hvv.reads.form
  obtain ⟨A3, c3, rfl, -⟩ := hov.reads.form
  have hgl := h.lt
  obtain ⟨W, hW⟩ : ∃ W : World, W = w.alloc (.cells #[.int .i64 sorts, .slice A ops.length c] 25) := ⟨_, rfl⟩
  have hbW : Below w.heap.size w W := by rw [hW]; exact below_alloc _ _
  have HGW := Lib.hid (show w.grownBy W (some g) by rw [hW]; exact gr_alloc (gr_refl w g) _)
  have HBOX := Lib.hid (show W.heap[w.heap.size]? = some (.cells #[.int .i64 sorts, .slice A ops.length c] 25 (0, 0)) by rw [hW]; exact heap_alloc_new w _)
  have HRW := Lib.hid (h.keep hbW)
  have HZW := Lib.hid (show W.heap.size = w.heap.size + 1 by rw [hW]; simp)
  have HSW := Lib.hid (show OSig W (g + 1) (.agg #[.int .i64 sorts, .slice A ops.length c]) ⟨sorts, ops⟩ from (show OSig w (g + 1) (.agg #[.int .i64 sorts, .slice A ops.length c]) ⟨sorts, ops⟩ from ⟨_, rfl, hoo⟩).keep hbW)
  have HVW := Lib.hid (hvv.keep hbW)
  have HOW := Lib.hid (hov.keep hbW)
  have hgW : g < W.heap.size := by have := HZW.out; omega
  have hW' := hW.symm
  have HV := Lib.hid hv
  have HE := Lib.hid (show ORows (W.alloc (.cells #[] 26)) W.heap.size (.slice (some ⟨W.heap.size, 0, none⟩) 0 0) [] from ⟨[], World.ownsRow_lit W #[] 0 (Nat.le_refl _) (Nat.zero_le _) rfl, rfl, fun j u row h => by simp at h, fun i j u u' _ h => by simp at h⟩)
  clear hbW h hoo hvv hov hv hW
  go_enter Try.func37, Try.ntmps37
  go_wp2_with fail
  clear hW'
  go_loopw [11, 12] (fun o k wr => ∃ (k' q : Nat) (rows : List (List Int)), k' ≤ vars.length ∧ k = .int .i64 k' ∧ q ≤ p + k' * Qb d ∧ rows.length = k' ∧ (∀ r ∈ rows, Small r ∧ r.length ≤ Lb d) ∧ ORows wr W.heap.size o rows ∧ TermSt W wr g q) (fun _ k _ => vars.length - (intOf k).toNat)
  case atStart => exact ⟨0, p, [], Nat.zero_le _, rfl, by omega, rfl, fun r hr => by simp at hr, HE.out, ⟨HRW.out.keep (below_alloc _ _), gr_alloc (gr_refl W g) _⟩⟩
  case round =>
    obtain ⟨k, q, rows, hk, rfl, hq, hrl, hrs, hor, hst⟩ := hrel
    obtain ⟨us, h1, h2, h3, h4⟩ := hor
    obtain ⟨Au, cu, rfl, -⟩ := own_reads h1
    have HST := Lib.hid hst
    have HOR := Lib.hid (And.intro h1 (And.intro h2 (And.intro h3 h4)))
    have HRS := Lib.hid hrs
    have hbx := box_after HBOX.out hst.gr (by omega)
    have g0 := block_cell hbx 0
    have g1 := block_cell hbx 1
    simp at g0 g1
    have HQ := Lib.hid hq
    have HRL := Lib.hid hrl
    have hrl10 : rows.length ≤ 10 := by omega
    clear hst hbx hq h1 h2 h3 h4 hrs
    by_cases hlt : k < vars.length
    · have HQN := Lib.hid (show q + Qb d ≤ p + (k + 1) * Qb d ∧ q + Qb d ≤ p + 10 * Qb d by
        have h0 := HQ.out
        have h1 : (k + 1) * Qb d = k * Qb d + Qb d := Nat.succ_mul _ _
        have h2 : (k + 1) * Qb d ≤ 10 * Qb d := Nat.mul_le_mul_right _ (by omega)
        omega)
      have HS5 := Lib.hid (HSW.out.past HST.out.gr (by omega))
      have HO5 := Lib.hid (HOW.out.past HST.out.gr (by omega))
      obtain ⟨b9, o9, c10, e, hxW⟩ := HVW.out.reads.at_ hlt
      cases e
      generalize vars[k] = y at hxW
      have hb9 : b9 ≠ g := by have := (own_lt HVW.out b9 rfl).1; omega
      have hx := cell_gr HST.out.gr hxW hb9
      have HXW := Lib.hid hxW
      clear hxW
      have hk' : (k : Int) < (vars.length : Int) := by omega
      have hk0 : (0 : Int) ≤ (k : Int) := by omega
      have hz5 : W.heap.size ≤ wr.heap.size := HST.out.gr.size
      clear hrl
      go_wp2_with fail
      have ea := World.new_ne wr _ g0
      have eb := World.new_ne wr _ hx
      go_region_held3 (fun w' => w'.cell? ⟨w.heap.size, 0, none⟩ = some (.int .i64 sorts) ∧ w'.cell? ⟨w.heap.size, 1, none⟩ = some (.slice A ops.length c) ∧ w'.cell? ⟨b9, o9 + k, none⟩ = some (.int .i64 y)) (first | exact ⟨j0, j1, j2⟩ | exact ⟨i0, i1', i2⟩ | go_keep)
        (first
          | (go_at_call 44; refine (dterm_any ⟨sorts, ops⟩ others HV.out hol d hd g q y _ _ wr.drew HST.out.rd (by have := HQN.out.2; omega) HS5.out HO5.out).mono ?_; rintro e w6 ⟨pv, ys, q6, rfl, ⟨ad6, c6, rfl⟩, hoy, hly, hsy, hr6, hq6, hg6⟩; have HG6 := Lib.hid (gr_drew hg6); have HOY := Lib.hid (show OInts w6 wr.heap.size (.slice (some ad6) ys.length c6) ys from hoy); have HSY := Lib.hid (And.intro hsy (And.intro hly hq6)); have HST6 := Lib.hid (HST.out.later hr6 (gr_drew hg6)); have j0 := block_cell (box_after HBOX.out HST6.out.gr (by omega)) 0; have j1 := block_cell (box_after HBOX.out HST6.out.gr (by omega)) 1; have j2 := cell_gr HST6.out.gr HXW.out hb9; simp at j0 j1; have ed := World.new_ne w6 _ j0; have ee := World.new_ne w6 _ j2; have HOU := Lib.hid ((own_past HOR.out.1 HG6.out hgW).alloc (.cells #[.slice (some ad6) ys.length c6] 26)); have hz6 : W.heap.size ≤ w6.heap.size := Nat.le_trans hz5 HG6.out.size; clear hoy hly hsy hr6 hq6 hg6)
          | (refine step_append_own rfl (.tmp 20) (.tmp 30) 23 rfl W.heap.size 26 i1 (.slice none 0 0) 1 24 Try.underlying23 hj hy0 hy1 hy2 rfl (by omega) _ rows.length us rfl HOU.out ⟨w6.heap.size, 0, none⟩ 1 1 [.slice (some ad6) ys.length c6] rfl rfl (new_one (new_row w6 _ _)) (slice_one _ ⟨_, _, _, rfl⟩) (by rw [maxLen_eq]; omega) (by omega) (by simp; omega) ?_; intro v7 w7 hown7 hgrow7; obtain ⟨A7, c7, rfl, -⟩ := own_reads hown7; have HO7 := Lib.hid (rows_push HOR.out.1 HOR.out.2.1 HOR.out.2.2.1 HOR.out.2.2.2 HG6.out hgW (Nat.le_refl _) hz5 HOY.out hown7 hgrow7); have hb7 : ∀ k, (Value.slice Au rows.length cu).ownBlock = some k → W.heap.size ≤ k := fun k e => (own_lt HOR.out.1 k e).1; have HST7 := Lib.hid (show TermSt W w7 g q6 from ⟨(HST6.out.rd.keep (below_alloc w6 _)).grown hgrow7 (fun k e => by have := hb7 k e; omega), gr_trans (gr_alloc HST6.out.gr _) hgrow7 (fun k e => .inr (hb7 k e))⟩); have i0 := block_cell (box_after HBOX.out HST7.out.gr (by omega)) 0; have i1' := block_cell (box_after HBOX.out HST7.out.gr (by omega)) 1; simp at i0 i1'; have i2 := cell_gr HST7.out.gr HXW.out hb9; clear hown7 hgrow7 hb7))
      clear j0 j1 j2 i0 i1' i2 g0 g1 ea eb ed ee hx hz6
      go_wp2
      go_roundw
      case rel =>
        refine ⟨k + 1, q6, rows ++ [ys], by omega, by go_num, ?_, by rw [List.length_append, HRL.out]; rfl, fun r hr => ?_, ?_, HST7.out⟩
        · have := HSY.out.2.2
          have := HQN.out.1
          omega
        · rcases List.mem_append.1 hr with h | h
          · exact HRS.out r h
          · simp at h; subst h; exact ⟨HSY.out.1, HSY.out.2.1⟩
        · exact HO7.out
      case measure => simp [intOf]; omega
    · have hlt' : ¬ (k : Int) < (vars.length : Int) := by omega
      have hkn : k = vars.length := by omega
      have HKN := Lib.hid hkn
      clear hkn g0 g1 hrl
      go_wp2
      go_ret
      have hfin : ORows wr W.heap.size (.slice Au rows.length cu) rows := ⟨us, HOR.out.1, HOR.out.2.1, HOR.out.2.2.1, HOR.out.2.2.2⟩
      refine ⟨_, rows, q, rfl, hfin.base (by have := HZW.out; omega), by rw [HRL.out, HKN.out], HRS.out, HST.out.rd, by rw [← HKN.out]; exact HQ.out, gr_more HGW.out HST.out.gr⟩

theorem qb2 : Qb 2 = 21636 := by decide
theorem lb2 : Lb 2 = 7 := by decide
def DrawFitPost (w : World) (e : Ending) (w' : World) : Prop :=
  ∃ (sv : Value) (s : MSig) (vv : Value) (vars : List Int) (rv : Value) (rows : List (List Int)) (xv : Value) (srts : List Int), e = .returned (.tuple #[sv, vv, rv, xv]) ∧ OSig w' w.heap.size sv s ∧ OInts w' w.heap.size vv vars ∧ ORows w' w.heap.size rv rows ∧ OInts w' w.heap.size xv srts ∧ s.ops.length ≤ 5 ∧ vars.length ≤ 5 ∧ srts.length ≤ 5 ∧ rows.length ≤ 5 ∧ (∀ r ∈ rows, Small r ∧ r.length ≤ 7) ∧ Below w.heap.size w w'

set_option maxHeartbeats 800000 in
set_option maxRecDepth 100000 in
theorem drawTermsFit_any (v : Value) (bs : List Int) (w : World) (h : RBytes w w.heap.size v bs) :
    Calls Try.prog 17 #[v] w (DrawFitPost w) := by
  have hb0 := below_alloc w (.cells #[.int .i64 0, .slice none 0 0] 25)
  have HW := Lib.hid (bytes_alloc h hb0)
  obtain ⟨A, c, rfl, -⟩ := h
  go_enter Try.func17, Try.ntmps17
  go_wp2_with fail
  refine (open_any _ bs _ HW.out).mono ?_
  rintro e w1 ⟨rfl, hr1, hb1⟩
  have hr1' : RRd w1 (w.heap.size + 1) 0 := by simpa using hr1
  have HR1 := Lib.hid hr1'
  have HB1 := Lib.hid hb1
  clear hr1 hr1' hb1
  go_wp2_with fail
  refine (sig_any (w.heap.size + 1) 0 _ _ HR1.out (by omega) (by omega) (by omega)).mono ?_
  rintro e w2 ⟨sv, ⟨sorts, rows⟩, q, rfl, ⟨u, rfl, ho⟩, hs1, hr2, hq2, hg2⟩
  obtain ⟨Au, cu, rfl, -⟩ := ho.reads.form
  simp only at hs1 ho
  have hsz := HB1.out.size
  simp at hsz
  have hz2 : w1.heap.size ≤ w2.heap.size := hg2.size
  have hlt1 : w.heap.size + 1 < w1.heap.size := HR1.out.lt
  have hal := below_alloc w2 (.cells #[.int .i64 sorts, .slice Au rows.length cu] 25)
  have HRES := Lib.hid ((heap_alloc_old w2 (.cells #[.int .i64 sorts, .slice Au rows.length cu] 25) (by omega)).trans (gr_at hg2 (by omega) ((HB1.out.block w.heap.size (by simp)).trans (heap_alloc_new w (.cells #[.int .i64 0, .slice none 0 0] 25)))))
  have HBX := Lib.hid (heap_alloc_new w2 (.cells #[.int .i64 sorts, .slice Au rows.length cu] 25))
  have HB3 := Lib.hid (((hb0.trans (HB1.out.mono (by simp))).trans (below_of_gr' hg2 (by omega))).trans (hal.mono (by omega)))
  have HO := Lib.hid (ho.keep hal)
  have HR := Lib.hid (hr2.keep hal)
  clear ho hr2 hg2 hal
  generalize hW3 : w2.alloc (.cells #[.int .i64 sorts, .slice Au rows.length cu] 25) = w3 at HRES HBX HB3 HO HR
  have hz3 : w2.heap.size < w3.heap.size := (Array.getElem?_eq_some_iff.1 HBX.out).1
  have g0 := block_cell HBX.out 0
  have g1 := block_cell HBX.out 1
  simp at g0 g1
  have HRS := Lib.hid (show RSig w3 (.agg #[.int .i64 sorts, .slice Au rows.length cu]) ⟨sorts, rows⟩ from ⟨_, rfl, HO.out.reads⟩)
  go_wp2_with fail
  clear hW3
  refine (drawVars_any (w.heap.size + 1) q 14 ⟨sorts, rows⟩ _ w3 HR.out (by omega) (by omega) (by omega) HRS.out).mono ?_
  rintro e w4 ⟨vv, vars, q4, rfl, hov, hvl, hr4, hq4, hg4⟩
  obtain ⟨Av, cv, rfl, -⟩ := own_reads hov
  have HOV := Lib.hid hov
  have HG4 := Lib.hid hg4
  have HR4 := Lib.hid hr4
  have hz4 : w3.heap.size ≤ w4.heap.size := hg4.size
  have HO4 := Lib.hid (HO.out.grown hg4 (fun k e => by injection e with e; omega))
  clear g0 g1 hov hr4 hg4
  have g0 := block_cell (gr_at HG4.out (by omega) HBX.out) 0
  have g1 := block_cell (gr_at HG4.out (by omega) HBX.out) 1
  simp at g0 g1
  go_wp2_with fail
  refine (drawVars_any (w.heap.size + 1) q4 9 ⟨sorts, rows⟩ _ w4 HR4.out (by omega) (by omega) (by omega) ⟨_, rfl, HO4.out.reads⟩).mono ?_
  rintro e w5 ⟨xv, srts, q5, rfl, hox, hxl, hr5, hq5, hg5⟩
  obtain ⟨Ax, cx, rfl, -⟩ := own_reads hox
  have HOX := Lib.hid hox
  have HG5 := Lib.hid hg5
  have hz5 : w4.heap.size ≤ w5.heap.size := hg5.size
  have HG35 := Lib.hid (gr_more HG4.out hg5)
  have HE := Lib.hid (show ORows (w5.alloc (.cells #[] 26)) w5.heap.size (.slice (some ⟨w5.heap.size, 0, none⟩) 0 0) [] from ⟨[], World.ownsRow_lit w5 #[] 0 (Nat.le_refl _) (Nat.zero_le _) rfl, rfl, fun j u row h => by simp at h, fun i j u u' _ h => by simp at h⟩)
  have HR6 := Lib.hid (hr5.keep (below_alloc w5 (.cells #[] 26)))
  have HG6 := Lib.hid (gr_alloc (gr_refl w5 (w.heap.size + 1)) (.cells #[] 26))
  clear g0 g1 hox hr5 hg5
  generalize hW6 : w5.alloc (.cells #[] 26) = w6 at HE HR6 HG6
  have HG36 := Lib.hid (gr_more HG35.out HG6.out)
  have g0 := block_cell (gr_at HG36.out (by omega) HBX.out) 0
  have g1 := block_cell (gr_at HG36.out (by omega) HBX.out) 1
  simp at g0 g1
  have HRS6 := Lib.hid (show RSig w6 (.agg #[.int .i64 sorts, .slice Au rows.length cu]) ⟨sorts, rows⟩ from ⟨_, rfl, (HO.out.grown HG36.out (fun k e => by injection e with e; omega)).reads⟩)
  have HRV6 := Lib.hid ((HOV.out.past (gr_more HG5.out HG6.out) (by omega)).reads)
  go_upto_if 24 with (go_at_call 10; refine (specVarsOk_any _ _ ⟨sorts, rows⟩ vars _ HRS6.out HRV6.out).mono ?_; rintro e w8 ⟨rfl, hb⟩; have HG8 := Lib.hid (gr_below HG6.out hb); have HR8 := Lib.hid (HR6.out.keep hb); have HE8 := Lib.hid (HE.out.keep hb); clear hb g0 g1 hW6)
  go_cut [10] (fun t10 wx => ∃ (rws : List (List Int)) (qx : Nat), w5.grownBy wx (some (w.heap.size + 1)) ∧ RRd wx (w.heap.size + 1) qx ∧ ORows wx w5.heap.size t10 rws ∧ rws.length ≤ 5 ∧ (∀ r ∈ rws, Small r ∧ r.length ≤ 7))
  case first =>
    cases hvb : varsB ⟨sorts, rows⟩ vars with
    | false =>
      go_wp2
      go_meet
      case rel => exact ⟨[], q5, HG8.out, HR8.out, HE8.out, by simp, fun r hr => by simp at hr⟩
    | true =>
      have hval := (vars_valid hvb).1
      have HVAL := Lib.hid hval
      have HG38 := Lib.hid (gr_more HG35.out HG8.out)
      have g0 := block_cell (gr_at HG38.out (by omega) HBX.out) 0
      have g1 := block_cell (gr_at HG38.out (by omega) HBX.out) 1
      simp at g0 g1
      clear hval
      go_wp2_with fail
      refine (drawTerms_any ⟨sorts, rows⟩ srts vars HVAL.out (by omega) (by omega) 2 (by omega) (w.heap.size + 1) q5 _ _ _ w8 HR8.out (by rw [qb2]; omega) ⟨_, rfl, (HO.out.grown HG38.out (fun k e => by injection e with e; omega)).base (by omega)⟩ ((HOX.out.past HG8.out (by omega)).base (by omega)) ((HOV.out.past (gr_more HG5.out HG8.out) (by omega)).base (by omega))).mono ?_
      rintro e w9 ⟨tv, rws, q9, rfl, hot, htl, hts, hr9, hq9, hg9⟩
      rw [lb2] at hts
      have HOT := Lib.hid (hot.base HG8.out.size)
      have HG9 := Lib.hid (gr_more HG8.out hg9)
      have HR9 := Lib.hid hr9
      have HTS := Lib.hid hts
      clear hot hts hr9 hg9 g0 g1
      go_wp2
      go_meet
      case rel => exact ⟨rws, q9, HG9.out, HR9.out, HOT.out, by omega, HTS.out⟩
  case rest =>
    obtain ⟨rws, qx, hgx, hrx, hox, hl5, hsx⟩ := hcut
    obtain ⟨wx, rfl⟩ : ∃ wx : World, wx = wc := ⟨_, rfl⟩
    obtain ⟨At, ct, rfl, -⟩ := hox.reads.form
    have HG3X := Lib.hid (gr_more HG35.out hgx)
    have hzx : w5.heap.size ≤ wx.heap.size := hgx.size
    have g0 := block_cell (gr_at HG3X.out (by omega) HBX.out) 0
    have g1 := block_cell (gr_at HG3X.out (by omega) HBX.out) 1
    have r0 := block_cell (gr_at HG3X.out (by omega) HRES.out) 0
    have r1 := block_cell (gr_at HG3X.out (by omega) HRES.out) 1
    simp at g0 g1 r0 r1
    have r2 := block_free (gr_at HG3X.out (by omega) HRES.out) 0
    have r3 := block_free (gr_at HG3X.out (by omega) HRES.out) 1
    have D := Lib.hid (fin_sig (sorts := sorts) (gr_at HG3X.out (by omega) HRES.out) (HO.out.grown HG3X.out (fun k e => by injection e with e; omega)) (by omega) (HB3.out.trans (below_of_gr' HG3X.out (by omega))))
    have HVX := Lib.hid (HOV.out.past (gr_more HG5.out hgx) (by omega))
    have HXX := Lib.hid (HOX.out.past hgx (by omega))
    have HTX := Lib.hid hox
    have HSX := Lib.hid hsx
    clear hgx hrx hox hsx
    go_wp2
    obtain ⟨d1, d2, d3, d4, d5⟩ := D.out
    have HV9 := Lib.hid (d4 _ _ _ (by show w.heap.size < w3.heap.size; omega) HVX.out)
    have HX9 := Lib.hid (d4 _ _ _ (by show w.heap.size < w4.heap.size; omega) HXX.out)
    have HT9 := Lib.hid (d5 _ _ _ (by show w.heap.size < w5.heap.size; omega) HTX.out)
    clear d4 d5 D
    generalize (wx.setCell ⟨w.heap.size, 0, none⟩ (.int .i64 sorts)).setCell ⟨w.heap.size, 1, none⟩ (.slice Au rows.length cu) = w9 at d1 d2 d3 HV9 HX9 HT9 ⊢
    have k0 := block_cell d1 0
    have k1 := block_cell d1 1
    simp at k0 k1
    clear g0 g1 r0 r1 r2 r3
    refine bodyPost_ret (v := .tuple #[.agg #[.int .i64 sorts, .slice Au rows.length cu], .slice Av vars.length cv, .slice At rws.length ct, .slice Ax srts.length cx]) (by simp [results, Try.results17, go_sem, k0, k1]) rfl ?_
    exact ⟨_, ⟨sorts, rows⟩, _, vars, _, rws, _, srts, rfl, d2, HV9.out, HT9.out, HX9.out, hs1, hvl, hxl, hl5, HSX.out, d3⟩
end Go.Proofs.Ytcbjfedhebeogab
