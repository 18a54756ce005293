/- FnExactSigSum answers true at every two signatures. No condition. -/
import Derived.Test.YtmafipngpbmgdabExBase
import Derived.Test.YtmafipngpbmgdabSum3
import Derived.Test.YtmafipngpbmgdabCut
import Derived.Deep.DeepCutAuto
import Derived.Deep.RegionHeld3
namespace Go.Proofs.Ytmafipngpbmgdab
open Go.ChangeShapes Go.WideShapes Go.ChangeAt Go.RowKit
set_option linter.unusedVariables false

theorem sum_small (a b : MSig) : (sumM a b).ops.length ≤ 1048576 ∧ ∀ row ∈ (sumM a b).ops, row.length ≤ 1048576 := by
  unfold sumM
  split
  · rename_i h
    unfold sumOk at h
    simp only [Bool.and_eq_true] at h
    have hs := (valid_sorts h.2).2.2
    refine ⟨by omega, fun row hr => ?_⟩
    obtain ⟨i, hi, rfl⟩ := List.getElem_of_mem hr
    have := valid_row h.2 hi
    omega
  · exact ⟨by simp, by simp⟩

/-- a signature in a box at b, all of it in wi -/
structure BoxAt (wi : World) (b : Nat) (k : Int) (A : Option Addr) (n c : Nat) (s : MSig) : Prop where
  c0 : wi.cell? ⟨b, 0, none⟩ = some (.int .i64 k)
  c1 : wi.cell? ⟨b, 1, none⟩ = some (.slice A n c)
  rd : RSig wi (.agg #[.int .i64 k, .slice A n c]) s
theorem BoxAt.keep {wi wj : World} {b n c : Nat} {k : Int} {A : Option Addr} {s : MSig} (h : BoxAt wi b k A n c s) (hb : Below wi.heap.size wi wj) : BoxAt wj b k A n c s := ⟨cell_keep hb h.c0, cell_keep hb h.c1, h.rd.keep hb⟩
theorem BoxAt.start (w : World) {k : Int} {A : Option Addr} {n c : Nat} {s : MSig} (t : TypeId) (h : RSig w (.agg #[.int .i64 k, .slice A n c]) s) : BoxAt (w.alloc (.cells #[.int .i64 k, .slice A n c] t)) w.heap.size k A n c s :=
  ⟨(bx_cells w _ _ _).1, (bx_cells w _ _ _).2, h.keep (below_alloc w _)⟩

/-- what the law keeps while marks are made: W3: with what is wanted; W9: with the result's box; from B7 on the result -/
structure XG (W3 W9 : World) (B7 : Nat) (wi : World) : Prop where
  b3 : Below W3.heap.size W3 wi
  kg : Keeps B7 W9 wi
  sz : W9.heap.size ≤ wi.heap.size
theorem XG.below {W3 W9 wi wj : World} {B7 : Nat} (h : XG W3 W9 B7 wi) (hb : Below wi.heap.size wi wj) : XG W3 W9 B7 wj :=
  ⟨h.b3.trans (hb.mono h.b3.size), h.kg.below h.sz hb, Nat.le_trans h.sz hb.size⟩
theorem XG.outside {W3 W9 wi wj : World} {B7 B M : Nat} {o : Obj} (h : XG W3 W9 B7 wi) (ho : Outside B M (wi.alloc o) wj) (hB : W3.heap.size ≤ B) (hM : M ≤ B7) : XG W3 W9 B7 wj := by
  have h2 := h.below (below_alloc wi o)
  exact ⟨h2.b3.trans (ho.below.mono hB), h2.kg.outside ho hM, by rw [ho.size]; exact h2.sz⟩
theorem XG.raise {W3 W9 wi : World} {B7 B8 : Nat} (h : XG W3 W9 B7 wi) (hB : B7 ≤ B8) : XG W3 W9 B8 wi := ⟨h.b3, fun k h1 h2 => h.kg k (by omega) h2, h.sz⟩
/-- the owned signature of w8, of which W9 keeps all, sa it lies at the cut of a later world -/
theorem own_cut {w8 W9 wi : World} {B M : Nat} {v : Value} {s : MSig} (h : OSig w8 B v s) (h9 : Below w8.heap.size w8 W9) (hk : Keeps B W9 wi) (hM : M = w8.heap.size) : OSig (cutTo wi M) B v s :=
  h.same (fun k h1 h2 => (cut_block (by omega)).trans ((hk k h1 (Nat.lt_of_lt_of_le h2 h9.size)).trans (h9.block k h2)))
theorem own_kept {w8 W9 wi : World} {B : Nat} {v : Value} {s : MSig} (h : OSig w8 B v s) (h9 : Below w8.heap.size w8 W9) (hk : Keeps B W9 wi) : OSig wi B v s :=
  h.same (fun k h1 h2 => (hk k h1 (Nat.lt_of_lt_of_le h2 h9.size)).trans (h9.block k h2))

theorem BoxAt.stored {w3 : World} {bx B n c : Nat} {k : Int} {A : Option Addr} {rows : List (List Int)} (hz : w3.heap[bx]? = some (.cells #[.int .i64 0, .slice none 0 0] 27 (0, 0))) (ho : ORows w3 B (.slice A n c) rows) :
    BoxAt ((w3.setCell ⟨bx, 0, none⟩ (.int .i64 k)).setCell ⟨bx, 1, none⟩ (.slice A n c)) bx k A n c ⟨k, rows⟩ := by
  have h1 := blk_set hz 0 (.int .i64 k)
  have h2 := blk_set h1 1 (.slice A n c)
  exact ⟨blk_cell h2 0, blk_cell h2 1, ⟨_, rfl, ((ho.setBox hz).setBox h1).reads⟩⟩
theorem specSum_at {ms : Int} {mo : List (List Int)} {ok : Bool} (va vb : Value) (a b : MSig) (w : World) (hM : (⟨ms, mo⟩ : MSig) = sumM a b) (hok : ok = sumOk a b) (ha : RSig w va a) (hb : RSig w vb b) :
    Calls Try.prog 21 #[va, vb] w fun e w' => ∃ A c, e = .returned (.tuple #[.agg #[.int .i64 ms, .slice A mo.length c], .bool ok]) ∧ ORows w' w.heap.size (.slice A mo.length c) mo ∧ Below w.heap.size w w' := by
  refine (specSigSum_any va vb a b w ha hb).mono ?_
  unfold SumPost
  rw [← hM, ← hok]
  rintro e w3 ⟨u3, rfl, ⟨x3, rfl, ho3⟩, hb3⟩
  simp only at ho3
  obtain ⟨A3, c3, rfl, -⟩ := ho3.reads.form
  exact ⟨A3, c3, rfl, ho3, hb3⟩
theorem sum_at {ms : Int} {mo : List (List Int)} {ok : Bool} (va vb : Value) (a b : MSig) (w : World) (hM : (⟨ms, mo⟩ : MSig) = sumM a b) (hok : ok = sumOk a b) (ha : RSig w va a) (hb : RSig w vb b) :
    Calls Try.prog 22 #[va, vb] w fun e w' => ∃ A c, e = .returned (.tuple #[.agg #[.int .i64 ms, .slice A mo.length c], .bool ok]) ∧ ORows w' w.heap.size (.slice A mo.length c) mo ∧ Below w.heap.size w w' := by
  refine (sigSum_any va vb a b w ha hb).mono ?_
  unfold SumPost
  rw [← hM, ← hok]
  rintro e w3 ⟨u3, rfl, ⟨x3, rfl, ho3⟩, hb3⟩
  simp only at ho3
  obtain ⟨A3, c3, rfl, -⟩ := ho3.reads.form
  exact ⟨A3, c3, rfl, ho3, hb3⟩
theorem laid_keep {wc wd : World} {bx : Nat} {o : Obj} (hz : wc.heap[bx]? = some o) (hb : Below wc.heap.size wc wd) : wd.heap[bx]? = some o := (hb.block _ (Array.getElem?_eq_some_iff.1 hz).1).trans hz

set_option maxHeartbeats 3200000 in
set_option maxRecDepth 100000 in
theorem walk_FnExactSigSum (va : Value) (a : MSig) (vb : Value) (b : MSig) (w : World) (h : RSig w va a) (h' : RSig w vb b) :
    Calls Try.prog 6 #[va, vb] w fun e w' => e = .returned (.bool true) ∧ Below w.heap.size w w' := by
  obtain ⟨ua, rfl, hra⟩ := h
  obtain ⟨ub, rfl, hrb⟩ := h'
  obtain ⟨sa, ao⟩ := a
  obtain ⟨sb, bo⟩ := b
  simp only at hra hrb
  obtain ⟨Aa, ca, rfl, -⟩ := hra.form
  obtain ⟨Ab, cb, rfl, -⟩ := hrb.form
  have hal := below_alloc w (.cells #[.int .i64 sa, .slice Aa ao.length ca] 24)
  have hal2 := below_alloc (w.alloc (.cells #[.int .i64 sa, .slice Aa ao.length ca] 24)) (.cells #[.int .i64 sb, .slice Ab bo.length cb] 24)
  have BA := Lib.hid ((BoxAt.start w 24 (s := ⟨sa, ao⟩) ⟨_, rfl, hra⟩).keep hal2)
  have bb := BoxAt.start (w.alloc (.cells #[.int .i64 sa, .slice Aa ao.length ca] 24)) 24 (s := ⟨sb, bo⟩) ⟨_, rfl, hrb.keep hal⟩
  rw [show (w.alloc (.cells #[.int .i64 sa, .slice Aa ao.length ca] 24)).heap.size = w.heap.size + 1 by simp] at bb
  have BB := Lib.hid bb
  have HB0 := Lib.hid (hal.trans (hal2.mono hal.size))
  clear hal hal2 bb hra hrb
  generalize hW0 : (w.alloc (.cells #[.int .i64 sa, .slice Aa ao.length ca] 24)).alloc (.cells #[.int .i64 sb, .slice Ab bo.length cb] 24) = W0 at BA BB HB0
  have f0 := BA.out.c0
  have f1 := BA.out.c1
  go_enter Try.func6, Try.ntmps6
  go_wp2_with fail
  clear hW0
  refine (szSig_any _ ⟨sa, ao⟩ _ _ BA.out.rd (by omega) (by omega)).mono ?_
  rintro e w1 ⟨r, rfl, hr, hb1⟩
  have HB1 := Lib.hid (HB0.out.trans (hb1.mono HB0.out.size))
  have BA1 := Lib.hid (BA.out.keep hb1)
  have BB1 := Lib.hid (BB.out.keep hb1)
  clear hb1 f0 f1 HB0 BA BB
  by_cases hneg : r < 0
  · clear hr
    go_wp2
    go_ret
    exact ⟨rfl, HB1.out⟩
  obtain ⟨hr0, hr1, hfit⟩ := hr.resolve_left hneg
  simp only at hfit
  have HFA := Lib.hid hfit
  clear hr hfit
  have f0 := BB1.out.c0
  have f1 := BB1.out.c1
  go_wp2_with fail
  refine (szSig_any _ ⟨sb, bo⟩ _ _ BB1.out.rd hr0 (by omega)).mono ?_
  rintro e w2 ⟨r2, rfl, hr, hb2⟩
  have HB2 := Lib.hid (HB1.out.trans (hb2.mono HB1.out.size))
  have BA2 := Lib.hid (BA1.out.keep hb2)
  have BB2 := Lib.hid (BB1.out.keep hb2)
  clear hb2 f0 f1 HB1 BA1 BB1
  by_cases hneg2 : r2 < 0
  · clear hr
    go_wp2
    go_ret
    exact ⟨rfl, HB2.out⟩
  obtain ⟨-, -, hfit⟩ := hr.resolve_left hneg2
  simp only at hfit
  have HFB := Lib.hid hfit
  clear hr hfit
  have HSM := Lib.hid (sum_small ⟨sa, ao⟩ ⟨sb, bo⟩)
  obtain ⟨M, hM⟩ : ∃ M, M = sumM ⟨sa, ao⟩ ⟨sb, bo⟩ := ⟨_, rfl⟩
  obtain ⟨ok, hok⟩ : ∃ ok, ok = sumOk ⟨sa, ao⟩ ⟨sb, bo⟩ := ⟨_, rfl⟩
  rw [← hM] at HSM
  obtain ⟨ms, mo⟩ := M
  have HM := Lib.hid hM
  have HOK := Lib.hid hok
  clear hM hok
  have hne : (ok != ok) = false := by cases ok <;> rfl
  have f0 := BA2.out.c0
  have f1 := BA2.out.c1
  have f2 := BB2.out.c0
  have f3 := BB2.out.c1
  go_wp2_with fail
  have ea := World.new_ne w2 _ f0
  have eb := World.new_ne w2 _ f2
  have HXB := Lib.hid (below_alloc w2 (.cells #[.int .i64 0, .slice none 0 0] 27))
  have HXZ := Lib.hid (heap_alloc_new w2 (.cells #[.int .i64 0, .slice none 0 0] 27))
  generalize hWX : w2.alloc (.cells #[.int .i64 0, .slice none 0 0] 27) = WX at HXB HXZ
  have x0 := cell_keep HXB.out f0
  have x1 := cell_keep HXB.out f1
  have x2 := cell_keep HXB.out f2
  have x3 := cell_keep HXB.out f3
  go_cut [6, 7] (fun s6 s7 wx => ∃ (b6 : Nat) (A3 : Option Addr) (c3 : Nat), s6 = .pointer (some ⟨b6, 0, none⟩) ∧ s7 = .bool ok ∧ BoxAt wx b6 ms A3 mo.length c3 ⟨ms, mo⟩ ∧ Below w2.heap.size w2 wx)
  case first =>
    go_region_held3 (fun w' => w'.cell? ⟨w.heap.size, 0, none⟩ = some (.int .i64 sa) ∧ w'.cell? ⟨w.heap.size, 1, none⟩ = some (.slice Aa ao.length ca) ∧ w'.cell? ⟨w.heap.size + 1, 0, none⟩ = some (.int .i64 sb) ∧ w'.cell? ⟨w.heap.size + 1, 1, none⟩ = some (.slice Ab bo.length cb))
      (first | go_keep)
      (first
        | (go_at_call_of 10 (Value.int .i64 sa); refine (toSig_any _ ⟨sa, ao⟩ w2.drew BA2.out.rd HFA.out).mono ?_; rintro e wa ⟨ua, rfl, hoa, hba⟩; have HOA := Lib.hid hoa.reads; have HBA := Lib.hid (show Below w2.heap.size w2 wa from below_undrew hba); clear hoa hba; have a0 := cell_keep HBA.out f0; have a1 := cell_keep HBA.out f1; have a2 := cell_keep HBA.out f2; have a3 := cell_keep HBA.out f3; have ney0 := World.new_ne wa _ a0; have ney1 := World.new_ne wa _ a2; obtain ⟨WA, hWA⟩ : ∃ W', wa.alloc (.cells #[.int .i64 0, .slice none 0 0] 27) = W' := ⟨_, rfl⟩; have HBWA := Lib.hid (show Below wa.heap.size wa WA from by rw [← hWA]; exact below_alloc wa _); have HZWA := Lib.hid (show WA.heap[wa.heap.size]? = some (.cells #[.int .i64 0, .slice none 0 0] 27) from by rw [← hWA]; exact heap_alloc_new wa _); have y0 := cell_keep HBWA.out a0; have y1 := cell_keep HBWA.out a1; have y2 := cell_keep HBWA.out a2; have y3 := cell_keep HBWA.out a3)
        | (go_at_call_of 10 (Value.int .i64 sa); refine (toSig_any _ ⟨sa, ao⟩ WX.drew (show RSig WX _ _ from BA2.out.rd.keep HXB.out) HFA.out).mono ?_; rintro e wa ⟨ua, rfl, hoa, hba⟩; have HOA := Lib.hid hoa.reads; have HBXA := Lib.hid (show Below WX.heap.size WX wa from below_undrew hba); clear hoa hba; have HBA := Lib.hid (HXB.out.trans (HBXA.out.mono HXB.out.size)); have HZ1 := Lib.hid (laid_keep HXZ.out HBXA.out); have a0 := cell_keep HBXA.out x0; have a1 := cell_keep HBXA.out x1; have a2 := cell_keep HBXA.out x2; have a3 := cell_keep HBXA.out x3)
        | (go_at_call_of 10 (Value.int .i64 sb); refine (toSig_any _ ⟨sb, bo⟩ wa (BB2.out.rd.keep HBA.out) HFB.out).mono ?_; rintro e wb ⟨ub, rfl, hob, hbb⟩; have HOB := Lib.hid hob.reads; have HBB := Lib.hid hbb; have HOA2 := Lib.hid (HOA.out.keep hbb); clear hob hbb; (try have HZ2 := Lib.hid (laid_keep HZ1.out HBB.out)); have b0 := cell_keep HBB.out a0; have b1 := cell_keep HBB.out a1; have b2 := cell_keep HBB.out a2; have b3 := cell_keep HBB.out a3; have nez0 := World.new_ne wb _ b0; have nez1 := World.new_ne wb _ b2; obtain ⟨WB, hWB⟩ : ∃ W', wb.alloc (.cells #[.int .i64 0, .slice none 0 0] 27) = W' := ⟨_, rfl⟩; have HBWB := Lib.hid (show Below wb.heap.size wb WB from by rw [← hWB]; exact below_alloc wb _); have HZWB := Lib.hid (show WB.heap[wb.heap.size]? = some (.cells #[.int .i64 0, .slice none 0 0] 27) from by rw [← hWB]; exact heap_alloc_new wb _); have z0 := cell_keep HBWB.out b0; have z1 := cell_keep HBWB.out b1; have z2 := cell_keep HBWB.out b2; have z3 := cell_keep HBWB.out b3)
        | (go_at_call_of 10 (Value.int .i64 sb); refine (toSig_any _ ⟨sb, bo⟩ WA (BB2.out.rd.keep (HBA.out.trans (HBWA.out.mono HBA.out.size))) HFB.out).mono ?_; rintro e wb ⟨ub, rfl, hob, hbb⟩; have HOB := Lib.hid hob.reads; have HBB := Lib.hid (HBWA.out.trans (hbb.mono HBWA.out.size)); have HOA2 := Lib.hid (HOA.out.keep HBB.out); have HZ2 := Lib.hid (laid_keep HZWA.out hbb); clear hob hbb; have b0 := cell_keep HBB.out a0; have b1 := cell_keep HBB.out a1; have b2 := cell_keep HBB.out a2; have b3 := cell_keep HBB.out a3)
        | (go_at_call 21; refine (specSum_at _ _ ⟨sa, ao⟩ ⟨sb, bo⟩ wb HM.out HOK.out HOA2.out HOB.out).mono ?_; rintro e w3 ⟨A3, c3, rfl, ho3, hb3⟩; have HO3 := Lib.hid ho3; have HB3' := Lib.hid (HBA.out.trans ((HBB.out.trans (hb3.mono HBB.out.size)).mono HBA.out.size)); (try have HZ3 := Lib.hid (laid_keep HZ2.out hb3)); have c0 := cell_keep hb3 b0; have c1 := cell_keep hb3 b1; have c2 := cell_keep hb3 b2; have c3 := cell_keep hb3 b3; (try have e0 := blk_cell HZ3.out 0); (try have e1 := blk_cell HZ3.out 1); (try have e2 := blk_free HZ3.out 0); (try have e3 := blk_free HZ3.out 1); (try simp at e0 e1); have nl0 := World.new_ne w3 _ c0; have nl1 := World.new_ne w3 _ c2; clear ho3 hb3)
        | (go_at_call 21; refine (specSum_at _ _ ⟨sa, ao⟩ ⟨sb, bo⟩ WB HM.out HOK.out (HOA2.out.keep HBWB.out) (HOB.out.keep HBWB.out)).mono ?_; rintro e w3 ⟨A3, c3, rfl, ho3, hb3⟩; have HO3 := Lib.hid ho3; have hb4 := HBWB.out.trans (hb3.mono HBWB.out.size); have HB3' := Lib.hid (HBA.out.trans ((HBB.out.trans (hb4.mono HBB.out.size)).mono HBA.out.size)); have HZ3 := Lib.hid (laid_keep HZWB.out hb3); have c0 := cell_keep hb3 z0; have c1 := cell_keep hb3 z1; have c2 := cell_keep hb3 z2; have c3 := cell_keep hb3 z3; (try have e0 := blk_cell HZ3.out 0); (try have e1 := blk_cell HZ3.out 1); (try have e2 := blk_free HZ3.out 0); (try have e3 := blk_free HZ3.out 1); (try simp at e0 e1); clear ho3 hb3 hb4))
    all_goals
      go_wp2_with fail
      go_meet
      have t1 := HBA.out.size
      have t2 := HBB.out.size
      first
        | exact ⟨_, _, _, rfl, rfl, BoxAt.start w3 _ ⟨_, rfl, HO3.out.reads⟩, HB3'.out.trans ((below_alloc w3 _).mono HB3'.out.size)⟩
        | exact ⟨_, _, _, rfl, rfl, BoxAt.stored HZ3.out HO3.out, (HB3'.out.setCell (by first | exact Nat.le_refl _ | exact t1 | exact Nat.le_trans t1 t2) _).setCell (by first | exact Nat.le_refl _ | exact t1 | exact Nat.le_trans t1 t2) _⟩
  case rest =>
  obtain ⟨bw, A3, c3, rfl, rfl, hbw, hb3'⟩ := hcut
  obtain ⟨W3, hW3⟩ : ∃ W', W' = wc := ⟨_, rfl⟩
  subst hW3
  have BW3 := Lib.hid hbw
  have BA3 := Lib.hid (BA2.out.keep hb3')
  have BB3 := Lib.hid (BB2.out.keep hb3')
  have HB3 := Lib.hid (HB2.out.trans (hb3'.mono HB2.out.size))
  clear hbw hb3' f0 f1 f2 f3 ea eb HXB HXZ hWX x0 x1 x2 x3 BA2 BB2 HB2
  have f0 := BA3.out.c0
  have f1 := BA3.out.c1
  go_wp2_with fail
  refine (toSig_any _ ⟨sa, ao⟩ _ BA3.out.rd HFA.out).mono ?_
  rintro e w4 ⟨u4, rfl, ho4', hb4⟩
  have ho4 := ho4'
  obtain ⟨x4, rfl, ho4⟩ := ho4
  simp only at ho4
  obtain ⟨A4, c4, rfl, -⟩ := ho4.reads.form
  have hal := below_alloc w4 (.cells #[.int .i64 sa, .slice A4 ao.length c4] 27)
  have OX := Lib.hid ho4'
  have BX := Lib.hid (BoxAt.start w4 27 (s := ⟨sa, ao⟩) ⟨_, rfl, ho4.reads⟩)
  have hb5 := hb4.trans (hal.mono hb4.size)
  have HB35 := Lib.hid hb5
  have HA5 := Lib.hid hal
  have z4 := hb4.size
  have z5 : (w4.alloc (.cells #[.int .i64 sa, .slice A4 ao.length c4] 27)).heap.size = w4.heap.size + 1 := by simp
  clear hal hb4 hb5 ho4 ho4' f0 f1
  generalize hW5 : w4.alloc (.cells #[.int .i64 sa, .slice A4 ao.length c4] 27) = W5 at BX HB35 HA5 z5
  have f0 := cell_keep HB35.out BB3.out.c0
  have f1 := cell_keep HB35.out BB3.out.c1
  go_wp2_with fail
  clear hW5
  refine (toSig_any _ ⟨sb, bo⟩ _ (BB3.out.rd.keep HB35.out) HFB.out).mono ?_
  rintro e w6 ⟨u6, rfl, ho6', hb6⟩
  have ho6 := ho6'
  obtain ⟨x6, rfl, ho6⟩ := ho6
  simp only at ho6
  obtain ⟨A6, c6, rfl, -⟩ := ho6.reads.form
  have hal := below_alloc w6 (.cells #[.int .i64 sb, .slice A6 bo.length c6] 27)
  have OY := Lib.hid ho6'
  have BY := Lib.hid (BoxAt.start w6 27 (s := ⟨sb, bo⟩) ⟨_, rfl, ho6.reads⟩)
  have hb7 := hb6.trans (hal.mono hb6.size)
  have HB57 := Lib.hid hb7
  have HA7 := Lib.hid hal
  have z6 := hb6.size
  have z7 : (w6.alloc (.cells #[.int .i64 sb, .slice A6 bo.length c6] 27)).heap.size = w6.heap.size + 1 := by simp
  clear hal hb6 hb7 ho6 ho6' f0 f1
  generalize hW7 : w6.alloc (.cells #[.int .i64 sb, .slice A6 bo.length c6] 27) = W7 at BY HB57 HA7 z7
  have BX7 := Lib.hid (BX.out.keep HB57.out)
  have f0 := BX7.out.c0
  have f1 := BX7.out.c1
  have f2 := BY.out.c0
  have f3 := BY.out.c1
  go_wp2_with fail
  clear hW7
  refine (sum_at _ _ ⟨sa, ao⟩ ⟨sb, bo⟩ _ HM.out HOK.out BX7.out.rd BY.out.rd).mono ?_
  rintro e w8 ⟨A8, c8, rfl, ho8, hb8⟩
  have hal := below_alloc w8 (.cells #[.int .i64 ms, .slice A8 mo.length c8] 27)
  have OG := Lib.hid (show OSig w8 W7.heap.size (.agg #[.int .i64 ms, .slice A8 mo.length c8]) ⟨ms, mo⟩ from ⟨_, rfl, ho8⟩)
  have BG := Lib.hid (BoxAt.start w8 27 (s := ⟨ms, mo⟩) ⟨_, rfl, ho8.reads⟩)
  have hb9 := hb8.trans (hal.mono hb8.size)
  have HB79 := Lib.hid hb9
  have HA9 := Lib.hid hal
  have z8 := hb8.size
  have z9 : (w8.alloc (.cells #[.int .i64 ms, .slice A8 mo.length c8] 27)).heap.size = w8.heap.size + 1 := by simp
  clear hal hb8 hb9 ho8 f0 f1 f2 f3
  generalize hW9 : w8.alloc (.cells #[.int .i64 ms, .slice A8 mo.length c8] 27) = W9 at BG HB79 HA9 z9
  have HB39 := Lib.hid (HB35.out.trans ((HB57.out.trans (HB79.out.mono HB57.out.size)).mono HB35.out.size))
  have BW9 := Lib.hid (BW3.out.keep HB39.out)
  have f0 := BG.out.c0
  have f1 := BG.out.c1
  have f2 := BW9.out.c0
  have f3 := BW9.out.c1
  go_wp2_with fail
  clear hW9
  refine (eqSig_is _ _ ⟨ms, mo⟩ ⟨ms, mo⟩ _ true (sameS_self _) BG.out.rd BW9.out.rd).mono ?_
  rintro e w10 ⟨rfl, hb10⟩
  have HB910 := Lib.hid hb10
  have BX10 := Lib.hid ((BX7.out.keep HB79.out).keep hb10)
  have BY10 := Lib.hid ((BY.out.keep HB79.out).keep hb10)
  have BA10 := Lib.hid ((BA3.out.keep HB39.out).keep hb10)
  have BB10 := Lib.hid ((BB3.out.keep HB39.out).keep hb10)
  clear hb10 f0 f1 f2 f3
  have m0 := BA10.out.c0
  have m1 := BA10.out.c1
  have n0 := BX10.out.c0
  have n1 := BX10.out.c1
  go_wp2_with fail
  have ea := World.new_ne w10 _ m0
  have eb := World.new_ne w10 _ n0
  go_region_held3 (fun w' => w'.cell? ⟨w.heap.size, 0, none⟩ = some (.int .i64 sa) ∧ w'.cell? ⟨w.heap.size, 1, none⟩ = some (.slice Aa ao.length ca) ∧ w'.cell? ⟨w4.heap.size, 0, none⟩ = some (.int .i64 sa) ∧ w'.cell? ⟨w4.heap.size, 1, none⟩ = some (.slice A4 ao.length c4))
    (first | go_keep)
    (first
      | (go_at_call 10; refine (toSig_any _ ⟨sa, ao⟩ w10.drew BA10.out.rd HFA.out).mono ?_; rintro e w11 ⟨u11, rfl, ho11, hb11⟩; have HO11 := Lib.hid ho11; have HB11 := Lib.hid (show Below w10.heap.size w10 w11 from below_undrew hb11); have o0 := cell_keep HB11.out m0; have o1 := cell_keep HB11.out m1; have p0 := cell_keep HB11.out n0; have p1 := cell_keep HB11.out n1; clear ho11 hb11)
      | (go_at_call 12; refine (eqSig_is _ _ ⟨sa, ao⟩ ⟨sa, ao⟩ _ true (sameS_self _) (BX10.out.rd.keep HB11.out) HO11.out.reads).mono ?_; rintro e w12 ⟨rfl, hb12⟩; have HB12 := Lib.hid (HB11.out.trans (hb12.mono HB11.out.size)); have q0 := cell_keep hb12 o0; have q1 := cell_keep hb12 o1; have r0 := cell_keep hb12 p0; have r1 := cell_keep hb12 p1; clear hb12))
  clear m0 m1 n0 n1 ea eb o0 o1 p0 p1 q0 q1 r0 r1 HB11 HO11 BX10 BA10
  have BY12 := Lib.hid (BY10.out.keep HB12.out)
  have BB12 := Lib.hid (BB10.out.keep HB12.out)
  have HB912 := Lib.hid (HB910.out.trans (HB12.out.mono HB910.out.size))
  clear HB12 BY10 BB10 HB910
  have m0 := BB12.out.c0
  have m1 := BB12.out.c1
  have n0 := BY12.out.c0
  have n1 := BY12.out.c1
  go_wp2_with fail
  have ea := World.new_ne w12 _ m0
  have eb := World.new_ne w12 _ n0
  go_region_held3 (fun w' => w'.cell? ⟨w.heap.size + 1, 0, none⟩ = some (.int .i64 sb) ∧ w'.cell? ⟨w.heap.size + 1, 1, none⟩ = some (.slice Ab bo.length cb) ∧ w'.cell? ⟨w6.heap.size, 0, none⟩ = some (.int .i64 sb) ∧ w'.cell? ⟨w6.heap.size, 1, none⟩ = some (.slice A6 bo.length c6))
    (first | go_keep)
    (first
      | (go_at_call 10; refine (toSig_any _ ⟨sb, bo⟩ w12.drew BB12.out.rd HFB.out).mono ?_; rintro e w13 ⟨u13, rfl, ho13, hb13⟩; have HO13 := Lib.hid ho13; have HB13 := Lib.hid (show Below w12.heap.size w12 w13 from below_undrew hb13); have o0 := cell_keep HB13.out m0; have o1 := cell_keep HB13.out m1; have p0 := cell_keep HB13.out n0; have p1 := cell_keep HB13.out n1; clear ho13 hb13)
      | (go_at_call 12; refine (eqSig_is _ _ ⟨sb, bo⟩ ⟨sb, bo⟩ _ true (sameS_self _) (BY12.out.rd.keep HB13.out) HO13.out.reads).mono ?_; rintro e w14 ⟨rfl, hb14⟩; have HB14 := Lib.hid (HB13.out.trans (hb14.mono HB13.out.size)); have q0 := cell_keep hb14 o0; have q1 := cell_keep hb14 o1; have r0 := cell_keep hb14 p0; have r1 := cell_keep hb14 p1; clear hb14))
  clear m0 m1 n0 n1 ea eb o0 o1 p0 p1 q0 q1 r0 r1 HB13 HO13 BY12 BB12
  have HB914 := Lib.hid (HB912.out.trans (HB14.out.mono HB912.out.size))
  clear HB14 HB912
  -- the marks
  have z14 := HB914.out.size
  have XG0 := Lib.hid (show XG W3 W9 W7.heap.size w14 from ⟨HB39.out.trans (HB914.out.mono HB39.out.size), (Keeps.refl _ _).below (Nat.le_refl _) HB914.out, z14⟩)
  have HB714 := Lib.hid (HB79.out.trans (HB914.out.mono HB79.out.size))
  have HB514 := Lib.hid (HB57.out.trans (HB714.out.mono HB57.out.size))
  have n0 := cell_keep HB514.out BX.out.c0
  have n1 := cell_keep HB514.out BX.out.c1
  have HX4 := Lib.hid (HA5.out.trans (HB514.out.mono HA5.out.size))
  go_wp2_with fail
  refine (markSigp_any _ W3.heap.size ⟨sa, ao⟩ 1 w4 _ OX.out HX4.out HFA.out.1 HFA.out.2 (by omega) (by omega)).mono ?_
  rintro e w15 ⟨rfl, -, ob, hout⟩
  have XG1 := Lib.hid (XG0.out.outside hout (Nat.le_refl _) (by omega))
  have KY := Lib.hid ((((Keeps.refl W5.heap.size W7).below (Nat.le_refl _) HB714.out).below HB714.out.size (below_alloc w14 ob)).outside hout (by omega))
  have z15 := hout.size
  simp at z15
  have n2 := KY.out.cell (by omega) BY.out.c0
  have n3 := KY.out.cell (by omega) BY.out.c1
  have htA : (0 : Int) ≤ (tot ao : Int) := by omega
  have htA2 : (tot ao : Int) ≤ 1048576 * 1048576 := by have := tot_le (rows := ao) HFA.out.2; have := HFA.out.1; omega
  have OYc := Lib.hid (own_cut OY.out HA7.out KY.out rfl)
  clear hout n0 n1 HX4 XG0 HB714 HB514
  go_wp2_with fail
  refine (markSigp_any _ W5.heap.size ⟨sb, bo⟩ _ (cutTo w15 w6.heap.size) _ OYc.out (cut_below (by omega)) HFB.out.1 HFB.out.2 (by omega) (by omega)).mono ?_
  rintro e w16 ⟨rfl, -, ob, hout⟩
  rw [cut_size (by omega)] at hout
  have XG2 := Lib.hid (XG1.out.outside hout (by omega) (by omega))
  have z16 := hout.size
  simp at z16
  have htB : (0 : Int) ≤ (tot bo : Int) := by omega
  have htB2 : (tot bo : Int) ≤ 1048576 * 1048576 := by have := tot_le (rows := bo) HFB.out.2; have := HFB.out.1; omega
  obtain ⟨kk, hkk⟩ : ∃ kk, kk = (1 : Int) + (tot ao : Int) + (tot bo : Int) := ⟨_, rfl⟩
  simp only
  rw [← hkk]
  have hk0 : 0 ≤ kk := by omega
  clear hkk hout n2 n3 XG1 KY OYc htA htA2 htB htB2
  have OG2 := Lib.hid (own_kept OG.out HA9.out XG2.out.kg)
  have p0 := XG2.out.kg.cell (by omega) BG.out.c0
  have p1 := XG2.out.kg.cell (by omega) BG.out.c1
  have p2 := cell_keep XG2.out.b3 BW3.out.c0
  have p3 := cell_keep XG2.out.b3 BW3.out.c1
  go_wp2_with fail
  refine (eqSig_is _ _ ⟨ms, mo⟩ ⟨ms, mo⟩ _ true (sameS_self _) OG2.out.reads (BW3.out.rd.keep XG2.out.b3)).mono ?_
  rintro e w17 ⟨rfl, hb17⟩
  have XG3 := Lib.hid (XG2.out.below hb17)
  have z17 := XG3.out.sz
  have OGc := Lib.hid (own_cut OG.out HA9.out XG3.out.kg rfl)
  clear p0 p1 p2 p3 hb17 XG2 OG2
  have p0 := XG3.out.kg.cell (by omega) BG.out.c0
  have p1 := XG3.out.kg.cell (by omega) BG.out.c1
  go_wp2_with fail
  refine (markSigp_any _ W7.heap.size ⟨ms, mo⟩ 1 (cutTo w17 w8.heap.size) _ OGc.out (cut_below (by omega)) HSM.out.1 HSM.out.2 (by omega) (by omega)).mono ?_
  rintro e w18 ⟨rfl, ho18, ob, hout⟩
  rw [cut_size (by omega)] at hout
  have XG4 := Lib.hid ((XG3.out.raise (B8 := w8.heap.size) (by omega)).outside hout (by omega) (Nat.le_refl _))
  have OGm := Lib.hid ho18
  have em : ((1 : Int) + (tot mo : Int) != (1 : Int) + (tot mo : Int)) = false := by simp
  have ht0 : (0 : Int) ≤ (tot mo : Int) := by omega
  clear hout ho18 p0 p1 XG3 OGc
  have p0 := XG4.out.kg.cell (Nat.le_refl _) BG.out.c0
  have p1 := XG4.out.kg.cell (Nat.le_refl _) BG.out.c1
  go_wp2_with fail
  refine (heldSig_any _ ⟨ms, mo⟩ 1 _ OGm.out.reads HSM.out.1 HSM.out.2 (by omega) (by omega)).mono ?_
  rintro e w19 ⟨rfl, hb19⟩
  have XG5 := Lib.hid (XG4.out.below hb19)
  have OG19 := Lib.hid (OGm.out.keep hb19)
  clear hb19 p0 p1 XG4 OGm
  have BA19 := Lib.hid (BA3.out.keep XG5.out.b3)
  have BB19 := Lib.hid (BB3.out.keep XG5.out.b3)
  have f0 := BA19.out.c0
  have f1 := BA19.out.c1
  have f2 := BB19.out.c0
  have f3 := BB19.out.c1
  go_wp2_with fail
  have ea := World.new_ne w19 _ f0
  have eb := World.new_ne w19 _ f2
  have HXB := Lib.hid (below_alloc w19 (.cells #[.int .i64 0, .slice none 0 0] 27))
  have HXZ := Lib.hid (heap_alloc_new w19 (.cells #[.int .i64 0, .slice none 0 0] 27))
  generalize hWX : w19.alloc (.cells #[.int .i64 0, .slice none 0 0] 27) = WX at HXB HXZ
  have x0 := cell_keep HXB.out f0
  have x1 := cell_keep HXB.out f1
  have x2 := cell_keep HXB.out f2
  have x3 := cell_keep HXB.out f3
  go_cut [15, 16] (fun s6 s7 wx => ∃ (b6 : Nat) (A3 : Option Addr) (c3 : Nat), s6 = .pointer (some ⟨b6, 0, none⟩) ∧ s7 = .bool ok ∧ BoxAt wx b6 ms A3 mo.length c3 ⟨ms, mo⟩ ∧ Below w19.heap.size w19 wx)
  case first =>
    go_region_held3 (fun w' => w'.cell? ⟨w.heap.size, 0, none⟩ = some (.int .i64 sa) ∧ w'.cell? ⟨w.heap.size, 1, none⟩ = some (.slice Aa ao.length ca) ∧ w'.cell? ⟨w.heap.size + 1, 0, none⟩ = some (.int .i64 sb) ∧ w'.cell? ⟨w.heap.size + 1, 1, none⟩ = some (.slice Ab bo.length cb))
      (first | go_keep)
      (first
        | (go_at_call_of 10 (Value.int .i64 sa); refine (toSig_any _ ⟨sa, ao⟩ w19.drew BA19.out.rd HFA.out).mono ?_; rintro e wa ⟨ua, rfl, hoa, hba⟩; have HOA := Lib.hid hoa.reads; have HBA := Lib.hid (show Below w19.heap.size w19 wa from below_undrew hba); clear hoa hba; have a0 := cell_keep HBA.out f0; have a1 := cell_keep HBA.out f1; have a2 := cell_keep HBA.out f2; have a3 := cell_keep HBA.out f3; have ney0 := World.new_ne wa _ a0; have ney1 := World.new_ne wa _ a2; obtain ⟨WA, hWA⟩ : ∃ W', wa.alloc (.cells #[.int .i64 0, .slice none 0 0] 27) = W' := ⟨_, rfl⟩; have HBWA := Lib.hid (show Below wa.heap.size wa WA from by rw [← hWA]; exact below_alloc wa _); have HZWA := Lib.hid (show WA.heap[wa.heap.size]? = some (.cells #[.int .i64 0, .slice none 0 0] 27) from by rw [← hWA]; exact heap_alloc_new wa _); have y0 := cell_keep HBWA.out a0; have y1 := cell_keep HBWA.out a1; have y2 := cell_keep HBWA.out a2; have y3 := cell_keep HBWA.out a3)
        | (go_at_call_of 10 (Value.int .i64 sa); refine (toSig_any _ ⟨sa, ao⟩ WX.drew (show RSig WX _ _ from BA19.out.rd.keep HXB.out) HFA.out).mono ?_; rintro e wa ⟨ua, rfl, hoa, hba⟩; have HOA := Lib.hid hoa.reads; have HBXA := Lib.hid (show Below WX.heap.size WX wa from below_undrew hba); clear hoa hba; have HBA := Lib.hid (HXB.out.trans (HBXA.out.mono HXB.out.size)); have HZ1 := Lib.hid (laid_keep HXZ.out HBXA.out); have a0 := cell_keep HBXA.out x0; have a1 := cell_keep HBXA.out x1; have a2 := cell_keep HBXA.out x2; have a3 := cell_keep HBXA.out x3)
        | (go_at_call_of 10 (Value.int .i64 sb); refine (toSig_any _ ⟨sb, bo⟩ wa (BB19.out.rd.keep HBA.out) HFB.out).mono ?_; rintro e wb ⟨ub, rfl, hob, hbb⟩; have HOB := Lib.hid hob.reads; have HBB := Lib.hid hbb; have HOA2 := Lib.hid (HOA.out.keep hbb); clear hob hbb; (try have HZ2 := Lib.hid (laid_keep HZ1.out HBB.out)); have b0 := cell_keep HBB.out a0; have b1 := cell_keep HBB.out a1; have b2 := cell_keep HBB.out a2; have b3 := cell_keep HBB.out a3; have nez0 := World.new_ne wb _ b0; have nez1 := World.new_ne wb _ b2; obtain ⟨WB, hWB⟩ : ∃ W', wb.alloc (.cells #[.int .i64 0, .slice none 0 0] 27) = W' := ⟨_, rfl⟩; have HBWB := Lib.hid (show Below wb.heap.size wb WB from by rw [← hWB]; exact below_alloc wb _); have HZWB := Lib.hid (show WB.heap[wb.heap.size]? = some (.cells #[.int .i64 0, .slice none 0 0] 27) from by rw [← hWB]; exact heap_alloc_new wb _); have z0 := cell_keep HBWB.out b0; have z1 := cell_keep HBWB.out b1; have z2 := cell_keep HBWB.out b2; have z3 := cell_keep HBWB.out b3)
        | (go_at_call_of 10 (Value.int .i64 sb); refine (toSig_any _ ⟨sb, bo⟩ WA (BB19.out.rd.keep (HBA.out.trans (HBWA.out.mono HBA.out.size))) HFB.out).mono ?_; rintro e wb ⟨ub, rfl, hob, hbb⟩; have HOB := Lib.hid hob.reads; have HBB := Lib.hid (HBWA.out.trans (hbb.mono HBWA.out.size)); have HOA2 := Lib.hid (HOA.out.keep HBB.out); have HZ2 := Lib.hid (laid_keep HZWA.out hbb); clear hob hbb; have b0 := cell_keep HBB.out a0; have b1 := cell_keep HBB.out a1; have b2 := cell_keep HBB.out a2; have b3 := cell_keep HBB.out a3)
        | (go_at_call 22; refine (sum_at _ _ ⟨sa, ao⟩ ⟨sb, bo⟩ wb HM.out HOK.out HOA2.out HOB.out).mono ?_; rintro e w3 ⟨A3, c3, rfl, ho3, hb3⟩; have HO3 := Lib.hid ho3; have HB3' := Lib.hid (HBA.out.trans ((HBB.out.trans (hb3.mono HBB.out.size)).mono HBA.out.size)); (try have HZ3 := Lib.hid (laid_keep HZ2.out hb3)); have c0 := cell_keep hb3 b0; have c1 := cell_keep hb3 b1; have c2 := cell_keep hb3 b2; have c3 := cell_keep hb3 b3; (try have e0 := blk_cell HZ3.out 0); (try have e1 := blk_cell HZ3.out 1); (try have e2 := blk_free HZ3.out 0); (try have e3 := blk_free HZ3.out 1); (try simp at e0 e1); have nl0 := World.new_ne w3 _ c0; have nl1 := World.new_ne w3 _ c2; clear ho3 hb3)
        | (go_at_call 22; refine (sum_at _ _ ⟨sa, ao⟩ ⟨sb, bo⟩ WB HM.out HOK.out (HOA2.out.keep HBWB.out) (HOB.out.keep HBWB.out)).mono ?_; rintro e w3 ⟨A3, c3, rfl, ho3, hb3⟩; have HO3 := Lib.hid ho3; have hb4 := HBWB.out.trans (hb3.mono HBWB.out.size); have HB3' := Lib.hid (HBA.out.trans ((HBB.out.trans (hb4.mono HBB.out.size)).mono HBA.out.size)); have HZ3 := Lib.hid (laid_keep HZWB.out hb3); have c0 := cell_keep hb3 z0; have c1 := cell_keep hb3 z1; have c2 := cell_keep hb3 z2; have c3 := cell_keep hb3 z3; (try have e0 := blk_cell HZ3.out 0); (try have e1 := blk_cell HZ3.out 1); (try have e2 := blk_free HZ3.out 0); (try have e3 := blk_free HZ3.out 1); (try simp at e0 e1); clear ho3 hb3 hb4))
    all_goals
      go_wp2_with fail
      go_meet
      have t1 := HBA.out.size
      have t2 := HBB.out.size
      first
        | exact ⟨_, _, _, rfl, rfl, BoxAt.start w3 _ ⟨_, rfl, HO3.out.reads⟩, HB3'.out.trans ((below_alloc w3 _).mono HB3'.out.size)⟩
        | exact ⟨_, _, _, rfl, rfl, BoxAt.stored HZ3.out HO3.out, (HB3'.out.setCell (by first | exact Nat.le_refl _ | exact t1 | exact Nat.le_trans t1 t2) _).setCell (by first | exact Nat.le_refl _ | exact t1 | exact Nat.le_trans t1 t2) _⟩
  case rest =>
  obtain ⟨bh, A22, c22, rfl, rfl, hbw, hb23⟩ := hcut
  have BH := Lib.hid hbw
  have XG8 := Lib.hid (XG5.out.below hb23)
  have OG23 := Lib.hid (OG19.out.keep hb23)
  clear hbw hb23 f0 f1 f2 f3 ea eb HXB HXZ hWX x0 x1 x2 x3 BA19 BB19 XG5 OG19
  have p0 := BH.out.c0
  have p1 := BH.out.c1
  have p2 := cell_keep XG8.out.b3 BW3.out.c0
  have p3 := cell_keep XG8.out.b3 BW3.out.c1
  go_wp2_with fail
  refine (eqSig_is _ _ ⟨ms, mo⟩ ⟨ms, mo⟩ _ true (sameS_self _) BH.out.rd (BW3.out.rd.keep XG8.out.b3)).mono ?_
  rintro e w24 ⟨rfl, hb24⟩
  have XG9 := Lib.hid (XG8.out.below hb24)
  have OG24 := Lib.hid (OG23.out.keep hb24)
  clear p0 p1 p2 p3 hb24 XG8 OG23 BH
  have p0 := XG9.out.kg.cell (Nat.le_refl _) BG.out.c0
  have p1 := XG9.out.kg.cell (Nat.le_refl _) BG.out.c1
  go_wp2_with fail
  refine (heldSig_any _ ⟨ms, mo⟩ 1 _ OG24.out.reads HSM.out.1 HSM.out.2 (by omega) (by omega)).mono ?_
  rintro e w25 ⟨rfl, hb25⟩
  have HBF := Lib.hid (HB3.out.trans ((XG9.out.below hb25).b3.mono HB3.out.size))
  clear hb25 p0 p1
  go_wp2
  go_ret
  exact ⟨rfl, HBF.out⟩

set_option maxRecDepth 100000 in
theorem lifted_FnExactSigSum (os : Os) (started : os.Started) (H : Type) (enc : TypeId × Value → H) :
    ReturnsInHanded {} Try.checked os 6 .any (Rows.fnExactSigSumSpec.pre6 enc Try.prog Try.f6 Rows.fnExactSigSumRow.domain false) (Rows.fnExactSigSumSpec.post enc Try.prog Try.f6 false true false false) := by
  refine returnsInHanded_of_change (C := Try.checked) own started (by kernel_rfl) Try.func6
    (ChangeSpec.witness6 (enc := enc) (C := Try.checked) false ⟨#[], #[.agg #[.int .i64 0, .slice none 0 0], .agg #[.int .i64 0, .slice none 0 0]], []⟩ 8 (by kernel_rfl) (by kernel_rfl) (by kernel_rfl) (by kernel_rfl)) ?_
  intro W base args ds gs before hval0 hW hcnd _
  have hval : ∀ (j : Nat) t v, Try.f6.params[j]? = some t → args[j]? = some v → Value.okWide Try.prog W .any base t v := hval0
  have hW' := hW
  obtain ⟨p, q, hA0, hV, rfl, hfz, hnd⟩ := hW
  have hA : DataW.TrodAll enc Try.prog W 0 (fun _ => true) true Try.f6.params.toList args.toList ds p := hA0
  rw [Try.params6] at hA hval
  obtain ⟨v0, vs0, d0, ds0, p0, q0, hargs, rfl, rfl, h0, r0⟩ := trodAll_cons hA
  obtain ⟨v1, vs1, d1, ds1, p1, q1, rfl, rfl, rfl, h1, r1⟩ := trodAll_cons r0
  obtain ⟨rfl, rfl, rfl⟩ := trodAll_nil r1
  obtain rfl : args = #[v0, v1] := by cases args; simp_all
  obtain ⟨rfl, rfl⟩ := trodVars_none hV
  have k0 := h0
  have lt0 : ∀ x ∈ p0, x.block < W.heap.size := by obtain ⟨m, hm⟩ := k0; exact DataW.trod_lt m _ _ _ hm
  obtain ⟨s0, w0⟩ : ∃ s, RSig W v0 s := sig_of (hval 0 24 v0 rfl rfl) h0
  have k1 := h1
  have lt1 : ∀ x ∈ p1, x.block < W.heap.size := by obtain ⟨m, hm⟩ := k1; exact DataW.trod_lt m _ _ _ hm
  obtain ⟨s1, w1⟩ : ∃ s, RSig W v1 s := sig_of (hval 1 24 v1 rfl rfl) h1
  clear hA0 hval0
  refine (walk_FnExactSigSum _ s0 _ s1 W w0 w1).mono fun e W' ⟨he, bel⟩ => ?_
  subst he
  exact ⟨_, rfl, _, _, _, [], _, [], hW', trodAll_mk1 (shut_bool Try.underlying4 _), (trodAll_cons_mk (Below.trod laidOut (by kernel_rfl) (of_decide_eq_true (by kernel_rfl)) k0 bel lt0) (trodAll_cons_mk (Below.trod laidOut (by kernel_rfl) (of_decide_eq_true (by kernel_rfl)) k1 bel lt1) trodAll_mk0)), rfl, bel.frame _, fun h => by cases h⟩

theorem over_FnExactSigSum : Rows.fnExactSigSumRow.holds Try.pinned (OpenSpec.ofChange Rows.fnExactSigSumSpec) :=
  OpenClaim.holds_of_wide 6 Try.f6 rfl rfl rfl rfl rfl rfl rfl ⟨rfl, rfl, rfl, rfl, rfl⟩ rfl rfl rfl rfl rfl (by kernel_rfl) Try.func6 (by kernel_rfl)
    (of_decide_eq_true (by kernel_rfl)) (by unfold Func.isWrapper; first | (rw [if_pos (by decide +kernel)]; kernel_rfl) | (rw [if_neg (by decide +kernel)]; exact ⟨rfl, rfl⟩))
    (fun os started H enc _ => lifted_FnExactSigSum os started H enc)

theorem proved_FnExactSigSum : Rows.FnExactSigSumSaid := over_FnExactSigSum
end Go.Proofs.Ytmafipngpbmgdab
