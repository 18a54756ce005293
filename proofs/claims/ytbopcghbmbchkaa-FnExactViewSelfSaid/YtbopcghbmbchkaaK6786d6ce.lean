/- ruleOf and afterStep (package impl): a rule of proof is a struct whose field makes the step. · ruleOf and afterStep (package impl). · EqOk of both packages. · TheoryOk of both packages. -/
import Derived.Test.YtbopcghbmbchkaaKdeba00bb
import Derived.Deep.RegionHeld3
import Derived.Deep.CutRange
import Derived.Deep.DeepCutAuto
import Derived.Laws.EntriesVeiled
namespace Go.Proofs.Ytbopcghbmbchkaa
section
open Go.RowKit
set_option linter.unusedVariables false
set_option linter.unusedSimpArgs false

def noEqR : MEq := ⟨[], [], []⟩
def sideFrom (e : MEq) (back : Bool) : List Int := if back then e.right else e.left
def sideTo (e : MEq) (back : Bool) : List Int := if back then e.left else e.right
/-- a step by a rule: letters, what is replaced, what is put there -/
def ruleM (s : MSig) (letters fr tq vars u : List Int) (at_ : Int) (terms : List (List Int)) : List Int × Bool :=
  if (putM s letters fr vars terms).2 = true ∧ (putM s letters fr vars terms).1 = atM s vars u at_ ∧ (putM s letters tq vars terms).2 = true then swapM s vars u at_ (putM s letters tq vars terms).1 else ([], false)
def afterM (t : MThy) (vars u : List Int) (p : MStep) : List Int × Bool :=
  if 0 ≤ p.ax ∧ p.ax < t.eqs.length then ruleM t.over (t.eqs.getD p.ax.toNat noEqR).vars (sideFrom (t.eqs.getD p.ax.toNat noEqR) p.back) (sideTo (t.eqs.getD p.ax.toNat noEqR) p.back) vars u p.at_ p.terms else ([], false)
def stepM (t : MThy) (vars u : List Int) (p : MStep) : List Int × Bool := if thyB t = true then afterM t vars u p else ([], false)

/-- a rule's field: the function, and where its own variables lie -/
def RFn (w : World) (fn : Value) (s : MSig) (letters fr tq : List Int) : Prop :=
  ∃ bt bl bf bo u L F O, fn = .func (Fn.func 124) #[] #[.pointer (some ⟨bt, 0, none⟩), .pointer (some ⟨bl, 0, none⟩), .pointer (some ⟨bf, 0, none⟩), .pointer (some ⟨bo, 0, none⟩)] ∧
    w.cell? ⟨bt, 0, none⟩ = some (.int .i64 s.sorts) ∧ w.cell? ⟨bt, 1, none⟩ = some u ∧ RRows w u s.ops ∧ w.cell? ⟨bl, 0, none⟩ = some L ∧ RInts w L letters ∧ w.cell? ⟨bf, 0, none⟩ = some F ∧ RInts w F fr ∧ w.cell? ⟨bo, 0, none⟩ = some O ∧ RInts w O tq
theorem RFn.keep {w w' : World} {fn : Value} {s : MSig} {letters fr tq : List Int} (h : RFn w fn s letters fr tq) (hb : Below w.heap.size w w') : RFn w' fn s letters fr tq := by
  obtain ⟨bt, bl, bf, bo, u, L, F, O, e, c0, c1, r1, c2, r2, c3, r3, c4, r4⟩ := h
  exact ⟨bt, bl, bf, bo, u, L, F, O, e, cell_keep hb c0, cell_keep hb c1, r1.keep hb, cell_keep hb c2, r2.keep hb, cell_keep hb c3, r3.keep hb, cell_keep hb c4, r4.keep hb⟩

theorem putM_small {s : MSig} {vars t others : List Int} {terms : List (List Int)} (ht : Small t) (hs : ∀ r ∈ terms, Small r) : Small (putM s vars t others terms).1 := by
  unfold putM
  split
  · intro x hx
    simp only [putRow, List.mem_flatMap] at hx
    obtain ⟨n, hn, hx⟩ := hx
    split at hx
    · rw [List.getD_eq_getElem?_getD] at hx
      cases h : terms[(n - 100).toNat]? with
      | none => rw [h] at hx; simp at hx
      | some r => rw [h] at hx; exact hs r (List.mem_of_getElem? h) x hx
    · simp at hx; subst hx; exact ht _ hn
  · intro x hx; simp at hx

set_option maxHeartbeats 1600000 in
set_option maxRecDepth 100000 in
/-- the function of a rule -/
theorem ruleFn_any (s : MSig) (letters fr tq vars u : List Int) (a : Int) (terms : List (List Int)) (w : World) (vv uv tv : Value) (bt bl bf bo : Nat) (x L F O : Value) (h1 : Small fr) (h2 : Small tq) (h3 : Small u) (h4 : ∀ r ∈ terms, Small r)
    (k1 : RInts w vv vars) (k2 : RInts w uv u) (k3 : RRows w tv terms)
    (c0 : w.cell? ⟨bt, 0, none⟩ = some (.int .i64 s.sorts)) (c1 : w.cell? ⟨bt, 1, none⟩ = some x) (r1 : RRows w x s.ops) (c2 : w.cell? ⟨bl, 0, none⟩ = some L) (r2 : RInts w L letters) (c3 : w.cell? ⟨bf, 0, none⟩ = some F) (r3 : RInts w F fr) (c4 : w.cell? ⟨bo, 0, none⟩ = some O) (r4 : RInts w O tq) :
    Calls Try.prog 124 #[vv, uv, .int .i64 a, tv, .pointer (some ⟨bt, 0, none⟩), .pointer (some ⟨bl, 0, none⟩), .pointer (some ⟨bf, 0, none⟩), .pointer (some ⟨bo, 0, none⟩)] w (PairPost (ruleM s letters fr tq vars u a terms) w) := by
  have HS := Lib.hid (show RSig w (.agg #[.int .i64 s.sorts, x]) s from ⟨_, rfl, r1⟩)
  have HV := Lib.hid k1
  have HU := Lib.hid k2
  have HT := Lib.hid k3
  have HL := Lib.hid r2
  have HFr := Lib.hid r3
  have HTo := Lib.hid r4
  have HSM := Lib.hid (And.intro h1 (And.intro h2 (And.intro h3 h4)))
  have HC := Lib.hid (And.intro c0 (And.intro c1 (And.intro c2 (And.intro c3 c4))))
  obtain ⟨A0, d0, rfl, -⟩ := r1.form
  obtain ⟨A1, d1, rfl, -⟩ := r2.form
  obtain ⟨A2, d2, rfl, -⟩ := r3.form
  obtain ⟨A3, d3, rfl, -⟩ := r4.form
  obtain ⟨A4, d4, rfl, -⟩ := k1.form
  obtain ⟨A5, d5, rfl, -⟩ := k2.form
  obtain ⟨A6, d6, rfl, -⟩ := k3.form
  clear h1 h2 h3 h4 k1 k2 k3 r1 r2 r3 r4
  obtain ⟨X, b, hX⟩ : ∃ X b, putM s letters fr vars terms = (X, b) := ⟨_, _, rfl⟩
  obtain ⟨Y, d, hY⟩ : ∃ Y d, putM s letters tq vars terms = (Y, d) := ⟨_, _, rfl⟩
  have HX := Lib.hid hX
  have HY := Lib.hid hY
  have HYS := Lib.hid (show Small Y by have := putM_small (s := s) (vars := letters) (others := vars) HSM.out.2.1 HSM.out.2.2.2; rw [hY] at this; exact this)
  clear hX hY
  go_enter Try.func124, Try.ntmps124
  go_wp2_with fail
  refine (termPut_any s letters fr vars terms _ _ _ _ _ _ HSM.out.1 HSM.out.2.2.2 HS.out HL.out HFr.out HV.out HT.out).mono ?_
  rw [HX.out]
  rintro e w1 ⟨z, rfl, ho, hb⟩
  simp only at ho ⊢
  obtain ⟨Az, cz, rfl, -⟩ := own_reads ho
  have HB1 := Lib.hid hb
  have HZ := Lib.hid ho.reads
  have m0 := cell_keep hb c0
  have m1 := cell_keep hb c1
  have m2 := cell_keep hb c2
  have m3 := cell_keep hb c3
  have m4 := cell_keep hb c4
  clear hb ho c0 c1 c2 c3 c4
  cases b with
  | false =>
    have HE := Lib.hid (show ruleM s letters fr tq vars u a terms = ([], false) by unfold ruleM; rw [HX.out]; simp)
    go_wp2
    refine bodyPost_ret (v := .tuple #[.slice none 0 0, .bool false]) (by simp [results, Try.results124, go_sem]) rfl ?_
    rw [HE.out]
    exact ⟨_, rfl, OInts.nil _ _, HB1.out⟩
  | true =>
    go_wp2_with fail
    refine (termAt_any s vars u a _ _ _ _ HSM.out.2.2.1 (HS.out.keep HB1.out) (HV.out.keep HB1.out) (HU.out.keep HB1.out)).mono ?_
    rintro e w2 ⟨p, rfl, hop, hb⟩
    obtain ⟨Ap, cp, rfl, -⟩ := own_reads hop
    have HB2 := Lib.hid (fit_keep HB1.out hb)
    have HP := Lib.hid hop.reads
    have HZ2 := Lib.hid (HZ.out.keep hb)
    have n0 := cell_keep hb m0
    have n1 := cell_keep hb m1
    have n2 := cell_keep hb m2
    have n3 := cell_keep hb m3
    have n4 := cell_keep hb m4
    clear hb hop m0 m1 m2 m3 m4
    go_wp2_with fail
    obtain ⟨q, hq⟩ : ∃ q : Bool, decide (X = atM s vars u a) = q := ⟨_, rfl⟩
    have HQ := Lib.hid hq
    clear hq
    refine (slEqual_any _ _ X (atM s vars u a) _ HZ2.out HP.out).mono ?_
    rw [HQ.out]
    rintro e w3 ⟨rfl, hd⟩
    have hb := hd.below
    have HB3 := Lib.hid (fit_keep HB2.out hb)
    have m0 := cell_keep hb n0
    have m1 := cell_keep hb n1
    have m2 := cell_keep hb n2
    have m3 := cell_keep hb n3
    have m4 := cell_keep hb n4
    clear hb hd n0 n1 n2 n3 n4
    cases q with
    | false =>
      have HE := Lib.hid (show ruleM s letters fr tq vars u a terms = ([], false) by
        unfold ruleM; rw [HX.out, if_neg]
        rintro ⟨-, h, -⟩
        have := HQ.out
        rw [decide_eq_false_iff_not] at this
        exact this h)
      go_wp2
      refine bodyPost_ret (v := .tuple #[.slice none 0 0, .bool false]) (by simp [results, Try.results124, go_sem]) rfl ?_
      rw [HE.out]
      exact ⟨_, rfl, OInts.nil _ _, HB3.out⟩
    | true =>
      have HXA := Lib.hid (of_decide_eq_true HQ.out)
      go_wp2_with fail
      refine (termPut_any s letters tq vars terms _ _ _ _ _ _ HSM.out.2.1 HSM.out.2.2.2 (HS.out.keep HB3.out) (HL.out.keep HB3.out) (HTo.out.keep HB3.out) (HV.out.keep HB3.out) (HT.out.keep HB3.out)).mono ?_
      rw [HY.out]
      rintro e w4 ⟨z', rfl, ho, hb⟩
      simp only at ho ⊢
      obtain ⟨Ay, cy, rfl, -⟩ := own_reads ho
      have HB4 := Lib.hid (fit_keep HB3.out hb)
      have HW := Lib.hid ho.reads
      have n0 := cell_keep hb m0
      have n1 := cell_keep hb m1
      have n2 := cell_keep hb m2
      have n3 := cell_keep hb m3
      have n4 := cell_keep hb m4
      clear hb ho m0 m1 m2 m3 m4
      cases d with
      | false =>
        have HE := Lib.hid (show ruleM s letters fr tq vars u a terms = ([], false) by unfold ruleM; rw [HX.out, HY.out]; simp)
        go_wp2
        refine bodyPost_ret (v := .tuple #[.slice none 0 0, .bool false]) (by simp [results, Try.results124, go_sem]) rfl ?_
        rw [HE.out]
        exact ⟨_, rfl, OInts.nil _ _, HB4.out⟩
      | true =>
        have HE := Lib.hid (show ruleM s letters fr tq vars u a terms = swapM s vars u a Y by unfold ruleM; rw [HX.out, HY.out, if_pos ⟨rfl, HXA.out, rfl⟩])
        obtain ⟨Z, g, hZ⟩ : ∃ Z g, swapM s vars u a Y = (Z, g) := ⟨_, _, rfl⟩
        have HZZ := Lib.hid hZ
        clear hZ
        go_wp2_with fail
        refine (termSwap_any s vars u a Y _ _ _ _ _ HSM.out.2.2.1 HYS.out (HS.out.keep HB4.out) (HV.out.keep HB4.out) (HU.out.keep HB4.out) HW.out).mono ?_
        rw [HZZ.out]
        rintro e w5 ⟨z'', rfl, ho, hb⟩
        simp only at ho ⊢
        obtain ⟨Aw, cw, rfl, -⟩ := own_reads ho
        have HB5 := Lib.hid (fit_keep HB4.out hb)
        have HO := Lib.hid ho
        have hs4 := HB4.out.size
        clear hb ho n0 n1 n2 n3 n4
        go_wp2
        refine bodyPost_ret (v := .tuple #[.slice Aw Z.length cw, .bool g]) (by simp [results, Try.results124, go_sem]) rfl ?_
        rw [HE.out, HZZ.out]
        exact ⟨_, rfl, HO.out.base (by omega), HB5.out⟩
end

section
open Go.RowKit
set_option linter.unusedVariables false
set_option linter.unusedSimpArgs false

theorem keep4 {w w' : World} {a b c d : Addr} {x y z u : Value} (hb : Below w.heap.size w w') (h1 : w.cell? a = some x) (h2 : w.cell? b = some y) (h3 : w.cell? c = some z) (h4 : w.cell? d = some u) :
    w'.cell? a = some x ∧ w'.cell? b = some y ∧ w'.cell? c = some z ∧ w'.cell? d = some u := ⟨cell_keep hb h1, cell_keep hb h2, cell_keep hb h3, cell_keep hb h4⟩
theorem bw_alloc {a w : World} (h : Below a.heap.size a w) (o : Obj) : Below a.heap.size a (w.alloc o) := h.alloc h.size o
theorem bw_drew {a w : World} (h : Below a.heap.size a w) : Below a.heap.size a w.drew := bel_drew h
theorem bw_set {a w : World} (h : Below a.heap.size a w) {b o : Nat} (hb : a.heap.size ≤ b) (u : Value) : Below a.heap.size a (w.setCell ⟨b, o, none⟩ u) := h.setCell (p := ⟨b, o, none⟩) hb u

/-- three new one-cell blocks -/
theorem three_new {W wx : World} {T : TypeId} {x y z : Value} (hh : wx.heap = (((W.alloc (.cells #[x] T)).alloc (.cells #[y] T)).alloc (.cells #[z] T)).heap) (ho : wx.os = W.os) (ht : wx.tape = W.tape) (hp : wx.output = W.output) :
    wx.heap[W.heap.size]? = some (.cells #[x] T (0, 0)) ∧ wx.heap[W.heap.size + 1]? = some (.cells #[y] T (0, 0)) ∧ wx.heap[W.heap.size + 1 + 1]? = some (.cells #[z] T (0, 0)) ∧ Below W.heap.size W wx := by
  rw [hh]
  refine ⟨?_, ?_, ?_, ?_⟩
  · rw [heap_alloc_old _ _ (by simp; omega), heap_alloc_old _ _ (by simp)]
    exact heap_alloc_new W _
  · rw [heap_alloc_old _ _ (by simp)]
    exact (congrArg (fun i => ((W.alloc (.cells #[x] T)).alloc (.cells #[y] T)).heap[i]?) (by simp)).trans (heap_alloc_new (W.alloc (.cells #[x] T)) _)
  · exact (congrArg (fun i => (((W.alloc (.cells #[x] T)).alloc (.cells #[y] T)).alloc (.cells #[z] T)).heap[i]?) (by simp)).trans (heap_alloc_new ((W.alloc (.cells #[x] T)).alloc (.cells #[y] T)) _)
  · have hb : Below W.heap.size W (((W.alloc (.cells #[x] T)).alloc (.cells #[y] T)).alloc (.cells #[z] T)) := ((below_alloc _ _).alloc (by simp) _).alloc (by simp; omega) _
    exact ⟨ho, ht, hp, by rw [hh]; exact hb.size, fun n hn => by rw [hh]; exact hb.block n hn⟩

def RulePost (t : MThy) (e : MEq) (back : Bool) (w : World) (x : Ending) (w' : World) : Prop :=
  ∃ L F O fn, x = .returned (.agg #[L, F, O, fn]) ∧ RInts w' L e.vars ∧ RInts w' F (sideFrom e back) ∧ RInts w' O (sideTo e back) ∧ RFn w' fn t.over e.vars (sideFrom e back) (sideTo e back) ∧ (∃ c, fn = .func (Fn.func 124) #[] c) ∧ Below w.heap.size w w'

set_option maxHeartbeats 800000 in
set_option maxRecDepth 100000 in
theorem ruleOf_true (t : MThy) (k : Nat) (hk : k < t.eqs.length) (w : World) (v : Value) (h : RThy w v t) :
    Calls Try.prog 113 #[v, .int .i64 (k : Int), .bool true] w (RulePost t t.eqs[k] true w) := by
  obtain ⟨Ata, cta, Atb, ctb, rfl⟩ := h.form
  have hb : Below w.heap.size w (w.alloc (.cells #[.int .i64 t.over.sorts, .slice Ata t.over.ops.length cta, .slice Atb t.eqs.length ctb] 40)) := below_alloc _ _
  have HB := Lib.hid hb
  have hsz : (w.alloc (.cells #[.int .i64 t.over.sorts, .slice Ata t.over.ops.length cta, .slice Atb t.eqs.length ctb] 40)).heap.size = w.heap.size + 1 := by simp
  have Ht := Lib.hid (h.keep hb)
  have t0 := bx_at (w) #[.int .i64 t.over.sorts, .slice Ata t.over.ops.length cta, .slice Atb t.eqs.length ctb] 40 (k := 0) rfl
  have t1 := bx_at (w) #[.int .i64 t.over.sorts, .slice Ata t.over.ops.length cta, .slice Atb t.eqs.length ctb] 40 (k := 1) rfl
  have t2 := bx_at (w) #[.int .i64 t.over.sorts, .slice Ata t.over.ops.length cta, .slice Atb t.eqs.length ctb] 40 (k := 2) rfl
  generalize hW : w.alloc (.cells #[.int .i64 t.over.sorts, .slice Ata t.over.ops.length cta, .slice Atb t.eqs.length ctb] 40) = W at HB hsz Ht t0 t1 t2
  clear hb h
  obtain ⟨-, r1, r2⟩ := Ht.out.of
  obtain ⟨b, o, c3, x0, x1, x2, e, c00, c01, c02, q0, q1, q2⟩ := r2.at_ hk
  cases e
  have hmf : ∀ (fn : Fn) (first cap : Array Value) (w : World), (Instr.makeFunc fn first cap).run Try.prog w = .ok (.func fn first cap) w := fun _ _ _ _ => rfl
  generalize t.eqs[k] = e at q0 q1 q2
  have HR1 := Lib.hid r1
  have HX := Lib.hid (And.intro q0 (And.intro q1 q2))
  have hk' : (k : Int) < (t.eqs.length : Int) := by omega
  have hk0 : (0 : Int) ≤ (k : Int) := by omega
  obtain ⟨A0, g0, rfl, -⟩ := q0.form
  obtain ⟨A1, g1, rfl, -⟩ := q1.form
  obtain ⟨A2, g2, rfl, -⟩ := q2.form
  clear q0 q1 q2 r1 r2
  have hba := below_alloc W (.cells #[.slice none 0 0, .slice none 0 0, .slice none 0 0, .nilFunc] 143)
  have n0 := cell_keep hba t0
  have n1 := cell_keep hba t1
  have n2 := cell_keep hba t2
  have n3 := cell_keep hba c00
  have n4 := cell_keep hba c01
  have n5 := cell_keep hba c02
  have HBA := Lib.hid (fit_keep HB.out hba)
  have HKA := Lib.hid hba
  have zr := heap_alloc_new W (.cells #[.slice none 0 0, .slice none 0 0, .slice none 0 0, .nilFunc] 143)
  have hsz2 : (W.alloc (.cells #[.slice none 0 0, .slice none 0 0, .slice none 0 0, .nilFunc] 143)).heap.size = w.heap.size + 2 := by rw [World.size_alloc, hsz]
  rw [hsz] at zr
  generalize hW2 : W.alloc (.cells #[.slice none 0 0, .slice none 0 0, .slice none 0 0, .nilFunc] 143) = W2 at n0 n1 n2 n3 n4 n5 zr HBA HKA hsz2
  have ZR := Lib.hid zr
  have HN := Lib.hid (And.intro n0 n1)
  clear t0 t1 t2 c00 c01 c02 hba zr n0 n1
  have ea := World.new_ne W2 _ n2
  have eb := World.new_ne W2 _ n3
  go_enter Try.func113, Try.ntmps113
  go_wp2_with fail
  clear hW hW2
  go_cut [7, 8, 9] (fun s7 s8 s9 wx => ∃ bl bf bo : Nat, s7 = .pointer (some ⟨bl, 0, none⟩) ∧ s8 = .pointer (some ⟨bf, 0, none⟩) ∧ s9 = .pointer (some ⟨bo, 0, none⟩) ∧ wx.heap[bl]? = some (.cells #[.slice A0 e.vars.length g0] 28 (0, 0)) ∧ wx.heap[bf]? = some (.cells #[.slice A1 e.left.length g1] 28 (0, 0)) ∧ wx.heap[bo]? = some (.cells #[.slice A2 e.right.length g2] 28 (0, 0)) ∧ bl ≠ bf ∧ bl ≠ bo ∧ bf ≠ bo ∧ W2.heap.size ≤ bl ∧ W2.heap.size ≤ bf ∧ W2.heap.size ≤ bo ∧ Below W2.heap.size W2 wx)
  case first =>
   go_region_held3 (fun w' => w'.cell? ⟨w.heap.size, 2, none⟩ = some (.slice (some ⟨b, o, none⟩) t.eqs.length ctb) ∧ w'.cell? ⟨b, o + k * 3, none⟩ = some (.slice A0 e.vars.length g0) ∧ w'.cell? ⟨b, o + k * 3 + 1, none⟩ = some (.slice A1 e.left.length g1) ∧ w'.cell? ⟨b, o + k * 3 + 2, none⟩ = some (.slice A2 e.right.length g2)) (first | (refine keep4 ?_ n2 n3 n4 n5; repeat (first | exact Below.refl _ _ | apply bw_drew | apply bw_alloc | (apply bw_set; rotate_left; omega)))) (first | fail)
   all_goals
    go_wp2_with fail
    go_meet
    case rel =>
      obtain ⟨p0, p1, p2, hbx⟩ := three_new (W := W2) (wx := (((W2.alloc _).alloc _).alloc _).drew) rfl rfl rfl rfl
      rw [hsz2] at p0 p1 p2
      refine ⟨_, _, _, rfl, rfl, rfl, ?_, ?_, ?_, by omega, by omega, by omega, by omega, by omega, by omega, hbx⟩ <;> first | exact p0 | exact p1 | exact p2
  case rest =>
  obtain ⟨bl, bf, bo, rfl, rfl, rfl, w1, w2, w3, d1, d2, d3, l1, l2, l3, hbx⟩ := hcut
  clear n2 n3 n4 n5 ea eb
  have rb := (hbx.block _ (by omega)).trans ZR.out
  have s1 := blk_set w2 0 (.slice A2 e.right.length g2)
  have s2 : (wc.setCell ⟨bf, 0, none⟩ (.slice A2 e.right.length g2)).heap[bo]? = some (.cells #[.slice A2 e.right.length g2] 28 (0, 0)) := (Below.heap_setCell wc ⟨bf, 0, none⟩ _ bo (by show bo ≠ bf; exact fun h => d3 h.symm)).trans w3
  have s3 := blk_set s2 0 (.slice A1 e.left.length g1)
  have f1 : ((wc.setCell ⟨bf, 0, none⟩ (.slice A2 e.right.length g2)).setCell ⟨bo, 0, none⟩ (.slice A1 e.left.length g1)).heap[bl]? = some (.cells #[.slice A0 e.vars.length g0] 28 (0, 0)) := by
    rw [Below.heap_setCell _ ⟨bo, 0, none⟩ _ bl d2, Below.heap_setCell _ ⟨bf, 0, none⟩ _ bl d1]; exact w1
  have f2 : ((wc.setCell ⟨bf, 0, none⟩ (.slice A2 e.right.length g2)).setCell ⟨bo, 0, none⟩ (.slice A1 e.left.length g1)).heap[bf]? = some (.cells #[.slice A2 e.right.length g2] 28 (0, 0)) := by
    rw [Below.heap_setCell _ ⟨bo, 0, none⟩ _ bf d3]; exact s1
  have f3 : ((wc.setCell ⟨bf, 0, none⟩ (.slice A2 e.right.length g2)).setCell ⟨bo, 0, none⟩ (.slice A1 e.left.length g1)).heap[bo]? = some (.cells #[.slice A1 e.left.length g1] 28 (0, 0)) := s3
  have rb4 : ((wc.setCell ⟨bf, 0, none⟩ (.slice A2 e.right.length g2)).setCell ⟨bo, 0, none⟩ (.slice A1 e.left.length g1)).heap[w.heap.size + 1]? = some (.cells #[.slice none 0 0, .slice none 0 0, .slice none 0 0, .nilFunc] 143 (0, 0)) := by
    rw [Below.heap_setCell _ ⟨bo, 0, none⟩ _ _ (by show w.heap.size + 1 ≠ bo; omega), Below.heap_setCell _ ⟨bf, 0, none⟩ _ _ (by show w.heap.size + 1 ≠ bf; omega)]; exact rb
  have hb4 := (hbx.setCell (p := ⟨bf, 0, none⟩) l2 (.slice A2 e.right.length g2)).setCell (p := ⟨bo, 0, none⟩) l3 (.slice A1 e.left.length g1)
  have u2 : wc.cell? ⟨bf, 0, none⟩ = some (.slice A1 e.left.length g1) := blk_cell w2 0
  have u3 : wc.cell? ⟨bo, 0, none⟩ = some (.slice A2 e.right.length g2) := blk_cell w3 0
  have u4 := blk_free w2 0
  have u5 := blk_cell s2 0
  have u6 := blk_free s2 0
  simp at u5
  generalize hW4e : (wc.setCell ⟨bf, 0, none⟩ (.slice A2 e.right.length g2)).setCell ⟨bo, 0, none⟩ (.slice A1 e.left.length g1) = W4 at f1 f2 f3 rb4 hb4
  have HF := Lib.hid (And.intro f1 (And.intro f2 (And.intro f3 (And.intro rb4 (And.intro hb4 (And.intro l1 (And.intro l2 l3)))))))
  have v1 : W4.cell? ⟨bl, 0, none⟩ = some (.slice A0 e.vars.length g0) := blk_cell f1 0
  have v2 : W4.cell? ⟨bf, 0, none⟩ = some (.slice A2 e.right.length g2) := blk_cell f2 0
  have v3 : W4.cell? ⟨bo, 0, none⟩ = some (.slice A1 e.left.length g1) := blk_cell f3 0
  have x0 : W4.cell? ⟨w.heap.size + 1, 0, none⟩ = some (.slice none 0 0) := blk_cell rb4 0
  have x1 : W4.cell? ⟨w.heap.size + 1, 1, none⟩ = some (.slice none 0 0) := blk_cell rb4 1
  have x2 : W4.cell? ⟨w.heap.size + 1, 2, none⟩ = some (.slice none 0 0) := blk_cell rb4 2
  have x3 : W4.cell? ⟨w.heap.size + 1, 3, none⟩ = some .nilFunc := blk_cell rb4 3
  have y0 := blk_free rb4 0
  have y1 := blk_free rb4 1
  have y2 := blk_free rb4 2
  have y3 := blk_free rb4 3
  clear f1 f2 f3 rb4 hb4 w1 w2 w3 d1 d2 d3 l1 l2 l3 hbx rb s1 s2 s3
  go_wp2
  obtain ⟨f1, f2, f3, rb4, hb4, l1, l2, l3⟩ := HF.out
  obtain ⟨fn, hfn⟩ : ∃ fn, fn = Value.func (Fn.func 124) #[] #[.pointer (some ⟨w.heap.size, 0, none⟩), .pointer (some ⟨bl, 0, none⟩), .pointer (some ⟨bf, 0, none⟩), .pointer (some ⟨bo, 0, none⟩)] := ⟨_, rfl⟩
  rw [← hfn]
  have r1 := blk_set (blk_set (blk_set (blk_set rb4 0 (.slice A0 e.vars.length g0)) 1 (.slice A2 e.right.length g2)) 2 (.slice A1 e.left.length g1)) 3 fn
  have oth : ∀ b' : Nat, b' ≠ w.heap.size + 1 → ((((W4.setCell ⟨w.heap.size + 1, 0, none⟩ (.slice A0 e.vars.length g0)).setCell ⟨w.heap.size + 1, 1, none⟩ (.slice A2 e.right.length g2)).setCell ⟨w.heap.size + 1, 2, none⟩ (.slice A1 e.left.length g1)).setCell ⟨w.heap.size + 1, 3, none⟩ fn).heap[b']? = W4.heap[b']? := fun b' hb' => by
    rw [Below.heap_setCell _ ⟨w.heap.size + 1, 3, none⟩ _ b' hb', Below.heap_setCell _ ⟨w.heap.size + 1, 2, none⟩ _ b' hb', Below.heap_setCell _ ⟨w.heap.size + 1, 1, none⟩ _ b' hb', Below.heap_setCell _ ⟨w.heap.size + 1, 0, none⟩ _ b' hb']
  have hW4 : Below W.heap.size W W4 := HKA.out.trans (hb4.mono HKA.out.size)
  have hW5 := (((hW4.setCell (p := ⟨w.heap.size + 1, 0, none⟩) (by show W.heap.size ≤ w.heap.size + 1; omega) (.slice A0 e.vars.length g0)).setCell (p := ⟨w.heap.size + 1, 1, none⟩) (by show W.heap.size ≤ w.heap.size + 1; omega) (.slice A2 e.right.length g2)).setCell (p := ⟨w.heap.size + 1, 2, none⟩) (by show W.heap.size ≤ w.heap.size + 1; omega) (.slice A1 e.left.length g1)).setCell (p := ⟨w.heap.size + 1, 3, none⟩) (by show W.heap.size ≤ w.heap.size + 1; omega) fn
  generalize (((W4.setCell ⟨w.heap.size + 1, 0, none⟩ (.slice A0 e.vars.length g0)).setCell ⟨w.heap.size + 1, 1, none⟩ (.slice A2 e.right.length g2)).setCell ⟨w.heap.size + 1, 2, none⟩ (.slice A1 e.left.length g1)).setCell ⟨w.heap.size + 1, 3, none⟩ fn = W5 at r1 oth hW5 ⊢
  have k0 : W5.cell? ⟨w.heap.size + 1, 0, none⟩ = some (.slice A0 e.vars.length g0) := blk_cell r1 0
  have k1 : W5.cell? ⟨w.heap.size + 1, 1, none⟩ = some (.slice A2 e.right.length g2) := blk_cell r1 1
  have k2 : W5.cell? ⟨w.heap.size + 1, 2, none⟩ = some (.slice A1 e.left.length g1) := blk_cell r1 2
  have k3 : W5.cell? ⟨w.heap.size + 1, 3, none⟩ = some fn := blk_cell r1 3
  clear v1 v2 v3 x0 x1 x2 x3 y0 y1 y2 y3
  refine bodyPost_ret (v := .agg #[.slice A0 e.vars.length g0, .slice A2 e.right.length g2, .slice A1 e.left.length g1, fn]) (by simp [results, Try.results113, go_sem, k0, k1, k2, k3]) rfl ?_
  obtain ⟨q0, q1, q2⟩ := HX.out
  have c1 : W5.cell? ⟨w.heap.size, 0, none⟩ = some (.int .i64 t.over.sorts) := (World.cell?_of_block (oth w.heap.size (by omega))).trans (cell_keep hb4 HN.out.1)
  have c2 : W5.cell? ⟨w.heap.size, 1, none⟩ = some (.slice Ata t.over.ops.length cta) := (World.cell?_of_block (oth w.heap.size (by omega))).trans (cell_keep hb4 HN.out.2)
  have c3 := (blk_cell ((oth bl (by omega)).trans f1) 0)
  have c4 := (blk_cell ((oth bf (by omega)).trans f2) 0)
  have c5 := (blk_cell ((oth bo (by omega)).trans f3) 0)
  refine ⟨_, _, _, _, rfl, q0.keep hW5, q2.keep hW5, q1.keep hW5, ⟨w.heap.size, bl, bf, bo, _, _, _, _, hfn, c1, c2, HR1.out.keep hW5, c3, q0.keep hW5, c4, q2.keep hW5, c5, q1.keep hW5⟩, ⟨_, hfn⟩, HB.out.trans (hW5.mono HB.out.size)⟩

set_option maxHeartbeats 800000 in
set_option maxRecDepth 100000 in
theorem ruleOf_false (t : MThy) (k : Nat) (hk : k < t.eqs.length) (w : World) (v : Value) (h : RThy w v t) :
    Calls Try.prog 113 #[v, .int .i64 (k : Int), .bool false] w (RulePost t t.eqs[k] false w) := by
  obtain ⟨Ata, cta, Atb, ctb, rfl⟩ := h.form
  have hb : Below w.heap.size w (w.alloc (.cells #[.int .i64 t.over.sorts, .slice Ata t.over.ops.length cta, .slice Atb t.eqs.length ctb] 40)) := below_alloc _ _
  have HB := Lib.hid hb
  have hsz : (w.alloc (.cells #[.int .i64 t.over.sorts, .slice Ata t.over.ops.length cta, .slice Atb t.eqs.length ctb] 40)).heap.size = w.heap.size + 1 := by simp
  have Ht := Lib.hid (h.keep hb)
  have t0 := bx_at (w) #[.int .i64 t.over.sorts, .slice Ata t.over.ops.length cta, .slice Atb t.eqs.length ctb] 40 (k := 0) rfl
  have t1 := bx_at (w) #[.int .i64 t.over.sorts, .slice Ata t.over.ops.length cta, .slice Atb t.eqs.length ctb] 40 (k := 1) rfl
  have t2 := bx_at (w) #[.int .i64 t.over.sorts, .slice Ata t.over.ops.length cta, .slice Atb t.eqs.length ctb] 40 (k := 2) rfl
  generalize hW : w.alloc (.cells #[.int .i64 t.over.sorts, .slice Ata t.over.ops.length cta, .slice Atb t.eqs.length ctb] 40) = W at HB hsz Ht t0 t1 t2
  clear hb h
  obtain ⟨-, r1, r2⟩ := Ht.out.of
  obtain ⟨b, o, c3, x0, x1, x2, e, c00, c01, c02, q0, q1, q2⟩ := r2.at_ hk
  cases e
  have hmf : ∀ (fn : Fn) (first cap : Array Value) (w : World), (Instr.makeFunc fn first cap).run Try.prog w = .ok (.func fn first cap) w := fun _ _ _ _ => rfl
  generalize t.eqs[k] = e at q0 q1 q2
  have HR1 := Lib.hid r1
  have HX := Lib.hid (And.intro q0 (And.intro q1 q2))
  have hk' : (k : Int) < (t.eqs.length : Int) := by omega
  have hk0 : (0 : Int) ≤ (k : Int) := by omega
  obtain ⟨A0, g0, rfl, -⟩ := q0.form
  obtain ⟨A1, g1, rfl, -⟩ := q1.form
  obtain ⟨A2, g2, rfl, -⟩ := q2.form
  clear q0 q1 q2 r1 r2
  have hba := below_alloc W (.cells #[.slice none 0 0, .slice none 0 0, .slice none 0 0, .nilFunc] 143)
  have n0 := cell_keep hba t0
  have n1 := cell_keep hba t1
  have n2 := cell_keep hba t2
  have n3 := cell_keep hba c00
  have n4 := cell_keep hba c01
  have n5 := cell_keep hba c02
  have HBA := Lib.hid (fit_keep HB.out hba)
  have HKA := Lib.hid hba
  have zr := heap_alloc_new W (.cells #[.slice none 0 0, .slice none 0 0, .slice none 0 0, .nilFunc] 143)
  have hsz2 : (W.alloc (.cells #[.slice none 0 0, .slice none 0 0, .slice none 0 0, .nilFunc] 143)).heap.size = w.heap.size + 2 := by rw [World.size_alloc, hsz]
  rw [hsz] at zr
  generalize hW2 : W.alloc (.cells #[.slice none 0 0, .slice none 0 0, .slice none 0 0, .nilFunc] 143) = W2 at n0 n1 n2 n3 n4 n5 zr HBA HKA hsz2
  have ZR := Lib.hid zr
  have HN := Lib.hid (And.intro n0 n1)
  clear t0 t1 t2 c00 c01 c02 hba zr n0 n1
  have ea := World.new_ne W2 _ n2
  have eb := World.new_ne W2 _ n3
  go_enter Try.func113, Try.ntmps113
  go_wp2_with fail
  clear hW hW2
  go_cut [7, 8, 9] (fun s7 s8 s9 wx => ∃ bl bf bo : Nat, s7 = .pointer (some ⟨bl, 0, none⟩) ∧ s8 = .pointer (some ⟨bf, 0, none⟩) ∧ s9 = .pointer (some ⟨bo, 0, none⟩) ∧ wx.heap[bl]? = some (.cells #[.slice A0 e.vars.length g0] 28 (0, 0)) ∧ wx.heap[bf]? = some (.cells #[.slice A1 e.left.length g1] 28 (0, 0)) ∧ wx.heap[bo]? = some (.cells #[.slice A2 e.right.length g2] 28 (0, 0)) ∧ bl ≠ bf ∧ bl ≠ bo ∧ bf ≠ bo ∧ W2.heap.size ≤ bl ∧ W2.heap.size ≤ bf ∧ W2.heap.size ≤ bo ∧ Below W2.heap.size W2 wx)
  case first =>
   go_region_held3 (fun w' => w'.cell? ⟨w.heap.size, 2, none⟩ = some (.slice (some ⟨b, o, none⟩) t.eqs.length ctb) ∧ w'.cell? ⟨b, o + k * 3, none⟩ = some (.slice A0 e.vars.length g0) ∧ w'.cell? ⟨b, o + k * 3 + 1, none⟩ = some (.slice A1 e.left.length g1) ∧ w'.cell? ⟨b, o + k * 3 + 2, none⟩ = some (.slice A2 e.right.length g2)) (first | (refine keep4 ?_ n2 n3 n4 n5; repeat (first | exact Below.refl _ _ | apply bw_drew | apply bw_alloc | (apply bw_set; rotate_left; omega)))) (first | fail)
   all_goals
    go_wp2_with fail
    go_meet
    case rel =>
      obtain ⟨p0, p1, p2, hbx⟩ := three_new (W := W2) (wx := (((W2.alloc _).alloc _).alloc _).drew) rfl rfl rfl rfl
      rw [hsz2] at p0 p1 p2
      refine ⟨_, _, _, rfl, rfl, rfl, ?_, ?_, ?_, by omega, by omega, by omega, by omega, by omega, by omega, hbx⟩ <;> first | exact p0 | exact p1 | exact p2
  case rest =>
  obtain ⟨bl, bf, bo, rfl, rfl, rfl, w1, w2, w3, d1, d2, d3, l1, l2, l3, hbx⟩ := hcut
  clear n2 n3 n4 n5 ea eb
  have rb := (hbx.block _ (by omega)).trans ZR.out
  have f1 := w1
  have f2 := w2
  have f3 := w3
  have rb4 := rb
  have hb4 := hbx
  obtain ⟨W4, rfl⟩ : ∃ W4, W4 = wc := ⟨_, rfl⟩
  have HF := Lib.hid (And.intro f1 (And.intro f2 (And.intro f3 (And.intro rb4 (And.intro hb4 (And.intro l1 (And.intro l2 l3)))))))
  have v1 : W4.cell? ⟨bl, 0, none⟩ = some (.slice A0 e.vars.length g0) := blk_cell f1 0
  have v2 : W4.cell? ⟨bf, 0, none⟩ = some (.slice A1 e.left.length g1) := blk_cell f2 0
  have v3 : W4.cell? ⟨bo, 0, none⟩ = some (.slice A2 e.right.length g2) := blk_cell f3 0
  have x0 : W4.cell? ⟨w.heap.size + 1, 0, none⟩ = some (.slice none 0 0) := blk_cell rb4 0
  have x1 : W4.cell? ⟨w.heap.size + 1, 1, none⟩ = some (.slice none 0 0) := blk_cell rb4 1
  have x2 : W4.cell? ⟨w.heap.size + 1, 2, none⟩ = some (.slice none 0 0) := blk_cell rb4 2
  have x3 : W4.cell? ⟨w.heap.size + 1, 3, none⟩ = some .nilFunc := blk_cell rb4 3
  have y0 := blk_free rb4 0
  have y1 := blk_free rb4 1
  have y2 := blk_free rb4 2
  have y3 := blk_free rb4 3
  clear f1 f2 f3 rb4 hb4 w1 w2 w3 d1 d2 d3 l1 l2 l3 hbx rb 
  go_wp2
  obtain ⟨f1, f2, f3, rb4, hb4, l1, l2, l3⟩ := HF.out
  obtain ⟨fn, hfn⟩ : ∃ fn, fn = Value.func (Fn.func 124) #[] #[.pointer (some ⟨w.heap.size, 0, none⟩), .pointer (some ⟨bl, 0, none⟩), .pointer (some ⟨bf, 0, none⟩), .pointer (some ⟨bo, 0, none⟩)] := ⟨_, rfl⟩
  rw [← hfn]
  have r1 := blk_set (blk_set (blk_set (blk_set rb4 0 (.slice A0 e.vars.length g0)) 1 (.slice A1 e.left.length g1)) 2 (.slice A2 e.right.length g2)) 3 fn
  have oth : ∀ b' : Nat, b' ≠ w.heap.size + 1 → ((((W4.setCell ⟨w.heap.size + 1, 0, none⟩ (.slice A0 e.vars.length g0)).setCell ⟨w.heap.size + 1, 1, none⟩ (.slice A1 e.left.length g1)).setCell ⟨w.heap.size + 1, 2, none⟩ (.slice A2 e.right.length g2)).setCell ⟨w.heap.size + 1, 3, none⟩ fn).heap[b']? = W4.heap[b']? := fun b' hb' => by
    rw [Below.heap_setCell _ ⟨w.heap.size + 1, 3, none⟩ _ b' hb', Below.heap_setCell _ ⟨w.heap.size + 1, 2, none⟩ _ b' hb', Below.heap_setCell _ ⟨w.heap.size + 1, 1, none⟩ _ b' hb', Below.heap_setCell _ ⟨w.heap.size + 1, 0, none⟩ _ b' hb']
  have hW4 : Below W.heap.size W W4 := HKA.out.trans (hb4.mono HKA.out.size)
  have hW5 := (((hW4.setCell (p := ⟨w.heap.size + 1, 0, none⟩) (by show W.heap.size ≤ w.heap.size + 1; omega) (.slice A0 e.vars.length g0)).setCell (p := ⟨w.heap.size + 1, 1, none⟩) (by show W.heap.size ≤ w.heap.size + 1; omega) (.slice A1 e.left.length g1)).setCell (p := ⟨w.heap.size + 1, 2, none⟩) (by show W.heap.size ≤ w.heap.size + 1; omega) (.slice A2 e.right.length g2)).setCell (p := ⟨w.heap.size + 1, 3, none⟩) (by show W.heap.size ≤ w.heap.size + 1; omega) fn
  generalize (((W4.setCell ⟨w.heap.size + 1, 0, none⟩ (.slice A0 e.vars.length g0)).setCell ⟨w.heap.size + 1, 1, none⟩ (.slice A1 e.left.length g1)).setCell ⟨w.heap.size + 1, 2, none⟩ (.slice A2 e.right.length g2)).setCell ⟨w.heap.size + 1, 3, none⟩ fn = W5 at r1 oth hW5 ⊢
  have k0 : W5.cell? ⟨w.heap.size + 1, 0, none⟩ = some (.slice A0 e.vars.length g0) := blk_cell r1 0
  have k1 : W5.cell? ⟨w.heap.size + 1, 1, none⟩ = some (.slice A1 e.left.length g1) := blk_cell r1 1
  have k2 : W5.cell? ⟨w.heap.size + 1, 2, none⟩ = some (.slice A2 e.right.length g2) := blk_cell r1 2
  have k3 : W5.cell? ⟨w.heap.size + 1, 3, none⟩ = some fn := blk_cell r1 3
  clear v1 v2 v3 x0 x1 x2 x3 y0 y1 y2 y3
  refine bodyPost_ret (v := .agg #[.slice A0 e.vars.length g0, .slice A1 e.left.length g1, .slice A2 e.right.length g2, fn]) (by simp [results, Try.results113, go_sem, k0, k1, k2, k3]) rfl ?_
  obtain ⟨q0, q1, q2⟩ := HX.out
  have c1 : W5.cell? ⟨w.heap.size, 0, none⟩ = some (.int .i64 t.over.sorts) := (World.cell?_of_block (oth w.heap.size (by omega))).trans (cell_keep hb4 HN.out.1)
  have c2 : W5.cell? ⟨w.heap.size, 1, none⟩ = some (.slice Ata t.over.ops.length cta) := (World.cell?_of_block (oth w.heap.size (by omega))).trans (cell_keep hb4 HN.out.2)
  have c3 := (blk_cell ((oth bl (by omega)).trans f1) 0)
  have c4 := (blk_cell ((oth bf (by omega)).trans f2) 0)
  have c5 := (blk_cell ((oth bo (by omega)).trans f3) 0)
  refine ⟨_, _, _, _, rfl, q0.keep hW5, q1.keep hW5, q2.keep hW5, ⟨w.heap.size, bl, bf, bo, _, _, _, _, hfn, c1, c2, HR1.out.keep hW5, c3, q0.keep hW5, c4, q1.keep hW5, c5, q2.keep hW5⟩, ⟨_, hfn⟩, HB.out.trans (hW5.mono HB.out.size)⟩
end

section
open Go.RowKit
set_option linter.unusedVariables false
set_option linter.unusedSimpArgs false

theorem eqOkB_no {s : MSig} {e : MEq} (h : ¬ 0 ≤ sortM s e.vars e.left) : eqOkB s e = false := by unfold eqOkB; simp [h]
theorem eqOkB_cmp {s : MSig} {e : MEq} (h : 0 ≤ sortM s e.vars e.left) : eqOkB s e = (sortM s e.vars e.right == sortM s e.vars e.left) := by
  unfold eqOkB; rw [decide_eq_true h, Bool.true_and]; rfl

set_option maxRecDepth 100000 in
theorem eqOk_any (s : MSig) (e : MEq) (w : World) (v ev : Value) (hsm : SmallE e) (h : RSig w v s) (he : REq w ev e) :
    Calls Try.prog 99 #[v, ev] w fun x w' => x = .returned (.bool (eqOkB s e)) ∧ Below w.heap.size w w' := by
  obtain ⟨A, c, rfl⟩ := h.form
  obtain ⟨A0, c0, A1, c1, A2, c2, rfl⟩ := he.form
  have hb : Below w.heap.size w ((w.alloc (.cells #[.int .i64 s.sorts, .slice A s.ops.length c] 37)).alloc (.cells #[.slice A0 e.vars.length c0, .slice A1 e.left.length c1, .slice A2 e.right.length c2] 63)) := (below_alloc _ _).alloc (by simp) _
  obtain ⟨r0, r1, r2⟩ := (he.keep hb).of
  have HS := Lib.hid (h.keep hb)
  have R0 := Lib.hid r0
  have R1 := Lib.hid r1
  have R2 := Lib.hid r2
  have HB := Lib.hid hb
  have HSM := Lib.hid hsm
  have s0 := cell_keep (below_alloc (w.alloc (.cells #[.int .i64 s.sorts, .slice A s.ops.length c] 37)) (.cells #[.slice A0 e.vars.length c0, .slice A1 e.left.length c1, .slice A2 e.right.length c2] 63)) (bx_at w #[.int .i64 s.sorts, .slice A s.ops.length c] 37 (k := 0) rfl)
  have s1 := cell_keep (below_alloc (w.alloc (.cells #[.int .i64 s.sorts, .slice A s.ops.length c] 37)) (.cells #[.slice A0 e.vars.length c0, .slice A1 e.left.length c1, .slice A2 e.right.length c2] 63)) (bx_at w #[.int .i64 s.sorts, .slice A s.ops.length c] 37 (k := 1) rfl)
  have e0 := bx_at (w.alloc (.cells #[.int .i64 s.sorts, .slice A s.ops.length c] 37)) #[.slice A0 e.vars.length c0, .slice A1 e.left.length c1, .slice A2 e.right.length c2] 63 (k := 0) rfl
  have e1 := bx_at (w.alloc (.cells #[.int .i64 s.sorts, .slice A s.ops.length c] 37)) #[.slice A0 e.vars.length c0, .slice A1 e.left.length c1, .slice A2 e.right.length c2] 63 (k := 1) rfl
  have e2 := bx_at (w.alloc (.cells #[.int .i64 s.sorts, .slice A s.ops.length c] 37)) #[.slice A0 e.vars.length c0, .slice A1 e.left.length c1, .slice A2 e.right.length c2] 63 (k := 2) rfl
  simp only [World.size_alloc] at e0 e1 e2
  generalize hW : (w.alloc (.cells #[.int .i64 s.sorts, .slice A s.ops.length c] 37)).alloc (.cells #[.slice A0 e.vars.length c0, .slice A1 e.left.length c1, .slice A2 e.right.length c2] 63) = W at HS R0 R1 R2 HB s0 s1 e0 e1 e2
  clear h he hb r0 r1 r2 hsm
  go_enter Try.func99, Try.ntmps99
  go_wp2_with fail
  clear hW
  refine (termSort_any s e.vars e.left _ _ _ _ HSM.out.1 HS.out R0.out R1.out).mono ?_
  rintro x w1 ⟨rfl, hb1⟩
  have t0 := cell_keep hb1 s0
  have t1 := cell_keep hb1 s1
  have t2 := cell_keep hb1 e0
  have t3 := cell_keep hb1 e1
  have t4 := cell_keep hb1 e2
  have HB1 := Lib.hid (fit_keep HB.out hb1)
  have HS1 := Lib.hid (HS.out.keep hb1)
  have R01 := Lib.hid (R0.out.keep hb1)
  have R21 := Lib.hid (R2.out.keep hb1)
  clear hb1 s0 s1 e0 e1 e2 HS R0 R1 R2 HB
  by_cases h0 : 0 ≤ sortM s e.vars e.left
  · have HE := Lib.hid (eqOkB_cmp h0)
    generalize hq : sortM s e.vars e.left = q at h0 HE
    clear hq
    go_wp2_with fail
    refine (termSort_any s e.vars e.right _ _ _ _ HSM.out.2 HS1.out R01.out R21.out).mono ?_
    rintro x w2 ⟨rfl, hb2⟩
    have HB2 := Lib.hid (fit_keep HB1.out hb2)
    clear hb2 t0 t1 t2 t3 t4
    go_wp2
    go_ret
    exact ⟨ret_bool HE.out.symm, HB2.out⟩
  · have HE := Lib.hid (eqOkB_no h0)
    generalize hq : sortM s e.vars e.left = q at h0
    clear hq
    go_wp2
    go_ret
    exact ⟨ret_bool HE.out.symm, HB1.out⟩

set_option maxRecDepth 100000 in
set_option maxHeartbeats 1600000 in
theorem specEqOk_any (s : MSig) (e : MEq) (w : World) (v ev : Value) (h : RSig w v s) (he : REq w ev e) :
    Calls Try.prog 89 #[v, ev] w fun x w' => x = .returned (.bool (eqOkB s e)) ∧ Below w.heap.size w w' := by
  obtain ⟨Asa, csa, rfl⟩ := h.form
  obtain ⟨Aea, cea, Aeb, ceb, Aec, cec, rfl⟩ := he.form
  have hb : Below w.heap.size w ((w.alloc (.cells #[.int .i64 s.sorts, .slice Asa s.ops.length csa] 37)).alloc (.cells #[.slice Aea e.vars.length cea, .slice Aeb e.left.length ceb, .slice Aec e.right.length cec] 63)) := (below_alloc _ _).alloc (by simp) _
  have HB := Lib.hid hb
  have hsz : ((w.alloc (.cells #[.int .i64 s.sorts, .slice Asa s.ops.length csa] 37)).alloc (.cells #[.slice Aea e.vars.length cea, .slice Aeb e.left.length ceb, .slice Aec e.right.length cec] 63)).heap.size = w.heap.size + 2 := by simp
  have Hs := Lib.hid (h.keep hb)
  have s0 := cell_keep (below_alloc (w.alloc (.cells #[.int .i64 s.sorts, .slice Asa s.ops.length csa] 37)) (.cells #[.slice Aea e.vars.length cea, .slice Aeb e.left.length ceb, .slice Aec e.right.length cec] 63)) (bx_at (w) #[.int .i64 s.sorts, .slice Asa s.ops.length csa] 37 (k := 0) rfl)
  have s1 := cell_keep (below_alloc (w.alloc (.cells #[.int .i64 s.sorts, .slice Asa s.ops.length csa] 37)) (.cells #[.slice Aea e.vars.length cea, .slice Aeb e.left.length ceb, .slice Aec e.right.length cec] 63)) (bx_at (w) #[.int .i64 s.sorts, .slice Asa s.ops.length csa] 37 (k := 1) rfl)
  have He := Lib.hid (he.keep hb)
  have e0 := bx_at (w.alloc (.cells #[.int .i64 s.sorts, .slice Asa s.ops.length csa] 37)) #[.slice Aea e.vars.length cea, .slice Aeb e.left.length ceb, .slice Aec e.right.length cec] 63 (k := 0) rfl
  have e1 := bx_at (w.alloc (.cells #[.int .i64 s.sorts, .slice Asa s.ops.length csa] 37)) #[.slice Aea e.vars.length cea, .slice Aeb e.left.length ceb, .slice Aec e.right.length cec] 63 (k := 1) rfl
  have e2 := bx_at (w.alloc (.cells #[.int .i64 s.sorts, .slice Asa s.ops.length csa] 37)) #[.slice Aea e.vars.length cea, .slice Aeb e.left.length ceb, .slice Aec e.right.length cec] 63 (k := 2) rfl
  simp only [World.size_alloc] at e0 e1 e2
  generalize hW : (w.alloc (.cells #[.int .i64 s.sorts, .slice Asa s.ops.length csa] 37)).alloc (.cells #[.slice Aea e.vars.length cea, .slice Aeb e.left.length ceb, .slice Aec e.right.length cec] 63) = W at HB hsz Hs s0 s1 He e0 e1 e2
  clear hb h he
  obtain ⟨r0, r1, r2⟩ := He.out.of
  have R0 := Lib.hid r0
  have R1 := Lib.hid r1
  have R2 := Lib.hid r2
  have HC := Lib.hid (And.intro s0 (And.intro s1 (And.intro e0 (And.intro e1 e2))))
  clear r0 r1 r2
  have ea := World.new_ne W _ s0
  have eb := World.new_ne W _ e0
  by_cases h0 : 0 ≤ sortM s e.vars e.left
  · have HE := Lib.hid (eqOkB_cmp h0)
    obtain ⟨q, hq⟩ : ∃ q, sortM s e.vars e.left = q := ⟨_, rfl⟩
    obtain ⟨p, hp⟩ : ∃ p, sortM s e.vars e.right = p := ⟨_, rfl⟩
    rw [hq] at h0 HE
    rw [hp] at HE
    have HQ := Lib.hid hq
    have HP := Lib.hid hp
    clear hq hp
    go_enter Try.func89, Try.ntmps89
    go_wp2_with fail
    clear hW
    refine wp_region_held_drew (S := (fun w' => w'.cell? ⟨w.heap.size, 0, none⟩ = some (.int .i64 s.sorts) ∧ w'.cell? ⟨w.heap.size, 1, none⟩ = some (.slice Asa s.ops.length csa) ∧ w'.cell? ⟨w.heap.size + 1, 0, none⟩ = some (.slice Aea e.vars.length cea) ∧ w'.cell? ⟨w.heap.size + 1, 1, none⟩ = some (.slice Aeb e.left.length ceb) ∧ w'.cell? ⟨w.heap.size + 1, 2, none⟩ = some (.slice Aec e.right.length cec))) (by kernel_rfl) ?_ (fun hHeld => ?_)
    · exact ⟨s0, s1, e0, e1, e2⟩
    refine wpAnyH_take (i := 0) (oi := _) (v := ?_) rfl (by kernel_rfl) (by kernel_rfl) (by kernel_rfl) (fun _ _ _ h => h) (Or.inl ⟨by rfl, ?_⟩) (by assumption) ?_
    rotate_left
    · first | (intro w' hSw; (try dsimp only at hSw); go_simp; done) | (intro w' hSw; (try dsimp only at hSw); go_simp; with_reducible rfl)
    try simp only [Act.put, List.getElem_toArray, List.getElem_cons_zero, List.getElem_cons_succ, List.setIfInBounds_toArray, List.set_cons_zero, List.set_cons_succ]
    refine wpAnyH_take (i := 1) (oi := _) (v := ?_) rfl (by kernel_rfl) (by kernel_rfl) (by kernel_rfl) (fun _ _ _ h => h) (Or.inl ⟨by rfl, ?_⟩) (by assumption) ?_
    rotate_left
    · first | (intro w' hSw; (try dsimp only at hSw); go_simp; done) | (intro w' hSw; (try dsimp only at hSw); go_simp; with_reducible rfl)
    try simp only [Act.put, List.getElem_toArray, List.getElem_cons_zero, List.getElem_cons_succ, List.setIfInBounds_toArray, List.set_cons_zero, List.set_cons_succ]
    refine wpAnyH_take (i := 2) (oi := _) (v := ?_) rfl (by kernel_rfl) (by kernel_rfl) (by kernel_rfl) (fun _ _ _ h => h) (Or.inl ⟨by rfl, ?_⟩) (by assumption) ?_
    rotate_left
    · first | (intro w' hSw; (try dsimp only at hSw); go_simp; done) | (intro w' hSw; (try dsimp only at hSw); go_simp; with_reducible rfl)
    try simp only [Act.put, List.getElem_toArray, List.getElem_cons_zero, List.getElem_cons_succ, List.setIfInBounds_toArray, List.set_cons_zero, List.set_cons_succ]
    refine wpAnyH_take (i := 3) (oi := _) (v := ?_) rfl (by kernel_rfl) (by kernel_rfl) (by kernel_rfl) (fun _ _ _ h => h) (Or.inl ⟨by rfl, ?_⟩) (by assumption) ?_
    rotate_left
    · first | (intro w' hSw; (try dsimp only at hSw); go_simp; done) | (intro w' hSw; (try dsimp only at hSw); go_simp; with_reducible rfl)
    try simp only [Act.put, List.getElem_toArray, List.getElem_cons_zero, List.getElem_cons_succ, List.setIfInBounds_toArray, List.set_cons_zero, List.set_cons_succ]
    refine wpAnyH_take (i := 4) (oi := _) (v := ?_) rfl (by kernel_rfl) (by kernel_rfl) (by kernel_rfl) (fun _ _ _ h => h) (Or.inl ⟨by rfl, ?_⟩) (by assumption) ?_
    rotate_left
    · first | (intro w' hSw; (try dsimp only at hSw); go_simp; done) | (intro w' hSw; (try dsimp only at hSw); go_simp; with_reducible rfl)
    try simp only [Act.put, List.getElem_toArray, List.getElem_cons_zero, List.getElem_cons_succ, List.setIfInBounds_toArray, List.set_cons_zero, List.set_cons_succ]
    refine wpAnyH_ready (rs := [5]) (by kernel_rfl) (by simp) ?_
    refine AllReadyH.cons (o := _) rfl (fun K hK => ?_) AllReadyH.nil
    go_simp
    refine (specTermSort_any s e.vars e.left W.drew _ _ _ (Hs.out.keep (bel_drew (Below.refl _ _))) (R0.out.keep (bel_drew (Below.refl _ _))) (R1.out.keep (bel_drew (Below.refl _ _)))).mono ?_
    rw [HQ.out]
    rintro x w1 ⟨rfl, hb1⟩
    have hx1 := (show Below W.heap.size W w1 from bel_undrew hb1)
    have HX1 := Lib.hid hx1
    have t0 := cell_keep hx1 s0
    have t1 := cell_keep hx1 s1
    have t2 := cell_keep hx1 e0
    have t3 := cell_keep hx1 e1
    have t4 := cell_keep hx1 e2
    clear hb1 hx1
    go_wp2_with fail
    refine hK.out _ _ ?_ (fun hHeld => ?_)
    · exact ⟨t0, t1, t2, t3, t4⟩
    clear hK K
    try simp only [Act.put, List.getElem_toArray, List.getElem_cons_zero, List.getElem_cons_succ, List.setIfInBounds_toArray, List.set_cons_zero, List.set_cons_succ]
    refine wpAnyH_take (i := 6) (oi := _) (v := ?_) rfl (by kernel_rfl) (by kernel_rfl) (by kernel_rfl) (fun _ _ _ h => h) (Or.inl ⟨by rfl, ?_⟩) (by assumption) ?_
    rotate_left
    · first | (intro w' hSw; (try dsimp only at hSw); go_simp; done) | (intro w' hSw; (try dsimp only at hSw); go_simp; with_reducible rfl)
    try simp only [Act.put, List.getElem_toArray, List.getElem_cons_zero, List.getElem_cons_succ, List.setIfInBounds_toArray, List.set_cons_zero, List.set_cons_succ]
    refine wpAnyH_take (i := 7) (oi := _) (v := ?_) rfl (by kernel_rfl) (by kernel_rfl) (by kernel_rfl) (fun _ _ _ h => h) (Or.inl ⟨by rfl, ?_⟩) (by assumption) ?_
    rotate_left
    · first | (intro w' hSw; (try dsimp only at hSw); go_simp; done) | (intro w' hSw; (try dsimp only at hSw); go_simp; with_reducible rfl)
    try simp only [Act.put, List.getElem_toArray, List.getElem_cons_zero, List.getElem_cons_succ, List.setIfInBounds_toArray, List.set_cons_zero, List.set_cons_succ]
    refine wpAnyH_take (i := 8) (oi := _) (v := ?_) rfl (by kernel_rfl) (by kernel_rfl) (by kernel_rfl) (fun _ _ _ h => h) (Or.inl ⟨by rfl, ?_⟩) (by assumption) ?_
    rotate_left
    · first | (intro w' hSw; (try dsimp only at hSw); go_simp; done) | (intro w' hSw; (try dsimp only at hSw); go_simp; with_reducible rfl)
    try simp only [Act.put, List.getElem_toArray, List.getElem_cons_zero, List.getElem_cons_succ, List.setIfInBounds_toArray, List.set_cons_zero, List.set_cons_succ]
    refine wpAnyH_take (i := 9) (oi := _) (v := ?_) rfl (by kernel_rfl) (by kernel_rfl) (by kernel_rfl) (fun _ _ _ h => h) (Or.inl ⟨by rfl, ?_⟩) (by assumption) ?_
    rotate_left
    · first | (intro w' hSw; (try dsimp only at hSw); go_simp; done) | (intro w' hSw; (try dsimp only at hSw); go_simp; with_reducible rfl)
    try simp only [Act.put, List.getElem_toArray, List.getElem_cons_zero, List.getElem_cons_succ, List.setIfInBounds_toArray, List.set_cons_zero, List.set_cons_succ]
    refine wpAnyH_take (i := 10) (oi := _) (v := ?_) rfl (by kernel_rfl) (by kernel_rfl) (by kernel_rfl) (fun _ _ _ h => h) (Or.inl ⟨by rfl, ?_⟩) (by assumption) ?_
    rotate_left
    · first | (intro w' hSw; (try dsimp only at hSw); go_simp; done) | (intro w' hSw; (try dsimp only at hSw); go_simp; with_reducible rfl)
    try simp only [Act.put, List.getElem_toArray, List.getElem_cons_zero, List.getElem_cons_succ, List.setIfInBounds_toArray, List.set_cons_zero, List.set_cons_succ]
    refine wpAnyH_take (i := 11) (oi := _) (v := ?_) rfl (by kernel_rfl) (by kernel_rfl) (by kernel_rfl) (fun _ _ _ h => h) (Or.inl ⟨by rfl, ?_⟩) (by assumption) ?_
    rotate_left
    · first | (intro w' hSw; (try dsimp only at hSw); go_simp; done) | (intro w' hSw; (try dsimp only at hSw); go_simp; with_reducible rfl)
    try simp only [Act.put, List.getElem_toArray, List.getElem_cons_zero, List.getElem_cons_succ, List.setIfInBounds_toArray, List.set_cons_zero, List.set_cons_succ]
    refine wpAnyH_take (i := 12) (oi := _) (v := ?_) rfl (by kernel_rfl) (by kernel_rfl) (by kernel_rfl) (fun _ _ _ h => h) (Or.inl ⟨by rfl, ?_⟩) (by assumption) ?_
    rotate_left
    · first | (intro w' hSw; (try dsimp only at hSw); go_simp; done) | (intro w' hSw; (try dsimp only at hSw); go_simp; with_reducible rfl)
    try simp only [Act.put, List.getElem_toArray, List.getElem_cons_zero, List.getElem_cons_succ, List.setIfInBounds_toArray, List.set_cons_zero, List.set_cons_succ]
    refine wpAnyH_take (i := 14) (oi := _) (v := ?_) rfl (by kernel_rfl) (by kernel_rfl) (by kernel_rfl) (fun _ _ _ h => h) (Or.inl ⟨by rfl, ?_⟩) (by assumption) ?_
    rotate_left
    · first | (intro w' hSw; (try dsimp only at hSw); go_simp; done) | (intro w' hSw; (try dsimp only at hSw); go_simp; with_reducible rfl)
    try simp only [Act.put, List.getElem_toArray, List.getElem_cons_zero, List.getElem_cons_succ, List.setIfInBounds_toArray, List.set_cons_zero, List.set_cons_succ]
    refine wpAnyH_take (i := 15) (oi := _) (v := ?_) rfl (by kernel_rfl) (by kernel_rfl) (by kernel_rfl) (fun _ _ _ h => h) (Or.inl ⟨by rfl, ?_⟩) (by assumption) ?_
    rotate_left
    · first | (intro w' hSw; (try dsimp only at hSw); go_simp; done) | (intro w' hSw; (try dsimp only at hSw); go_simp; with_reducible rfl)
    try simp only [Act.put, List.getElem_toArray, List.getElem_cons_zero, List.getElem_cons_succ, List.setIfInBounds_toArray, List.set_cons_zero, List.set_cons_succ]
    refine wpAnyH_take (i := 16) (oi := _) (v := ?_) rfl (by kernel_rfl) (by kernel_rfl) (by kernel_rfl) (fun _ _ _ h => h) (Or.inl ⟨by rfl, ?_⟩) (by assumption) ?_
    rotate_left
    · first | (intro w' hSw; (try dsimp only at hSw); go_simp; done) | (intro w' hSw; (try dsimp only at hSw); go_simp; with_reducible rfl)
    try simp only [Act.put, List.getElem_toArray, List.getElem_cons_zero, List.getElem_cons_succ, List.setIfInBounds_toArray, List.set_cons_zero, List.set_cons_succ]
    refine wpAnyH_take (i := 17) (oi := _) (v := ?_) rfl (by kernel_rfl) (by kernel_rfl) (by kernel_rfl) (fun _ _ _ h => h) (Or.inl ⟨by rfl, ?_⟩) (by assumption) ?_
    rotate_left
    · first | (intro w' hSw; (try dsimp only at hSw); go_simp; done) | (intro w' hSw; (try dsimp only at hSw); go_simp; with_reducible rfl)
    try simp only [Act.put, List.getElem_toArray, List.getElem_cons_zero, List.getElem_cons_succ, List.setIfInBounds_toArray, List.set_cons_zero, List.set_cons_succ]
    refine wpAnyH_take (i := 18) (oi := _) (v := ?_) rfl (by kernel_rfl) (by kernel_rfl) (by kernel_rfl) (fun _ _ _ h => h) (Or.inl ⟨by rfl, ?_⟩) (by assumption) ?_
    rotate_left
    · first | (intro w' hSw; (try dsimp only at hSw); go_simp; done) | (intro w' hSw; (try dsimp only at hSw); go_simp; with_reducible rfl)
    try simp only [Act.put, List.getElem_toArray, List.getElem_cons_zero, List.getElem_cons_succ, List.setIfInBounds_toArray, List.set_cons_zero, List.set_cons_succ]
    refine wpAnyH_ready (rs := [13]) (by kernel_rfl) (by simp) ?_
    refine AllReadyH.cons (o := _) rfl (fun K hK => ?_) AllReadyH.nil
    go_simp
    refine (specTermSort_any s e.vars e.left w1 _ _ _ (Hs.out.keep HX1.out) (R0.out.keep HX1.out) (R1.out.keep HX1.out)).mono ?_
    rw [HQ.out]
    rintro x w2 ⟨rfl, hb2⟩
    have HX2 := Lib.hid (fit_keep HX1.out hb2)
    have u0 := cell_keep hb2 t0
    have u1 := cell_keep hb2 t1
    have u2 := cell_keep hb2 t2
    have u3 := cell_keep hb2 t3
    have u4 := cell_keep hb2 t4
    clear hb2
    go_wp2_with fail
    refine hK.out _ _ ?_ (fun hHeld => ?_)
    · exact ⟨u0, u1, u2, u3, u4⟩
    clear hK K
    try simp only [Act.put, List.getElem_toArray, List.getElem_cons_zero, List.getElem_cons_succ, List.setIfInBounds_toArray, List.set_cons_zero, List.set_cons_succ]
    refine wpAnyH_ready (rs := [19]) (by kernel_rfl) (by simp) ?_
    refine AllReadyH.cons (o := _) rfl (fun K hK => ?_) AllReadyH.nil
    go_simp
    refine (specTermSort_any s e.vars e.right w2 _ _ _ (Hs.out.keep HX2.out) (R0.out.keep HX2.out) (R2.out.keep HX2.out)).mono ?_
    rw [HP.out]
    rintro x w3 ⟨rfl, hb3⟩
    have HX3 := Lib.hid (fit_keep HX2.out hb3)
    have v0 := cell_keep hb3 u0
    have v1 := cell_keep hb3 u1
    have v2 := cell_keep hb3 u2
    have v3 := cell_keep hb3 u3
    have v4 := cell_keep hb3 u4
    clear hb3
    go_wp2_with fail
    refine hK.out _ _ ?_ (fun hHeld => ?_)
    · exact ⟨v0, v1, v2, v3, v4⟩
    clear hK K
    try simp only [Act.put, List.getElem_toArray, List.getElem_cons_zero, List.getElem_cons_succ, List.setIfInBounds_toArray, List.set_cons_zero, List.set_cons_succ]
    refine wpAnyH_take (i := 20) (oi := _) (v := ?_) rfl (by kernel_rfl) (by kernel_rfl) (by kernel_rfl) (fun _ _ _ h => h) (Or.inl ⟨by rfl, ?_⟩) (by assumption) ?_
    rotate_left
    · first | (intro w' hSw; (try dsimp only at hSw); go_simp; done) | (intro w' hSw; (try dsimp only at hSw); go_simp; with_reducible rfl)
    try simp only [Act.put, List.getElem_toArray, List.getElem_cons_zero, List.getElem_cons_succ, List.setIfInBounds_toArray, List.set_cons_zero, List.set_cons_succ]
    refine wpAnyH_take (i := 21) (oi := _) (v := ?_) rfl (by kernel_rfl) (by kernel_rfl) (by kernel_rfl) (fun _ _ _ h => h) (Or.inl ⟨by rfl, ?_⟩) (by assumption) ?_
    rotate_left
    · first | (intro w' hSw; (try dsimp only at hSw); go_simp; done) | (intro w' hSw; (try dsimp only at hSw); go_simp; with_reducible rfl)
    try simp only [Act.put, List.getElem_toArray, List.getElem_cons_zero, List.getElem_cons_succ, List.setIfInBounds_toArray, List.set_cons_zero, List.set_cons_succ]
    refine wpAnyH_take (i := 22) (oi := _) (v := ?_) rfl (by kernel_rfl) (by kernel_rfl) (by kernel_rfl) (fun _ _ _ h => h) (Or.inl ⟨by rfl, ?_⟩) (by assumption) ?_
    rotate_left
    · first | (intro w' hSw; (try dsimp only at hSw); go_simp; done) | (intro w' hSw; (try dsimp only at hSw); go_simp; with_reducible rfl)
    try simp only [Act.put, List.getElem_toArray, List.getElem_cons_zero, List.getElem_cons_succ, List.setIfInBounds_toArray, List.set_cons_zero, List.set_cons_succ]
    refine wpAnyH_done (by kernel_rfl) ?_ _
    clear s0 s1 e0 e1 e2 t0 t1 t2 t3 t4 u0 u1 u2 u3 u4 v0 v1 v2 v3 v4 ea eb
    go_wp2
    go_ret
    exact ⟨ret_bool (by rw [HE.out]; exact Bool.beq_comm), fit_keep HB.out HX3.out⟩
  · have HE := Lib.hid (eqOkB_no h0)
    obtain ⟨q, hq⟩ : ∃ q, sortM s e.vars e.left = q := ⟨_, rfl⟩
    rw [hq] at h0
    have h0' : q < 0 := by omega
    have h1' : decide (0 ≤ q) = false := by simp; omega
    have HQ := Lib.hid hq
    clear hq
    go_enter Try.func89, Try.ntmps89
    go_wp2_with fail
    clear hW
    refine wp_region_held_drew (S := (fun w' => w'.cell? ⟨w.heap.size, 0, none⟩ = some (.int .i64 s.sorts) ∧ w'.cell? ⟨w.heap.size, 1, none⟩ = some (.slice Asa s.ops.length csa) ∧ w'.cell? ⟨w.heap.size + 1, 0, none⟩ = some (.slice Aea e.vars.length cea) ∧ w'.cell? ⟨w.heap.size + 1, 1, none⟩ = some (.slice Aeb e.left.length ceb) ∧ w'.cell? ⟨w.heap.size + 1, 2, none⟩ = some (.slice Aec e.right.length cec))) (by kernel_rfl) ?_ (fun hHeld => ?_)
    · exact ⟨s0, s1, e0, e1, e2⟩
    refine wpAnyH_take (i := 0) (oi := _) (v := ?_) rfl (by kernel_rfl) (by kernel_rfl) (by kernel_rfl) (fun _ _ _ h => h) (Or.inl ⟨by rfl, ?_⟩) (by assumption) ?_
    rotate_left
    · first | (intro w' hSw; (try dsimp only at hSw); go_simp; done) | (intro w' hSw; (try dsimp only at hSw); go_simp; with_reducible rfl)
    try simp only [Act.put, List.getElem_toArray, List.getElem_cons_zero, List.getElem_cons_succ, List.setIfInBounds_toArray, List.set_cons_zero, List.set_cons_succ]
    refine wpAnyH_take (i := 1) (oi := _) (v := ?_) rfl (by kernel_rfl) (by kernel_rfl) (by kernel_rfl) (fun _ _ _ h => h) (Or.inl ⟨by rfl, ?_⟩) (by assumption) ?_
    rotate_left
    · first | (intro w' hSw; (try dsimp only at hSw); go_simp; done) | (intro w' hSw; (try dsimp only at hSw); go_simp; with_reducible rfl)
    try simp only [Act.put, List.getElem_toArray, List.getElem_cons_zero, List.getElem_cons_succ, List.setIfInBounds_toArray, List.set_cons_zero, List.set_cons_succ]
    refine wpAnyH_take (i := 2) (oi := _) (v := ?_) rfl (by kernel_rfl) (by kernel_rfl) (by kernel_rfl) (fun _ _ _ h => h) (Or.inl ⟨by rfl, ?_⟩) (by assumption) ?_
    rotate_left
    · first | (intro w' hSw; (try dsimp only at hSw); go_simp; done) | (intro w' hSw; (try dsimp only at hSw); go_simp; with_reducible rfl)
    try simp only [Act.put, List.getElem_toArray, List.getElem_cons_zero, List.getElem_cons_succ, List.setIfInBounds_toArray, List.set_cons_zero, List.set_cons_succ]
    refine wpAnyH_take (i := 3) (oi := _) (v := ?_) rfl (by kernel_rfl) (by kernel_rfl) (by kernel_rfl) (fun _ _ _ h => h) (Or.inl ⟨by rfl, ?_⟩) (by assumption) ?_
    rotate_left
    · first | (intro w' hSw; (try dsimp only at hSw); go_simp; done) | (intro w' hSw; (try dsimp only at hSw); go_simp; with_reducible rfl)
    try simp only [Act.put, List.getElem_toArray, List.getElem_cons_zero, List.getElem_cons_succ, List.setIfInBounds_toArray, List.set_cons_zero, List.set_cons_succ]
    refine wpAnyH_take (i := 4) (oi := _) (v := ?_) rfl (by kernel_rfl) (by kernel_rfl) (by kernel_rfl) (fun _ _ _ h => h) (Or.inl ⟨by rfl, ?_⟩) (by assumption) ?_
    rotate_left
    · first | (intro w' hSw; (try dsimp only at hSw); go_simp; done) | (intro w' hSw; (try dsimp only at hSw); go_simp; with_reducible rfl)
    try simp only [Act.put, List.getElem_toArray, List.getElem_cons_zero, List.getElem_cons_succ, List.setIfInBounds_toArray, List.set_cons_zero, List.set_cons_succ]
    refine wpAnyH_ready (rs := [5]) (by kernel_rfl) (by simp) ?_
    refine AllReadyH.cons (o := _) rfl (fun K hK => ?_) AllReadyH.nil
    go_simp
    refine (specTermSort_any s e.vars e.left W.drew _ _ _ (Hs.out.keep (bel_drew (Below.refl _ _))) (R0.out.keep (bel_drew (Below.refl _ _))) (R1.out.keep (bel_drew (Below.refl _ _)))).mono ?_
    rw [HQ.out]
    rintro x w1 ⟨rfl, hb1⟩
    have hx1 := (show Below W.heap.size W w1 from bel_undrew hb1)
    have HX1 := Lib.hid hx1
    have t0 := cell_keep hx1 s0
    have t1 := cell_keep hx1 s1
    have t2 := cell_keep hx1 e0
    have t3 := cell_keep hx1 e1
    have t4 := cell_keep hx1 e2
    clear hb1 hx1
    go_wp2_with fail
    refine hK.out _ _ ?_ (fun hHeld => ?_)
    · exact ⟨t0, t1, t2, t3, t4⟩
    clear hK K
    try simp only [Act.put, List.getElem_toArray, List.getElem_cons_zero, List.getElem_cons_succ, List.setIfInBounds_toArray, List.set_cons_zero, List.set_cons_succ]
    refine wpAnyH_take (i := 6) (oi := _) (v := ?_) rfl (by kernel_rfl) (by kernel_rfl) (by kernel_rfl) (fun _ _ _ h => h) (Or.inl ⟨by rfl, ?_⟩) (by assumption) ?_
    rotate_left
    · first | (intro w' hSw; (try dsimp only at hSw); go_simp; done) | (intro w' hSw; (try dsimp only at hSw); go_simp; with_reducible rfl)
    try simp only [Act.put, List.getElem_toArray, List.getElem_cons_zero, List.getElem_cons_succ, List.setIfInBounds_toArray, List.set_cons_zero, List.set_cons_succ]
    refine wpAnyH_take (i := 7) (oi := _) (v := ?_) rfl (by kernel_rfl) (by kernel_rfl) (by kernel_rfl) (fun _ _ _ h => h) (Or.inl ⟨by rfl, ?_⟩) (by assumption) ?_
    rotate_left
    · first | (intro w' hSw; (try dsimp only at hSw); go_simp; done) | (intro w' hSw; (try dsimp only at hSw); go_simp; with_reducible rfl)
    try simp only [Act.put, List.getElem_toArray, List.getElem_cons_zero, List.getElem_cons_succ, List.setIfInBounds_toArray, List.set_cons_zero, List.set_cons_succ]
    refine wpAnyH_take (i := 8) (oi := _) (v := _) rfl (by kernel_rfl) (by kernel_rfl) (by kernel_rfl) (fun _ _ _ h => h) (Or.inr ⟨by rfl, rfl⟩) (by assumption) ?_
    try simp only [Act.put, List.getElem_toArray, List.getElem_cons_zero, List.getElem_cons_succ, List.setIfInBounds_toArray, List.set_cons_zero, List.set_cons_succ]
    refine wpAnyH_take (i := 9) (oi := _) (v := _) rfl (by kernel_rfl) (by kernel_rfl) (by kernel_rfl) (fun _ _ _ h => h) (Or.inr ⟨by rfl, rfl⟩) (by assumption) ?_
    try simp only [Act.put, List.getElem_toArray, List.getElem_cons_zero, List.getElem_cons_succ, List.setIfInBounds_toArray, List.set_cons_zero, List.set_cons_succ]
    refine wpAnyH_take (i := 10) (oi := _) (v := _) rfl (by kernel_rfl) (by kernel_rfl) (by kernel_rfl) (fun _ _ _ h => h) (Or.inr ⟨by rfl, rfl⟩) (by assumption) ?_
    try simp only [Act.put, List.getElem_toArray, List.getElem_cons_zero, List.getElem_cons_succ, List.setIfInBounds_toArray, List.set_cons_zero, List.set_cons_succ]
    refine wpAnyH_take (i := 11) (oi := _) (v := _) rfl (by kernel_rfl) (by kernel_rfl) (by kernel_rfl) (fun _ _ _ h => h) (Or.inr ⟨by rfl, rfl⟩) (by assumption) ?_
    try simp only [Act.put, List.getElem_toArray, List.getElem_cons_zero, List.getElem_cons_succ, List.setIfInBounds_toArray, List.set_cons_zero, List.set_cons_succ]
    refine wpAnyH_take (i := 12) (oi := _) (v := _) rfl (by kernel_rfl) (by kernel_rfl) (by kernel_rfl) (fun _ _ _ h => h) (Or.inr ⟨by rfl, rfl⟩) (by assumption) ?_
    try simp only [Act.put, List.getElem_toArray, List.getElem_cons_zero, List.getElem_cons_succ, List.setIfInBounds_toArray, List.set_cons_zero, List.set_cons_succ]
    refine wpAnyH_take (i := 14) (oi := _) (v := _) rfl (by kernel_rfl) (by kernel_rfl) (by kernel_rfl) (fun _ _ _ h => h) (Or.inr ⟨by rfl, rfl⟩) (by assumption) ?_
    try simp only [Act.put, List.getElem_toArray, List.getElem_cons_zero, List.getElem_cons_succ, List.setIfInBounds_toArray, List.set_cons_zero, List.set_cons_succ]
    refine wpAnyH_take (i := 15) (oi := _) (v := _) rfl (by kernel_rfl) (by kernel_rfl) (by kernel_rfl) (fun _ _ _ h => h) (Or.inr ⟨by rfl, rfl⟩) (by assumption) ?_
    try simp only [Act.put, List.getElem_toArray, List.getElem_cons_zero, List.getElem_cons_succ, List.setIfInBounds_toArray, List.set_cons_zero, List.set_cons_succ]
    refine wpAnyH_take (i := 16) (oi := _) (v := _) rfl (by kernel_rfl) (by kernel_rfl) (by kernel_rfl) (fun _ _ _ h => h) (Or.inr ⟨by rfl, rfl⟩) (by assumption) ?_
    try simp only [Act.put, List.getElem_toArray, List.getElem_cons_zero, List.getElem_cons_succ, List.setIfInBounds_toArray, List.set_cons_zero, List.set_cons_succ]
    refine wpAnyH_take (i := 17) (oi := _) (v := _) rfl (by kernel_rfl) (by kernel_rfl) (by kernel_rfl) (fun _ _ _ h => h) (Or.inr ⟨by rfl, rfl⟩) (by assumption) ?_
    try simp only [Act.put, List.getElem_toArray, List.getElem_cons_zero, List.getElem_cons_succ, List.setIfInBounds_toArray, List.set_cons_zero, List.set_cons_succ]
    refine wpAnyH_take (i := 18) (oi := _) (v := _) rfl (by kernel_rfl) (by kernel_rfl) (by kernel_rfl) (fun _ _ _ h => h) (Or.inr ⟨by rfl, rfl⟩) (by assumption) ?_
    try simp only [Act.put, List.getElem_toArray, List.getElem_cons_zero, List.getElem_cons_succ, List.setIfInBounds_toArray, List.set_cons_zero, List.set_cons_succ]
    refine wpAnyH_ready (rs := [13]) (by kernel_rfl) (by simp) ?_
    refine AllReadyH.cons (o := _) rfl (fun K hK => ?_) AllReadyH.nil
    refine ite_off (by rfl) ?_
    refine hK.out _ _ (by assumption) (fun hHeld => ?_)
    clear hK K
    try simp only [Act.put, List.getElem_toArray, List.getElem_cons_zero, List.getElem_cons_succ, List.setIfInBounds_toArray, List.set_cons_zero, List.set_cons_succ]
    refine wpAnyH_ready (rs := [19]) (by kernel_rfl) (by simp) ?_
    refine AllReadyH.cons (o := _) rfl (fun K hK => ?_) AllReadyH.nil
    refine ite_off (by rfl) ?_
    refine hK.out _ _ (by assumption) (fun hHeld => ?_)
    clear hK K
    try simp only [Act.put, List.getElem_toArray, List.getElem_cons_zero, List.getElem_cons_succ, List.setIfInBounds_toArray, List.set_cons_zero, List.set_cons_succ]
    refine wpAnyH_take (i := 20) (oi := _) (v := _) rfl (by kernel_rfl) (by kernel_rfl) (by kernel_rfl) (fun _ _ _ h => h) (Or.inr ⟨by rfl, rfl⟩) (by assumption) ?_
    try simp only [Act.put, List.getElem_toArray, List.getElem_cons_zero, List.getElem_cons_succ, List.setIfInBounds_toArray, List.set_cons_zero, List.set_cons_succ]
    refine wpAnyH_take (i := 21) (oi := _) (v := ?_) rfl (by kernel_rfl) (by kernel_rfl) (by kernel_rfl) (fun _ _ _ h => h) (Or.inl ⟨by rfl, ?_⟩) (by assumption) ?_
    rotate_left
    · first | (intro w' hSw; (try dsimp only at hSw); go_simp; done) | (intro w' hSw; (try dsimp only at hSw); go_simp; with_reducible rfl)
    try simp only [Act.put, List.getElem_toArray, List.getElem_cons_zero, List.getElem_cons_succ, List.setIfInBounds_toArray, List.set_cons_zero, List.set_cons_succ]
    refine wpAnyH_take (i := 22) (oi := _) (v := ?_) rfl (by kernel_rfl) (by kernel_rfl) (by kernel_rfl) (fun _ _ _ h => h) (Or.inl ⟨by rfl, ?_⟩) (by assumption) ?_
    rotate_left
    · first | (intro w' hSw; (try dsimp only at hSw); go_simp; done) | (intro w' hSw; (try dsimp only at hSw); go_simp; with_reducible rfl)
    try simp only [Act.put, List.getElem_toArray, List.getElem_cons_zero, List.getElem_cons_succ, List.setIfInBounds_toArray, List.set_cons_zero, List.set_cons_succ]
    refine wpAnyH_done (by kernel_rfl) ?_ _
    clear s0 s1 e0 e1 e2 t0 t1 t2 t3 t4 ea eb
    go_wp2
    go_ret
    exact ⟨ret_bool HE.out.symm, fit_keep HB.out HX1.out⟩
end

section
open Go.RowKit
set_option linter.unusedVariables false

theorem thyB_no1 {t : MThy} (h : validB t.over = false) : thyB t = false := by unfold thyB; rw [h]; rfl
theorem thyB_no2 {t : MThy} (h : 6 < (t.eqs.length : Int)) : thyB t = false := by
  unfold thyB
  rw [decide_eq_false (by omega)]; simp
theorem thyB_bad {t : MThy} {k : Nat} (hk : k < t.eqs.length) (h : eqOkB t.over t.eqs[k] = false) : thyB t = false := by
  unfold thyB; rw [all_bad hk h]; simp
theorem thyB_yes {t : MThy} (h1 : validB t.over = true) (h2 : (t.eqs.length : Int) ≤ 6) (h3 : (t.eqs.take t.eqs.length).all (eqOkB t.over) = true) : thyB t = true := by
  rw [take_all (Nat.le_refl _)] at h3
  unfold thyB
  rw [h1, h3, decide_eq_true (by omega)]; rfl

set_option maxHeartbeats 800000 in
set_option maxRecDepth 100000 in
theorem theoryOk_any (t : MThy) (w : World) (v : Value) (hsm : SmallT t) (h : RThy w v t) :
    Calls Try.prog 55 #[v] w fun x w' => x = .returned (.bool (thyB t)) ∧ Below w.heap.size w w' := by
  obtain ⟨Ata, cta, Atb, ctb, rfl⟩ := h.form
  have hb : Below w.heap.size w (w.alloc (.cells #[.int .i64 t.over.sorts, .slice Ata t.over.ops.length cta, .slice Atb t.eqs.length ctb] 40)) := below_alloc _ _
  have HB := Lib.hid hb
  have hsz : (w.alloc (.cells #[.int .i64 t.over.sorts, .slice Ata t.over.ops.length cta, .slice Atb t.eqs.length ctb] 40)).heap.size = w.heap.size + 1 := by simp
  have Ht := Lib.hid (h.keep hb)
  have t0 := bx_at (w) #[.int .i64 t.over.sorts, .slice Ata t.over.ops.length cta, .slice Atb t.eqs.length ctb] 40 (k := 0) rfl
  have t1 := bx_at (w) #[.int .i64 t.over.sorts, .slice Ata t.over.ops.length cta, .slice Atb t.eqs.length ctb] 40 (k := 1) rfl
  have t2 := bx_at (w) #[.int .i64 t.over.sorts, .slice Ata t.over.ops.length cta, .slice Atb t.eqs.length ctb] 40 (k := 2) rfl
  generalize hW : w.alloc (.cells #[.int .i64 t.over.sorts, .slice Ata t.over.ops.length cta, .slice Atb t.eqs.length ctb] 40) = W at HB hsz Ht t0 t1 t2
  clear hb h
  obtain ⟨-, r1, r2⟩ := Ht.out.of
  have R1 := Lib.hid (show RSig W (.agg #[.int .i64 t.over.sorts, .slice Ata t.over.ops.length cta]) t.over from ⟨_, rfl, r1⟩)
  have R2 := Lib.hid r2
  have HSM := Lib.hid hsm
  have hlen := r2.len
  clear r1 r2 hsm
  cases hv : validB t.over with
  | false =>
    have HV := Lib.hid hv
    have HE := Lib.hid (thyB_no1 hv)
    clear hv
    go_enter Try.func55, Try.ntmps55
    go_wp2_with fail
    clear hW
    refine (sigValid_any _ t.over _ R1.out).mono ?_
    rw [HV.out]
    rintro e w1 ⟨rfl, hb⟩
    go_wp2
    go_ret
    exact ⟨ret_bool HE.out.symm, fit_keep HB.out hb⟩
  | true =>
    have HV := Lib.hid hv
    clear hv
    by_cases h6 : 6 < (t.eqs.length : Int)
    · have HE := Lib.hid (thyB_no2 h6)
      go_enter Try.func55, Try.ntmps55
      go_wp2_with fail
      clear hW
      refine (sigValid_any _ t.over _ R1.out).mono ?_
      rw [HV.out]
      rintro e w1 ⟨rfl, hb⟩
      have m2 := cell_keep hb t2
      have HB1 := Lib.hid (fit_keep HB.out hb)
      clear hb t0 t1 t2
      go_wp2
      go_ret
      exact ⟨ret_bool HE.out.symm, HB1.out⟩
    · have h6' : (t.eqs.length : Int) ≤ 6 := by omega
      go_enter Try.func55, Try.ntmps55
      go_wp2_with fail
      clear hW
      refine (sigValid_any _ t.over _ R1.out).mono ?_
      rw [HV.out]
      rintro e w1 ⟨rfl, hb⟩
      have m0 := cell_keep hb t0
      have m1 := cell_keep hb t1
      have m2 := cell_keep hb t2
      have HB1 := Lib.hid (fit_keep HB.out hb)
      have HC := Lib.hid (And.intro m0 m1)
      have R1' := Lib.hid (R1.out.keep hb)
      have R2' := Lib.hid (R2.out.keep hb)
      have hs1 := hb.size
      clear hb t0 t1 t2 R1 R2
      go_wp2
      clear m0 m1 m2
      go_loopw [4, 18] (fun e4 i wr => ∃ k : Nat, k ≤ t.eqs.length ∧ i = .int .i64 k ∧ (t.eqs.take k).all (eqOkB t.over) = true ∧ Below w1.heap.size w1 wr) (fun _ i _ => t.eqs.length - (intOf i).toNat)
      case atStart => exact ⟨0, Nat.zero_le _, rfl, rfl, Below.refl _ _⟩
      case round =>
        obtain ⟨k, hk, rfl, hb0, hd⟩ := hrel
        have hb := Lib.hid hb0
        have HD := Lib.hid hd
        have hsd := hd.size
        clear hb0 hd
        by_cases hlt : k < t.eqs.length
        · obtain ⟨b, o, c3, x0, x1, x2, e, c00, c01, c02, q0, q1, q2⟩ := (R2'.out.keep HD.out).at_ hlt
          cases e
          have hlt' : (k : Int) < (t.eqs.length : Int) := by omega
          have HT := Lib.hid (all_take (p := eqOkB t.over) hlt)
          have HN := Lib.hid (fun h => thyB_bad hlt h)
          have HSE := Lib.hid (HSM.out _ (List.getElem_mem hlt))
          generalize t.eqs[k] = e at q0 q1 q2 HT HN HSE
          have HX := Lib.hid (show REq wr (.agg #[x0, x1, x2]) e from ⟨x0, x1, x2, rfl, q0, q1, q2⟩)
          obtain ⟨A0, g0, rfl, -⟩ := q0.form
          obtain ⟨A1, g1, rfl, -⟩ := q1.form
          obtain ⟨A2, g2, rfl, -⟩ := q2.form
          have hba := below_alloc wr (.cells #[.slice A0 e.vars.length g0, .slice A1 e.left.length g1, .slice A2 e.right.length g2] 63)
          have n0 := bx_at wr #[.slice A0 e.vars.length g0, .slice A1 e.left.length g1, .slice A2 e.right.length g2] 63 (k := 0) rfl
          have n1 := bx_at wr #[.slice A0 e.vars.length g0, .slice A1 e.left.length g1, .slice A2 e.right.length g2] 63 (k := 1) rfl
          have n2 := bx_at wr #[.slice A0 e.vars.length g0, .slice A1 e.left.length g1, .slice A2 e.right.length g2] 63 (k := 2) rfl
          have m0 := cell_keep hba (cell_keep HD.out HC.out.1)
          have m1 := cell_keep hba (cell_keep HD.out HC.out.2)
          have HX' := Lib.hid (HX.out.keep hba)
          have HS' := Lib.hid ((R1'.out.keep HD.out).keep hba)
          have HDA := Lib.hid (fit_keep HD.out hba)
          generalize hW2 : wr.alloc (.cells #[.slice A0 e.vars.length g0, .slice A1 e.left.length g1, .slice A2 e.right.length g2] 63) = W2 at n0 n1 n2 m0 m1 HX' HS' HDA
          obtain ⟨r, hr⟩ : ∃ r, eqOkB t.over e = r := ⟨_, rfl⟩
          have HR := Lib.hid hr
          clear q0 q1 q2 hba hr
          go_wp2_with fail
          clear hW2
          refine (eqOk_any t.over e _ _ _ HSE.out HS'.out HX'.out).mono ?_
          rw [HR.out]
          rintro x w3 ⟨rfl, hb3⟩
          have HB3 := Lib.hid (fit_keep HDA.out hb3)
          clear hb3 n0 n1 n2 m0 m1 c00 c01 c02
          cases r with
          | true =>
            go_wp2
            go_roundw
            case rel => exact ⟨k + 1, by omega, by go_num, by rw [HT.out, hb.out, HR.out]; rfl, HB3.out⟩
            case measure => simp [intOf]; omega
          | false =>
            go_wp2
            go_ret
            exact ⟨ret_bool (HN.out HR.out).symm, fit_keep HB1.out HB3.out⟩
        · have hkn : k = t.eqs.length := by omega
          subst hkn
          have hlt' : ¬ (t.eqs.length : Int) < (t.eqs.length : Int) := by omega
          go_wp2
          go_ret
          exact ⟨ret_bool (thyB_yes HV.out h6' hb.out).symm, fit_keep HB1.out HD.out⟩

set_option maxHeartbeats 800000 in
set_option maxRecDepth 100000 in
theorem specTheoryOk_any (t : MThy) (w : World) (v : Value) (h : RThy w v t) :
    Calls Try.prog 40 #[v] w fun x w' => x = .returned (.bool (thyB t)) ∧ Below w.heap.size w w' := by
  obtain ⟨Ata, cta, Atb, ctb, rfl⟩ := h.form
  have hb : Below w.heap.size w (w.alloc (.cells #[.int .i64 t.over.sorts, .slice Ata t.over.ops.length cta, .slice Atb t.eqs.length ctb] 40)) := below_alloc _ _
  have HB := Lib.hid hb
  have hsz : (w.alloc (.cells #[.int .i64 t.over.sorts, .slice Ata t.over.ops.length cta, .slice Atb t.eqs.length ctb] 40)).heap.size = w.heap.size + 1 := by simp
  have Ht := Lib.hid (h.keep hb)
  have t0 := bx_at (w) #[.int .i64 t.over.sorts, .slice Ata t.over.ops.length cta, .slice Atb t.eqs.length ctb] 40 (k := 0) rfl
  have t1 := bx_at (w) #[.int .i64 t.over.sorts, .slice Ata t.over.ops.length cta, .slice Atb t.eqs.length ctb] 40 (k := 1) rfl
  have t2 := bx_at (w) #[.int .i64 t.over.sorts, .slice Ata t.over.ops.length cta, .slice Atb t.eqs.length ctb] 40 (k := 2) rfl
  generalize hW : w.alloc (.cells #[.int .i64 t.over.sorts, .slice Ata t.over.ops.length cta, .slice Atb t.eqs.length ctb] 40) = W at HB hsz Ht t0 t1 t2
  clear hb h
  obtain ⟨-, r1, r2⟩ := Ht.out.of
  have R1 := Lib.hid (show RSig W (.agg #[.int .i64 t.over.sorts, .slice Ata t.over.ops.length cta]) t.over from ⟨_, rfl, r1⟩)
  have R2 := Lib.hid r2
  have hlen := r2.len
  have HC := Lib.hid (And.intro t0 (And.intro t1 t2))
  clear r1 r2 t0 t1 t2
  go_enter Try.func40, Try.ntmps40
  go_wp2
  clear hW
  go_loopw [3] (fun i wr => ∃ k : Nat, k ≤ t.eqs.length ∧ i = .int .i64 k ∧ (t.eqs.take k).all (eqOkB t.over) = true ∧ Below W.heap.size W wr) (fun i _ => t.eqs.length - (intOf i).toNat)
  case atStart => exact ⟨0, Nat.zero_le _, rfl, rfl, Below.refl _ _⟩
  case round =>
    obtain ⟨k, hk, rfl, hb0, hd⟩ := hrel
    have hb := Lib.hid hb0
    have HD := Lib.hid hd
    have hsd := hd.size
    have m0 := cell_keep hd HC.out.1
    have m1 := cell_keep hd HC.out.2.1
    have m2 := cell_keep hd HC.out.2.2
    clear hb0 hd
    by_cases hlt : k < t.eqs.length
    · obtain ⟨b, o, c3, x0, x1, x2, e, c00, c01, c02, q0, q1, q2⟩ := (R2.out.keep HD.out).at_ hlt
      cases e
      have hlt' : (k : Int) < (t.eqs.length : Int) := by omega
      have HT := Lib.hid (all_take (p := eqOkB t.over) hlt)
      have HN := Lib.hid (fun h => thyB_bad hlt h)
      generalize t.eqs[k] = e at q0 q1 q2 HT HN
      have HX := Lib.hid (show REq wr (.agg #[x0, x1, x2]) e from ⟨x0, x1, x2, rfl, q0, q1, q2⟩)
      obtain ⟨A0, g0, rfl, -⟩ := q0.form
      obtain ⟨A1, g1, rfl, -⟩ := q1.form
      obtain ⟨A2, g2, rfl, -⟩ := q2.form
      obtain ⟨r, hr⟩ : ∃ r, eqOkB t.over e = r := ⟨_, rfl⟩
      have HR := Lib.hid hr
      clear q0 q1 q2 hr
      have ea := World.new_ne wr _ m0
      have eb := World.new_ne wr _ c00
      go_wp2_with fail
      go_region_held3 (fun w' => w'.cell? ⟨w.heap.size, 0, none⟩ = some (.int .i64 t.over.sorts) ∧ w'.cell? ⟨w.heap.size, 1, none⟩ = some (.slice Ata t.over.ops.length cta) ∧ w'.cell? ⟨w.heap.size, 2, none⟩ = some (.slice (some ⟨b, o, none⟩) t.eqs.length ctb) ∧ w'.cell? ⟨b, o + k * 3, none⟩ = some (.slice A0 e.vars.length g0) ∧ w'.cell? ⟨b, o + k * 3 + 1, none⟩ = some (.slice A1 e.left.length g1) ∧ w'.cell? ⟨b, o + k * 3 + 2, none⟩ = some (.slice A2 e.right.length g2)) (first | go_keep)
        (first
          | (go_at_call 89; refine (specEqOk_any t.over e wr.drew _ _ (R1.out.keep (bel_drew HD.out)) (HX.out.keep (bel_drew (Below.refl _ _)))).mono ?_; rw [HR.out]; rintro e w2 ⟨rfl, hb2⟩; have HB2 := Lib.hid (show Below wr.heap.size wr w2 from bel_undrew hb2); have j0 := cell_keep HB2.out m0; have j1 := cell_keep HB2.out m1; have j2 := cell_keep HB2.out m2; have j3 := cell_keep HB2.out c00; have j4 := cell_keep HB2.out c01; have j5 := cell_keep HB2.out c02; clear hb2))
      have HBN := Lib.hid (fit_keep HD.out HB2.out)
      clear m0 m1 m2 c00 c01 c02 j0 j1 j2 j3 j4 j5 ea eb
      cases r with
      | true =>
        go_wp2
        go_roundw
        case rel => exact ⟨k + 1, by omega, by go_num, by rw [HT.out, hb.out, HR.out]; rfl, HBN.out⟩
        case measure => simp [intOf]; omega
      | false =>
        go_wp2
        go_ret
        exact ⟨ret_bool (HN.out HR.out).symm, fit_keep HB.out HBN.out⟩
    · have hkn : k = t.eqs.length := by omega
      subst hkn
      have hlt' : ¬ (t.eqs.length : Int) < (t.eqs.length : Int) := by omega
      cases hv : validB t.over with
      | false =>
        have HV := Lib.hid hv
        have HE := Lib.hid (thyB_no1 hv)
        clear hv
        go_wp2_with fail
        refine (specSigValid_any _ t.over _ (R1.out.keep HD.out)).mono ?_
        rw [HV.out]
        rintro e w1 ⟨rfl, hb1⟩
        have HB1 := Lib.hid (fit_keep HD.out hb1)
        clear hb1 m0 m1 m2
        go_wp2
        go_ret
        exact ⟨ret_bool HE.out.symm, fit_keep HB.out HB1.out⟩
      | true =>
        have HV := Lib.hid hv
        clear hv
        go_wp2_with fail
        refine (specSigValid_any _ t.over _ (R1.out.keep HD.out)).mono ?_
        rw [HV.out]
        rintro e w1 ⟨rfl, hb1⟩
        have HB1 := Lib.hid (fit_keep HD.out hb1)
        have n2 := cell_keep hb1 m2
        clear hb1 m0 m1 m2
        by_cases h6 : (t.eqs.length : Int) ≤ 6
        · have HE := Lib.hid (thyB_yes HV.out h6 hb.out)
          go_wp2
          go_ret
          exact ⟨ret_bool HE.out.symm, fit_keep HB.out HB1.out⟩
        · have HE := Lib.hid (thyB_no2 (t := t) (by omega))
          have h6' : 6 < (t.eqs.length : Int) := by omega
          go_wp2
          go_ret
          exact ⟨ret_bool (by rw [HE.out]; simp; omega), fit_keep HB.out HB1.out⟩
end
end Go.Proofs.Ytbopcghbmbchkaa
