/- The exact laws' marks of a map and of an equation, to the number. -/
import Derived.Test.YtonainidjkcoeaaMapT
import Derived.Test.YtonainidjkcoeaaMarkG
import Derived.Test.YtonainidjkcoeaaEqC
namespace Go.Proofs.Ytonainidjkcoeaa
open Go.RowKit
set_option linter.unusedVariables false
set_option linter.unusedSimpArgs false

theorem apart_symm {a b : Value} (h : Apart a b) : Apart b a := by
  unfold Apart at *
  rcases h with h | h
  · rw [h]
    cases b.ownBlock with
    | none => exact .inl rfl
    | some k => right; simp
  · exact .inr (fun e => h e.symm)

def marksMp (k0 : Int) (m : MMap) : MMap := ⟨marks (k0) m.sorts.length, marks (k0 + (m.sorts.length : Int)) m.ops.length⟩
def totMp (m : MMap) : Int := (m.sorts.length : Int) + (m.ops.length : Int)
set_option maxRecDepth 100000 in
theorem markMap_n (v : Value) (B : Nat) (m : MMap) (k0 : Int) (wc w : World) (h : OMap wc B v m) (hk : Keeps B wc w) (hz : wc.heap.size ≤ w.heap.size) (hs : FitsMp m) (h0 : 0 ≤ k0) (h1 : k0 ≤ 90000000000000) :
    Calls Try.prog 20 #[v, .int .i64 k0] w fun e w' => e = .returned (.int .i64 (k0 + totMp m)) ∧ OMap w' B v (marksMp k0 m) ∧ ∃ wa, Below w.heap.size w wa ∧ Outside B wc.heap.size wa w' := by
  obtain ⟨a0, a1, rfl, o0, o1, ap0_1⟩ := h
  obtain ⟨xs0, xs1⟩ := m
  obtain ⟨hs0, hs1⟩ := hs
  simp only at o0 o1 hs0 hs1
  have hb := below_alloc w (.cells #[a0, a1] 33)
  have P0 := Lib.hid (o0.same (fun k q1 q2 => (hb.block k (by omega)).trans (hk k q1 q2)))
  have P1 := Lib.hid (o1.same (fun k q1 q2 => (hb.block k (by omega)).trans (hk k q1 q2)))
  have C0 := Lib.hid o0
  have C1 := Lib.hid o1
  have AP0_1 := Lib.hid ap0_1
  obtain ⟨A0, c0, rfl, -⟩ := o0.reads.form
  obtain ⟨A1, c1, rfl, -⟩ := o1.reads.form
  have t0 := bx_at w #[.slice A0 xs0.length c0, .slice A1 xs1.length c1] 33 (k := 0) rfl
  have t1 := bx_at w #[.slice A0 xs0.length c0, .slice A1 xs1.length c1] 33 (k := 1) rfl
  have hsW : (w.alloc (.cells #[.slice A0 xs0.length c0, .slice A1 xs1.length c1] 33)).heap.size = w.heap.size + 1 := by simp
  have HB := Lib.hid hb
  generalize hW : w.alloc (.cells #[.slice A0 xs0.length c0, .slice A1 xs1.length c1] 33) = W at HB hsW P0 P1 t0 t1
  have HOUT : Hid (Outside B wc.heap.size W W) := Outside.refl _ _ _
  have HSZ := Lib.hid hsW
  have HZ := Lib.hid hz
  clear o0 o1 ap0_1 hb hk hsW hz
  go_enter Try.func20, Try.ntmps20
  go_wp2_with fail
  clear hW
  refine (markIntS_any _ B xs0 _ _ P0.out hs0 (by omega) (by omega)).mono ?_
  rintro e y0 ⟨rfl, ho, hg, hzz⟩
  have hout := outside_grown C0.out hg hzz
  replace P1 := Lib.hid (own_grown P1.out hg (apart_symm AP0_1.out))
  replace P0 := Lib.hid ho
  replace t1 := (World.cell?_of_block (hout.block w.heap.size (.inr HZ.out))).trans t1
  replace HOUT := Lib.hid (HOUT.out.trans hout)
  clear ho hg hzz hout t0
  go_wp2_with fail
  refine (markIntS_any _ B xs1 _ _ P1.out hs1 (by omega) (by omega)).mono ?_
  rintro e y1 ⟨rfl, ho, hg, hzz⟩
  have hout := outside_grown C1.out hg hzz
  replace P0 := Lib.hid (own_grown P0.out hg AP0_1.out)
  replace P1 := Lib.hid ho
  replace HOUT := Lib.hid (HOUT.out.trans hout)
  clear ho hg hzz hout t1
  go_wp2
  go_ret
  refine ⟨ret_int (by simp only [totMp]; omega), ⟨_, _, rfl, ?_, ?_, AP0_1.out⟩, W, HB.out, HOUT.out⟩
  · exact P0.out
  · exact P1.out
set_option maxRecDepth 100000 in
theorem heldMap_n (v : Value) (m : MMap) (k0 : Int) (w : World) (h : RMap w v (marksMp k0 m)) (hs : FitsMp m) (h0 : 0 ≤ k0) (h1 : k0 ≤ 90000000000000) :
    Calls Try.prog 21 #[v, .int .i64 k0] w fun e w' => e = .returned (.int .i64 (k0 + totMp m)) ∧ Below w.heap.size w w' := by
  obtain ⟨a0, a1, rfl, o0, o1⟩ := h
  obtain ⟨xs0, xs1⟩ := m
  obtain ⟨hs0, hs1⟩ := hs
  simp only [marksMp] at o0 o1 hs0 hs1
  have hb := below_alloc w (.cells #[a0, a1] 33)
  have P0 := Lib.hid (o0.keep hb)
  have P1 := Lib.hid (o1.keep hb)
  obtain ⟨A0, c0, e, -⟩ := o0.form
  rw [marks_len] at e
  subst e
  obtain ⟨A1, c1, e, -⟩ := o1.form
  rw [marks_len] at e
  subst e
  have t0 := bx_at w #[.slice A0 xs0.length c0, .slice A1 xs1.length c1] 33 (k := 0) rfl
  have t1 := bx_at w #[.slice A0 xs0.length c0, .slice A1 xs1.length c1] 33 (k := 1) rfl
  have HB := Lib.hid hb
  generalize hW : w.alloc (.cells #[.slice A0 xs0.length c0, .slice A1 xs1.length c1] 33) = W at HB P0 P1 t0 t1
  have nn0 : (0 : Int) ≤ (xs0.length : Int) := by omega
  have nn1 : (0 : Int) ≤ (xs1.length : Int) := by omega
  clear o0 o1 hb
  go_enter Try.func21, Try.ntmps21
  go_wp2_with fail
  clear hW
  refine (heldIntS_any _ xs0.length _ _ P0.out hs0 (by omega) (by omega)).mono ?_
  rintro e y0 ⟨rfl, hd⟩
  have hb := hd.below
  replace HB := Lib.hid (sz_keep HB.out hb)
  replace t1 := cell_keep hb t1
  replace P1 := Lib.hid (P1.out.keep hb)
  clear hd hb t0 P0
  have nk0 : ¬ (k0 + (xs0.length : Int) < 0) := by omega
  go_wp2_with fail
  refine (heldIntS_any _ xs1.length _ _ P1.out hs1 (by omega) (by omega)).mono ?_
  rintro e y1 ⟨rfl, hd⟩
  have hb := hd.below
  replace HB := Lib.hid (sz_keep HB.out hb)
  clear hd hb t1 P1
  have nk1 : ¬ (k0 + (xs0.length : Int) + (xs1.length : Int) < 0) := by omega
  go_wp2
  go_ret
  exact ⟨ret_int (by simp only [totMp]; omega), HB.out⟩
theorem markMap_go (v : Value) (B : Nat) (m : MMap) (k0 : Int) (wc w : World) (h : OMap wc B v m) (hk : Keeps B wc w) (hz : wc.heap.size ≤ w.heap.size) (hs : FitsMp m) (h0 : 0 ≤ k0) (h1 : k0 ≤ 90000000000000) :
    Calls Try.prog 20 #[v, .int .i64 k0] w fun e w' => ∃ k : Int, e = .returned (.int .i64 k) ∧ 0 ≤ k ∧ k ≤ k0 + 2000000000000 ∧ ∃ wa, Below w.heap.size w wa ∧ Outside B wc.heap.size wa w' := by
  refine (markMap_n v B m k0 wc w h hk hz hs h0 h1).mono ?_
  rintro e w' ⟨rfl, ho, hout⟩
  obtain ⟨hs0, hs1⟩ := hs
  exact ⟨_, rfl, by unfold totMp; omega, by unfold totMp; omega, hout⟩
theorem markMap_g (v : Value) (B : Nat) (m : MMap) (wc w : World) (h : OMap wc B v m) (hk : Keeps B wc w) (hz : wc.heap.size ≤ w.heap.size) (hs : FitsMp m) :
    Calls Try.prog 20 #[v, .int .i64 1] w fun e w' => ∃ K : Int, e = .returned (.int .i64 K) ∧ 0 ≤ K ∧ (∀ w2 : World, Keeps B w' w2 → Calls Try.prog 21 #[v, .int .i64 1] w2 fun e w3 => e = .returned (.int .i64 K) ∧ Below w2.heap.size w2 w3) ∧ ∃ wa, Below w.heap.size w wa ∧ Outside B wc.heap.size wa w' := by
  refine (markMap_n v B m 1 wc w h hk hz hs (by omega) (by omega)).mono ?_
  rintro e w' ⟨rfl, ho, hout⟩
  have hs2 := hs
  obtain ⟨hs0, hs1⟩ := hs2
  exact ⟨_, rfl, by unfold totMp; omega, fun w2 hk2 => heldMap_n v m 1 w2 (ho.same hk2).reads hs (by omega) (by omega), hout⟩

def marksE (k0 : Int) (m : MEq) : MEq := ⟨marks (k0) m.vars.length, marks (k0 + (m.vars.length : Int)) m.left.length, marks (k0 + (m.vars.length : Int) + (m.left.length : Int)) m.right.length⟩
def totE (m : MEq) : Int := (m.vars.length : Int) + (m.left.length : Int) + (m.right.length : Int)
set_option maxRecDepth 100000 in
theorem markEq_n (v : Value) (B : Nat) (m : MEq) (k0 : Int) (wc w : World) (h : OEq wc B v m) (hk : Keeps B wc w) (hz : wc.heap.size ≤ w.heap.size) (hs : FitsE m) (h0 : 0 ≤ k0) (h1 : k0 ≤ 90000000000000) :
    Calls Try.prog 35 #[v, .int .i64 k0] w fun e w' => e = .returned (.int .i64 (k0 + totE m)) ∧ OEq w' B v (marksE k0 m) ∧ ∃ wa, Below w.heap.size w wa ∧ Outside B wc.heap.size wa w' := by
  obtain ⟨a0, a1, a2, rfl, o0, o1, o2, ap0_1, ap0_2, ap1_2⟩ := h
  obtain ⟨xs0, xs1, xs2⟩ := m
  obtain ⟨hs0, hs1, hs2⟩ := hs
  simp only at o0 o1 o2 hs0 hs1 hs2
  have hb := below_alloc w (.cells #[a0, a1, a2] 54)
  have P0 := Lib.hid (o0.same (fun k q1 q2 => (hb.block k (by omega)).trans (hk k q1 q2)))
  have P1 := Lib.hid (o1.same (fun k q1 q2 => (hb.block k (by omega)).trans (hk k q1 q2)))
  have P2 := Lib.hid (o2.same (fun k q1 q2 => (hb.block k (by omega)).trans (hk k q1 q2)))
  have C0 := Lib.hid o0
  have C1 := Lib.hid o1
  have C2 := Lib.hid o2
  have AP0_1 := Lib.hid ap0_1
  have AP0_2 := Lib.hid ap0_2
  have AP1_2 := Lib.hid ap1_2
  obtain ⟨A0, c0, rfl, -⟩ := o0.reads.form
  obtain ⟨A1, c1, rfl, -⟩ := o1.reads.form
  obtain ⟨A2, c2, rfl, -⟩ := o2.reads.form
  have t0 := bx_at w #[.slice A0 xs0.length c0, .slice A1 xs1.length c1, .slice A2 xs2.length c2] 54 (k := 0) rfl
  have t1 := bx_at w #[.slice A0 xs0.length c0, .slice A1 xs1.length c1, .slice A2 xs2.length c2] 54 (k := 1) rfl
  have t2 := bx_at w #[.slice A0 xs0.length c0, .slice A1 xs1.length c1, .slice A2 xs2.length c2] 54 (k := 2) rfl
  have hsW : (w.alloc (.cells #[.slice A0 xs0.length c0, .slice A1 xs1.length c1, .slice A2 xs2.length c2] 54)).heap.size = w.heap.size + 1 := by simp
  have HB := Lib.hid hb
  generalize hW : w.alloc (.cells #[.slice A0 xs0.length c0, .slice A1 xs1.length c1, .slice A2 xs2.length c2] 54) = W at HB hsW P0 P1 P2 t0 t1 t2
  have HOUT : Hid (Outside B wc.heap.size W W) := Outside.refl _ _ _
  have HSZ := Lib.hid hsW
  have HZ := Lib.hid hz
  clear o0 o1 o2 ap0_1 ap0_2 ap1_2 hb hk hsW hz
  go_enter Try.func35, Try.ntmps35
  go_wp2_with fail
  clear hW
  refine (markIntS_any _ B xs0 _ _ P0.out hs0 (by omega) (by omega)).mono ?_
  rintro e y0 ⟨rfl, ho, hg, hzz⟩
  have hout := outside_grown C0.out hg hzz
  replace P1 := Lib.hid (own_grown P1.out hg (apart_symm AP0_1.out))
  replace P2 := Lib.hid (own_grown P2.out hg (apart_symm AP0_2.out))
  replace P0 := Lib.hid ho
  replace t1 := (World.cell?_of_block (hout.block w.heap.size (.inr HZ.out))).trans t1
  replace t2 := (World.cell?_of_block (hout.block w.heap.size (.inr HZ.out))).trans t2
  replace HOUT := Lib.hid (HOUT.out.trans hout)
  clear ho hg hzz hout t0
  go_wp2_with fail
  refine (markIntS_any _ B xs1 _ _ P1.out hs1 (by omega) (by omega)).mono ?_
  rintro e y1 ⟨rfl, ho, hg, hzz⟩
  have hout := outside_grown C1.out hg hzz
  replace P0 := Lib.hid (own_grown P0.out hg AP0_1.out)
  replace P2 := Lib.hid (own_grown P2.out hg (apart_symm AP1_2.out))
  replace P1 := Lib.hid ho
  replace t2 := (World.cell?_of_block (hout.block w.heap.size (.inr HZ.out))).trans t2
  replace HOUT := Lib.hid (HOUT.out.trans hout)
  clear ho hg hzz hout t1
  go_wp2_with fail
  refine (markIntS_any _ B xs2 _ _ P2.out hs2 (by omega) (by omega)).mono ?_
  rintro e y2 ⟨rfl, ho, hg, hzz⟩
  have hout := outside_grown C2.out hg hzz
  replace P0 := Lib.hid (own_grown P0.out hg AP0_2.out)
  replace P1 := Lib.hid (own_grown P1.out hg AP1_2.out)
  replace P2 := Lib.hid ho
  replace HOUT := Lib.hid (HOUT.out.trans hout)
  clear ho hg hzz hout t2
  go_wp2
  go_ret
  refine ⟨ret_int (by simp only [totE]; omega), ⟨_, _, _, rfl, ?_, ?_, ?_, AP0_1.out, AP0_2.out, AP1_2.out⟩, W, HB.out, HOUT.out⟩
  · exact P0.out
  · exact P1.out
  · exact P2.out
set_option maxRecDepth 100000 in
theorem heldEq_n (v : Value) (m : MEq) (k0 : Int) (w : World) (h : REq w v (marksE k0 m)) (hs : FitsE m) (h0 : 0 ≤ k0) (h1 : k0 ≤ 90000000000000) :
    Calls Try.prog 36 #[v, .int .i64 k0] w fun e w' => e = .returned (.int .i64 (k0 + totE m)) ∧ Below w.heap.size w w' := by
  obtain ⟨a0, a1, a2, rfl, o0, o1, o2⟩ := h
  obtain ⟨xs0, xs1, xs2⟩ := m
  obtain ⟨hs0, hs1, hs2⟩ := hs
  simp only [marksE] at o0 o1 o2 hs0 hs1 hs2
  have hb := below_alloc w (.cells #[a0, a1, a2] 54)
  have P0 := Lib.hid (o0.keep hb)
  have P1 := Lib.hid (o1.keep hb)
  have P2 := Lib.hid (o2.keep hb)
  obtain ⟨A0, c0, e, -⟩ := o0.form
  rw [marks_len] at e
  subst e
  obtain ⟨A1, c1, e, -⟩ := o1.form
  rw [marks_len] at e
  subst e
  obtain ⟨A2, c2, e, -⟩ := o2.form
  rw [marks_len] at e
  subst e
  have t0 := bx_at w #[.slice A0 xs0.length c0, .slice A1 xs1.length c1, .slice A2 xs2.length c2] 54 (k := 0) rfl
  have t1 := bx_at w #[.slice A0 xs0.length c0, .slice A1 xs1.length c1, .slice A2 xs2.length c2] 54 (k := 1) rfl
  have t2 := bx_at w #[.slice A0 xs0.length c0, .slice A1 xs1.length c1, .slice A2 xs2.length c2] 54 (k := 2) rfl
  have HB := Lib.hid hb
  generalize hW : w.alloc (.cells #[.slice A0 xs0.length c0, .slice A1 xs1.length c1, .slice A2 xs2.length c2] 54) = W at HB P0 P1 P2 t0 t1 t2
  have nn0 : (0 : Int) ≤ (xs0.length : Int) := by omega
  have nn1 : (0 : Int) ≤ (xs1.length : Int) := by omega
  have nn2 : (0 : Int) ≤ (xs2.length : Int) := by omega
  clear o0 o1 o2 hb
  go_enter Try.func36, Try.ntmps36
  go_wp2_with fail
  clear hW
  refine (heldIntS_any _ xs0.length _ _ P0.out hs0 (by omega) (by omega)).mono ?_
  rintro e y0 ⟨rfl, hd⟩
  have hb := hd.below
  replace HB := Lib.hid (sz_keep HB.out hb)
  replace t1 := cell_keep hb t1
  replace P1 := Lib.hid (P1.out.keep hb)
  replace t2 := cell_keep hb t2
  replace P2 := Lib.hid (P2.out.keep hb)
  clear hd hb t0 P0
  have nk0 : ¬ (k0 + (xs0.length : Int) < 0) := by omega
  go_wp2_with fail
  refine (heldIntS_any _ xs1.length _ _ P1.out hs1 (by omega) (by omega)).mono ?_
  rintro e y1 ⟨rfl, hd⟩
  have hb := hd.below
  replace HB := Lib.hid (sz_keep HB.out hb)
  replace t2 := cell_keep hb t2
  replace P2 := Lib.hid (P2.out.keep hb)
  clear hd hb t1 P1
  have nk1 : ¬ (k0 + (xs0.length : Int) + (xs1.length : Int) < 0) := by omega
  go_wp2_with fail
  refine (heldIntS_any _ xs2.length _ _ P2.out hs2 (by omega) (by omega)).mono ?_
  rintro e y2 ⟨rfl, hd⟩
  have hb := hd.below
  replace HB := Lib.hid (sz_keep HB.out hb)
  clear hd hb t2 P2
  have nk2 : ¬ (k0 + (xs0.length : Int) + (xs1.length : Int) + (xs2.length : Int) < 0) := by omega
  go_wp2
  go_ret
  exact ⟨ret_int (by simp only [totE]; omega), HB.out⟩
theorem markEq_go (v : Value) (B : Nat) (m : MEq) (k0 : Int) (wc w : World) (h : OEq wc B v m) (hk : Keeps B wc w) (hz : wc.heap.size ≤ w.heap.size) (hs : FitsE m) (h0 : 0 ≤ k0) (h1 : k0 ≤ 90000000000000) :
    Calls Try.prog 35 #[v, .int .i64 k0] w fun e w' => ∃ k : Int, e = .returned (.int .i64 k) ∧ 0 ≤ k ∧ k ≤ k0 + 2000000000000 ∧ ∃ wa, Below w.heap.size w wa ∧ Outside B wc.heap.size wa w' := by
  refine (markEq_n v B m k0 wc w h hk hz hs h0 h1).mono ?_
  rintro e w' ⟨rfl, ho, hout⟩
  obtain ⟨hs0, hs1, hs2⟩ := hs
  exact ⟨_, rfl, by unfold totE; omega, by unfold totE; omega, hout⟩
theorem markEq_g (v : Value) (B : Nat) (m : MEq) (wc w : World) (h : OEq wc B v m) (hk : Keeps B wc w) (hz : wc.heap.size ≤ w.heap.size) (hs : FitsE m) :
    Calls Try.prog 35 #[v, .int .i64 1] w fun e w' => ∃ K : Int, e = .returned (.int .i64 K) ∧ 0 ≤ K ∧ (∀ w2 : World, Keeps B w' w2 → Calls Try.prog 36 #[v, .int .i64 1] w2 fun e w3 => e = .returned (.int .i64 K) ∧ Below w2.heap.size w2 w3) ∧ ∃ wa, Below w.heap.size w wa ∧ Outside B wc.heap.size wa w' := by
  refine (markEq_n v B m 1 wc w h hk hz hs (by omega) (by omega)).mono ?_
  rintro e w' ⟨rfl, ho, hout⟩
  have hs2 := hs
  obtain ⟨hs0, hs1, hs2⟩ := hs2
  exact ⟨_, rfl, by unfold totE; omega, fun w2 hk2 => heldEq_n v m 1 w2 (ho.same hk2).reads hs (by omega) (by omega), hout⟩
end Go.Proofs.Ytonainidjkcoeaa
