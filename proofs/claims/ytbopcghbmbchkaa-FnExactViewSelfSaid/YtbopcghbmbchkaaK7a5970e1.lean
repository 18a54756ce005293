/- Marks, as the made proofs of the exact laws want them: an object that was made at wc and lies in w as it was. · The exact laws' marks of a map and of an equation, to the number. · What the made proofs of the exact laws share where results lie in boxes, or are several rows (tools/exact.py). · The exact laws' marks of theories and steps: arguments alone, to no number. · The exact laws' measure of steps, to the number: the rows of all steps together are not too many. · The exact laws' marks of lists of steps, to the number: markStepS, heldStepS. · The exact laws' marks of lists of steps, to the number: markStepS, heldStepS. -/
import Derived.Test.YtbopcghbmbchkaaK21223cbc
import Derived.Deep.DeepCutAuto
import Derived.Deep.RegionHeld3
namespace Go.Proofs.Ytbopcghbmbchkaa
section
open Go.RowKit
set_option linter.unusedVariables false

theorem outside_grown {w w' wc : World} {B : Nat} {v : Value} {e : TypeId} {size n : Nat} {zs : List Value} (h : wc.ownsRow B e size v n zs) (hg : w.grownBy w' v.ownBlock) (hz : w'.heap.size = w.heap.size) : Outside B wc.heap.size w w' :=
  ⟨hg.os, hg.tape, hg.output, hz, fun k hk => by
    by_cases hkl : k < w.heap.size
    · exact hg.block k hkl (fun e => by have := own_lt h k e.symm; omega)
    · rw [Array.getElem?_eq_none (by omega), Array.getElem?_eq_none (by omega)]⟩

theorem markIntS_go (v : Value) (B : Nat) (xs : List Int) (k0 : Int) (wc w : World) (h : OInts wc B v xs) (hk : Keeps B wc w) (hz : wc.heap.size ≤ w.heap.size) (hs : xs.length ≤ 1048576) (h0 : 0 ≤ k0) (h1 : k0 ≤ 100000000000000) :
    Calls Try.prog 35 #[v, .int .i64 k0] w fun e w' => ∃ k : Int, e = .returned (.int .i64 k) ∧ 0 ≤ k ∧ k ≤ k0 + 2000000000000 ∧ ∃ wa, Below w.heap.size w wa ∧ Outside B wc.heap.size wa w' := by
  refine (markIntS_any v B xs k0 w (h.same hk) hs h0 (by omega)).mono ?_
  rintro e w' ⟨rfl, ho, hg, hz'⟩
  exact ⟨_, rfl, by omega, by omega, w, Below.refl _ _, outside_grown h hg hz'⟩

theorem markIntS_g (v : Value) (B : Nat) (xs : List Int) (wc w : World) (h : OInts wc B v xs) (hk : Keeps B wc w) (hz : wc.heap.size ≤ w.heap.size) (hs : xs.length ≤ 1048576) :
    Calls Try.prog 35 #[v, .int .i64 1] w fun e w' => ∃ K : Int, e = .returned (.int .i64 K) ∧ 0 ≤ K ∧ (∀ w2 : World, Keeps B w' w2 → Calls Try.prog 104 #[v, .int .i64 1] w2 fun e w3 => e = .returned (.int .i64 K) ∧ Below w2.heap.size w2 w3) ∧ ∃ wa, Below w.heap.size w wa ∧ Outside B wc.heap.size wa w' := by
  refine (markIntS_any v B xs 1 w (h.same hk) hs (by omega) (by omega)).mono ?_
  rintro e w' ⟨rfl, ho, hg, hz'⟩
  refine ⟨_, rfl, by omega, fun w2 hk2 => ?_, w, Below.refl _ _, outside_grown h hg hz'⟩
  refine (heldIntS_any v xs.length 1 w2 (OInts.same ho hk2).reads hs (by omega) (by omega)).mono ?_
  rintro e w3 ⟨rfl, hd⟩
  exact ⟨rfl, hd.below⟩

theorem markIntSS_go (v : Value) (B : Nat) (rows : List (List Int)) (k0 : Int) (wc w : World) (h : ORows wc B v rows) (hk : Keeps B wc w) (hz : wc.heap.size ≤ w.heap.size) (hs : Fits rows) (h0 : 0 ≤ k0) (h1 : k0 ≤ 90000000000000) :
    Calls Try.prog 36 #[v, .int .i64 k0] w fun e w' => ∃ k : Int, e = .returned (.int .i64 k) ∧ 0 ≤ k ∧ k ≤ k0 + 2000000000000 ∧ ∃ wa, Below w.heap.size w wa ∧ Outside B wc.heap.size wa w' := by
  refine (markIntSSp_any v B rows k0 (cutTo w wc.heap.size) w (h.same fun k h1 h2 => (cut_block h2).trans (hk k h1 h2)) (cut_below hz) hs.1 hs.2 h0 (by omega)).mono ?_
  rintro e w' ⟨rfl, ho, hout⟩
  rw [cut_size hz] at hout
  have := tot_le hs.2
  have := hs.1
  exact ⟨_, rfl, by omega, by omega, w, Below.refl _ _, hout⟩

theorem markIntSS_g (v : Value) (B : Nat) (rows : List (List Int)) (wc w : World) (h : ORows wc B v rows) (hk : Keeps B wc w) (hz : wc.heap.size ≤ w.heap.size) (hs : Fits rows) :
    Calls Try.prog 36 #[v, .int .i64 1] w fun e w' => ∃ K : Int, e = .returned (.int .i64 K) ∧ 0 ≤ K ∧ (∀ w2 : World, Keeps B w' w2 → Calls Try.prog 85 #[v, .int .i64 1] w2 fun e w3 => e = .returned (.int .i64 K) ∧ Below w2.heap.size w2 w3) ∧ ∃ wa, Below w.heap.size w wa ∧ Outside B wc.heap.size wa w' := by
  refine (markIntSSp_any v B rows 1 (cutTo w wc.heap.size) w (h.same fun k h1 h2 => (cut_block h2).trans (hk k h1 h2)) (cut_below hz) hs.1 hs.2 (by omega) (by omega)).mono ?_
  rintro e w' ⟨rfl, ho, hout⟩
  rw [cut_size hz] at hout
  have := tot_le hs.2
  have := hs.1
  refine ⟨_, rfl, by omega, fun w2 hk2 => ?_, w, Below.refl _ _, hout⟩
  refine (heldIntSS_any v rows 1 w2 (ho.same hk2).reads hs.1 hs.2 (by omega) (by omega)).mono ?_
  rintro e w3 ⟨rfl, hd⟩
  exact ⟨rfl, hd.below⟩

theorem markSig_go (v : Value) (B : Nat) (s : MSig) (k0 : Int) (wc w : World) (h : OSig wc B v s) (hk : Keeps B wc w) (hz : wc.heap.size ≤ w.heap.size) (hs : Fits s.ops) (h0 : 0 ≤ k0) (h1 : k0 ≤ 90000000000000) :
    Calls Try.prog 65 #[v, .int .i64 k0] w fun e w' => ∃ k : Int, e = .returned (.int .i64 k) ∧ 0 ≤ k ∧ k ≤ k0 + 2000000000000 ∧ ∃ wa, Below w.heap.size w wa ∧ Outside B wc.heap.size wa w' := by
  refine (markSigp_any v B s k0 (cutTo w wc.heap.size) w (h.same fun k h1 h2 => (cut_block h2).trans (hk k h1 h2)) (cut_below hz) hs.1 hs.2 h0 (by omega)).mono ?_
  rintro e w' ⟨rfl, ho, o, hout⟩
  rw [cut_size hz] at hout
  have := tot_le hs.2
  have := hs.1
  exact ⟨_, rfl, by omega, by omega, w.alloc o, below_alloc _ _, hout⟩
end

section
open Go.RowKit
set_option linter.unusedVariables false
set_option linter.unusedSimpArgs false

theorem apart_symm {a b : Value} (h : Apart a b) : Apart b a := by
  unfold Apart at *
  rcases h with h | h
  · rw [h]
    cases b.ownBlock with
    | none => exact .inl rfl
    | some k => right; simp
  · exact .inr (fun e => h e.symm)

def marksMp (k0 : Int) (m : MMap) : MMap := ⟨marks (k0) m.sorts.length, marks (k0 + (m.sorts.length : Int)) m.ops.length⟩
def totMp (m : MMap) : Int := (m.sorts.length : Int) + (m.ops.length : Int)
set_option maxRecDepth 100000 in
theorem markMap_n (v : Value) (B : Nat) (m : MMap) (k0 : Int) (wc w : World) (h : OMap wc B v m) (hk : Keeps B wc w) (hz : wc.heap.size ≤ w.heap.size) (hs : FitsMp m) (h0 : 0 ≤ k0) (h1 : k0 ≤ 90000000000000) :
    Calls Try.prog 67 #[v, .int .i64 k0] w fun e w' => e = .returned (.int .i64 (k0 + totMp m)) ∧ OMap w' B v (marksMp k0 m) ∧ ∃ wa, Below w.heap.size w wa ∧ Outside B wc.heap.size wa w' := by
  obtain ⟨a0, a1, rfl, o0, o1, ap0_1⟩ := h
  obtain ⟨xs0, xs1⟩ := m
  obtain ⟨hs0, hs1⟩ := hs
  simp only at o0 o1 hs0 hs1
  have hb := below_alloc w (.cells #[a0, a1] 42)
  have P0 := Lib.hid (o0.same (fun k q1 q2 => (hb.block k (by omega)).trans (hk k q1 q2)))
  have P1 := Lib.hid (o1.same (fun k q1 q2 => (hb.block k (by omega)).trans (hk k q1 q2)))
  have C0 := Lib.hid o0
  have C1 := Lib.hid o1
  have AP0_1 := Lib.hid ap0_1
  obtain ⟨A0, c0, rfl, -⟩ := o0.reads.form
  obtain ⟨A1, c1, rfl, -⟩ := o1.reads.form
  have t0 := bx_at w #[.slice A0 xs0.length c0, .slice A1 xs1.length c1] 42 (k := 0) rfl
  have t1 := bx_at w #[.slice A0 xs0.length c0, .slice A1 xs1.length c1] 42 (k := 1) rfl
  have hsW : (w.alloc (.cells #[.slice A0 xs0.length c0, .slice A1 xs1.length c1] 42)).heap.size = w.heap.size + 1 := by simp
  have HB := Lib.hid hb
  generalize hW : w.alloc (.cells #[.slice A0 xs0.length c0, .slice A1 xs1.length c1] 42) = W at HB hsW P0 P1 t0 t1
  have HOUT : Hid (Outside B wc.heap.size W W) := Outside.refl _ _ _
  have HSZ := Lib.hid hsW
  have HZ := Lib.hid hz
  clear o0 o1 ap0_1 hb hk hsW hz
  go_enter Try.func67, Try.ntmps67
  go_wp2_with fail
  clear hW
  refine (markIntS_any _ B xs0 _ _ P0.out hs0 (by omega) (by omega)).mono ?_
  rintro e y0 ⟨rfl, ho, hg, hzz⟩
  have hout := outside_grown C0.out hg hzz
  replace P1 := Lib.hid (own_grown P1.out hg (apart_symm AP0_1.out))
  replace P0 := Lib.hid ho
  replace t1 := (World.cell?_of_block (hout.block w.heap.size (.inr HZ.out))).trans t1
  replace HOUT := Lib.hid (HOUT.out.trans hout)
  clear ho hg hzz hout t0
  go_wp2_with fail
  refine (markIntS_any _ B xs1 _ _ P1.out hs1 (by omega) (by omega)).mono ?_
  rintro e y1 ⟨rfl, ho, hg, hzz⟩
  have hout := outside_grown C1.out hg hzz
  replace P0 := Lib.hid (own_grown P0.out hg AP0_1.out)
  replace P1 := Lib.hid ho
  replace HOUT := Lib.hid (HOUT.out.trans hout)
  clear ho hg hzz hout t1
  go_wp2
  go_ret
  refine ⟨ret_int (by simp only [totMp]; omega), ⟨_, _, rfl, ?_, ?_, AP0_1.out⟩, W, HB.out, HOUT.out⟩
  · exact P0.out
  · exact P1.out
set_option maxRecDepth 100000 in
theorem heldMap_n (v : Value) (m : MMap) (k0 : Int) (w : World) (h : RMap w v (marksMp k0 m)) (hs : FitsMp m) (h0 : 0 ≤ k0) (h1 : k0 ≤ 90000000000000) :
    Calls Try.prog 69 #[v, .int .i64 k0] w fun e w' => e = .returned (.int .i64 (k0 + totMp m)) ∧ Below w.heap.size w w' := by
  obtain ⟨a0, a1, rfl, o0, o1⟩ := h
  obtain ⟨xs0, xs1⟩ := m
  obtain ⟨hs0, hs1⟩ := hs
  simp only [marksMp] at o0 o1 hs0 hs1
  have hb := below_alloc w (.cells #[a0, a1] 42)
  have P0 := Lib.hid (o0.keep hb)
  have P1 := Lib.hid (o1.keep hb)
  obtain ⟨A0, c0, e, -⟩ := o0.form
  rw [marks_len] at e
  subst e
  obtain ⟨A1, c1, e, -⟩ := o1.form
  rw [marks_len] at e
  subst e
  have t0 := bx_at w #[.slice A0 xs0.length c0, .slice A1 xs1.length c1] 42 (k := 0) rfl
  have t1 := bx_at w #[.slice A0 xs0.length c0, .slice A1 xs1.length c1] 42 (k := 1) rfl
  have HB := Lib.hid hb
  generalize hW : w.alloc (.cells #[.slice A0 xs0.length c0, .slice A1 xs1.length c1] 42) = W at HB P0 P1 t0 t1
  have nn0 : (0 : Int) ≤ (xs0.length : Int) := by omega
  have nn1 : (0 : Int) ≤ (xs1.length : Int) := by omega
  clear o0 o1 hb
  go_enter Try.func69, Try.ntmps69
  go_wp2_with fail
  clear hW
  refine (heldIntS_any _ xs0.length _ _ P0.out hs0 (by omega) (by omega)).mono ?_
  rintro e y0 ⟨rfl, hd⟩
  have hb := hd.below
  replace HB := Lib.hid (sz_keep HB.out hb)
  replace t1 := cell_keep hb t1
  replace P1 := Lib.hid (P1.out.keep hb)
  clear hd hb t0 P0
  have nk0 : ¬ (k0 + (xs0.length : Int) < 0) := by omega
  go_wp2_with fail
  refine (heldIntS_any _ xs1.length _ _ P1.out hs1 (by omega) (by omega)).mono ?_
  rintro e y1 ⟨rfl, hd⟩
  have hb := hd.below
  replace HB := Lib.hid (sz_keep HB.out hb)
  clear hd hb t1 P1
  have nk1 : ¬ (k0 + (xs0.length : Int) + (xs1.length : Int) < 0) := by omega
  go_wp2
  go_ret
  exact ⟨ret_int (by simp only [totMp]; omega), HB.out⟩
theorem markMap_go (v : Value) (B : Nat) (m : MMap) (k0 : Int) (wc w : World) (h : OMap wc B v m) (hk : Keeps B wc w) (hz : wc.heap.size ≤ w.heap.size) (hs : FitsMp m) (h0 : 0 ≤ k0) (h1 : k0 ≤ 90000000000000) :
    Calls Try.prog 67 #[v, .int .i64 k0] w fun e w' => ∃ k : Int, e = .returned (.int .i64 k) ∧ 0 ≤ k ∧ k ≤ k0 + 2000000000000 ∧ ∃ wa, Below w.heap.size w wa ∧ Outside B wc.heap.size wa w' := by
  refine (markMap_n v B m k0 wc w h hk hz hs h0 h1).mono ?_
  rintro e w' ⟨rfl, ho, hout⟩
  obtain ⟨hs0, hs1⟩ := hs
  exact ⟨_, rfl, by unfold totMp; omega, by unfold totMp; omega, hout⟩
theorem markMap_g (v : Value) (B : Nat) (m : MMap) (wc w : World) (h : OMap wc B v m) (hk : Keeps B wc w) (hz : wc.heap.size ≤ w.heap.size) (hs : FitsMp m) :
    Calls Try.prog 67 #[v, .int .i64 1] w fun e w' => ∃ K : Int, e = .returned (.int .i64 K) ∧ 0 ≤ K ∧ (∀ w2 : World, Keeps B w' w2 → Calls Try.prog 69 #[v, .int .i64 1] w2 fun e w3 => e = .returned (.int .i64 K) ∧ Below w2.heap.size w2 w3) ∧ ∃ wa, Below w.heap.size w wa ∧ Outside B wc.heap.size wa w' := by
  refine (markMap_n v B m 1 wc w h hk hz hs (by omega) (by omega)).mono ?_
  rintro e w' ⟨rfl, ho, hout⟩
  have hs2 := hs
  obtain ⟨hs0, hs1⟩ := hs2
  exact ⟨_, rfl, by unfold totMp; omega, fun w2 hk2 => heldMap_n v m 1 w2 (ho.same hk2).reads hs (by omega) (by omega), hout⟩

def marksE (k0 : Int) (m : MEq) : MEq := ⟨marks (k0) m.vars.length, marks (k0 + (m.vars.length : Int)) m.left.length, marks (k0 + (m.vars.length : Int) + (m.left.length : Int)) m.right.length⟩
def totE (m : MEq) : Int := (m.vars.length : Int) + (m.left.length : Int) + (m.right.length : Int)
set_option maxRecDepth 100000 in
theorem markEq_n (v : Value) (B : Nat) (m : MEq) (k0 : Int) (wc w : World) (h : OEq wc B v m) (hk : Keeps B wc w) (hz : wc.heap.size ≤ w.heap.size) (hs : FitsE m) (h0 : 0 ≤ k0) (h1 : k0 ≤ 90000000000000) :
    Calls Try.prog 33 #[v, .int .i64 k0] w fun e w' => e = .returned (.int .i64 (k0 + totE m)) ∧ OEq w' B v (marksE k0 m) ∧ ∃ wa, Below w.heap.size w wa ∧ Outside B wc.heap.size wa w' := by
  obtain ⟨a0, a1, a2, rfl, o0, o1, o2, ap0_1, ap0_2, ap1_2⟩ := h
  obtain ⟨xs0, xs1, xs2⟩ := m
  obtain ⟨hs0, hs1, hs2⟩ := hs
  simp only at o0 o1 o2 hs0 hs1 hs2
  have hb := below_alloc w (.cells #[a0, a1, a2] 63)
  have P0 := Lib.hid (o0.same (fun k q1 q2 => (hb.block k (by omega)).trans (hk k q1 q2)))
  have P1 := Lib.hid (o1.same (fun k q1 q2 => (hb.block k (by omega)).trans (hk k q1 q2)))
  have P2 := Lib.hid (o2.same (fun k q1 q2 => (hb.block k (by omega)).trans (hk k q1 q2)))
  have C0 := Lib.hid o0
  have C1 := Lib.hid o1
  have C2 := Lib.hid o2
  have AP0_1 := Lib.hid ap0_1
  have AP0_2 := Lib.hid ap0_2
  have AP1_2 := Lib.hid ap1_2
  obtain ⟨A0, c0, rfl, -⟩ := o0.reads.form
  obtain ⟨A1, c1, rfl, -⟩ := o1.reads.form
  obtain ⟨A2, c2, rfl, -⟩ := o2.reads.form
  have t0 := bx_at w #[.slice A0 xs0.length c0, .slice A1 xs1.length c1, .slice A2 xs2.length c2] 63 (k := 0) rfl
  have t1 := bx_at w #[.slice A0 xs0.length c0, .slice A1 xs1.length c1, .slice A2 xs2.length c2] 63 (k := 1) rfl
  have t2 := bx_at w #[.slice A0 xs0.length c0, .slice A1 xs1.length c1, .slice A2 xs2.length c2] 63 (k := 2) rfl
  have hsW : (w.alloc (.cells #[.slice A0 xs0.length c0, .slice A1 xs1.length c1, .slice A2 xs2.length c2] 63)).heap.size = w.heap.size + 1 := by simp
  have HB := Lib.hid hb
  generalize hW : w.alloc (.cells #[.slice A0 xs0.length c0, .slice A1 xs1.length c1, .slice A2 xs2.length c2] 63) = W at HB hsW P0 P1 P2 t0 t1 t2
  have HOUT : Hid (Outside B wc.heap.size W W) := Outside.refl _ _ _
  have HSZ := Lib.hid hsW
  have HZ := Lib.hid hz
  clear o0 o1 o2 ap0_1 ap0_2 ap1_2 hb hk hsW hz
  go_enter Try.func33, Try.ntmps33
  go_wp2_with fail
  clear hW
  refine (markIntS_any _ B xs0 _ _ P0.out hs0 (by omega) (by omega)).mono ?_
  rintro e y0 ⟨rfl, ho, hg, hzz⟩
  have hout := outside_grown C0.out hg hzz
  replace P1 := Lib.hid (own_grown P1.out hg (apart_symm AP0_1.out))
  replace P2 := Lib.hid (own_grown P2.out hg (apart_symm AP0_2.out))
  replace P0 := Lib.hid ho
  replace t1 := (World.cell?_of_block (hout.block w.heap.size (.inr HZ.out))).trans t1
  replace t2 := (World.cell?_of_block (hout.block w.heap.size (.inr HZ.out))).trans t2
  replace HOUT := Lib.hid (HOUT.out.trans hout)
  clear ho hg hzz hout t0
  go_wp2_with fail
  refine (markIntS_any _ B xs1 _ _ P1.out hs1 (by omega) (by omega)).mono ?_
  rintro e y1 ⟨rfl, ho, hg, hzz⟩
  have hout := outside_grown C1.out hg hzz
  replace P0 := Lib.hid (own_grown P0.out hg AP0_1.out)
  replace P2 := Lib.hid (own_grown P2.out hg (apart_symm AP1_2.out))
  replace P1 := Lib.hid ho
  replace t2 := (World.cell?_of_block (hout.block w.heap.size (.inr HZ.out))).trans t2
  replace HOUT := Lib.hid (HOUT.out.trans hout)
  clear ho hg hzz hout t1
  go_wp2_with fail
  refine (markIntS_any _ B xs2 _ _ P2.out hs2 (by omega) (by omega)).mono ?_
  rintro e y2 ⟨rfl, ho, hg, hzz⟩
  have hout := outside_grown C2.out hg hzz
  replace P0 := Lib.hid (own_grown P0.out hg AP0_2.out)
  replace P1 := Lib.hid (own_grown P1.out hg AP1_2.out)
  replace P2 := Lib.hid ho
  replace HOUT := Lib.hid (HOUT.out.trans hout)
  clear ho hg hzz hout t2
  go_wp2
  go_ret
  refine ⟨ret_int (by simp only [totE]; omega), ⟨_, _, _, rfl, ?_, ?_, ?_, AP0_1.out, AP0_2.out, AP1_2.out⟩, W, HB.out, HOUT.out⟩
  · exact P0.out
  · exact P1.out
  · exact P2.out
theorem markEq_go (v : Value) (B : Nat) (m : MEq) (k0 : Int) (wc w : World) (h : OEq wc B v m) (hk : Keeps B wc w) (hz : wc.heap.size ≤ w.heap.size) (hs : FitsE m) (h0 : 0 ≤ k0) (h1 : k0 ≤ 90000000000000) :
    Calls Try.prog 33 #[v, .int .i64 k0] w fun e w' => ∃ k : Int, e = .returned (.int .i64 k) ∧ 0 ≤ k ∧ k ≤ k0 + 2000000000000 ∧ ∃ wa, Below w.heap.size w wa ∧ Outside B wc.heap.size wa w' := by
  refine (markEq_n v B m k0 wc w h hk hz hs h0 h1).mono ?_
  rintro e w' ⟨rfl, ho, hout⟩
  obtain ⟨hs0, hs1, hs2⟩ := hs
  exact ⟨_, rfl, by unfold totE; omega, by unfold totE; omega, hout⟩
end

section
open Go.RowKit
set_option linter.unusedVariables false

theorem blk_at {wc wd : World} {bx : Nat} {o : Obj} (hz : wc.heap[bx]? = some o) (hb : Below wc.heap.size wc wd) : wd.heap[bx]? = some o := (hb.block _ (Array.getElem?_eq_some_iff.1 hz).1).trans hz
theorem blk_cell_at {w : World} {b : Nat} {cs : Array Value} {t : TypeId} (h : w.heap[b]? = some (.cells cs t (0, 0))) {i : Nat} {u : Value} (hu : cs[i]? = some u) : w.cell? ⟨b, i, none⟩ = some u := (blk_cell h i).trans hu
theorem set_blk {w : World} {b k : Nat} (h : k ≠ b) (i : Nat) (u : Value) : (w.setCell ⟨b, i, none⟩ u).heap[k]? = w.heap[k]? := Below.heap_setCell w ⟨b, i, none⟩ u k h
theorem set_far {w : World} {b rb : Nat} (h : b ≠ rb) (i o : Nat) (u : Value) : (w.setCell ⟨rb, i, none⟩ u).cell? ⟨b, o, none⟩ = w.cell? ⟨b, o, none⟩ := World.cell?_of_block (Below.heap_setCell w ⟨rb, i, none⟩ u b h)
theorem cut_keeps {A M : Nat} {w : World} (h : M ≤ w.heap.size) : Keeps A (cutTo w M) w := fun k _ h2 => (cut_block (by rwa [cut_size h] at h2)).symm
theorem Keeps.outside_lo {A B M : Nat} {w w1 w2 : World} (h : Keeps A w w1) (ho : Outside B M w1 w2) (hB : w.heap.size ≤ B) : Keeps A w w2 := fun k h1 h2 => (ho.block k (.inl (by omega))).trans (h k h1 h2)
theorem own_cutB {w : World} {B M : Nat} {e : TypeId} {size n : Nat} {v : Value} {zs : List Value} (h : w.ownsRow B e size v n zs) (hM : ∀ k, v.ownBlock = some k → k < M) : (cutTo w M).ownsRow B e size v n zs := by
  refine ⟨h.1, ?_⟩
  rcases h.2 with h2 | ⟨g, cap, cur, rfl, hg, hh, r⟩
  · exact .inl h2
  · exact .inr ⟨g, cap, cur, rfl, hg, (cut_block (hM g rfl)).trans hh, r⟩
theorem markIntS_gk (v : Value) (B : Nat) (xs : List Int) (k0 : Int) (wc w : World) (h : OInts wc B v xs) (hk : Keeps B wc w) (hz : wc.heap.size ≤ w.heap.size) (hs : xs.length ≤ 1048576) (h0 : 0 ≤ k0) (h1 : k0 ≤ 90000000000000) :
    Calls Try.prog 35 #[v, .int .i64 k0] w fun e w' => ∃ K : Int, e = .returned (.int .i64 K) ∧ 0 ≤ K ∧ K ≤ k0 + 2000000000000 ∧ (∀ w2 : World, Keeps B (cutTo w' wc.heap.size) w2 → Calls Try.prog 104 #[v, .int .i64 k0] w2 fun e w3 => e = .returned (.int .i64 K) ∧ Below w2.heap.size w2 w3) ∧ ∃ wa, Below w.heap.size w wa ∧ Outside B wc.heap.size wa w' := by
  refine (markIntS_any v B xs k0 w (h.same hk) hs h0 (by omega)).mono ?_
  rintro e w' ⟨rfl, ho, hg, hz'⟩
  refine ⟨_, rfl, by omega, by omega, fun w2 hk2 => ?_, w, Below.refl _ _, outside_grown h hg hz'⟩
  refine (heldIntS_any v xs.length k0 w2 (OInts.same (own_cutB ho (fun k e => (own_lt h k e).2)) hk2).reads hs h0 (by omega)).mono ?_
  rintro e w3 ⟨rfl, hd⟩
  exact ⟨rfl, hd.below⟩
end

section
open Go.RowKit
set_option linter.unusedVariables false

/-- rows in whatever cells of a block, that bear whatever numbers -/
structure MarkT (T : TypeId) (size n : Nat) (w wr : World) (B M : Nat) (v : Value) (us : List Value) (rows : List (List Int)) : Prop where
  own : wr.ownsRow B T size v n us
  len : us.length = rows.length
  row : ∀ (j : Nat) (u : Value) (row : List Int), us[j]? = some u → rows[j]? = some row → ∃ ys : List Int, ys.length = row.length ∧ OInts wr B u ys
  apart : ∀ (i j : Nat) (u u' : Value), i < j → us[i]? = some u → us[j]? = some u' → u.ownBlock = none ∨ u.ownBlock ≠ u'.ownBlock
  low : ∀ (j : Nat) (u : Value), us[j]? = some u → ∀ k, u.ownBlock = some k → B ≤ k ∧ k < M
  frame : Outside B M w wr
theorem MarkT.start {T : TypeId} {size n : Nat} {w0 w : World} {B : Nat} {v : Value} {rows : List (List Int)} (h : ORowsT T size n w0 B v rows) (hb : Below w0.heap.size w0 w) : ∃ us, MarkT T size n w w B w0.heap.size v us rows := by
  obtain ⟨us, h1, h2, h3, h4⟩ := h
  refine ⟨us, own_keep h1 hb, h2, fun j u row hu hr => ⟨row, rfl, (h3 j u row hu hr).keep hb⟩, h4, fun j u hu k hk => ?_, Outside.refl _ _ _⟩
  have hj : j < rows.length := by rw [← h2]; exact (List.getElem?_eq_some_iff.1 hu).1
  exact own_lt (h3 j u _ hu (List.getElem?_eq_getElem hj)) k hk
theorem MarkT.step {T : TypeId} {size n : Nat} (hT : T ≠ 3) {w wr w1 : World} {B M : Nat} {v u : Value} {us : List Value} {rows : List (List Int)} {j : Nat} {ys : List Int} (h : MarkT T size n w wr B M v us rows) (hu : us[j]? = some u) (hy : OInts w1 B u ys) (hyl : ∀ row, rows[j]? = some row → ys.length = row.length)
    (hxs : ∃ xs, OInts wr B u xs) (hg : wr.grownBy w1 u.ownBlock) (hz : w1.heap.size = wr.heap.size) : MarkT T size n w w1 B M v us rows := by
  obtain ⟨xs, hxs⟩ := hxs
  refine ⟨own_grown h.own hg (own_ne h.own hxs hT), h.len, fun i x row hx hr => ?_, h.apart, h.low, h.frame.trans ⟨hg.os, hg.tape, hg.output, hz, fun k hk => ?_⟩⟩
  · by_cases hij : i = j
    · subst hij
      rw [hu] at hx
      cases hx
      exact ⟨ys, hyl row hr, hy⟩
    · obtain ⟨zs, z1, z2⟩ := h.row i x row hx hr
      refine ⟨zs, z1, own_grown z2 hg ?_⟩
      rcases Nat.lt_or_gt_of_ne hij with hlt | hgt
      · exact h.apart i j x u hlt hx hu
      · rcases h.apart j i u x hgt hu hx with e | e
        · rw [e]
          cases x.ownBlock with
          | none => exact .inl rfl
          | some k => right; simp
        · exact .inr (fun e' => e e'.symm)
  · by_cases hkl : k < wr.heap.size
    · exact hg.block k hkl (fun e => by have := h.low j u hu k e.symm; omega)
    · rw [Array.getElem?_eq_none (by omega), Array.getElem?_eq_none (by omega)]
/-- the cells of one element, ahead of its marks -/
theorem MarkT.at3 {T : TypeId} {n : Nat} {w wr : World} {B M : Nat} {v : Value} {us : List Value} {rows : List (List Int)} (h : MarkT T 3 n w wr B M v us rows) {j : Nat} (hj : j < rows.length) :
    ∃ A c u ys, v = .slice A n c ∧ us[j]? = some u ∧ (∃ b, A = some ⟨b, 0, none⟩ ∧ wr.cell? ⟨b, j, none⟩ = some u) ∧ OInts wr B u ys ∧ ∀ row, rows[j]? = some row → ys.length = row.length := by
  obtain ⟨A, c, e, -, -, hc⟩ := wide_reads h.own
  have hjl : j < us.length := by rw [h.len]; exact hj
  obtain ⟨ys, y1, y2⟩ := h.row j us[j] rows[j] (List.getElem?_eq_getElem hjl) (List.getElem?_eq_getElem hj)
  refine ⟨A, c, us[j], ys, e, List.getElem?_eq_getElem hjl, hc j _ (List.getElem?_eq_getElem hjl), y2, fun row hr => ?_⟩
  rw [List.getElem?_eq_getElem hj] at hr
  cases hr
  exact y1

set_option maxHeartbeats 800000 in
set_option maxRecDepth 100000 in
theorem markEqS_any (v : Value) (B : Nat) (es : List MEq) (k0 : Int) (w0 w : World) (h : OEqs w0 B v es) (hb : Below w0.heap.size w0 w) (hs : FitsEs es) (h0 : 0 ≤ k0) (h1 : k0 ≤ 90000000000000) :
    Calls Try.prog 66 #[v, .int .i64 k0] w fun e w' => ∃ k : Int, e = .returned (.int .i64 k) ∧ 0 ≤ k ∧ k ≤ k0 + 4000000000000 ∧ Outside B w0.heap.size w w' := by
  obtain ⟨us, hm0⟩ := MarkT.start h hb
  have HM0 := Lib.hid hm0
  have HS := Lib.hid hs
  have HL := Lib.hid (rows3_len es)
  have hes := hs.1
  obtain ⟨A, c, rfl, -⟩ := wide_reads hm0.own
  clear h hb hm0 hs
  go_enter Try.func66, Try.ntmps66
  go_wp2
  go_loopw [1, 5] (fun l i wr => ∃ k : Nat, ∃ x : Int, k ≤ es.length ∧ i = .int .i64 k ∧ l = .int .i64 x ∧ 0 ≤ x ∧ x ≤ k0 + 3145728 * (k : Int) ∧ MarkT 63 3 es.length w wr B w0.heap.size (.slice A es.length c) us (rows3 es)) (fun _ i _ => es.length - (intOf i).toNat)
  case atStart => exact ⟨0, k0, Nat.zero_le _, rfl, rfl, h0, by omega, HM0.out⟩
  case round =>
    obtain ⟨k, x, hk, rfl, rfl, hx0, hx1, hm⟩ := hrel
    have HM := Lib.hid hm
    clear hm
    by_cases hlt : k < es.length
    · have hfe := HS.out.2 _ (List.getElem_mem hlt)
      have HR3 := Lib.hid (rows3_at es k _ (List.getElem?_eq_getElem hlt))
      have hlt' : (k : Int) < (es.length : Int) := by omega
      generalize es[k] = e at hfe HR3
      obtain ⟨f0, f1, f2⟩ := hfe
      obtain ⟨A', c', u, ys, e', hu, ⟨b, ea, hcell⟩, hyo, hyl⟩ := HM.out.at3 (j := k * 3) (by have := HL.out; omega)
      cases e'
      subst ea
      have hyb : ys.length ≤ 1048576 := by have := hyl _ HR3.out.1; omega
      have HU := Lib.hid (And.intro hu hyl)
      have HYO := Lib.hid hyo
      obtain ⟨Au, cu, rfl, -⟩ := own_reads hyo
      clear hyo hu hyl
      go_wp2_with fail
      refine (markIntS_any _ B ys _ _ HYO.out (by omega) hx0 (by omega)).mono ?_
      rintro e' w1 ⟨rfl, ho, hg, hz⟩
      have HN := Lib.hid (HM.out.step (by decide) HU.out.1 ho (fun row hr => by rw [marks_len]; exact HU.out.2 row hr) ⟨ys, HYO.out⟩ hg hz)
      clear ho hg hz hcell
      obtain ⟨A', c', u, zs, e', hu, ⟨b', ea, hcell⟩, hyo, hyl⟩ := HN.out.at3 (j := k * 3 + 1) (by have := HL.out; omega)
      cases e'
      cases ea
      have hzb : zs.length ≤ 1048576 := by have := hyl _ HR3.out.2.1; omega
      have HU := Lib.hid (And.intro hu hyl)
      have HYO := Lib.hid hyo
      obtain ⟨Au, cu, rfl, -⟩ := own_reads hyo
      clear hyo hu hyl
      go_wp2_with fail
      refine (markIntS_any _ B zs _ _ HYO.out (by omega) (by omega) (by omega)).mono ?_
      rintro e' w2 ⟨rfl, ho, hg, hz⟩
      have HN2 := Lib.hid (HN.out.step (by decide) HU.out.1 ho (fun row hr => by rw [marks_len]; exact HU.out.2 row hr) ⟨zs, HYO.out⟩ hg hz)
      clear ho hg hz hcell
      obtain ⟨A', c', u, ts, e', hu, ⟨b'', ea, hcell⟩, hyo, hyl⟩ := HN2.out.at3 (j := k * 3 + 2) (by have := HL.out; omega)
      cases e'
      cases ea
      have htb : ts.length ≤ 1048576 := by have := hyl _ HR3.out.2.2; omega
      have HU := Lib.hid (And.intro hu hyl)
      have HYO := Lib.hid hyo
      obtain ⟨Au, cu, rfl, -⟩ := own_reads hyo
      clear hyo hu hyl
      go_wp2_with fail
      refine (markIntS_any _ B ts _ _ HYO.out (by omega) (by omega) (by omega)).mono ?_
      rintro e' w3 ⟨rfl, ho, hg, hz⟩
      have HN3 := Lib.hid (HN2.out.step (by decide) HU.out.1 ho (fun row hr => by rw [marks_len]; exact HU.out.2 row hr) ⟨ts, HYO.out⟩ hg hz)
      clear ho hg hz hcell
      go_wp2
      go_roundw
      case rel => exact ⟨k + 1, _, by omega, by go_num, rfl, by omega, by omega, HN3.out⟩
      case measure => simp [intOf]; omega
    · have hlt' : ¬ (k : Int) < (es.length : Int) := by omega
      go_wp2
      go_ret
      exact ⟨x, rfl, hx0, by omega, HM.out.frame⟩

theorem OThy.sameK {w w' : World} {B : Nat} {v : Value} {t : MThy} (h : OThy w B v t) (hk : Keeps B w w') (hs : w.heap.size ≤ w'.heap.size) : OThy w' B v t := h.same hs hk

set_option maxHeartbeats 800000 in
set_option maxRecDepth 100000 in
theorem markTheory_go (v : Value) (B : Nat) (t : MThy) (k0 : Int) (wc w : World) (h : OThy wc B v t) (hk : Keeps B wc w) (hz : wc.heap.size ≤ w.heap.size) (hs : FitsT t) (h0 : 0 ≤ k0) (h1 : k0 ≤ 50000000000000) :
    Calls Try.prog 17 #[v, .int .i64 k0] w fun e w' => ∃ k : Int, e = .returned (.int .i64 k) ∧ 0 ≤ k ∧ k ≤ k0 + 8000000000000 ∧ ∃ wa, Below w.heap.size w wa ∧ Outside B wc.heap.size wa w' := by
  obtain ⟨u, x, rfl, wd, B0, z, a, b, c, d, e⟩ := h
  obtain ⟨A1, d1, rfl, -⟩ := c.reads.form
  obtain ⟨A2, d2, rfl, -⟩ := (OEqs.reads e).form
  have hb := below_alloc w (.cells #[.int .i64 t.over.sorts, .slice A1 t.over.ops.length d1, .slice A2 t.eqs.length d2] 40)
  have t0 := bx_at w #[.int .i64 t.over.sorts, .slice A1 t.over.ops.length d1, .slice A2 t.eqs.length d2] 40 (k := 0) rfl
  have t1 := bx_at w #[.int .i64 t.over.sorts, .slice A1 t.over.ops.length d1, .slice A2 t.eqs.length d2] 40 (k := 1) rfl
  have t2 := bx_at w #[.int .i64 t.over.sorts, .slice A1 t.over.ops.length d1, .slice A2 t.eqs.length d2] 40 (k := 2) rfl
  have hsW : (w.alloc (.cells #[.int .i64 t.over.sorts, .slice A1 t.over.ops.length d1, .slice A2 t.eqs.length d2] 40)).heap.size = w.heap.size + 1 := by simp
  generalize hW : w.alloc (.cells #[.int .i64 t.over.sorts, .slice A1 t.over.ops.length d1, .slice A2 t.eqs.length d2] 40) = W at hb t0 t1 t2 hsW
  have HKD : Hid (Keeps B0 wd W) := fun k q1 q2 => ((hb.block k (by omega)).trans (hk k (by omega) (by omega))).trans (d k q1 q2)
  have HS := Lib.hid hs
  have HO1 := Lib.hid (show OSig wd B0 (.agg #[.int .i64 t.over.sorts, .slice A1 t.over.ops.length d1]) t.over from ⟨_, rfl, c⟩)
  have HE := Lib.hid e
  have HK := Lib.hid hk
  have HB := Lib.hid hb
  have hzz : wd.heap.size ≤ W.heap.size := by omega
  have HT2 := Lib.hid t2
  clear hs c e hk hb d
  go_enter Try.func17, Try.ntmps17
  go_wp2_with fail
  clear hW
  refine (markSig_go _ B0 t.over k0 wd W HO1.out HKD.out hzz HS.out.1 h0 (by omega)).mono ?_
  rintro e w1 ⟨k, rfl, hk0, hk1, wa, hba, hout⟩
  have hs1 := hout.size
  have hsa := hba.size
  have n2 : w1.cell? ⟨w.heap.size, 2, none⟩ = some (.slice A2 t.eqs.length d2) := (World.cell?_of_block (hout.block w.heap.size (.inr (by omega)))).trans (cell_keep hba HT2.out)
  have HEC := Lib.hid (show OEqs (cutTo w1 wc.heap.size) wd.heap.size (.slice A2 t.eqs.length d2) t.eqs from orowsT_same HE.out fun k q1 q2 => by
    rw [cut_block q2, hout.block k (.inr q1), hba.block k (by omega), HB.out.block k (by omega)]
    exact HK.out k (by omega) q2)
  have HCB := Lib.hid (cut_below (show wc.heap.size ≤ w1.heap.size by omega))
  have HCS := Lib.hid (cut_size (show wc.heap.size ≤ w1.heap.size by omega))
  have HOUT := Lib.hid hout
  have HBA := Lib.hid hba
  clear hout hba t0 t1 t2
  go_wp2_with fail
  refine (markEqS_any _ wd.heap.size t.eqs k _ w1 HEC.out HCB.out HS.out.2 hk0 (by omega)).mono ?_
  rintro e w2 ⟨k2, rfl, hk2, hk3, hout2⟩
  rw [HCS.out] at hout2
  have HOUT2 := Lib.hid hout2
  clear hout2 n2
  go_wp2
  go_ret
  exact ⟨k2, rfl, hk2, by omega, wa, HB.out.trans (HBA.out.mono HB.out.size), (HOUT.out.mono z (by omega)).trans (HOUT2.out.mono (by omega) (Nat.le_refl _))⟩
end

section
open Go.RowKit
set_option linter.unusedVariables false

theorem tot_snoc {rows : List (List Int)} {k : Nat} (hk : k < rows.length) : tot (rows.take (k + 1)) = tot (rows.take k) + rows[k].length := tot_take hk
set_option maxRecDepth 100000 in
theorem szIntSS_tot (v : Value) (rows : List (List Int)) (left : Int) (w : World) (h : RRows w v rows) (h0 : 0 ≤ left) (h1 : left ≤ 1048576) :
    Calls Try.prog 22 #[v, .int .i64 left] w fun e w' => ∃ r : Int, e = .returned (.int .i64 r) ∧ (r < 0 ∨ (0 ≤ r ∧ r + (tot rows : Int) ≤ left ∧ Fits rows)) ∧ w = w' := by
  have H := Lib.hid h
  have hn := h.len
  obtain ⟨A, c, rfl, -⟩ := h.form
  clear h
  by_cases hl : left - (rows.length : Int) < 0
  · go_enter Try.func22, Try.ntmps22
    go_wp2
    go_ret
    exact ⟨-1, rfl, .inl (by omega), rfl⟩
  · go_enter Try.func22, Try.ntmps22
    go_wp2
    go_loop [1, 5] (fun l i => ∃ k : Nat, ∃ r : Int, k ≤ rows.length ∧ i = .int .i64 k ∧ l = .int .i64 r ∧ 0 ≤ r ∧ r + (tot (rows.take k) : Int) ≤ left ∧ r ≤ left ∧ (∀ row ∈ rows.take k, row.length ≤ 1048576)) (fun _ i => rows.length - (intOf i).toNat)
    case atStart => exact ⟨0, _, Nat.zero_le _, rfl, rfl, by omega, by simp [tot]; omega, by omega, by simp⟩
    case round =>
      obtain ⟨k, r, hk, rfl, rfl, hr0, hr1, hrl, hb0⟩ := hrel
      have hb := Lib.hid hb0
      have HR1 := Lib.hid hr1
      clear hb0 hr1
      by_cases hlt : k < rows.length
      · obtain ⟨b, o, c', u, e, hcell, hri⟩ := H.out.at_ hlt
        cases e
        have HT := Lib.hid (List.take_succ_eq_append_getElem hlt)
        have HTT := Lib.hid (tot_take hlt)
        generalize rows[k] = row at hri HT HTT
        have HI := Lib.hid hri
        obtain ⟨A', c'', rfl, -⟩ := hri.form
        clear hri
        go_wp2_with fail
        refine (szIntS_any _ row _ _ HI.out hr0 (by omega)).mono ?_
        rintro e w1 ⟨r', rfl, hr', rfl⟩
        by_cases hneg : r' < 0
        · clear hr'
          go_wp2
          go_ret
          exact ⟨-1, rfl, .inl (by omega), rfl⟩
        · obtain ⟨h2, h3⟩ := hr'.resolve_left hneg
          have HR := Lib.hid h3
          clear h3 hr'
          go_wp2
          go_round
          case rel =>
            have a1 := HR.out
            have a2 := HR1.out
            have a3 := HTT.out
            refine ⟨k + 1, r', by omega, by go_num, rfl, h2, by omega, by omega, ?_⟩
            rw [HT.out]
            intro x hx
            rcases List.mem_append.1 hx with hx | hx
            · exact hb.out x hx
            · simp at hx; subst hx; omega
          case measure => simp [intOf]; omega
      · go_wp2
        go_ret
        have h := hb.out
        have h2 := HR1.out
        rw [take_all (by omega)] at h h2
        exact ⟨r, rfl, .inr ⟨hr0, h2, by omega, h⟩, rfl⟩

set_option maxRecDepth 100000 in
theorem szStep_tot (v : Value) (p : MStep) (left : Int) (w : World) (h : RStep w v p) (h0 : 0 ≤ left) (h1 : left ≤ 1048576) :
    Calls Try.prog 72 #[v, .int .i64 left] w fun e w' => ∃ r : Int, e = .returned (.int .i64 r) ∧ (r < 0 ∨ (0 ≤ r ∧ r + (tot p.terms : Int) ≤ left ∧ FitsP p)) ∧ Below w.heap.size w w' := by
  obtain ⟨Apa, cpa, rfl⟩ := h.form
  have hb : Below w.heap.size w (w.alloc (.cells #[.int .i64 p.ax, .bool p.back, .int .i64 p.at_, .slice Apa p.terms.length cpa] 107)) := below_alloc _ _
  have HB := Lib.hid hb
  have hsz : (w.alloc (.cells #[.int .i64 p.ax, .bool p.back, .int .i64 p.at_, .slice Apa p.terms.length cpa] 107)).heap.size = w.heap.size + 1 := by simp
  have Hp := Lib.hid (h.keep hb)
  have p0 := bx_at (w) #[.int .i64 p.ax, .bool p.back, .int .i64 p.at_, .slice Apa p.terms.length cpa] 107 (k := 0) rfl
  have p1 := bx_at (w) #[.int .i64 p.ax, .bool p.back, .int .i64 p.at_, .slice Apa p.terms.length cpa] 107 (k := 1) rfl
  have p2 := bx_at (w) #[.int .i64 p.ax, .bool p.back, .int .i64 p.at_, .slice Apa p.terms.length cpa] 107 (k := 2) rfl
  have p3 := bx_at (w) #[.int .i64 p.ax, .bool p.back, .int .i64 p.at_, .slice Apa p.terms.length cpa] 107 (k := 3) rfl
  generalize hW : w.alloc (.cells #[.int .i64 p.ax, .bool p.back, .int .i64 p.at_, .slice Apa p.terms.length cpa] 107) = W at HB hsz Hp p0 p1 p2 p3
  clear hb h
  have R1 := Lib.hid Hp.out.of
  go_enter Try.func72, Try.ntmps72
  go_wp2_with fail
  clear hW
  refine (szIntSS_tot _ p.terms _ _ R1.out h0 h1).mono ?_
  rintro e w1 ⟨r, rfl, hr, rfl⟩
  by_cases hneg : r < 0
  · clear hr
    go_wp2
    go_ret
    exact ⟨-1, rfl, .inl (by omega), HB.out⟩
  have HR := Lib.hid (hr.resolve_left hneg)
  clear hr
  go_wp2
  go_ret
  exact ⟨r, rfl, .inr HR.out, HB.out⟩

/-- all rows of all steps -/
def totP : List MStep → Nat
  | [] => 0
  | p :: ps => tot p.terms + totP ps
theorem totP_take : ∀ {ps : List MStep} {k : Nat} (hk : k < ps.length), totP (ps.take (k + 1)) = totP (ps.take k) + tot ps[k].terms
  | [], k, hk => by simp at hk
  | p :: ps, 0, hk => by simp [totP]
  | p :: ps, k + 1, hk => by
    have := totP_take (ps := ps) (k := k) (by simpa using hk)
    simp only [List.take_succ_cons, totP, List.getElem_cons_succ] at this ⊢
    omega
def FitsQ (ps : List MStep) : Prop := FitsPs ps ∧ totP ps ≤ 1048576

set_option maxRecDepth 100000 in
theorem szStepS_tot (v : Value) (ps : List MStep) (left : Int) (w : World) (h : RSteps w v ps) (h0 : 0 ≤ left) (h1 : left ≤ 1048576) :
    Calls Try.prog 21 #[v, .int .i64 left] w fun e w' => ∃ r : Int, e = .returned (.int .i64 r) ∧ (r < 0 ∨ (0 ≤ r ∧ r ≤ left ∧ FitsQ ps)) ∧ Below w.heap.size w w' := by
  have H := Lib.hid h
  have hn := h.len
  obtain ⟨A, c, rfl, -⟩ := h.form
  clear h
  by_cases hl : left - (ps.length : Int) < 0
  · go_enter Try.func21, Try.ntmps21
    go_wp2
    go_ret
    exact ⟨-1, rfl, .inl (by omega), Below.refl _ _⟩
  · go_enter Try.func21, Try.ntmps21
    go_wp2
    go_loopw [1, 5] (fun l i wr => ∃ k : Nat, ∃ r : Int, k ≤ ps.length ∧ i = .int .i64 k ∧ l = .int .i64 r ∧ 0 ≤ r ∧ r + (totP (ps.take k) : Int) ≤ left ∧ r ≤ left ∧ (∀ p ∈ ps.take k, FitsP p) ∧ Below w.heap.size w wr) (fun _ i _ => ps.length - (intOf i).toNat)
    case atStart => exact ⟨0, _, Nat.zero_le _, rfl, rfl, by omega, by simp [totP]; omega, by omega, by simp, Below.refl _ _⟩
    case round =>
      obtain ⟨k, r, hk, rfl, rfl, hr0, hr1, hrl, hb0, hbw⟩ := hrel
      have hb := Lib.hid hb0
      have HBW := Lib.hid hbw
      have HR1 := Lib.hid hr1
      clear hb0 hbw hr1
      by_cases hlt : k < ps.length
      · obtain ⟨b, o, c', x, e, c0, c1, c2, c3, q0⟩ := (H.out.keep HBW.out).at_ hlt
        cases e
        have HT := Lib.hid (List.take_succ_eq_append_getElem hlt)
        have HTT := Lib.hid (totP_take hlt)
        generalize ps[k] = p at q0 c0 c1 c2 HT HTT
        have HI := Lib.hid (show RStep wr (.agg #[.int .i64 p.ax, .bool p.back, .int .i64 p.at_, x]) p from ⟨x, rfl, q0⟩)
        obtain ⟨A0, d0, rfl, -⟩ := q0.form
        clear q0
        go_wp2_with fail
        refine (szStep_tot _ p _ _ HI.out hr0 (by omega)).mono ?_
        rintro e' w1 ⟨r', rfl, hr', hb1⟩
        have HB1 := Lib.hid (sz_keep HBW.out hb1)
        clear hb1 c0 c1 c2 c3
        by_cases hneg : r' < 0
        · clear hr'
          go_wp2
          go_ret
          exact ⟨-1, rfl, .inl (by omega), HB1.out⟩
        · obtain ⟨h2, h3, h4⟩ := hr'.resolve_left hneg
          have HR := Lib.hid (And.intro h3 h4)
          clear h3 h4 hr'
          go_wp2
          go_roundw
          case rel =>
            have a1 := HR.out.1
            have a2 := HR1.out
            have a3 := HTT.out
            refine ⟨k + 1, r', by omega, by go_num, rfl, h2, by omega, by omega, ?_, HB1.out⟩
            rw [HT.out]
            intro x hx
            rcases List.mem_append.1 hx with hx | hx
            · exact hb.out x hx
            · simp at hx; subst hx; exact HR.out.2
          case measure => simp [intOf]; omega
      · go_wp2
        go_ret
        have h := hb.out
        have h2 := HR1.out
        rw [take_all (by omega)] at h h2
        exact ⟨r, rfl, .inr ⟨hr0, by omega, ⟨by omega, h⟩, by omega⟩, HBW.out⟩

/-! the marks of steps: arguments alone, to no number -/
theorem Outside.set {B M g o : Nat} {w w' : World} (h : Outside B M w w') (h1 : B ≤ g) (h2 : g < M) (u : Value) : Outside B M w (w'.setCell ⟨g, o, none⟩ u) :=
  ⟨h.os, h.tape, h.output, by rw [← h.size]; simp [World.setCell], fun k hk => (Below.heap_setCell w' ⟨g, o, none⟩ u k (by show k ≠ g; omega)).trans (h.block k hk)⟩

structure MarkS (w wr : World) (B M g c n : Nat) (us : Nat → Value) (rg : Nat → Nat × Nat) (ps : List MStep) (k : Nat) : Prop where
  blk : ∃ cur : Array Value, wr.heap[g]? = some (.cells cur 100 (0, 0)) ∧ cur.size = c * 4 ∧ ∀ j, j < n → cur[j * 4 + 3]? = some (us j)
  rows : ∀ j p, k ≤ j → ps[j]? = some p → InR wr (rg j) (us j) p.terms ∧ B ≤ (rg j).1 ∧ (rg j).2 ≤ M ∧ (g < (rg j).1 ∨ (rg j).2 ≤ g)
  frame : Outside B M w wr
theorem MarkS.cell {w wr : World} {B M g c n : Nat} {us : Nat → Value} {rg : Nat → Nat × Nat} {ps : List MStep} {k : Nat} (h : MarkS w wr B M g c n us rg ps k) {j : Nat} (hj : j < c * 4) : ∃ u, wr.cell? ⟨g, j, none⟩ = some u ∧ wr.frozen? ⟨g, j, none⟩ = false := by
  obtain ⟨cur, h1, h2, h3⟩ := h.blk
  exact ⟨cur[j]'(by omega), (blk_cell h1 j).trans (Array.getElem?_eq_getElem (by omega)), blk_free h1 j⟩
theorem MarkS.set {w wr : World} {B M g c n : Nat} {us : Nat → Value} {rg : Nat → Nat × Nat} {ps : List MStep} {k : Nat} (h : MarkS w wr B M g c n us rg ps k) (hg : B ≤ g) (hM : g < M) {i : Nat} (hi : i % 4 ≠ 3) (u : Value) : MarkS w (wr.setCell ⟨g, i, none⟩ u) B M g c n us rg ps k := by
  obtain ⟨cur, h1, h2, h3⟩ := h.blk
  refine ⟨⟨_, blk_set h1 i u, by simpa using h2, fun j hj => ?_⟩, fun j p hj hp => ?_, h.frame.set hg hM u⟩
  · rw [Array.getElem?_setIfInBounds, if_neg (by omega)]
    exact h3 j hj
  · obtain ⟨a, b, d, e⟩ := h.rows j p hj hp
    exact ⟨a.same fun x x1 x2 => Below.heap_setCell wr ⟨g, i, none⟩ u x (by show x ≠ g; omega), b, d, e⟩
theorem MarkS.step {w wr w1 : World} {B M g c n : Nat} {us : Nat → Value} {rg : Nat → Nat × Nat} {ps : List MStep} {k : Nat} (h : MarkS w wr B M g c n us rg ps k) (hk : k < ps.length) (hap : ∀ i j, i < j → j < ps.length → (rg i).2 ≤ (rg j).1 ∨ (rg j).2 ≤ (rg i).1)
    (ho : Outside (rg k).1 (rg k).2 wr w1) : MarkS w w1 B M g c n us rg ps (k + 1) := by
  obtain ⟨cur, h1, h2, h3⟩ := h.blk
  obtain ⟨a, b, d, e⟩ := h.rows k ps[k] (Nat.le_refl _) (List.getElem?_eq_getElem hk)
  refine ⟨⟨cur, (ho.block g (by omega)).trans h1, h2, h3⟩, fun j p hj hp => ?_, h.frame.trans (ho.mono b d)⟩
  obtain ⟨a', b', d', e'⟩ := h.rows j p (by omega) hp
  refine ⟨a'.same fun x x1 x2 => ho.block x ?_, b', d', e'⟩
  have := hap k j (by omega) (List.getElem?_eq_some_iff.1 hp).1
  omega

set_option maxHeartbeats 800000 in
set_option maxRecDepth 100000 in
theorem markStepS_go (v : Value) (B : Nat) (ps : List MStep) (k0 : Int) (wc w : World) (h : OSteps wc B v ps) (hk : Keeps B wc w) (hz : wc.heap.size ≤ w.heap.size) (hs : FitsQ ps) (h0 : 0 ≤ k0) (h1 : k0 ≤ 80000000000000) :
    Calls Try.prog 34 #[v, .int .i64 k0] w fun e w' => ∃ k : Int, e = .returned (.int .i64 k) ∧ 0 ≤ k ∧ k ≤ k0 + 2000000000000 ∧ ∃ wa, Below w.heap.size w wa ∧ Outside B wc.heap.size wa w' := by
  obtain ⟨g, c, cur, rg, rfl, g1, g2, g3, g4, g5, g6, g7⟩ := h
  have hgl := (Array.getElem?_eq_some_iff.1 g2).1
  have hps := hs.1.1
  have hus : ∃ us : Nat → Value, ∀ j p, ps[j]? = some p → cur[j * 4 + 3]? = some (us j) ∧ InR wc (rg j) (us j) p.terms ∧ B ≤ (rg j).1 ∧ (rg j).2 ≤ wc.heap.size ∧ (g < (rg j).1 ∨ (rg j).2 ≤ g) := by
    refine ⟨fun j => (cur[j * 4 + 3]?).getD (.bool false), fun j p hj => ?_⟩
    obtain ⟨u, -, -, -, c3, r, a, b, d⟩ := g6 j p hj
    simp only [c3, Option.getD_some]
    exact ⟨trivial, r, a, b, d⟩
  obtain ⟨us, hus⟩ := hus
  have hm : MarkS w w B wc.heap.size g c ps.length us rg ps 0 := by
    refine ⟨⟨cur, (hk g g1 hgl).trans g2, g5, fun j hj => (hus j _ (List.getElem?_eq_getElem hj)).1⟩, fun j p _ hp => ?_, Outside.refl _ _ _⟩
    obtain ⟨-, r, a, b, d⟩ := hus j p hp
    exact ⟨r.same fun x x1 x2 => hk x (by omega) (by omega), a, b, d⟩
  have HM := Lib.hid hm
  have HS := Lib.hid hs
  have HAP := Lib.hid g7
  clear g2 g6 g7 hus hm hk hs g5
  go_enter Try.func34, Try.ntmps34
  go_wp2
  go_loopw [1, 5] (fun l i wr => ∃ k : Nat, ∃ x : Int, k ≤ ps.length ∧ i = .int .i64 k ∧ l = .int .i64 x ∧ 0 ≤ x ∧ x ≤ k0 + 3 * (k : Int) + (totP (ps.take k) : Int) ∧ MarkS w wr B wc.heap.size g c ps.length us rg ps k) (fun _ i _ => ps.length - (intOf i).toNat)
  case atStart => exact ⟨0, k0, Nat.zero_le _, rfl, rfl, h0, by simp [totP], HM.out⟩
  case round =>
    obtain ⟨k, x, hk, rfl, rfl, hx0, hx1, hm⟩ := hrel
    have HMK := Lib.hid hm
    have HX1 := Lib.hid hx1
    have htp : totP (ps.take k) ≤ totP ps := by
      have : ∀ (l : List MStep) (n : Nat), totP (l.take n) ≤ totP l := fun l => by
        induction l with
        | nil => intro n; simp
        | cons a l ih => intro n; cases n with
          | zero => simp [totP]
          | succ n => have := ih n; simp only [List.take_succ_cons, totP]; omega
      exact this ps k
    have hxb : x ≤ 80000000000000 + 3 * 1048576 + 1048576 := by have := HS.out.2; omega
    clear hm hx1 htp
    by_cases hlt : k < ps.length
    · have hlt' : (k : Int) < (ps.length : Int) := by omega
      have HTT := Lib.hid (totP_take hlt)
      have HFP := Lib.hid (show Fits ps[k].terms from HS.out.1.2 _ (List.getElem_mem hlt))
      have HPK := Lib.hid (List.getElem?_eq_getElem hlt)
      obtain ⟨z0, m0, n0⟩ := HMK.out.cell (j := k * 4) (by omega)
      have h1m := HMK.out.set g1 hgl (i := k * 4) (by omega) (.int .i64 x)
      obtain ⟨z1, m1, n1⟩ := h1m.cell (j := k * 4 + 1) (by omega)
      have h2m := h1m.set g1 hgl (i := k * 4 + 1) (by omega) (.bool ((x + 1) % 3 == 0))
      obtain ⟨z2, m2, n2⟩ := h2m.cell (j := k * 4 + 2) (by omega)
      have h3m := h2m.set g1 hgl (i := k * 4 + 2) (by omega) (.int .i64 (x + 1 + 1))
      generalize hW3 : ((wr.setCell ⟨g, k * 4, none⟩ (.int .i64 x)).setCell ⟨g, k * 4 + 1, none⟩ (.bool ((x + 1) % 3 == 0))).setCell ⟨g, k * 4 + 2, none⟩ (.int .i64 (x + 1 + 1)) = W3 at h3m
      have hs3 : W3.heap.size = w.heap.size := h3m.frame.size
      obtain ⟨hin, hlo, hhi, -⟩ := h3m.rows k ps[k] (Nat.le_refl _) (List.getElem?_eq_getElem hlt)
      obtain ⟨Ak, ck, hke, -⟩ := hin.rows.reads.form
      have m3 : W3.cell? ⟨g, k * 4 + 3, none⟩ = some (us k) := by
        obtain ⟨cur', b1, b2, b3⟩ := h3m.blk
        exact (blk_cell b1 _).trans (b3 k hlt)
      have hsc : (cutTo W3 (rg k).2).heap.size = (rg k).2 := cut_size (by omega)
      have hcb := cut_below (w := W3) (M := (rg k).2) (by omega)
      have HOC := Lib.hid (show ORows (cutTo W3 (rg k).2) (rg k).1 (us k) ps[k].terms by
        obtain ⟨wd, e1, e2, e3⟩ := hin
        exact orows_same e2 fun i a b => (cut_block (by omega)).trans (e3 i a (by omega)))
      have HCB := Lib.hid hcb
      have HSC := Lib.hid hsc
      have HM3 := Lib.hid h3m
      rw [hke] at m3 HOC
      have htt : (tot ps[k].terms : Int) ≤ 1048576 := by
        have h5 := HS.out.2
        have : ∀ (l : List MStep) (n : Nat), totP (l.take n) ≤ totP l := fun l => by
          induction l with
          | nil => intro n; simp
          | cons a l ih => intro n; cases n with
            | zero => simp [totP]
            | succ n => have := ih n; simp only [List.take_succ_cons, totP]; omega
        have h6 := this ps (k + 1)
        have h7 := HTT.out
        omega
      generalize ps[k].terms = rows at m3 HOC HFP HTT htt hke
      have HFP2 := Lib.hid (show Fits rows from HFP.out)
      clear hin hsc hcb h1m h2m h3m hke
      go_wp2_with fail
      clear hW3
      refine (markIntSSp_any _ (rg k).1 rows _ _ W3 HOC.out HCB.out HFP2.out.1 HFP2.out.2 (by omega) (by omega)).mono ?_
      rintro e w1 ⟨rfl, -, hout⟩
      rw [HSC.out] at hout
      have HN := Lib.hid (HM3.out.step hlt HAP.out hout)
      clear hout m0 m1 m2 m3 n0 n1 n2
      go_wp2
      go_roundw
      case rel =>
        have a1 := HX1.out
        have a2 := HTT.out
        exact ⟨k + 1, _, by omega, by go_num, rfl, by omega, by omega, HN.out⟩
      case measure => simp [intOf]; omega
    · have hlt' : ¬ (k : Int) < (ps.length : Int) := by omega
      have hxx := HX1.out
      have ht2 := HS.out.2
      go_wp2
      go_ret
      rw [take_all (by omega)] at hxx
      exact ⟨x, rfl, hx0, by omega, w, Below.refl _ _, HMK.out.frame⟩
end

section
open Go.RowKit
set_option linter.unusedVariables false

theorem own_cutTo {wr : World} {B M : Nat} {e : TypeId} {size n : Nat} {v : Value} {zs : List Value} (h : wr.ownsRow B e size v n zs) (hv : ∀ g, v.ownBlock = some g → g < M) : (cutTo wr M).ownsRow B e size v n zs := by
  refine ⟨h.1, ?_⟩
  rcases h.2 with h2 | ⟨g, cap, cur, rfl, hg, hh, r⟩
  · exact .inl h2
  · exact .inr ⟨g, cap, cur, rfl, hg, (cut_block (hv g rfl)).trans hh, r⟩
theorem MarkP.cut {w wr : World} {B M : Nat} {v : Value} {us : List Value} {rows : List (List Int)} {k0 : Int} {k : Nat} (h : MarkP w wr B M v us rows k0 k) (hk : k = rows.length) (hv : ∀ g, v.ownBlock = some g → g < M) : ORows (cutTo wr M) B v (marksR k0 rows) := by
  refine ⟨us, by rw [marksR_len]; exact own_cutTo h.own hv, by rw [marksR_len]; exact h.len, fun j u r hu hr => ?_, h.apart⟩
  rw [marksR_at] at hr
  obtain ⟨row, hrow, rfl⟩ := Option.map_eq_some_iff.1 hr
  exact own_cutTo (h.done j u row (by rw [hk]; exact (List.getElem?_eq_some_iff.1 hrow).1) hu hrow) fun g hg => (h.low j u hu g hg).2

set_option maxRecDepth 100000 in
theorem markIntSSc_any (v : Value) (B : Nat) (rows : List (List Int)) (k0 : Int) (w0 w : World) (h : ORows w0 B v rows) (hb : Below w0.heap.size w0 w) (hs : rows.length ≤ 1048576) (hs2 : ∀ row ∈ rows, row.length ≤ 1048576) (h0 : 0 ≤ k0) (h1 : k0 ≤ 100000000000000) :
    Calls Try.prog 36 #[v, .int .i64 k0] w fun e w' => e = .returned (.int .i64 (k0 + (tot rows : Int))) ∧ ORows (cutTo w' w0.heap.size) B v (marksR k0 rows) ∧ Outside B w0.heap.size w w' := by
  obtain ⟨us, hm0⟩ := MarkP.start k0 h hb
  have HVL := Lib.hid (show ∀ g, v.ownBlock = some g → g < w0.heap.size from fun g hg => by obtain ⟨us', q1, -⟩ := h; exact (own_lt q1 g hg).2)
  have HM0 := Lib.hid hm0
  have HS2 := Lib.hid hs2
  obtain ⟨A, c, rfl, -⟩ := own_reads hm0.own
  clear h hb hm0 hs2
  go_enter Try.func36, Try.ntmps36
  go_wp2
  go_loopw [1, 5] (fun l i wr => ∃ k : Nat, k ≤ rows.length ∧ i = .int .i64 k ∧ l = .int .i64 (k0 + (tot (rows.take k) : Int)) ∧ MarkP w wr B w0.heap.size (.slice A rows.length c) us rows k0 k) (fun _ i _ => rows.length - (intOf i).toNat)
  case atStart => exact ⟨0, Nat.zero_le _, rfl, by simp [tot], HM0.out⟩
  case round =>
    obtain ⟨k, hk, rfl, rfl, hm⟩ := hrel
    have HM := Lib.hid hm
    clear hm
    have htt : (tot (rows.take k) : Int) ≤ 1048576 * 1048576 := by
      have := tot_le (rows := rows.take k) (fun row hr => HS2.out row (List.mem_of_mem_take hr))
      rw [List.length_take] at this
      omega
    by_cases hlt : k < rows.length
    · have hul : k < us.length := by rw [HM.out.len]; exact hlt
      have HYO := Lib.hid (HM.out.todo k us[k] rows[k] (Nat.le_refl _) (List.getElem?_eq_getElem hul) (List.getElem?_eq_getElem hlt))
      have hrl := HS2.out _ (List.getElem_mem hlt)
      obtain ⟨A0, c0, e0, -, -, hcells⟩ := own_reads HM.out.own
      cases e0
      obtain ⟨b, o, ea, hcell⟩ := hcells k us[k] (List.getElem?_eq_getElem hul)
      subst ea
      have HU := Lib.hid (List.getElem?_eq_getElem hul)
      have HR := Lib.hid (List.getElem?_eq_getElem hlt)
      have HTT := Lib.hid (tot_take hlt)
      generalize us[k] = u at HYO hcell HU
      generalize rows[k] = row at HYO HR hrl HTT
      obtain ⟨Au, cu, rfl, -⟩ := own_reads HYO.out
      clear hcells hul
      generalize hto : tot (rows.take k) = T at HTT htt
      have HTO := Lib.hid hto
      clear hto
      go_wp2_with fail
      refine (markIntS_any _ B row _ _ HYO.out hrl (by omega) (by omega)).mono ?_
      rintro e w1 ⟨rfl, ho, hg, hz⟩
      have HN := Lib.hid (HM.out.step HU.out HR.out (by rw [HTO.out]; exact ho) hg hz)
      have hyl : (row.length : Int) ≤ 1048576 := by omega
      clear ho hg hz
      go_wp2
      go_roundw
      case rel => exact ⟨k + 1, by omega, by go_num, by rw [HTT.out]; go_num, HN.out⟩
      case measure => simp [intOf]; omega
    · have hkn : k = rows.length := by omega
      have HKN := Lib.hid hkn
      clear hkn
      go_wp2
      go_ret
      have r1 := HM.out.cut HKN.out HVL.out
      have r2 := HM.out.frame
      refine ⟨?_, r1, r2⟩
      have e := HKN.out
      have e2 : tot (rows.take k) = tot rows := by rw [take_all (by omega)]
      exact ret_int (by rw [e2])


/-- the number with which a step's marks begin -/
def mkAt (k0 : Int) (ps : List MStep) (j : Nat) : Int := k0 + 3 * (j : Int) + (totP (ps.take j) : Int)
def markP (k : Int) (p : MStep) : MStep := ⟨k, (k + 1) % 3 == 0, k + 1 + 1, marksR (k + 1 + 1 + 1) p.terms⟩
def marksPs (k : Int) : List MStep → List MStep
  | [] => []
  | p :: ps => markP k p :: marksPs (k + 3 + (tot p.terms : Int)) ps
theorem marksPs_at : ∀ (ps : List MStep) (k : Int) (j : Nat), (marksPs k ps)[j]? = (ps[j]?).map fun p => markP (mkAt k ps j) p
  | [], k, j => by simp [marksPs]
  | p :: ps, k, 0 => by simp [marksPs, mkAt, totP]
  | p :: ps, k, j + 1 => by
    simp only [marksPs, List.getElem?_cons_succ, marksPs_at ps]
    congr 1
    funext x
    congr 1
    simp only [mkAt, List.take_succ_cons, totP]
    omega
theorem marksPs_len : ∀ (ps : List MStep) (k : Int), (marksPs k ps).length = ps.length
  | [], k => rfl
  | p :: ps, k => by simp [marksPs, marksPs_len ps]

structure MarkQ (w wr : World) (B M g c n : Nat) (us : Nat → Value) (rg : Nat → Nat × Nat) (ps : List MStep) (k0 : Int) (k : Nat) : Prop where
  blk : ∃ cur : Array Value, wr.heap[g]? = some (.cells cur 100 (0, 0)) ∧ cur.size = c * 4 ∧ (∀ j, j < n → cur[j * 4 + 3]? = some (us j)) ∧
    ∀ j, j < k → cur[j * 4]? = some (.int .i64 (mkAt k0 ps j)) ∧ cur[j * 4 + 1]? = some (.bool ((mkAt k0 ps j + 1) % 3 == 0)) ∧ cur[j * 4 + 2]? = some (.int .i64 (mkAt k0 ps j + 1 + 1))
  done : ∀ j p, j < k → ps[j]? = some p → InR wr (rg j) (us j) (marksR (mkAt k0 ps j + 1 + 1 + 1) p.terms)
  todo : ∀ j p, k ≤ j → ps[j]? = some p → InR wr (rg j) (us j) p.terms
  rng : ∀ j p, ps[j]? = some p → B ≤ (rg j).1 ∧ (rg j).2 ≤ M ∧ (g < (rg j).1 ∨ (rg j).2 ≤ g)
  frame : Outside B M w wr
section
variable {w wr w1 : World} {B M g c n : Nat} {us : Nat → Value} {rg : Nat → Nat × Nat} {ps : List MStep} {k0 : Int} {k : Nat}
theorem MarkQ.cell (h : MarkQ w wr B M g c n us rg ps k0 k) {j : Nat} (hj : j < c * 4) : ∃ u, wr.cell? ⟨g, j, none⟩ = some u ∧ wr.frozen? ⟨g, j, none⟩ = false := by
  obtain ⟨cur, h1, h2, h3⟩ := h.blk
  exact ⟨cur[j]'(by omega), (blk_cell h1 j).trans (Array.getElem?_eq_getElem (by omega)), blk_free h1 j⟩
/-- a cell of the step at hand is stored -/
theorem MarkQ.set (h : MarkQ w wr B M g c n us rg ps k0 k) (hg : B ≤ g) (hM : g < M) {i : Nat} (hi : i % 4 ≠ 3) (hik : k * 4 ≤ i) (u : Value) : MarkQ w (wr.setCell ⟨g, i, none⟩ u) B M g c n us rg ps k0 k := by
  obtain ⟨cur, h1, h2, h3, h4⟩ := h.blk
  refine ⟨⟨_, blk_set h1 i u, by simpa using h2, fun j hj => ?_, fun j hj => ?_⟩, fun j p hj hp => ?_, fun j p hj hp => ?_, h.rng, h.frame.set hg hM u⟩
  · rw [Array.getElem?_setIfInBounds, if_neg (by omega)]
    exact h3 j hj
  · rw [Array.getElem?_setIfInBounds, if_neg (by omega), Array.getElem?_setIfInBounds, if_neg (by omega), Array.getElem?_setIfInBounds, if_neg (by omega)]
    exact h4 j hj
  · have := h.rng j p hp
    exact (h.done j p hj hp).same fun x x1 x2 => Below.heap_setCell wr ⟨g, i, none⟩ u x (by show x ≠ g; omega)
  · have := h.rng j p hp
    exact (h.todo j p hj hp).same fun x x1 x2 => Below.heap_setCell wr ⟨g, i, none⟩ u x (by show x ≠ g; omega)
theorem MarkQ.step {x : Int} (h : MarkQ w wr B M g c n us rg ps k0 k) (hx : x = mkAt k0 ps k) (hg : B ≤ g) (hM : g < M) (hk : k < ps.length) (hn : n = ps.length) (hc : n ≤ c) (hap : ∀ i j, i < j → j < ps.length → (rg i).2 ≤ (rg j).1 ∨ (rg j).2 ≤ (rg i).1)
    (ho : Outside (rg k).1 (rg k).2 (((wr.setCell ⟨g, k * 4, none⟩ (.int .i64 x)).setCell ⟨g, k * 4 + 1, none⟩ (.bool ((x + 1) % 3 == 0))).setCell ⟨g, k * 4 + 2, none⟩ (.int .i64 (x + 1 + 1))) w1) (hm : InR w1 (rg k) (us k) (marksR (x + 1 + 1 + 1) ps[k].terms)) :
    MarkQ w w1 B M g c n us rg ps k0 (k + 1) := by
  subst hx
  have hf := ((h.set hg hM (i := k * 4) (by omega) (by omega) (.int .i64 (mkAt k0 ps k))).set hg hM (i := k * 4 + 1) (by omega) (by omega) (.bool ((mkAt k0 ps k + 1) % 3 == 0))).set hg hM (i := k * 4 + 2) (by omega) (by omega) (.int .i64 (mkAt k0 ps k + 1 + 1))
  obtain ⟨cur, h1, h2, h3, h4⟩ := h.blk
  have hb := blk_set (blk_set (blk_set h1 (k * 4) (.int .i64 (mkAt k0 ps k))) (k * 4 + 1) (.bool ((mkAt k0 ps k + 1) % 3 == 0))) (k * 4 + 2) (.int .i64 (mkAt k0 ps k + 1 + 1))
  obtain ⟨b, d, e⟩ := h.rng k ps[k] (List.getElem?_eq_getElem hk)
  refine ⟨⟨_, (ho.block g (by omega)).trans hb, by simpa using h2, fun j hj => ?_, fun j hj => ?_⟩, fun j p hj hp => ?_, fun j p hj hp => ?_, h.rng, hf.frame.trans (ho.mono b d)⟩
  · rw [Array.getElem?_setIfInBounds, if_neg (by omega), Array.getElem?_setIfInBounds, if_neg (by omega), Array.getElem?_setIfInBounds, if_neg (by omega)]
    exact h3 j hj
  · by_cases hjk : j = k
    · subst hjk
      refine ⟨?_, ?_, ?_⟩
      · rw [Array.getElem?_setIfInBounds, if_neg (by omega), Array.getElem?_setIfInBounds, if_neg (by omega), Array.getElem?_setIfInBounds, if_pos rfl, if_pos (by omega)]
      · rw [Array.getElem?_setIfInBounds, if_neg (by omega), Array.getElem?_setIfInBounds, if_pos rfl, if_pos (by simp; omega)]
      · rw [Array.getElem?_setIfInBounds, if_pos rfl, if_pos (by simp; omega)]
    · obtain ⟨a1, a2, a3⟩ := h4 j (by omega)
      refine ⟨?_, ?_, ?_⟩ <;> (rw [Array.getElem?_setIfInBounds, if_neg (by omega), Array.getElem?_setIfInBounds, if_neg (by omega), Array.getElem?_setIfInBounds, if_neg (by omega)]; assumption)
  · by_cases hjk : j = k
    · subst hjk
      rw [List.getElem?_eq_getElem hk] at hp
      cases hp
      exact hm
    · refine (hf.done j p (by omega) hp).same fun x x1 x2 => ho.block x ?_
      have := hap j k (by omega) hk
      omega
  · refine (hf.todo j p (by omega) hp).same fun x x1 x2 => ho.block x ?_
    have := hap k j (by omega) (List.getElem?_eq_some_iff.1 hp).1
    omega
theorem MarkQ.all (h : MarkQ w wr B M g c ps.length us rg ps k0 k) (hk : k = ps.length) (hg : B ≤ g) (hc : ps.length ≤ c) (hc2 : c ≤ 9223372036854775807) (hM : M ≤ wr.heap.size) (hap : ∀ i j, i < j → j < ps.length → (rg i).2 ≤ (rg j).1 ∨ (rg j).2 ≤ (rg i).1) :
    OSteps wr B (.slice (some ⟨g, 0, none⟩) ps.length c) (marksPs k0 ps) := by
  obtain ⟨cur, h1, h2, h3, h4⟩ := h.blk
  refine ⟨g, c, cur, rg, by rw [marksPs_len], hg, h1, by rw [marksPs_len]; exact hc, hc2, h2, fun j p hj => ?_, fun i j hij hj => hap i j hij (by rw [marksPs_len] at hj; exact hj)⟩
  rw [marksPs_at] at hj
  obtain ⟨q, hq, rfl⟩ := Option.map_eq_some_iff.1 hj
  have hjl := (List.getElem?_eq_some_iff.1 hq).1
  obtain ⟨a1, a2, a3⟩ := h4 j (by omega)
  obtain ⟨r1, r2, r3⟩ := h.rng j q hq
  exact ⟨us j, a1, a2, a3, h3 j hjl, h.done j q (by omega) hq, r1, by omega, r3⟩
end
end

section
open Go.RowKit
set_option linter.unusedVariables false

set_option maxHeartbeats 800000 in
set_option maxRecDepth 100000 in
theorem markStepS_q (v : Value) (B : Nat) (ps : List MStep) (k0 : Int) (wc w : World) (h : OSteps wc B v ps) (hk : Keeps B wc w) (hz : wc.heap.size ≤ w.heap.size) (hs : FitsQ ps) (h0 : 0 ≤ k0) (h1 : k0 ≤ 80000000000000) :
    Calls Try.prog 34 #[v, .int .i64 k0] w fun e w' => e = .returned (.int .i64 (mkAt k0 ps ps.length)) ∧ OSteps w' B v (marksPs k0 ps) ∧ Outside B wc.heap.size w w' := by
  obtain ⟨g, c, cur, rg, rfl, g1, g2, g3, g4, g5, g6, g7⟩ := h
  have hgl := (Array.getElem?_eq_some_iff.1 g2).1
  have hps := hs.1.1
  have hus : ∃ us : Nat → Value, ∀ j p, ps[j]? = some p → cur[j * 4 + 3]? = some (us j) ∧ InR wc (rg j) (us j) p.terms ∧ B ≤ (rg j).1 ∧ (rg j).2 ≤ wc.heap.size ∧ (g < (rg j).1 ∨ (rg j).2 ≤ g) := by
    refine ⟨fun j => (cur[j * 4 + 3]?).getD (.bool false), fun j p hj => ?_⟩
    obtain ⟨u, -, -, -, c3, r, a, b, d⟩ := g6 j p hj
    simp only [c3, Option.getD_some]
    exact ⟨trivial, r, a, b, d⟩
  obtain ⟨us, hus⟩ := hus
  have hm : MarkQ w w B wc.heap.size g c ps.length us rg ps k0 0 := by
    refine ⟨⟨cur, (hk g g1 hgl).trans g2, g5, fun j hj => (hus j _ (List.getElem?_eq_getElem hj)).1, fun j hj => by omega⟩, fun j p hj => by omega, fun j p _ hp => ?_, fun j p hp => ?_, Outside.refl _ _ _⟩
    · obtain ⟨-, r, a, b, d⟩ := hus j p hp
      exact r.same fun x x1 x2 => hk x (by omega) (by omega)
    · obtain ⟨-, r, a, b, d⟩ := hus j p hp
      exact ⟨a, b, d⟩
  have HM := Lib.hid hm
  have HS := Lib.hid hs
  have HAP := Lib.hid g7
  clear g2 g6 g7 hus hm hk hs g5
  go_enter Try.func34, Try.ntmps34
  go_wp2
  go_loopw [1, 5] (fun l i wr => ∃ k : Nat, ∃ x : Int, k ≤ ps.length ∧ i = .int .i64 k ∧ l = .int .i64 x ∧ 0 ≤ x ∧ x = mkAt k0 ps k ∧ MarkQ w wr B wc.heap.size g c ps.length us rg ps k0 k) (fun _ i _ => ps.length - (intOf i).toNat)
  case atStart => exact ⟨0, k0, Nat.zero_le _, rfl, rfl, h0, by simp [mkAt, totP], HM.out⟩
  case round =>
    obtain ⟨k, x, hk, rfl, rfl, hx0, hx1, hm⟩ := hrel
    have HMK := Lib.hid hm
    have HX1 := Lib.hid hx1
    have htp : totP (ps.take k) ≤ totP ps := by
      have : ∀ (l : List MStep) (n : Nat), totP (l.take n) ≤ totP l := fun l => by
        induction l with
        | nil => intro n; simp
        | cons a l ih => intro n; cases n with
          | zero => simp [totP]
          | succ n => have := ih n; simp only [List.take_succ_cons, totP]; omega
      exact this ps k
    have hxb : x ≤ 80000000000000 + 3 * 1048576 + 1048576 := by have := HS.out.2; have h9 := HX1.out; unfold mkAt at h9; omega
    clear hm hx1 htp
    by_cases hlt : k < ps.length
    · have hlt' : (k : Int) < (ps.length : Int) := by omega
      have HTT := Lib.hid (totP_take hlt)
      have HFP := Lib.hid (show Fits ps[k].terms from HS.out.1.2 _ (List.getElem_mem hlt))
      have HPK := Lib.hid (List.getElem?_eq_getElem hlt)
      obtain ⟨z0, m0, n0⟩ := HMK.out.cell (j := k * 4) (by omega)
      have h1m := HMK.out.set g1 hgl (i := k * 4) (by omega) (by omega) (.int .i64 x)
      obtain ⟨z1, m1, n1⟩ := h1m.cell (j := k * 4 + 1) (by omega)
      have h2m := h1m.set g1 hgl (i := k * 4 + 1) (by omega) (by omega) (.bool ((x + 1) % 3 == 0))
      obtain ⟨z2, m2, n2⟩ := h2m.cell (j := k * 4 + 2) (by omega)
      have h3m := h2m.set g1 hgl (i := k * 4 + 2) (by omega) (by omega) (.int .i64 (x + 1 + 1))
      generalize hW3 : ((wr.setCell ⟨g, k * 4, none⟩ (.int .i64 x)).setCell ⟨g, k * 4 + 1, none⟩ (.bool ((x + 1) % 3 == 0))).setCell ⟨g, k * 4 + 2, none⟩ (.int .i64 (x + 1 + 1)) = W3 at h3m
      have hs3 : W3.heap.size = w.heap.size := h3m.frame.size
      have hin := h3m.todo k ps[k] (Nat.le_refl _) (List.getElem?_eq_getElem hlt)
      obtain ⟨hlo, hhi, -⟩ := h3m.rng k ps[k] (List.getElem?_eq_getElem hlt)
      obtain ⟨Ak, ck, hke, -⟩ := hin.rows.reads.form
      have m3 : W3.cell? ⟨g, k * 4 + 3, none⟩ = some (us k) := by
        obtain ⟨cur', b1, b2, b3, -⟩ := h3m.blk
        exact (blk_cell b1 _).trans (b3 k hlt)
      have hsc : (cutTo W3 (rg k).2).heap.size = (rg k).2 := cut_size (by omega)
      have hcb := cut_below (w := W3) (M := (rg k).2) (by omega)
      have HOC := Lib.hid (show ORows (cutTo W3 (rg k).2) (rg k).1 (us k) ps[k].terms by
        obtain ⟨wd, e1, e2, e3⟩ := hin
        exact orows_same e2 fun i a b => (cut_block (by omega)).trans (e3 i a (by omega)))
      have HCB := Lib.hid hcb
      have HSC := Lib.hid hsc
      rw [hke] at m3 HOC
      have htt : (tot ps[k].terms : Int) ≤ 1048576 := by
        have h5 := HS.out.2
        have : ∀ (l : List MStep) (n : Nat), totP (l.take n) ≤ totP l := fun l => by
          induction l with
          | nil => intro n; simp
          | cons a l ih => intro n; cases n with
            | zero => simp [totP]
            | succ n => have := ih n; simp only [List.take_succ_cons, totP]; omega
        have h6 := this ps (k + 1)
        have h7 := HTT.out
        omega
      have HSTEP := Lib.hid (fun (w1 : World) (ho : Outside (rg k).1 (rg k).2 W3 w1) (hi : InR w1 (rg k) (.slice Ak ps[k].terms.length ck) (marksR (x + 1 + 1 + 1) ps[k].terms)) => HMK.out.step HX1.out g1 hgl hlt rfl g3 HAP.out (by rw [hW3]; exact ho) (by rw [hke]; exact hi))
      generalize ps[k].terms = rows at m3 HOC HFP HTT htt hke HSTEP
      have HFP2 := Lib.hid (show Fits rows from HFP.out)
      clear hin hsc hcb h1m h2m h3m hke
      go_wp2_with fail
      clear hW3
      refine (markIntSSc_any _ (rg k).1 rows _ _ W3 HOC.out HCB.out HFP2.out.1 HFP2.out.2 (by omega) (by omega)).mono ?_
      rintro e w1 ⟨rfl, hoc, hout⟩
      rw [HSC.out] at hout hoc
      have hs1 := hout.size
      have HN := Lib.hid (HSTEP.out w1 hout ⟨cutTo w1 (rg k).2, cut_size (by omega), hoc, fun i a b => (cut_block b).symm⟩)
      clear hout m0 m1 m2 m3 n0 n1 n2
      go_wp2
      go_roundw
      case rel =>
        have a1 := HX1.out
        have a2 := HTT.out
        exact ⟨k + 1, _, by omega, by go_num, rfl, by omega, by unfold mkAt at a1 ⊢; rw [a2]; omega, HN.out⟩
      case measure => simp [intOf]; omega
    · have hlt' : ¬ (k : Int) < (ps.length : Int) := by omega
      have hkn : k = ps.length := by omega
      have HKN := Lib.hid hkn
      clear hkn
      go_wp2
      go_ret
      have e1 := HX1.out
      have e2 := HKN.out
      refine ⟨ret_int (by rw [e1, e2]), HMK.out.all e2 g1 g3 g4 (by have := HMK.out.frame.size; omega) HAP.out, HMK.out.frame⟩

set_option maxHeartbeats 800000 in
set_option maxRecDepth 100000 in
theorem heldStepS_any (v : Value) (ps : List MStep) (k0 : Int) (w : World) (h : RSteps w v (marksPs k0 ps)) (hs : FitsQ ps) (h0 : 0 ≤ k0) (h1 : k0 ≤ 80000000000000) :
    Calls Try.prog 37 #[v, .int .i64 k0] w fun e w' => e = .returned (.int .i64 (mkAt k0 ps ps.length)) ∧ Below w.heap.size w w' := by
  have H := Lib.hid h
  have HS := Lib.hid hs
  have hps := hs.1.1
  obtain ⟨A, c, e, -⟩ := h.form
  rw [marksPs_len] at e
  subst e
  clear h hs
  go_enter Try.func37, Try.ntmps37
  go_wp2
  go_loopw [1, 5] (fun l i wr => ∃ k : Nat, ∃ x : Int, k ≤ ps.length ∧ i = .int .i64 k ∧ l = .int .i64 x ∧ 0 ≤ x ∧ x = mkAt k0 ps k ∧ Below w.heap.size w wr) (fun _ i _ => ps.length - (intOf i).toNat)
  case atStart => exact ⟨0, k0, Nat.zero_le _, rfl, rfl, h0, by simp [mkAt, totP], Below.refl _ _⟩
  case round =>
    obtain ⟨k, x, hk, rfl, rfl, hx0, hx1, hb⟩ := hrel
    have HB := Lib.hid hb
    have HX1 := Lib.hid hx1
    have htp : ∀ n, totP (ps.take n) ≤ totP ps := by
      have : ∀ (l : List MStep) (n : Nat), totP (l.take n) ≤ totP l := fun l => by
        induction l with
        | nil => intro n; simp
        | cons a l ih => intro n; cases n with
          | zero => simp [totP]
          | succ n => have := ih n; simp only [List.take_succ_cons, totP]; omega
      exact this ps
    have hxb : x ≤ 80000000000000 + 3 * 1048576 + 1048576 := by have := HS.out.2; have := htp k; unfold mkAt at hx1; omega
    clear hb hx1
    by_cases hlt : k < ps.length
    · have hlt' : (k : Int) < (ps.length : Int) := by omega
      obtain ⟨b, o, c', u, e, c0, c1, c2, c3, q0⟩ := (H.out.keep HB.out).at_ (k := k) (by rw [marksPs_len]; exact hlt)
      rw [marksPs_len] at e
      cases e
      have hel : (marksPs k0 ps)[k]'(by rw [marksPs_len]; exact hlt) = markP (mkAt k0 ps k) ps[k] := by
        have := marksPs_at ps k0 k
        rw [List.getElem?_eq_getElem (by rw [marksPs_len]; exact hlt), List.getElem?_eq_getElem hlt] at this
        simpa using this
      rw [hel, ← HX1.out] at c0 c1 c2 q0
      simp only [markP] at c0 c1 c2 q0
      have HFP := Lib.hid (show Fits ps[k].terms from HS.out.1.2 _ (List.getElem_mem hlt))
      have HTT := Lib.hid (totP_take hlt)
      have htt : (tot ps[k].terms : Int) ≤ 1048576 := by
        have h5 := HS.out.2
        have h6 := htp (k + 1)
        have h7 := HTT.out
        omega
      clear hel htp
      generalize ps[k].terms = rows at q0 HFP HTT htt
      obtain ⟨A1, d1, e1, -⟩ := q0.form
      rw [marksR_len] at e1
      subst e1
      have HQ := Lib.hid q0
      clear q0
      have e2 : (x != x) = false := by simp
      have e3 : (x + 1 + 1 != x + 1 + 1) = false := by simp
      go_wp2_with fail
      refine (heldIntSS_any _ rows _ _ HQ.out HFP.out.1 HFP.out.2 (by omega) (by omega)).mono ?_
      rintro e w1 ⟨rfl, hd⟩
      have HB1 := Lib.hid (sz_keep HB.out hd.below)
      clear hd c0 c1 c2 c3
      go_wp2
      go_roundw
      case rel =>
        have a1 := HX1.out
        have a2 := HTT.out
        exact ⟨k + 1, _, by omega, by go_num, rfl, by omega, by unfold mkAt at a1 ⊢; rw [a2]; omega, HB1.out⟩
      case measure => simp [intOf]; omega
    · have hlt' : ¬ (k : Int) < (ps.length : Int) := by omega
      have hkn : k = ps.length := by omega
      have HKN := Lib.hid hkn
      clear hkn
      go_wp2
      go_ret
      have e1 := HX1.out
      have e2 := HKN.out
      exact ⟨ret_int (by rw [e1, e2]), HB.out⟩

theorem markStepS_g (v : Value) (B : Nat) (ps : List MStep) (wc w : World) (h : OSteps wc B v ps) (hk : Keeps B wc w) (hz : wc.heap.size ≤ w.heap.size) (hs : FitsQ ps) :
    Calls Try.prog 34 #[v, .int .i64 1] w fun e w' => ∃ K : Int, e = .returned (.int .i64 K) ∧ 0 ≤ K ∧ (∀ w2 : World, Keeps B w' w2 → w'.heap.size ≤ w2.heap.size → Calls Try.prog 37 #[v, .int .i64 1] w2 fun e w3 => e = .returned (.int .i64 K) ∧ Below w2.heap.size w2 w3) ∧ ∃ wa, Below w.heap.size w wa ∧ Outside B wc.heap.size wa w' := by
  refine (markStepS_q v B ps 1 wc w h hk hz hs (by omega) (by omega)).mono ?_
  rintro e w' ⟨rfl, ho, hout⟩
  refine ⟨_, rfl, by unfold mkAt; omega, fun w2 hk2 hz2 => ?_, w, Below.refl _ _, hout⟩
  exact heldStepS_any v ps 1 w2 (ho.same hz2 hk2).reads hs (by omega) (by omega)
end
end Go.Proofs.Ytbopcghbmbchkaa
