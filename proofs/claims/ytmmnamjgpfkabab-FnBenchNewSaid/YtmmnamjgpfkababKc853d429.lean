/- Maps of signatures: how they read, how those that a call has made lie; the exact laws' measure, copy and comparison of one. · Marks, as the made proofs of the exact laws want them: an object that was made at wc and lies in w as it was. · Equations that a call has made, in worlds that keep what lies from a size on. No walk. · The exact laws' marks of a map and of an equation, to the number. · What the made proofs of the exact laws share where results lie in boxes, or are several rows (tools/exact.py). · The exact laws' marks of a bench without axioms and without theories of before: markBench, heldBench. · raisedRow, OpTakes of both packages. · OpTakes of both packages. · slices.Clone of a row of numbers. · impl.copiedRows (cut out of XBack2). · slices.Clone, TermAt of both packages. · TermPut of both packages. · A row of numbers at the end of an own one, whatever its address. · A row that a call has made, at the end of an own row of rows. · Rows of rows that grow: what all walks with append of a row need. No walk. · l1Copy of rows that may be empty (package spec). -/
import Derived.Test.YtmmnamjgpfkababK9f4dcbf1
import Derived.Deep.DeepCutAuto
import Derived.Deep.RegionHeld3
import Derived.Deep.OwnRows
import Derived.Deep.AppendLies
import Derived.Deep.DeepMust
import Derived.Lib.SliceRun
import Derived.Lib.AppendZeros
import Derived.Deep.AppendSrc
import Derived.Deep.Upon
namespace Go.Proofs.Ytmmnamjgpfkabab
section
open Go.RowKit
set_option linter.unusedVariables false
set_option linter.unusedSimpArgs false

structure MMap where
  sorts : List Int
  ops : List Int
def RMap (w : World) (v : Value) (m : MMap) : Prop := ∃ a0 a1, v = .agg #[a0, a1] ∧ RInts w a0 m.sorts ∧ RInts w a1 m.ops
def OMap (w : World) (B : Nat) (v : Value) (m : MMap) : Prop := ∃ a0 a1, v = .agg #[a0, a1] ∧ OInts w B a0 m.sorts ∧ OInts w B a1 m.ops ∧ Apart a0 a1
section
variable {w w' : World} {v : Value} {m : MMap} {B B' : Nat}
theorem RMap.keep (h : RMap w v m) (hb : Below w.heap.size w w') : RMap w' v m := by
  obtain ⟨a0, a1, rfl, h0, h1⟩ := h; exact ⟨a0, a1, rfl, h0.keep hb, h1.keep hb⟩
theorem OMap.keep (h : OMap w B v m) (hb : Below w.heap.size w w') : OMap w' B v m := by
  obtain ⟨a0, a1, rfl, h0, h1, hap⟩ := h; exact ⟨a0, a1, rfl, h0.keep hb, h1.keep hb, hap⟩
theorem OMap.base (h : OMap w B v m) (hB : B' ≤ B) : OMap w B' v m := by
  obtain ⟨a0, a1, rfl, h0, h1, hap⟩ := h; exact ⟨a0, a1, rfl, h0.base hB, h1.base hB, hap⟩
theorem OMap.same (h : OMap w B v m) (hk : ∀ k, B ≤ k → k < w.heap.size → w'.heap[k]? = w.heap[k]?) : OMap w' B v m := by
  obtain ⟨a0, a1, rfl, h0, h1, hap⟩ := h; exact ⟨a0, a1, rfl, h0.same hk, h1.same hk, hap⟩
theorem OMap.reads (h : OMap w B v m) : RMap w v m := by
  obtain ⟨a0, a1, rfl, h0, h1, -⟩ := h; exact ⟨a0, a1, rfl, h0.reads, h1.reads⟩
theorem RMap.form (h : RMap w v m) : ∃ A0 c0 A1 c1, v = .agg #[.slice A0 m.sorts.length c0, .slice A1 m.ops.length c1] := by
  obtain ⟨a0, a1, rfl, h0, h1⟩ := h
  obtain ⟨A0, c0, rfl, -⟩ := h0.form
  obtain ⟨A1, c1, rfl, -⟩ := h1.form
  exact ⟨_, _, _, _, rfl⟩
theorem RMap.of {a0 a1 : Value} (h : RMap w (.agg #[a0, a1]) m) : RInts w a0 m.sorts ∧ RInts w a1 m.ops := by
  obtain ⟨a0', a1', he, h0, h1⟩ := h
  injection he with he
  simp at he
  obtain ⟨rfl, rfl⟩ := he
  exact ⟨h0, h1⟩
theorem OMap.of {a0 a1 : Value} (h : OMap w B (.agg #[a0, a1]) m) : OInts w B a0 m.sorts ∧ OInts w B a1 m.ops ∧ Apart a0 a1 := by
  obtain ⟨a0', a1', he, hr⟩ := h
  injection he with he
  simp at he
  obtain ⟨rfl, rfl⟩ := he
  exact hr
end
def FitsMp (m : MMap) : Prop := m.sorts.length ≤ 1048576 ∧ m.ops.length ≤ 1048576
def SmallMp (m : MMap) : Prop := Small m.sorts ∧ Small m.ops
def sameMp (a b : MMap) : Bool := (sameI a.sorts b.sorts) && sameI a.ops b.ops
theorem sameMp_self (a : MMap) : sameMp a a = true := by unfold sameMp sameI; simp
theorem sameMp_eq {a b : MMap} : sameMp a b = true ↔ a = b := by
  obtain ⟨x0, x1⟩ := a
  obtain ⟨y0, y1⟩ := b
  unfold sameMp sameI
  simp [and_assoc]
end

section
open Go.RowKit
set_option linter.unusedVariables false

theorem outside_grown {w w' wc : World} {B : Nat} {v : Value} {e : TypeId} {size n : Nat} {zs : List Value} (h : wc.ownsRow B e size v n zs) (hg : w.grownBy w' v.ownBlock) (hz : w'.heap.size = w.heap.size) : Outside B wc.heap.size w w' :=
  ⟨hg.os, hg.tape, hg.output, hz, fun k hk => by
    by_cases hkl : k < w.heap.size
    · exact hg.block k hkl (fun e => by have := own_lt h k e.symm; omega)
    · rw [Array.getElem?_eq_none (by omega), Array.getElem?_eq_none (by omega)]⟩

theorem markIntS_go (v : Value) (B : Nat) (xs : List Int) (k0 : Int) (wc w : World) (h : OInts wc B v xs) (hk : Keeps B wc w) (hz : wc.heap.size ≤ w.heap.size) (hs : xs.length ≤ 1048576) (h0 : 0 ≤ k0) (h1 : k0 ≤ 100000000000000) :
    Calls Try.prog 47 #[v, .int .i64 k0] w fun e w' => ∃ k : Int, e = .returned (.int .i64 k) ∧ 0 ≤ k ∧ k ≤ k0 + 2000000000000 ∧ ∃ wa, Below w.heap.size w wa ∧ Outside B wc.heap.size wa w' := by
  refine (markIntS_any v B xs k0 w (h.same hk) hs h0 (by omega)).mono ?_
  rintro e w' ⟨rfl, ho, hg, hz'⟩
  exact ⟨_, rfl, by omega, by omega, w, Below.refl _ _, outside_grown h hg hz'⟩

theorem markIntS_g (v : Value) (B : Nat) (xs : List Int) (wc w : World) (h : OInts wc B v xs) (hk : Keeps B wc w) (hz : wc.heap.size ≤ w.heap.size) (hs : xs.length ≤ 1048576) :
    Calls Try.prog 47 #[v, .int .i64 1] w fun e w' => ∃ K : Int, e = .returned (.int .i64 K) ∧ 0 ≤ K ∧ (∀ w2 : World, Keeps B w' w2 → Calls Try.prog 115 #[v, .int .i64 1] w2 fun e w3 => e = .returned (.int .i64 K) ∧ Below w2.heap.size w2 w3) ∧ ∃ wa, Below w.heap.size w wa ∧ Outside B wc.heap.size wa w' := by
  refine (markIntS_any v B xs 1 w (h.same hk) hs (by omega) (by omega)).mono ?_
  rintro e w' ⟨rfl, ho, hg, hz'⟩
  refine ⟨_, rfl, by omega, fun w2 hk2 => ?_, w, Below.refl _ _, outside_grown h hg hz'⟩
  refine (heldIntS_any v xs.length 1 w2 (OInts.same ho hk2).reads hs (by omega) (by omega)).mono ?_
  rintro e w3 ⟨rfl, hd⟩
  exact ⟨rfl, hd.below⟩

theorem markIntSS_go (v : Value) (B : Nat) (rows : List (List Int)) (k0 : Int) (wc w : World) (h : ORows wc B v rows) (hk : Keeps B wc w) (hz : wc.heap.size ≤ w.heap.size) (hs : Fits rows) (h0 : 0 ≤ k0) (h1 : k0 ≤ 90000000000000) :
    Calls Try.prog 48 #[v, .int .i64 k0] w fun e w' => ∃ k : Int, e = .returned (.int .i64 k) ∧ 0 ≤ k ∧ k ≤ k0 + 2000000000000 ∧ ∃ wa, Below w.heap.size w wa ∧ Outside B wc.heap.size wa w' := by
  refine (markIntSSp_any v B rows k0 (cutTo w wc.heap.size) w (h.same fun k h1 h2 => (cut_block h2).trans (hk k h1 h2)) (cut_below hz) hs.1 hs.2 h0 (by omega)).mono ?_
  rintro e w' ⟨rfl, ho, hout⟩
  rw [cut_size hz] at hout
  have := tot_le hs.2
  have := hs.1
  exact ⟨_, rfl, by omega, by omega, w, Below.refl _ _, hout⟩

theorem markIntSS_g (v : Value) (B : Nat) (rows : List (List Int)) (wc w : World) (h : ORows wc B v rows) (hk : Keeps B wc w) (hz : wc.heap.size ≤ w.heap.size) (hs : Fits rows) :
    Calls Try.prog 48 #[v, .int .i64 1] w fun e w' => ∃ K : Int, e = .returned (.int .i64 K) ∧ 0 ≤ K ∧ (∀ w2 : World, Keeps B w' w2 → Calls Try.prog 88 #[v, .int .i64 1] w2 fun e w3 => e = .returned (.int .i64 K) ∧ Below w2.heap.size w2 w3) ∧ ∃ wa, Below w.heap.size w wa ∧ Outside B wc.heap.size wa w' := by
  refine (markIntSSp_any v B rows 1 (cutTo w wc.heap.size) w (h.same fun k h1 h2 => (cut_block h2).trans (hk k h1 h2)) (cut_below hz) hs.1 hs.2 (by omega) (by omega)).mono ?_
  rintro e w' ⟨rfl, ho, hout⟩
  rw [cut_size hz] at hout
  have := tot_le hs.2
  have := hs.1
  refine ⟨_, rfl, by omega, fun w2 hk2 => ?_, w, Below.refl _ _, hout⟩
  refine (heldIntSS_any v rows 1 w2 (ho.same hk2).reads hs.1 hs.2 (by omega) (by omega)).mono ?_
  rintro e w3 ⟨rfl, hd⟩
  exact ⟨rfl, hd.below⟩

theorem markSig_go (v : Value) (B : Nat) (s : MSig) (k0 : Int) (wc w : World) (h : OSig wc B v s) (hk : Keeps B wc w) (hz : wc.heap.size ≤ w.heap.size) (hs : Fits s.ops) (h0 : 0 ≤ k0) (h1 : k0 ≤ 90000000000000) :
    Calls Try.prog 17 #[v, .int .i64 k0] w fun e w' => ∃ k : Int, e = .returned (.int .i64 k) ∧ 0 ≤ k ∧ k ≤ k0 + 2000000000000 ∧ ∃ wa, Below w.heap.size w wa ∧ Outside B wc.heap.size wa w' := by
  refine (markSigp_any v B s k0 (cutTo w wc.heap.size) w (h.same fun k h1 h2 => (cut_block h2).trans (hk k h1 h2)) (cut_below hz) hs.1 hs.2 h0 (by omega)).mono ?_
  rintro e w' ⟨rfl, ho, o, hout⟩
  rw [cut_size hz] at hout
  have := tot_le hs.2
  have := hs.1
  exact ⟨_, rfl, by omega, by omega, w.alloc o, below_alloc _ _, hout⟩
end

section
open Go.RowKit
set_option linter.unusedVariables false

theorem OEq.same {w w' : World} {B : Nat} {v : Value} {e : MEq} (h : OEq w B v e) (hk : ∀ k, B ≤ k → k < w.heap.size → w'.heap[k]? = w.heap[k]?) : OEq w' B v e := by
  obtain ⟨a, b, c, rfl, h1, h2, h3, h4⟩ := h
  exact ⟨a, b, c, rfl, h1.same hk, h2.same hk, h3.same hk, h4⟩
end

section
open Go.RowKit
set_option linter.unusedVariables false
set_option linter.unusedSimpArgs false

theorem apart_symm {a b : Value} (h : Apart a b) : Apart b a := by
  unfold Apart at *
  rcases h with h | h
  · rw [h]
    cases b.ownBlock with
    | none => exact .inl rfl
    | some k => right; simp
  · exact .inr (fun e => h e.symm)

def marksMp (k0 : Int) (m : MMap) : MMap := ⟨marks (k0) m.sorts.length, marks (k0 + (m.sorts.length : Int)) m.ops.length⟩
def totMp (m : MMap) : Int := (m.sorts.length : Int) + (m.ops.length : Int)
def marksE (k0 : Int) (m : MEq) : MEq := ⟨marks (k0) m.vars.length, marks (k0 + (m.vars.length : Int)) m.left.length, marks (k0 + (m.vars.length : Int) + (m.left.length : Int)) m.right.length⟩
def totE (m : MEq) : Int := (m.vars.length : Int) + (m.left.length : Int) + (m.right.length : Int)
set_option maxRecDepth 100000 in
theorem markEq_n (v : Value) (B : Nat) (m : MEq) (k0 : Int) (wc w : World) (h : OEq wc B v m) (hk : Keeps B wc w) (hz : wc.heap.size ≤ w.heap.size) (hs : FitsE m) (h0 : 0 ≤ k0) (h1 : k0 ≤ 90000000000000) :
    Calls Try.prog 45 #[v, .int .i64 k0] w fun e w' => e = .returned (.int .i64 (k0 + totE m)) ∧ OEq w' B v (marksE k0 m) ∧ ∃ wa, Below w.heap.size w wa ∧ Outside B wc.heap.size wa w' := by
  obtain ⟨a0, a1, a2, rfl, o0, o1, o2, ap0_1, ap0_2, ap1_2⟩ := h
  obtain ⟨xs0, xs1, xs2⟩ := m
  obtain ⟨hs0, hs1, hs2⟩ := hs
  simp only at o0 o1 o2 hs0 hs1 hs2
  have hb := below_alloc w (.cells #[a0, a1, a2] 71)
  have P0 := Lib.hid (o0.same (fun k q1 q2 => (hb.block k (by omega)).trans (hk k q1 q2)))
  have P1 := Lib.hid (o1.same (fun k q1 q2 => (hb.block k (by omega)).trans (hk k q1 q2)))
  have P2 := Lib.hid (o2.same (fun k q1 q2 => (hb.block k (by omega)).trans (hk k q1 q2)))
  have C0 := Lib.hid o0
  have C1 := Lib.hid o1
  have C2 := Lib.hid o2
  have AP0_1 := Lib.hid ap0_1
  have AP0_2 := Lib.hid ap0_2
  have AP1_2 := Lib.hid ap1_2
  obtain ⟨A0, c0, rfl, -⟩ := o0.reads.form
  obtain ⟨A1, c1, rfl, -⟩ := o1.reads.form
  obtain ⟨A2, c2, rfl, -⟩ := o2.reads.form
  have t0 := bx_at w #[.slice A0 xs0.length c0, .slice A1 xs1.length c1, .slice A2 xs2.length c2] 71 (k := 0) rfl
  have t1 := bx_at w #[.slice A0 xs0.length c0, .slice A1 xs1.length c1, .slice A2 xs2.length c2] 71 (k := 1) rfl
  have t2 := bx_at w #[.slice A0 xs0.length c0, .slice A1 xs1.length c1, .slice A2 xs2.length c2] 71 (k := 2) rfl
  have hsW : (w.alloc (.cells #[.slice A0 xs0.length c0, .slice A1 xs1.length c1, .slice A2 xs2.length c2] 71)).heap.size = w.heap.size + 1 := by simp
  have HB := Lib.hid hb
  generalize hW : w.alloc (.cells #[.slice A0 xs0.length c0, .slice A1 xs1.length c1, .slice A2 xs2.length c2] 71) = W at HB hsW P0 P1 P2 t0 t1 t2
  have HOUT : Hid (Outside B wc.heap.size W W) := Outside.refl _ _ _
  have HSZ := Lib.hid hsW
  have HZ := Lib.hid hz
  clear o0 o1 o2 ap0_1 ap0_2 ap1_2 hb hk hsW hz
  go_enter Try.func45, Try.ntmps45
  go_wp2_with fail
  clear hW
  refine (markIntS_any _ B xs0 _ _ P0.out hs0 (by omega) (by omega)).mono ?_
  rintro e y0 ⟨rfl, ho, hg, hzz⟩
  have hout := outside_grown C0.out hg hzz
  replace P1 := Lib.hid (own_grown P1.out hg (apart_symm AP0_1.out))
  replace P2 := Lib.hid (own_grown P2.out hg (apart_symm AP0_2.out))
  replace P0 := Lib.hid ho
  replace t1 := (World.cell?_of_block (hout.block w.heap.size (.inr HZ.out))).trans t1
  replace t2 := (World.cell?_of_block (hout.block w.heap.size (.inr HZ.out))).trans t2
  replace HOUT := Lib.hid (HOUT.out.trans hout)
  clear ho hg hzz hout t0
  go_wp2_with fail
  refine (markIntS_any _ B xs1 _ _ P1.out hs1 (by omega) (by omega)).mono ?_
  rintro e y1 ⟨rfl, ho, hg, hzz⟩
  have hout := outside_grown C1.out hg hzz
  replace P0 := Lib.hid (own_grown P0.out hg AP0_1.out)
  replace P2 := Lib.hid (own_grown P2.out hg (apart_symm AP1_2.out))
  replace P1 := Lib.hid ho
  replace t2 := (World.cell?_of_block (hout.block w.heap.size (.inr HZ.out))).trans t2
  replace HOUT := Lib.hid (HOUT.out.trans hout)
  clear ho hg hzz hout t1
  go_wp2_with fail
  refine (markIntS_any _ B xs2 _ _ P2.out hs2 (by omega) (by omega)).mono ?_
  rintro e y2 ⟨rfl, ho, hg, hzz⟩
  have hout := outside_grown C2.out hg hzz
  replace P0 := Lib.hid (own_grown P0.out hg AP0_2.out)
  replace P1 := Lib.hid (own_grown P1.out hg AP1_2.out)
  replace P2 := Lib.hid ho
  replace HOUT := Lib.hid (HOUT.out.trans hout)
  clear ho hg hzz hout t2
  go_wp2
  go_ret
  refine ⟨ret_int (by simp only [totE]; omega), ⟨_, _, _, rfl, ?_, ?_, ?_, AP0_1.out, AP0_2.out, AP1_2.out⟩, W, HB.out, HOUT.out⟩
  · exact P0.out
  · exact P1.out
  · exact P2.out
theorem markEq_go (v : Value) (B : Nat) (m : MEq) (k0 : Int) (wc w : World) (h : OEq wc B v m) (hk : Keeps B wc w) (hz : wc.heap.size ≤ w.heap.size) (hs : FitsE m) (h0 : 0 ≤ k0) (h1 : k0 ≤ 90000000000000) :
    Calls Try.prog 45 #[v, .int .i64 k0] w fun e w' => ∃ k : Int, e = .returned (.int .i64 k) ∧ 0 ≤ k ∧ k ≤ k0 + 2000000000000 ∧ ∃ wa, Below w.heap.size w wa ∧ Outside B wc.heap.size wa w' := by
  refine (markEq_n v B m k0 wc w h hk hz hs h0 h1).mono ?_
  rintro e w' ⟨rfl, ho, hout⟩
  obtain ⟨hs0, hs1, hs2⟩ := hs
  exact ⟨_, rfl, by unfold totE; omega, by unfold totE; omega, hout⟩
end

section
open Go.RowKit
set_option linter.unusedVariables false

theorem blk_at {wc wd : World} {bx : Nat} {o : Obj} (hz : wc.heap[bx]? = some o) (hb : Below wc.heap.size wc wd) : wd.heap[bx]? = some o := (hb.block _ (Array.getElem?_eq_some_iff.1 hz).1).trans hz
theorem blk_cell_at {w : World} {b : Nat} {cs : Array Value} {t : TypeId} (h : w.heap[b]? = some (.cells cs t (0, 0))) {i : Nat} {u : Value} (hu : cs[i]? = some u) : w.cell? ⟨b, i, none⟩ = some u := (blk_cell h i).trans hu
theorem set_blk {w : World} {b k : Nat} (h : k ≠ b) (i : Nat) (u : Value) : (w.setCell ⟨b, i, none⟩ u).heap[k]? = w.heap[k]? := Below.heap_setCell w ⟨b, i, none⟩ u k h
theorem set_far {w : World} {b rb : Nat} (h : b ≠ rb) (i o : Nat) (u : Value) : (w.setCell ⟨rb, i, none⟩ u).cell? ⟨b, o, none⟩ = w.cell? ⟨b, o, none⟩ := World.cell?_of_block (Below.heap_setCell w ⟨rb, i, none⟩ u b h)
theorem cut_keeps {A M : Nat} {w : World} (h : M ≤ w.heap.size) : Keeps A (cutTo w M) w := fun k _ h2 => (cut_block (by rwa [cut_size h] at h2)).symm
theorem Keeps.outside_lo {A B M : Nat} {w w1 w2 : World} (h : Keeps A w w1) (ho : Outside B M w1 w2) (hB : w.heap.size ≤ B) : Keeps A w w2 := fun k h1 h2 => (ho.block k (.inl (by omega))).trans (h k h1 h2)
theorem own_cutB {w : World} {B M : Nat} {e : TypeId} {size n : Nat} {v : Value} {zs : List Value} (h : w.ownsRow B e size v n zs) (hM : ∀ k, v.ownBlock = some k → k < M) : (cutTo w M).ownsRow B e size v n zs := by
  refine ⟨h.1, ?_⟩
  rcases h.2 with h2 | ⟨g, cap, cur, rfl, hg, hh, r⟩
  · exact .inl h2
  · exact .inr ⟨g, cap, cur, rfl, hg, (cut_block (hM g rfl)).trans hh, r⟩
theorem markIntS_gk (v : Value) (B : Nat) (xs : List Int) (k0 : Int) (wc w : World) (h : OInts wc B v xs) (hk : Keeps B wc w) (hz : wc.heap.size ≤ w.heap.size) (hs : xs.length ≤ 1048576) (h0 : 0 ≤ k0) (h1 : k0 ≤ 90000000000000) :
    Calls Try.prog 47 #[v, .int .i64 k0] w fun e w' => ∃ K : Int, e = .returned (.int .i64 K) ∧ 0 ≤ K ∧ K ≤ k0 + 2000000000000 ∧ (∀ w2 : World, Keeps B (cutTo w' wc.heap.size) w2 → Calls Try.prog 115 #[v, .int .i64 k0] w2 fun e w3 => e = .returned (.int .i64 K) ∧ Below w2.heap.size w2 w3) ∧ ∃ wa, Below w.heap.size w wa ∧ Outside B wc.heap.size wa w' := by
  refine (markIntS_any v B xs k0 w (h.same hk) hs h0 (by omega)).mono ?_
  rintro e w' ⟨rfl, ho, hg, hz'⟩
  refine ⟨_, rfl, by omega, by omega, fun w2 hk2 => ?_, w, Below.refl _ _, outside_grown h hg hz'⟩
  refine (heldIntS_any v xs.length k0 w2 (OInts.same (own_cutB ho (fun k e => (own_lt h k e).2)) hk2).reads hs h0 (by omega)).mono ?_
  rintro e w3 ⟨rfl, hd⟩
  exact ⟨rfl, hd.below⟩
end

section
open Go.RowKit
set_option linter.unusedVariables false
set_option linter.unusedSimpArgs false

/-- a bench that a call has made: its theory has no axioms, and there is none of before -/
def OBenchN (w : World) (B : Nat) (v : Value) (m : MBench) : Prop := ∃ u, v = .agg #[.int .i64 m.now.over.sorts, u, .slice none 0 0, .slice none 0 0] ∧ ORows w B u m.now.over.ops ∧ m.now.eqs = [] ∧ m.past = []
section
variable {w w' : World} {B B' : Nat} {v : Value} {m : MBench}
theorem OBenchN.same (h : OBenchN w B v m) (hs : w.heap.size ≤ w'.heap.size) (hk : ∀ k, B ≤ k → k < w.heap.size → w'.heap[k]? = w.heap[k]?) : OBenchN w' B v m := by
  obtain ⟨u, rfl, h1, h2⟩ := h
  exact ⟨u, rfl, h1.same hk, h2⟩
theorem OBenchN.keep (h : OBenchN w B v m) (hb : Below w.heap.size w w') : OBenchN w' B v m := h.same hb.size fun k _ hk => hb.block k hk
theorem OBenchN.base (h : OBenchN w B v m) (hB : B' ≤ B) : OBenchN w B' v m := by
  obtain ⟨u, rfl, h1, h2⟩ := h
  exact ⟨u, rfl, h1.base hB, h2⟩
theorem OBenchN.reads (h : OBenchN w B v m) : RBench w v m := by
  obtain ⟨⟨⟨so, ops⟩, es⟩, ts⟩ := m
  obtain ⟨u, rfl, h1, h2, h3⟩ := h
  simp only at h1 h2 h3
  subst h2 h3
  exact ⟨u, _, _, rfl, ⟨_, _, rfl, h1.reads, REqs.nil _⟩, RThys.nil _⟩
end
def FitsBN (m : MBench) : Prop := Fits m.now.over.ops

set_option maxRecDepth 100000 in
theorem markEqS_nil (k0 : Int) (w : World) : Calls Try.prog 87 #[.slice none 0 0, .int .i64 k0] w fun e w' => e = .returned (.int .i64 k0) ∧ w = w' := by
  go_enter Try.func87, Try.ntmps87
  go_wp2
  go_loopw [1, 5] (fun l i wr => i = .int .i64 0 ∧ l = .int .i64 k0 ∧ w = wr) (fun _ i _ => 1)
  case atStart => exact ⟨rfl, rfl, rfl⟩
  case round =>
    obtain ⟨rfl, rfl, rfl⟩ := hrel
    go_wp2
    go_ret
    exact ⟨rfl, rfl⟩
set_option maxRecDepth 100000 in
theorem heldEqS_nil (k0 : Int) (w : World) : Calls Try.prog 94 #[.slice none 0 0, .int .i64 k0] w fun e w' => e = .returned (.int .i64 k0) ∧ w = w' := by
  go_enter Try.func94, Try.ntmps94
  go_wp2
  go_loopw [1, 5] (fun l i wr => i = .int .i64 0 ∧ l = .int .i64 k0 ∧ w = wr) (fun _ i _ => 1)
  case atStart => exact ⟨rfl, rfl, rfl⟩
  case round =>
    obtain ⟨rfl, rfl, rfl⟩ := hrel
    go_wp2
    go_ret
    exact ⟨rfl, rfl⟩
set_option maxRecDepth 100000 in
theorem markTheoryS_nil (k0 : Int) (w : World) : Calls Try.prog 58 #[.slice none 0 0, .int .i64 k0] w fun e w' => e = .returned (.int .i64 k0) ∧ w = w' := by
  go_enter Try.func58, Try.ntmps58
  go_wp2
  go_loopw [1, 5] (fun l i wr => i = .int .i64 0 ∧ l = .int .i64 k0 ∧ w = wr) (fun _ i _ => 1)
  case atStart => exact ⟨rfl, rfl, rfl⟩
  case round =>
    obtain ⟨rfl, rfl, rfl⟩ := hrel
    go_wp2
    go_ret
    exact ⟨rfl, rfl⟩
set_option maxRecDepth 100000 in
theorem heldTheoryS_nil (k0 : Int) (w : World) : Calls Try.prog 60 #[.slice none 0 0, .int .i64 k0] w fun e w' => e = .returned (.int .i64 k0) ∧ w = w' := by
  go_enter Try.func60, Try.ntmps60
  go_wp2
  go_loopw [1, 5] (fun l i wr => i = .int .i64 0 ∧ l = .int .i64 k0 ∧ w = wr) (fun _ i _ => 1)
  case atStart => exact ⟨rfl, rfl, rfl⟩
  case round =>
    obtain ⟨rfl, rfl, rfl⟩ := hrel
    go_wp2
    go_ret
    exact ⟨rfl, rfl⟩

set_option maxRecDepth 100000 in
theorem markTheoryN_p (u : Value) (so : Int) (rows : List (List Int)) (B : Nat) (wc w : World) (h : ORows wc B u rows) (hk : Keeps B wc w) (hz : wc.heap.size ≤ w.heap.size) (hs : Fits rows) :
    Calls Try.prog 44 #[.agg #[.int .i64 so, u, .slice none 0 0], .int .i64 1] w fun e w' => e = .returned (.int .i64 (1 + (tot rows : Int))) ∧ ORows w' B u (marksR 1 rows) ∧ ∃ wa, Below w.heap.size w wa ∧ Outside B wc.heap.size wa w' := by
  have hb := below_alloc w (.cells #[.int .i64 so, u, .slice none 0 0] 36)
  have t0 := bx_at w #[.int .i64 so, u, .slice none 0 0] 36 (k := 0) rfl
  have t1 := bx_at w #[.int .i64 so, u, .slice none 0 0] 36 (k := 1) rfl
  have t2 := bx_at w #[.int .i64 so, u, .slice none 0 0] 36 (k := 2) rfl
  have hsW : (w.alloc (.cells #[.int .i64 so, u, .slice none 0 0] 36)).heap.size = w.heap.size + 1 := by simp
  obtain ⟨A0, c0, rfl, -⟩ := h.reads.form
  have HB := Lib.hid hb
  have HS := Lib.hid hs
  generalize hW : w.alloc (.cells #[.int .i64 so, .slice A0 rows.length c0, .slice none 0 0] 36) = W at HB hsW t0 t1 t2
  have hkW : Keeps B wc W := fun i a b => (HB.out.block i (by omega)).trans (hk i a b)
  have HM := Lib.hid (show OSig (cutTo W wc.heap.size) B (.agg #[.int .i64 so, .slice A0 rows.length c0]) ⟨so, rows⟩ from ⟨_, rfl, h.same fun k h1 h2 => (cut_block h2).trans (hkW k h1 h2)⟩)
  have HC := Lib.hid (cut_below (w := W) (M := wc.heap.size) (by omega))
  have HCS := Lib.hid (cut_size (w := W) (M := wc.heap.size) (by omega))
  clear h hb hk hs hkW
  go_enter Try.func44, Try.ntmps44
  go_wp2_with fail
  clear hW
  refine (markSigp_any _ B ⟨so, rows⟩ 1 (cutTo W wc.heap.size) W HM.out HC.out HS.out.1 HS.out.2 (by omega) (by omega)).mono ?_
  rintro e y1 ⟨rfl, ho, o, hout⟩
  rw [HCS.out] at hout
  have HO := Lib.hid ho
  have HOUT := Lib.hid hout
  have hba := below_alloc W o
  have tw2 : y1.cell? ⟨w.heap.size, 2, none⟩ = some (.slice none 0 0) := (World.cell?_of_block (hout.block w.heap.size (.inr (by omega)))).trans (cell_keep hba t2)
  have HBA := Lib.hid (sz_keep HB.out hba)
  clear ho hout hba t0 t1 t2
  go_wp2_with fail
  refine (markEqS_nil _ y1).mono ?_
  rintro e y2 ⟨rfl, rfl⟩
  go_wp2
  go_ret
  refine ⟨rfl, ?_, _, HBA.out, HOUT.out⟩
  obtain ⟨u, e, r⟩ := HO.out
  injection e with e
  simp at e
  subst e
  exact r

set_option maxRecDepth 100000 in
theorem heldTheoryN_p (u : Value) (so : Int) (rows : List (List Int)) (w : World) (h : RRows w u (marksR 1 rows)) (hs : Fits rows) :
    Calls Try.prog 59 #[.agg #[.int .i64 so, u, .slice none 0 0], .int .i64 1] w fun e w' => e = .returned (.int .i64 (1 + (tot rows : Int))) ∧ Below w.heap.size w w' := by
  have hb := below_alloc w (.cells #[.int .i64 so, u, .slice none 0 0] 36)
  have t0 := bx_at w #[.int .i64 so, u, .slice none 0 0] 36 (k := 0) rfl
  have t1 := bx_at w #[.int .i64 so, u, .slice none 0 0] 36 (k := 1) rfl
  have t2 := bx_at w #[.int .i64 so, u, .slice none 0 0] 36 (k := 2) rfl
  obtain ⟨A0, c0, e, -⟩ := h.form
  rw [marksR_len] at e
  subst e
  have HB := Lib.hid hb
  have HS := Lib.hid hs
  have HR := Lib.hid (show RSig (w.alloc (.cells #[.int .i64 so, .slice A0 rows.length c0, .slice none 0 0] 36)) (.agg #[.int .i64 so, .slice A0 rows.length c0]) ⟨so, marksR 1 rows⟩ from ⟨_, rfl, h.keep hb⟩)
  generalize hW : w.alloc (.cells #[.int .i64 so, .slice A0 rows.length c0, .slice none 0 0] 36) = W at HB HR t0 t1 t2
  clear h hb hs
  go_enter Try.func59, Try.ntmps59
  go_wp2_with fail
  clear hW
  refine (heldSig_any _ ⟨so, rows⟩ 1 W HR.out HS.out.1 HS.out.2 (by omega) (by omega)).mono ?_
  rintro e y1 ⟨rfl, hb⟩
  have HB1 := Lib.hid (sz_keep HB.out hb)
  have tw2 := cell_keep hb t2
  have hnn : ¬ 1 + (tot rows : Int) < 0 := by omega
  clear hb t0 t1 t2
  go_wp2_with fail
  refine (heldEqS_nil _ y1).mono ?_
  rintro e y2 ⟨rfl, rfl⟩
  go_wp2
  go_ret
  exact ⟨rfl, HB1.out⟩

set_option maxRecDepth 100000 in
theorem heldBenchN_p (u : Value) (so : Int) (rows : List (List Int)) (w : World) (h : RRows w u (marksR 1 rows)) (hs : Fits rows) :
    Calls Try.prog 19 #[.agg #[.int .i64 so, u, .slice none 0 0, .slice none 0 0], .int .i64 1] w fun e w' => e = .returned (.int .i64 (1 + (tot rows : Int))) ∧ Below w.heap.size w w' := by
  have hb := below_alloc w (.cells #[.int .i64 so, u, .slice none 0 0, .slice none 0 0] 39)
  have t0 := bx_at w #[.int .i64 so, u, .slice none 0 0, .slice none 0 0] 39 (k := 0) rfl
  have t1 := bx_at w #[.int .i64 so, u, .slice none 0 0, .slice none 0 0] 39 (k := 1) rfl
  have t2 := bx_at w #[.int .i64 so, u, .slice none 0 0, .slice none 0 0] 39 (k := 2) rfl
  have t3 := bx_at w #[.int .i64 so, u, .slice none 0 0, .slice none 0 0] 39 (k := 3) rfl
  obtain ⟨A0, c0, e, -⟩ := h.form
  rw [marksR_len] at e
  subst e
  have HB := Lib.hid hb
  have HS := Lib.hid hs
  have HR := Lib.hid (h.keep hb)
  generalize hW : w.alloc (.cells #[.int .i64 so, .slice A0 rows.length c0, .slice none 0 0, .slice none 0 0] 39) = W at HB HR t0 t1 t2 t3
  clear h hb hs
  go_enter Try.func19, Try.ntmps19
  go_wp2_with fail
  clear hW
  refine (heldTheoryN_p _ so rows W HR.out HS.out).mono ?_
  rintro e y1 ⟨rfl, hb⟩
  have HB1 := Lib.hid (sz_keep HB.out hb)
  have tw2 := cell_keep hb t3
  have hnn : ¬ 1 + (tot rows : Int) < 0 := by omega
  clear hb t0 t1 t2 t3
  go_wp2_with fail
  refine (heldTheoryS_nil _ y1).mono ?_
  rintro e y2 ⟨rfl, rfl⟩
  go_wp2
  go_ret
  exact ⟨rfl, HB1.out⟩

set_option maxRecDepth 100000 in
theorem markBenchN_g (v : Value) (B : Nat) (m : MBench) (wc w : World) (h : OBenchN wc B v m) (hk : Keeps B wc w) (hz : wc.heap.size ≤ w.heap.size) (hs : FitsBN m) :
    Calls Try.prog 18 #[v, .int .i64 1] w fun e w' => ∃ K : Int, e = .returned (.int .i64 K) ∧ 0 ≤ K ∧ (∀ w2 : World, Keeps B w' w2 → w'.heap.size ≤ w2.heap.size → Calls Try.prog 19 #[v, .int .i64 1] w2 fun e w3 => e = .returned (.int .i64 K) ∧ Below w2.heap.size w2 w3) ∧ ∃ wa, Below w.heap.size w wa ∧ Outside B wc.heap.size wa w' := by
  obtain ⟨u, rfl, h1, -, -⟩ := h
  obtain ⟨⟨⟨so, rows⟩, es⟩, ts⟩ := m
  simp only at h1 ⊢
  replace hs : Fits rows := hs
  have hb := below_alloc w (.cells #[.int .i64 so, u, .slice none 0 0, .slice none 0 0] 39)
  have t0 := bx_at w #[.int .i64 so, u, .slice none 0 0, .slice none 0 0] 39 (k := 0) rfl
  have t1 := bx_at w #[.int .i64 so, u, .slice none 0 0, .slice none 0 0] 39 (k := 1) rfl
  have t2 := bx_at w #[.int .i64 so, u, .slice none 0 0, .slice none 0 0] 39 (k := 2) rfl
  have t3 := bx_at w #[.int .i64 so, u, .slice none 0 0, .slice none 0 0] 39 (k := 3) rfl
  have hsW : (w.alloc (.cells #[.int .i64 so, u, .slice none 0 0, .slice none 0 0] 39)).heap.size = w.heap.size + 1 := by simp
  obtain ⟨A0, c0, rfl, -⟩ := h1.reads.form
  have HB := Lib.hid hb
  have HS := Lib.hid hs
  have HO := Lib.hid h1
  generalize hW : w.alloc (.cells #[.int .i64 so, .slice A0 rows.length c0, .slice none 0 0, .slice none 0 0] 39) = W at HB hsW t0 t1 t2 t3
  have HK := Lib.hid (show Keeps B wc W from fun i a b => (HB.out.block i (by omega)).trans (hk i a b))
  clear h1 hb hk hs
  go_enter Try.func18, Try.ntmps18
  go_wp2_with fail
  clear hW
  refine (markTheoryN_p _ so rows B wc W HO.out HK.out (by omega) HS.out).mono ?_
  rintro e y1 ⟨rfl, ho, wa, hba, hout⟩
  have HM := Lib.hid ho
  have HOUT := Lib.hid hout
  have hwa := hba.size
  have tw3 : y1.cell? ⟨w.heap.size, 3, none⟩ = some (.slice none 0 0) := (World.cell?_of_block (hout.block w.heap.size (.inr (by omega)))).trans (cell_keep hba t3)
  have HBA := Lib.hid (sz_keep HB.out hba)
  clear ho hout hba t0 t1 t2 t3
  go_wp2_with fail
  refine (markTheoryS_nil _ y1).mono ?_
  rintro e y2 ⟨rfl, rfl⟩
  go_wp2
  go_ret
  exact ⟨_, rfl, by omega, fun w2 hk2 hz2 => heldBenchN_p _ so rows w2 (HM.out.same hk2).reads HS.out, wa, HBA.out, HOUT.out⟩
end

section
open Go.RowKit
set_option linter.unusedVariables false

def raised (xs : List Int) (d : Int) : List Int := xs.map fun x => wrap64 (x + d)
theorem raised_at {xs : List Int} {d : Int} {k : Nat} (hk : k < xs.length) (h : k < (raised xs d).length) : (raised xs d)[k] = wrap64 (xs[k] + d) := by simp [raised]
end

section
open Go.RowKit
set_option linter.unusedVariables false

theorem RInts.dropLast {w : World} {A : Option Addr} {c : Nat} {row : List Int} (h : RInts w (.slice A row.length c) row) : RInts w (.slice A (row.length - 1) c) row.dropLast := by
  obtain ⟨A', c', e, h1, h2, h3⟩ := h
  cases e
  refine ⟨A, c, by rw [List.length_dropLast], by rw [List.length_dropLast]; omega, h2, fun j x hj => h3 j x ?_⟩
  rw [List.getElem?_dropLast] at hj
  split at hj
  · exact hj
  · cases hj
theorem raised_zero {xs : List Int} (h : ∀ x ∈ xs, 0 ≤ x ∧ x < 4) : raised xs 0 = xs := by
  unfold raised
  rw [List.map_congr_left (g := id) (fun x hx => ?_), List.map_id]
  have := h x hx
  rw [IntWalk.wrap64_in _ ⟨by omega, by omega⟩]; simp

theorem add_spot (b o j : Nat) : (⟨b, o, none⟩ : Addr).add j = ⟨b, o + j, none⟩ := by
  unfold Addr.add
  split
  · rename_i h; subst h; rfl
  · rfl
theorem news_of {w : World} {b o n c : Nat} {xs : List Int} (h : RInts w (.slice (some ⟨b, o, none⟩) n c) xs) : ∀ (j : Nat) (u : Value), (xs.map (Value.int .i64))[j]? = some u → w.cell? ((⟨b, o, none⟩ : Addr).add j) = some u := by
  intro j u hj
  rw [List.getElem?_map] at hj
  obtain ⟨x, hx, rfl⟩ := Option.map_eq_some_iff.1 hj
  obtain ⟨A, c', e, h1, h2, h3⟩ := h
  cases e
  obtain ⟨b', o', e, hc⟩ := h3 j x hx
  cases e
  rw [add_spot]; exact hc
theorem news_any {w : World} {ad : Addr} {n c : Nat} {xs : List Int} (h : RInts w (.slice (some ad) n c) xs) : ∀ (j : Nat) (u : Value), (xs.map (Value.int .i64))[j]? = some u → w.cell? (ad.add j) = some u := by
  intro j u hj
  obtain ⟨b, o, s⟩ := ad
  have hx := hj
  rw [List.getElem?_map] at hx
  obtain ⟨x, hx, -⟩ := Option.map_eq_some_iff.1 hx
  have hh := h
  obtain ⟨A, c', e, h1, h2, h3⟩ := hh
  cases e
  obtain ⟨b', o', e, hc⟩ := h3 j x hx
  cases e
  exact news_of h j u hj
theorem ints_one (xs : List Int) : ∀ u ∈ xs.map (Value.int .i64), u.oneCell' = true := by
  intro u hu; simp at hu; obtain ⟨x, -, rfl⟩ := hu; rfl

theorem bel_grow {w w2 : World} {o : Obj} {A : Option Addr} {n c : Nat} (h : (w.alloc o).drew.grownBy w2 (Value.slice A n c).ownBlock) (hr : ∀ k, (Value.slice A n c).ownBlock = some k → w.heap.size ≤ k) : Below w.heap.size w w2 :=
  (below_alloc w o).trans ⟨h.os, h.tape, h.output, h.size, fun k hk => h.block k (Nat.lt_of_lt_of_le hk (by show w.heap.size ≤ (w.alloc o).heap.size; simp)) (fun e => by have := hr k e.symm; omega)⟩
theorem own_empty (w : World) : OInts (w.alloc (.cells #[] 3)) w.heap.size (.slice (some ⟨w.heap.size, 0, none⟩) 0 0) [] := World.ownsRow_lit w #[] 0 (Nat.le_refl _) (Nat.zero_le _) rfl

theorem step_append_own {P : Program} {ops : Array Oper} {o : Oper} {a : Act} {w : World} {K : Act → World → Prop} {Q : Exit → Act → World → Prop} {E : Prop} (hgd : o.guard = none) (s x : Operand) (t : TypeId)
    (ho : o.op = .call { callee := .builtin .append, args := #[s, x], argTypes := #[t, t] })
    (base : Nat) (e : TypeId) (i : TypeInfo) (z : Value) (size bytes : Nat) (ht : P.underlying t = some (.slice e)) (hi : P.info? e = some i) (hz : i.zero = some z)
    (hsize : i.size = size) (hby : i.bytes = bytes) (hzs : z.cells.size = size) (hsz : 0 < size)
    (v : Value) (n : Nat) (xs : List Value) (hs : a.eval s = v) (hown : w.ownsRow base e size v n xs)
    (ad : Addr) (m c : Nat) (news : List Value) (hx : a.eval x = .slice (some ad) m c) (hl : news.length = m * size) (hnews : ∀ j u, news[j]? = some u → w.cell? (ad.add j) = some u) (h1 : ∀ u ∈ news, u.oneCell' = true)
    (h63 : n + m ≤ maxLen) (hbytes : (n + m) * bytes ≤ 140737488355328) (hbase : base ≤ w.heap.size)
    (h : ∀ v' w', w'.ownsRow base e size v' (n + m) (xs ++ news) → w.grownBy w' v.ownBlock → K (a.put o.dst v') w') :
    if Region.wanted o (yielded ops a.tmps) = true then Oper.wp P o a w K Q else E := by
  have hw : Region.wanted o (yielded ops a.tmps) = true := by simp [Region.wanted, hgd]
  rw [if_pos hw]
  exact wp_append_own w s x t ho base e i z size bytes ht hi hz hsize hby hzs hsz v n xs hs hown ad m c news hx hl hnews h1 h63 hbytes hbase fun v' w' h2 h3 _ => h v' w' h2 h3
end

section
open Go.RowKit
set_option linter.unusedVariables false
set_option linter.unusedSimpArgs false

variable {w w' : World}
theorem own_cut {w w2 : World} {o : Obj} {A : Option Addr} {n c : Nat} (h : (w.alloc o).grownBy w2 (Value.slice A n c).ownBlock) (hr : ∀ k, (Value.slice A n c).ownBlock = some k → w.heap.size ≤ k) : Below w.heap.size w w2 :=
  (below_alloc w o).trans ⟨h.os, h.tape, h.output, h.size, fun k hk => h.block k (Nat.lt_of_lt_of_le hk (by show w.heap.size ≤ (w.alloc o).heap.size; simp)) (fun e => by have := hr k e.symm; omega)⟩

set_option maxRecDepth 100000 in
theorem clone_any (ad : Addr) (n c : Nat) (xs : List Int) (w : World) (h : RInts w (.slice (some ad) n c) xs) (hs : xs.length ≤ 1048576) :
    Calls Try.prog 117 #[.slice (some ad) n c] w fun e w' => ∃ u, e = .returned u ∧ OInts w' w.heap.size u xs ∧ Below w.heap.size w w' := by
  obtain ⟨i0, hi0, hz0, hz1, hz2⟩ := info_parts Try.tinfo_int
  have H := Lib.hid h
  obtain ⟨A, c', e, h1, h2, h3⟩ := h
  cases e
  have HNEWS := Lib.hid (news_any (H.out.keep (below_alloc w (.cells #[] 3))))
  clear h3
  have hcmp := Lib.run_eql_slice_nil (P := Try.prog) w 55 3 (some ad) xs.length c 0 0 Try.underlying55
  simp only [Option.isNone_some] at hcmp
  go_enter Try.func117, Try.ntmps117
  go_wp2_with (at_builtin; refine wpList_append_own _ rfl _ _ 55 rfl w.heap.size 3 i0 (.int .i64 0) 1 8 Try.underlying55 hi0 hz0 hz1 hz2 rfl (by decide) _ 0 [] rfl (own_empty w) ad xs.length c (xs.map (Value.int .i64)) rfl (by simp) HNEWS.out (ints_one _) (by rw [maxLen_eq]; omega) (by omega) (by simp) ?_)
  intro v' w4 hown4 hgrow4 _
  have HO := Lib.hid hown4
  have HG := Lib.hid (own_cut hgrow4 (fun k e => by injection e with e; exact Nat.le_of_eq e))
  clear hown4 hgrow4
  go_wp2
  go_ret
  refine ⟨_, rfl, ?_, HG.out⟩
  have h := HO.out
  unfold OInts
  simpa using h
end

section
open Go.RowKit
set_option linter.unusedVariables false
set_option linter.unusedSimpArgs false

set_option maxRecDepth 100000 in
theorem clone_none (c : Nat) (w : World) :
    Calls Try.prog 117 #[.slice none 0 c] w fun e w' => e = .returned (.slice none 0 0) ∧ Below w.heap.size w w' := by
  have hcmp := Lib.run_eql_slice_nil (P := Try.prog) w 55 3 none 0 c 0 0 Try.underlying55
  simp only [Option.isNone_none] at hcmp
  go_enter Try.func117, Try.ntmps117
  go_wp2
  go_ret
  exact ⟨rfl, Below.refl _ _⟩
theorem clone_all (v : Value) (xs : List Int) (w : World) (h : RInts w v xs) (hs : xs.length ≤ 1048576) :
    Calls Try.prog 117 #[v] w fun e w' => ∃ u, e = .returned u ∧ OInts w' w.heap.size u xs ∧ Below w.heap.size w w' := by
  obtain ⟨A, c, rfl, h1, h2⟩ := h.form
  cases A with
  | some ad => exact clone_any ad _ c xs w h hs
  | none =>
    have hx : xs = [] := by
      cases xs with
      | nil => rfl
      | cons y ys =>
        obtain ⟨b, o, c', e, -⟩ := h.at_ (k := 0) (by simp)
        cases e
    subst hx
    refine (clone_none c w).mono ?_
    rintro e w' ⟨rfl, hb⟩
    exact ⟨_, rfl, OInts.nil _ _, hb⟩

set_option maxRecDepth 100000 in
theorem copiedRows_any (v : Value) (rows : List (List Int)) (w : World) (h : RRows w v rows) (hs : Fits rows) :
    Calls Try.prog 116 #[v] w fun e w' => ∃ u, e = .returned u ∧ ORows w' w.heap.size u rows ∧ Below w.heap.size w w' := by
  have H := Lib.hid h
  have HS := Lib.hid hs
  obtain ⟨A, c, rfl, -⟩ := h.form
  have hlen := hs.1
  clear h hs
  have hmk := run_make_row' (P := Try.prog) 22 55 (.slice none 0 0) 24 Try.underlying22 Try.tinfo_ints rfl .i64 .i64 rows.length (by omega) (by omega)
  go_enter Try.func116, Try.ntmps116
  go_wp2
  go_loopw [4, 5, 11] (fun a b i wr => ∃ k : Nat, k ≤ rows.length ∧ i = .int .i64 k ∧ FillingR w wr rows k) (fun _ _ i _ => rows.length - (intOf i).toNat)
  case atStart => exact ⟨0, Nat.zero_le _, rfl, FillingR.start w _ _ (by simp [madeCells])⟩
  case round =>
    obtain ⟨k, hk, rfl, hf⟩ := hrel
    have HF := Lib.hid hf
    clear hf hmk
    by_cases hlt : k < rows.length
    · obtain ⟨b, o, c', u, e, hx, hri⟩ := (H.out.keep (by obtain ⟨_, _, _, _, _, hb⟩ := HF.out; exact hb)).at_ hlt
      cases e
      have hlt' : (k : Int) < (rows.length : Int) := by omega
      have hrl := HS.out.2 _ (List.getElem_mem hlt)
      have HI := Lib.hid hri
      have HRL := Lib.hid hrl
      obtain ⟨A', c'', rfl, -⟩ := hri.form
      clear hri hrl
      go_wp2_with fail
      refine (clone_all _ rows[k] _ HI.out HRL.out).mono ?_
      rintro e w1 ⟨u, rfl, ho, hb⟩
      obtain ⟨u0, g1, g2⟩ := HF.out.cell hlt hb
      have HN := Lib.hid (HF.out.step hlt hb ho)
      obtain ⟨A1, c1, rfl, -⟩ := ho.reads.form
      clear ho hb
      go_wp2
      go_roundw
      case rel => exact ⟨k + 1, by omega, by go_num, HN.out⟩
      case measure => simp [intOf]; omega
    · have hlt' : ¬ (k : Int) < (rows.length : Int) := by omega
      go_wp2
      go_ret
      obtain ⟨r1, r2⟩ := HF.out.done (by omega) (by omega)
      have hkn : k = rows.length := by omega
      subst hkn
      exact ⟨_, rfl, r1, r2⟩
end

section
open Go.RowKit
set_option linter.unusedVariables false

theorem RInts.cut {w : World} {b o c k e : Nat} {A : Option Addr} {t : List Int} (h : RInts w (.slice (some ⟨b, o, none⟩) t.length c) t) (hk : k ≤ e) (he : e ≤ t.length) (hA : A = some ⟨b, o + k, none⟩) :
    RInts w (.slice A (e - k) (c - k)) ((t.drop k).take (e - k)) := by
  subst hA
  have hl : ((t.drop k).take (e - k)).length = e - k := by rw [List.length_take, List.length_drop]; omega
  obtain ⟨A', c', e', h1, h2, h3⟩ := h
  cases e'
  refine ⟨some ⟨b, o + k, none⟩, c - k, by rw [hl], by rw [hl]; omega, by omega, fun j x hj => ?_⟩
  rw [List.getElem?_take] at hj
  split at hj
  · rw [List.getElem?_drop] at hj
    obtain ⟨b', o', e', hc⟩ := h3 _ _ hj
    cases e'
    exact ⟨b, o + k, rfl, by rw [← hc]; congr 2; omega⟩
  · cases hj



theorem atM_nil {s : MSig} {vars t : List Int} {k : Int} (h : ¬ (0 ≤ sortM s vars t ∧ 0 ≤ k ∧ k < t.length)) : atM s vars t k = [] := by unfold atM; rw [if_neg h]
theorem atM_yes {s : MSig} {vars t : List Int} {k : Nat} (h : 0 ≤ sortM s vars t) (hk : k < t.length) : atM s vars t k = partM s vars t k := by unfold atM; rw [if_pos ⟨h, by omega, by omega⟩, Int.toNat_natCast]

theorem at_small {s : MSig} {vars t : List Int} {a : Int} (h : Small t) : Small (atM s vars t a) := fun x hx => by
  by_cases hc : 0 ≤ sortM s vars t ∧ 0 ≤ a ∧ a < (t.length : Int)
  · obtain ⟨k, rfl⟩ := Int.eq_ofNat_of_zero_le hc.2.1
    obtain ⟨pre, sub, post, a1, a2, a3, a4, a5, -⟩ := part_of hc.1 (k := k) (by omega)
    rw [atM_yes hc.1 (by omega), a5] at hx
    exact h x (by rw [a1]; simp [hx])
  · rw [atM_nil hc] at hx; simp at hx
/-- a part that there is -/
theorem at_there {s : MSig} {vars t : List Int} {a : Int} (h : atM s vars t a ≠ []) : ∃ (k : Nat) (pre : List Int) (sub : Tm) (post : List Int), a = (k : Int) ∧ k < t.length ∧ t.length ≤ 30 ∧ 0 ≤ sortM s vars t ∧ varsB s vars = true ∧ t = pre ++ sub.row ++ post ∧ pre.length = k ∧ atM s vars t a = sub.row ∧ sortM s vars sub.row = sub.sort ∧ 0 ≤ sub.sort ∧ wfT s vars sub ∧ 1 ≤ sub.row.length ∧
    ∀ u : Tm, wfT s vars u → u.sort = sub.sort → (pre ++ u.row ++ post).length ≤ 30 → sortM s vars (pre ++ u.row ++ post) = sortM s vars t := by
  by_cases hc : 0 ≤ sortM s vars t ∧ 0 ≤ a ∧ a < (t.length : Int)
  · obtain ⟨k, rfl⟩ := Int.eq_ofNat_of_zero_le hc.2.1
    have hk : k < t.length := by omega
    obtain ⟨pre, sub, post, a1, a2, a3, a4, a5, a6, a7, a8⟩ := part_of hc.1 hk
    obtain ⟨tm0, hvo, hl30, -⟩ := sortM_to hc.1
    exact ⟨k, pre, sub, post, rfl, hk, hl30, hc.1, hvo, a1, a2, by rw [atM_yes hc.1 hk, a5], a6, a7, a3, row_pos sub, a8⟩
  · exact absurd (atM_nil hc) h
set_option maxHeartbeats 800000 in
set_option maxRecDepth 100000 in
theorem termAt_any (s : MSig) (vars t : List Int) (a : Int) (w : World) (v vv tv : Value) (hsm : Small t) (h1 : RSig w v s) (h2 : RInts w vv vars) (h3 : RInts w tv t) :
    Calls Try.prog 126 #[v, vv, tv, .int .i64 a] w fun e w' => ∃ u, e = .returned u ∧ OInts w' w.heap.size u (atM s vars t a) ∧ Below w.heap.size w w' := by
  obtain ⟨u, rfl, hrr⟩ := h1
  obtain ⟨sorts, ops⟩ := s
  obtain ⟨A, c, rfl, -⟩ := hrr.form
  have hb1 := below_alloc w (.cells #[.int .i64 sorts, .slice A ops.length c] 33)
  have hbx := Lib.hid (box_cells w (.int .i64 sorts) (.slice A ops.length c) 33)
  have HS := Lib.hid (show RSig (w.alloc (.cells #[.int .i64 sorts, .slice A ops.length c] 33)) (.agg #[.int .i64 sorts, .slice A ops.length c]) ⟨sorts, ops⟩ from ⟨_, rfl, hrr.keep hb1⟩)
  have HV2 := Lib.hid (h2.keep hb1)
  have HV3 := Lib.hid (h3.keep hb1)
  have hlen := h3.len
  have HSM := Lib.hid hsm
  obtain ⟨A2, c2, rfl, -⟩ := h2.form
  obtain ⟨A3, c3, rfl, hc3, hc3'⟩ := h3.form
  have HB1 := Lib.hid hb1
  obtain ⟨q, hq⟩ : ∃ q, sortM ⟨sorts, ops⟩ vars t = q := ⟨_, rfl⟩
  have HQ := Lib.hid hq
  clear hrr h2 h3 hb1 hsm hq
  by_cases hq0 : q < 0
  · have HN := Lib.hid (atM_nil (s := ⟨sorts, ops⟩) (vars := vars) (t := t) (k := a) (by rw [HQ.out]; omega))
    go_enter Try.func126, Try.ntmps126
    go_wp2_with (go_at_call 114; refine (termSort_any ⟨sorts, ops⟩ vars t _ _ _ _ HSM.out HS.out HV2.out HV3.out).mono ?_; rw [HQ.out]; rintro e w1 ⟨rfl, hb⟩)
    go_ret
    exact ⟨_, rfl, by rw [HN.out]; exact OInts.nil _ _, HB1.out.trans (hb.mono (by simp))⟩
  by_cases ha0 : a < 0
  · have HN := Lib.hid (atM_nil (s := ⟨sorts, ops⟩) (vars := vars) (t := t) (k := a) (by omega))
    go_enter Try.func126, Try.ntmps126
    go_wp2_with (go_at_call 114; refine (termSort_any ⟨sorts, ops⟩ vars t _ _ _ _ HSM.out HS.out HV2.out HV3.out).mono ?_; rw [HQ.out]; rintro e w1 ⟨rfl, hb⟩)
    go_ret
    exact ⟨_, rfl, by rw [HN.out]; exact OInts.nil _ _, HB1.out.trans (hb.mono (by simp))⟩
  by_cases hal : (t.length : Int) ≤ a
  · have HN := Lib.hid (atM_nil (s := ⟨sorts, ops⟩) (vars := vars) (t := t) (k := a) (by omega))
    go_enter Try.func126, Try.ntmps126
    go_wp2_with (go_at_call 114; refine (termSort_any ⟨sorts, ops⟩ vars t _ _ _ _ HSM.out HS.out HV2.out HV3.out).mono ?_; rw [HQ.out]; rintro e w1 ⟨rfl, hb⟩)
    go_ret
    exact ⟨_, rfl, by rw [HN.out]; exact OInts.nil _ _, HB1.out.trans (hb.mono (by simp))⟩
  obtain ⟨k, rfl⟩ := Int.eq_ofNat_of_zero_le (show 0 ≤ a by omega)
  have hkt : k < t.length := by omega
  have hqq : 0 ≤ sortM ⟨sorts, ops⟩ vars t := by rw [HQ.out]; omega
  obtain ⟨pre, sub, post, hd1, hd2, hd3, hd4, hd5, hd6, hd7, -⟩ := part_of hqq hkt
  obtain ⟨tm0, hvo, hl30, -⟩ := sortM_to hqq
  have hN := atM_yes hqq hkt
  rw [hd5] at hN
  have hlr := row_pos sub
  have hll := congrArg List.length hd1
  simp only [List.length_append] at hll
  have hdk : t.drop k = sub.row ++ post := by rw [hd1, List.append_assoc, ← hd2]; simp
  have hsub : (t.drop k).take (t.length - post.length - k) = sub.row := by
    rw [hdk, List.take_append_of_le_length (by omega), List.take_of_length_le (by omega)]
  have HSUB := Lib.hid hsub
  have HN := Lib.hid hN
  have HF := Lib.hid hd4
  have HV := Lib.hid hvo
  have hpl : post.length ≤ t.length := by omega
  have hel : (k : Int) ≤ (t.length : Int) - (post.length : Int) := by omega
  have hk0 : (0 : Int) ≤ (k : Int) := by omega
  have hk1 : (k : Int) ≤ (t.length : Int) := by omega
  have hk2 : (t.length : Int) - (post.length : Int) ≤ (c3 : Int) := by omega
  have hw : IntKind.i64.wrap ((t.length : Int) - (post.length : Int)) = (t.length : Int) - (post.length : Int) := by rw [IntKind.wrap_i64]; omega
  have HLR := Lib.hid hlr
  have HLL := Lib.hid hll
  obtain ⟨b, o, c', e, hx⟩ := HV3.out.at_ hkt
  cases e
  clear hd1 hd2 hd3 hd4 hd5 hd6 hd7 hsub hN hvo hqq hx hlr hll hdk
  go_enter Try.func126, Try.ntmps126
  go_wp2_with (go_at_call 114; refine (termSort_any ⟨sorts, ops⟩ vars t _ _ _ _ HSM.out HS.out HV2.out HV3.out).mono ?_; rw [HQ.out]; rintro e w1 ⟨rfl, hb⟩; have g0 := cell_keep hb hbx.out.1; have g1 := cell_keep hb hbx.out.2; have HB2 := Lib.hid hb; clear hb)
  have hck : ¬ c3 = k := by omega
  have HCUT := Lib.hid (show RInts w1 (.slice (some ⟨b, o + k, none⟩) (t.length - k) (c3 - k)) (t.drop k) by
    have h := (HV3.out.keep HB2.out).cut (k := k) (e := t.length) (A := some ⟨b, o + k, none⟩) (by omega) (Nat.le_refl _) rfl
    rwa [List.take_of_length_le (by rw [List.length_drop]; omega)] at h)
  have ea := World.new_ne w1 _ g0
  go_region_held3 (fun w' => w'.cell? ⟨w.heap.size, 0, none⟩ = some (.int .i64 sorts) ∧ w'.cell? ⟨w.heap.size, 1, none⟩ = some (.slice A ops.length c)) (first | go_keep)
    (first
      | (go_at_call 124; refine (first_any ⟨sorts, ops⟩ vars HV.out 30 (t.drop k) w1.drew _ _ _ (by rw [List.length_drop]; omega) (fun x hx => HSM.out x (List.mem_of_mem_drop hx)) (HS.out.keep (bel_drew HB2.out)) (HV2.out.keep (bel_drew HB2.out)) (HCUT.out)).mono ?_; rw [HF.out]; rintro e w2 ⟨hm, hb2⟩; simp only at hm; obtain ⟨u, bv, rfl, hu, hbv⟩ := hm; obtain ⟨A6, c7, rfl⟩ := hbv.1; obtain ⟨T, y, fid, rfl, -⟩ := hu.sorts; have HB3 := Lib.hid (bel_undrew hb2); have j0 := cell_keep HB3.out g0; have j1 := cell_keep HB3.out g1; clear hu hbv hb2))
  have HB4 := Lib.hid (fit_keep HB2.out HB3.out)
  have HC2 := Lib.hid (show RInts w2 (.slice (some ⟨b, o + k, none⟩) (t.length - post.length - k) (c3 - k)) sub.row by
    have h := (HV3.out.keep HB4.out).cut (k := k) (e := t.length - post.length) (A := some ⟨b, o + k, none⟩) (by omega) (by omega) rfl
    rwa [HSUB.out] at h)
  have hw2 : ((t.length : Int) - (post.length : Int)).toNat = t.length - post.length := by omega
  clear g0 g1 j0 j1 ea
  go_wp2_with fail
  have hs3 : sub.row.length ≤ 1048576 := by have := HLL.out; omega
  refine (clone_any ⟨b, o + k, none⟩ _ _ sub.row _ HC2.out hs3).mono ?_
  rintro e w3 ⟨u3, rfl, ho3, hb3⟩
  have HO3 := Lib.hid ho3
  have HB5 := Lib.hid (fit_keep HB4.out hb3)
  have s4 := HB4.out.size
  simp at s4
  clear ho3 hb3
  go_wp2
  go_ret
  exact ⟨_, rfl, by rw [HN.out]; exact HO3.out.base (by omega), HB1.out.trans (HB5.out.mono (by simp))⟩

set_option maxHeartbeats 800000 in
set_option maxRecDepth 100000 in
theorem specTermAt_any (s : MSig) (vars t : List Int) (a : Int) (w : World) (v vv tv : Value) (h1 : RSig w v s) (h2 : RInts w vv vars) (h3 : RInts w tv t) :
    Calls Try.prog 107 #[v, vv, tv, .int .i64 a] w fun e w' => ∃ u, e = .returned u ∧ OInts w' w.heap.size u (atM s vars t a) ∧ Below w.heap.size w w' := by
  obtain ⟨i0, hi0, hz0, hz1, hz2⟩ := info_parts Try.tinfo_int
  obtain ⟨u, rfl, hrr⟩ := h1
  obtain ⟨sorts, ops⟩ := s
  obtain ⟨A, c, rfl, -⟩ := hrr.form
  have hb1 := below_alloc w (.cells #[.int .i64 sorts, .slice A ops.length c] 33)
  have hbx := Lib.hid (box_cells w (.int .i64 sorts) (.slice A ops.length c) 33)
  have HS := Lib.hid (show RSig (w.alloc (.cells #[.int .i64 sorts, .slice A ops.length c] 33)) (.agg #[.int .i64 sorts, .slice A ops.length c]) ⟨sorts, ops⟩ from ⟨_, rfl, hrr.keep hb1⟩)
  have HV2 := Lib.hid (h2.keep hb1)
  have HV3 := Lib.hid (h3.keep hb1)
  have hlen := h3.len
  obtain ⟨A2, c2, rfl, -⟩ := h2.form
  obtain ⟨A3, c3, rfl, hc3, hc3'⟩ := h3.form
  have HB1 := Lib.hid hb1
  obtain ⟨q, hq⟩ : ∃ q, sortM ⟨sorts, ops⟩ vars t = q := ⟨_, rfl⟩
  have HQ := Lib.hid hq
  clear hrr h2 h3 hb1 hq
  by_cases hq0 : q < 0
  · have HN := Lib.hid (atM_nil (s := ⟨sorts, ops⟩) (vars := vars) (t := t) (k := a) (by rw [HQ.out]; omega))
    go_enter Try.func107, Try.ntmps107
    go_wp2_with (go_at_call 104; refine (specTermSort_any ⟨sorts, ops⟩ vars t _ _ _ _ HS.out HV2.out HV3.out).mono ?_; rw [HQ.out]; rintro e w1 ⟨rfl, hb⟩; have HB2 := Lib.hid hb; clear hb)
    go_ret
    have s1 := HB2.out.size
    simp at s1
    exact ⟨_, rfl, by rw [HN.out]; exact (own_empty w1).base (by omega), (HB1.out.trans (HB2.out.mono (by simp))).trans ((below_alloc _ _).mono (by omega))⟩
  by_cases hin : 0 ≤ a ∧ a < (t.length : Int)
  · obtain ⟨k, rfl⟩ := Int.eq_ofNat_of_zero_le hin.1
    have hkt : k < t.length := by omega
    have hqq : 0 ≤ sortM ⟨sorts, ops⟩ vars t := by rw [HQ.out]; omega
    obtain ⟨pre, sub, post, hd1, hd2, hd3, hd4, hd5, hd6, hd7, -⟩ := part_of hqq hkt
    obtain ⟨tm0, hvo, hl30, -⟩ := sortM_to hqq
    have hN := atM_yes hqq hkt
    rw [hd5] at hN
    have hlr := row_pos sub
    have hll := congrArg List.length hd1
    simp only [List.length_append] at hll
    have hdk : t.drop k = sub.row ++ post := by rw [hd1, List.append_assoc, ← hd2]; simp
    have hsub : (t.drop k).take (t.length - post.length - k) = sub.row := by
      rw [hdk, List.take_append_of_le_length (by omega), List.take_of_length_le (by omega)]
    have HSUB := Lib.hid hsub
    have HN := Lib.hid hN
    have HF := Lib.hid hd4
    have HV := Lib.hid hvo
    have HI := Lib.hid (show inB (k : Int) 0 ((t.length : Int) - 1) = true by unfold inB; simp; omega)
    have hk0 : (0 : Int) ≤ (k : Int) := by omega
    have hk1 : (k : Int) ≤ (t.length : Int) := by omega
    have hck : ¬ c3 = k := by omega
    obtain ⟨en, hen⟩ : ∃ en, en = t.length - post.length := ⟨_, rfl⟩
    have he0 : (k : Int) ≤ (en : Int) := by omega
    have he1 : (en : Int) ≤ (t.length : Int) := by omega
    have he2 : (en : Int) ≤ (c3 : Int) := by omega
    have hs3 : sub.row.length = en - k := by omega
    have hs4 : en ≤ 30 := by omega
    have HEN := Lib.hid hen
    obtain ⟨b, o, c', e, hx⟩ := HV3.out.at_ hkt
    cases e
    clear hd1 hd2 hd3 hd4 hd5 hd6 hd7 hsub hN hvo hqq hx hlr hll hdk hen
    go_enter Try.func107, Try.ntmps107
    go_wp2_with (first
      | (go_at_call 104; refine (specTermSort_any ⟨sorts, ops⟩ vars t _ _ _ _ HS.out HV2.out HV3.out).mono ?_; rw [HQ.out]; rintro e w1 ⟨rfl, hb⟩; have g0 := cell_keep hb hbx.out.1; have g1 := cell_keep hb hbx.out.2; have HB2 := Lib.hid hb; clear hb)
      | (go_at_call 64; refine (l1In_is _ _ _ _ _ HI.out).mono ?_; rintro e w' ⟨rfl, rfl⟩)
      | (go_at_call 123; refine (end_any ⟨sorts, ops⟩ vars HV.out 30 t k _ _ _ _ (by rw [List.length_drop]; omega) (HS.out.keep HB2.out) (HV2.out.keep HB2.out) (HV3.out.keep HB2.out)).mono ?_; rw [HF.out, endV_some, ← HEN.out]; rintro e w2 ⟨rfl, hb2⟩; have HB3 := Lib.hid hb2; clear hb2 g0 g1)
      | (at_builtin; refine wpList_append_own _ rfl _ _ 55 rfl w2.heap.size 3 i0 (.int .i64 0) 1 8 Try.underlying55 hi0 hz0 hz1 hz2 rfl (by decide) _ 0 [] rfl (own_empty w2) ⟨b, o + k, none⟩ (en - k) (c3 - k) (sub.row.map (Value.int .i64)) rfl (by simp [hs3]) (news_any ((show RInts w2 (.slice (some ⟨b, o + k, none⟩) (en - k) (c3 - k)) sub.row by
            have h := (HV3.out.keep (fit_keep HB2.out HB3.out)).cut (k := k) (e := en) (A := some ⟨b, o + k, none⟩) (by omega) (by omega) rfl
            rw [HEN.out, HSUB.out, ← HEN.out] at h
            exact h).keep (below_alloc w2 _))) (ints_one _) (by rw [maxLen_eq]; omega) (by omega) (by simp) ?_))
    intro v' w4 hown4 hgrow4 _
    have HO := Lib.hid hown4
    have HG := Lib.hid (own_cut hgrow4 (fun k e => by injection e with e; exact Nat.le_of_eq e))
    have HB5 := Lib.hid (fit_keep (fit_keep HB2.out HB3.out) HG.out)
    have s2 := (fit_keep HB2.out HB3.out).size
    simp at s2
    clear hown4 hgrow4
    go_wp2
    go_ret
    refine ⟨_, rfl, ?_, HB1.out.trans (HB5.out.mono (by simp))⟩
    have h := HO.out
    rw [HN.out]
    refine OInts.base (B := w2.heap.size) ?_ (by omega)
    unfold OInts
    rw [hs3]
    simpa using h
  · have HN := Lib.hid (atM_nil (s := ⟨sorts, ops⟩) (vars := vars) (t := t) (k := a) (by omega))
    have HI := Lib.hid (show inB a 0 ((t.length : Int) - 1) = false by unfold inB; simp; omega)
    clear hin
    go_enter Try.func107, Try.ntmps107
    go_wp2_with (first
      | (go_at_call 104; refine (specTermSort_any ⟨sorts, ops⟩ vars t _ _ _ _ HS.out HV2.out HV3.out).mono ?_; rw [HQ.out]; rintro e w1 ⟨rfl, hb⟩; have HB2 := Lib.hid hb; clear hb)
      | (go_at_call 64; refine (l1In_is _ _ _ _ _ HI.out).mono ?_; rintro e w' ⟨rfl, rfl⟩))
    go_ret
    have s1 := HB2.out.size
    simp at s1
    exact ⟨_, rfl, by rw [HN.out]; exact (own_empty w1).base (by omega), (HB1.out.trans (HB2.out.mono (by simp))).trans ((below_alloc _ _).mono (by omega))⟩
end

section
open Go.RowKit
set_option linter.unusedVariables false

def putM (s : MSig) (vars t others : List Int) (terms : List (List Int)) : List Int × Bool :=
  if 0 ≤ sortM s vars t ∧ fitsB s others terms vars = true ∧ (putRow terms t).length ≤ 30 then (putRow terms t, true) else ([], false)
def putOne (terms : List (List Int)) (n : Int) : List Int := if 100 ≤ n then terms.getD (n - 100).toNat [] else [n]
theorem putRow_take {terms : List (List Int)} {t : List Int} {k : Nat} (hk : k < t.length) : putRow terms (t.take (k + 1)) = putRow terms (t.take k) ++ putOne terms t[k] := by
  unfold putRow putOne
  rw [List.take_succ_eq_append_getElem hk, List.flatMap_append]; simp
theorem fits_len {s : MSig} {others sorts : List Int} {terms : List (List Int)} (h : fitsB s others terms sorts = true) : terms.length = sorts.length ∧ varsB s others = true ∧ ∀ k (hk : k < terms.length), sortM s others terms[k] = sorts.getD k 0 ∧ 0 ≤ sortM s others terms[k] := by
  rw [fitsB_eq] at h
  simp only [Bool.and_eq_true, decide_eq_true_eq, List.all_eq_true] at h
  refine ⟨h.2.1, h.1, fun k hk => ?_⟩
  have hz : k < (terms.zip sorts).length := by rw [List.length_zip]; omega
  have hp := h.2.2 _ (List.getElem_mem hz)
  rw [List.getElem_zip] at hp
  unfold fitP at hp
  simp only [Bool.and_eq_true, decide_eq_true_eq] at hp
  rw [getD_at _ (by omega)]
  exact ⟨hp.2, by rw [hp.2]; exact hp.1⟩
theorem fits_rows {s : MSig} {others sorts : List Int} {terms : List (List Int)} (h : fitsB s others terms sorts = true) : ∀ k (hk : k < terms.length), 1 ≤ terms[k].length ∧ terms[k].length ≤ 30 := fun k hk => by
  obtain ⟨tm, a, b, c, d, e⟩ := sortM_to ((fits_len h).2.2 k hk).2
  have := row_pos tm
  rw [d] at this
  exact ⟨this, b⟩
theorem sort_nums {s : MSig} {vars t : List Int} (h : 0 ≤ sortM s vars t) : ∀ n ∈ t, n < 100 ∨ (100 ≤ n ∧ n < 100 + (vars.length : Int)) := fun n hn => by
  obtain ⟨tm, a, b, c, d, e⟩ := sortM_to h
  subst d
  have hv := (vars_valid a).1
  rcases nums_t (ops_few hv) tm c n hn with hh | hh
  · have := (valid_sorts hv).2.2; omega
  · exact .inr hh
/-- what the loops of both need: each number an operation or a letter, each row neither empty nor long -/
structure PutOk (t : List Int) (terms : List (List Int)) : Prop where
  few : t.length ≤ 30
  nums : ∀ n ∈ t, n < 100 ∨ (100 ≤ n ∧ n < 100 + (terms.length : Int))
  rows : ∀ k (hk : k < terms.length), 1 ≤ terms[k].length ∧ terms[k].length ≤ 30
theorem putOk_of {s : MSig} {vars t others : List Int} {terms : List (List Int)} (h1 : 0 ≤ sortM s vars t) (h2 : fitsB s others terms vars = true) : PutOk t terms := by
  obtain ⟨tm, a, b, c, d, e⟩ := sortM_to h1
  exact ⟨b, fun n hn => by have := sort_nums h1 n hn; rw [(fits_len h2).1]; exact this, fits_rows h2⟩
theorem PutOk.one {t : List Int} {terms : List (List Int)} (h : PutOk t terms) {n : Int} (hn : n ∈ t) : 1 ≤ (putOne terms n).length ∧ (putOne terms n).length ≤ 30 := by
  unfold putOne
  rcases h.nums n hn with hh | hh
  · rw [if_neg (by omega)]; simp
  · rw [if_pos hh.1, getD_at _ (by omega)]; exact h.rows _ (by omega)
theorem PutOk.short {t : List Int} {terms : List (List Int)} (h : PutOk t terms) : ∀ k, k ≤ t.length → (putRow terms (t.take k)).length ≤ 30 * k := fun k => by
  induction k with
  | zero => intro _; simp [putRow]
  | succ k ih =>
    intro hk
    rw [putRow_take (by omega), List.length_append]
    have := ih (by omega)
    have := (h.one (List.getElem_mem (show k < t.length by omega))).2
    omega
theorem app_ints {w : World} {B m : Nat} {v : Value} {ps rs : List Int} (hm : rs.length = m) (h : w.ownsRow B 3 1 v (ps.length + m) (ps.map (Value.int .i64) ++ rs.map (Value.int .i64))) : OInts w B v (ps ++ rs) := by
  unfold OInts; rw [List.length_append, List.map_append, hm]; exact h
theorem one_new (w : World) (n : Int) : ∀ (j : Nat) (u : Value), ([n].map (Value.int .i64))[j]? = some u → (w.alloc (.cells #[.int .i64 n] 3)).cell? ((⟨w.heap.size, 0, none⟩ : Addr).add j) = some u := by
  intro j u hj
  match j, hj with
  | 0, hj =>
    simp at hj
    subst hj
    rw [show (⟨w.heap.size, 0, none⟩ : Addr).add 0 = ⟨w.heap.size, 0, none⟩ by simp [Addr.add], World.cell?_alloc_at _ _ _ _ rfl]; rfl

set_option maxHeartbeats 800000 in
set_option maxRecDepth 100000 in
theorem l2Put_any (t : List Int) (terms : List (List Int)) (w : World) (v tv : Value) (hok : PutOk t terms) (h1 : RInts w v t) (h2 : RRows w tv terms) :
    Calls Try.prog 73 #[v, tv] w fun e w' => ∃ u, e = .returned u ∧ OInts w' w.heap.size u (putRow terms t) ∧ Below w.heap.size w w' := by
  obtain ⟨i0, hi0, hz0, hz1, hz2⟩ := info_parts Try.tinfo_int
  have H1 := Lib.hid h1
  have H2 := Lib.hid h2
  have HOK := Lib.hid hok
  have hl1 := h1.len
  have hl2 := h2.len
  obtain ⟨A1, c1, rfl, -⟩ := h1.form
  obtain ⟨A2, c2, rfl, -⟩ := h2.form
  clear h1 h2 hok
  go_enter Try.func73, Try.ntmps73
  go_wp2
  go_loopw [5, 6] (fun p i wr => ∃ k : Nat, k ≤ t.length ∧ i = .int .i64 k ∧ OInts wr w.heap.size p (putRow terms (t.take k)) ∧ Below w.heap.size w wr) (fun _ i _ => t.length - (intOf i).toNat)
  case atStart => exact ⟨0, Nat.zero_le _, rfl, own_empty w, below_alloc _ _⟩
  case round =>
    obtain ⟨k, hk, rfl, ho, hb⟩ := hrel
    obtain ⟨A9, c9, rfl, -⟩ := own_reads ho
    have HO := Lib.hid ho
    have HB := Lib.hid hb
    clear ho hb
    by_cases hlt : k < t.length
    · have hlt' : (k : Int) < (t.length : Int) := by omega
      have hk0 : (0 : Int) ≤ (k : Int) := by omega
      obtain ⟨b, o, c', e, hx⟩ := (H1.out.keep HB.out).at_ hlt
      cases e
      have HTK := Lib.hid (putRow_take (terms := terms) hlt)
      have HNUM := Lib.hid (HOK.out.nums _ (List.getElem_mem hlt))
      have hsh := HOK.out.short k hk
      have h30 := HOK.out.few
      have hone := (HOK.out.one (List.getElem_mem hlt)).2
      generalize t[k] = n at hx HTK HNUM hone
      have hs1 := HB.out.size
      generalize hps : putRow terms (t.take k) = ps at HO HTK hsh
      clear hps
      by_cases hn : 100 ≤ n
      · obtain ⟨j, rfl⟩ : ∃ j : Nat, n = 100 + (j : Int) := ⟨(n - 100).toNat, by omega⟩
        have hj : j < terms.length := by have := HNUM.out; omega
        obtain ⟨b2, o2, c3, u2, e, hcell, hri⟩ := (H2.out.keep HB.out).at_ hj
        cases e
        have hrow := HOK.out.rows j hj
        have HP := Lib.hid (show putOne terms (100 + (j : Int)) = terms[j] by unfold putOne; rw [if_pos (by omega), show ((100 : Int) + (j : Int) - 100).toNat = j by omega, getD_at _ hj])
        generalize terms[j] = r at hcell hri hrow HP
        obtain ⟨b3, o3, c5, rfl, hx3⟩ := hri.at_ (k := 0) (by omega)
        have HNEWS := Lib.hid (news_of hri)
        have hj' : (j : Int) < (terms.length : Int) := by omega
        have hj0 : (0 : Int) ≤ (j : Int) := by omega
        have hw : IntKind.i64.wrap (100 + (j : Int) - 100) = (j : Int) := by rw [IntKind.wrap_i64]; omega
        clear hx3 hri
        go_wp2_with (at_builtin; refine wpList_append_own _ rfl _ _ 55 rfl w.heap.size 3 i0 (.int .i64 0) 1 8 Try.underlying55 hi0 hz0 hz1 hz2 rfl (by decide) _ ps.length (ps.map (Value.int .i64)) rfl HO.out ⟨b3, o3, none⟩ r.length c5 (r.map (Value.int .i64)) rfl (by simp) HNEWS.out (ints_one _) (by rw [maxLen_eq]; omega) (by omega) hs1 ?_)
        intro v' w4 hown4 hgrow4 _
        have HO4 := Lib.hid (app_ints rfl hown4)
        have HB4 := Lib.hid (HB.out.grown hgrow4 hs1 (fun k e => (own_lt HO.out k e).1))
        clear hown4 hgrow4
        go_wp2
        go_roundw
        case rel => exact ⟨k + 1, by omega, by go_num, by rw [HTK.out, HP.out]; exact HO4.out, HB4.out⟩
        case measure => simp [intOf]; omega
      · have HP := Lib.hid (show putOne terms n = [n] by unfold putOne; rw [if_neg hn])
        go_wp2_with (at_builtin; refine wpList_append_own _ rfl _ _ 55 rfl w.heap.size 3 i0 (.int .i64 0) 1 8 Try.underlying55 hi0 hz0 hz1 hz2 rfl (by decide) _ ps.length (ps.map (Value.int .i64)) rfl (own_keep HO.out (below_alloc wr _)) ⟨wr.heap.size, 0, none⟩ 1 1 ([n].map (Value.int .i64)) rfl (by simp) (one_new wr n) (ints_one _) (by rw [maxLen_eq]; omega) (by omega) (by simp; omega) ?_)
        intro v' w4 hown4 hgrow4 _
        have HO4 := Lib.hid (app_ints (rs := [n]) rfl hown4)
        have HB4 := Lib.hid ((HB.out.alloc hs1 (.cells #[.int .i64 n] 3)).grown hgrow4 (by simp; omega) (fun k e => (own_lt HO.out k e).1))
        clear hown4 hgrow4
        go_wp2
        go_roundw
        case rel => exact ⟨k + 1, by omega, by go_num, by rw [HTK.out, HP.out]; exact HO4.out, HB4.out⟩
        case measure => simp [intOf]; omega
    · have hlt' : ¬ (k : Int) < (t.length : Int) := by omega
      have HTA := Lib.hid (show t.take k = t from take_all (by omega))
      rw [HTA.out] at HO ⊢
      go_wp2
      go_ret
      exact ⟨_, rfl, HO.out, HB.out⟩

theorem putM_no {s : MSig} {vars t others : List Int} {terms : List (List Int)} (h : ¬ (0 ≤ sortM s vars t ∧ fitsB s others terms vars = true ∧ (putRow terms t).length ≤ 30)) : putM s vars t others terms = ([], false) := by unfold putM; rw [if_neg h]
theorem putM_yes {s : MSig} {vars t others : List Int} {terms : List (List Int)} (h : 0 ≤ sortM s vars t ∧ fitsB s others terms vars = true ∧ (putRow terms t).length ≤ 30) : putM s vars t others terms = (putRow terms t, true) := by unfold putM; rw [if_pos h]

/-- what a function that makes a row and tells whether it could answers -/
def PairPost (R : List Int × Bool) (w : World) (e : Ending) (w' : World) : Prop := ∃ u, e = .returned (.tuple #[u, .bool R.2]) ∧ OInts w' w.heap.size u R.1 ∧ Below w.heap.size w w'

set_option maxHeartbeats 800000 in
set_option maxRecDepth 100000 in
theorem specTermPut_any (s : MSig) (vars t others : List Int) (terms : List (List Int)) (w : World) (v vv tv ov sv : Value) (hsm : ∀ r ∈ terms, Small r) (h1 : RSig w v s) (h2 : RInts w vv vars) (h3 : RInts w tv t) (h4 : RInts w ov others) (h5 : RRows w sv terms) :
    Calls Try.prog 75 #[v, vv, tv, ov, sv] w (PairPost (putM s vars t others terms) w) := by
  obtain ⟨u, rfl, hrr⟩ := h1
  obtain ⟨sorts, ops⟩ := s
  obtain ⟨A, c, rfl, -⟩ := hrr.form
  have hb1 := below_alloc w (.cells #[.int .i64 sorts, .slice A ops.length c] 33)
  have hbx := Lib.hid (box_cells w (.int .i64 sorts) (.slice A ops.length c) 33)
  have HS := Lib.hid (show RSig (w.alloc (.cells #[.int .i64 sorts, .slice A ops.length c] 33)) (.agg #[.int .i64 sorts, .slice A ops.length c]) ⟨sorts, ops⟩ from ⟨_, rfl, hrr.keep hb1⟩)
  have HV2 := Lib.hid (h2.keep hb1)
  have HV3 := Lib.hid (h3.keep hb1)
  have HV4 := Lib.hid (h4.keep hb1)
  have HV5 := Lib.hid (h5.keep hb1)
  have HSM := Lib.hid hsm
  obtain ⟨A2, c2, rfl, -⟩ := h2.form
  obtain ⟨A3, c3, rfl, -⟩ := h3.form
  obtain ⟨A4, c4, rfl, -⟩ := h4.form
  obtain ⟨A5, c5, rfl, -⟩ := h5.form
  have HB1 := Lib.hid hb1
  obtain ⟨q, hq⟩ : ∃ q, sortM ⟨sorts, ops⟩ vars t = q := ⟨_, rfl⟩
  have HQ := Lib.hid hq
  clear hrr h2 h3 h4 h5 hb1 hq hsm
  by_cases hq0 : q < 0
  · have HN := Lib.hid (putM_no (s := ⟨sorts, ops⟩) (vars := vars) (t := t) (others := others) (terms := terms) (by rw [HQ.out]; omega))
    go_enter Try.func75, Try.ntmps75
    go_wp2_with (go_at_call 104; refine (specTermSort_any ⟨sorts, ops⟩ vars t _ _ _ _ HS.out HV2.out HV3.out).mono ?_; rw [HQ.out]; rintro e w1 ⟨rfl, hb⟩; have HB2 := Lib.hid hb; clear hb)
    have s1 := HB2.out.size
    simp at s1
    refine bodyPost_ret (v := .tuple #[.slice (some ⟨w1.heap.size, 0, none⟩) 0 0, .bool false]) (by simp [results, Try.results75, go_sem]) rfl ?_
    rw [HN.out]
    exact ⟨_, rfl, (own_empty w1).base (by omega), (HB1.out.trans (HB2.out.mono (by simp))).trans ((below_alloc _ _).mono (by omega))⟩
  cases hf : fitsB ⟨sorts, ops⟩ others terms vars with
  | false =>
    have HF := Lib.hid hf
    have HN := Lib.hid (putM_no (s := ⟨sorts, ops⟩) (vars := vars) (t := t) (others := others) (terms := terms) (by rw [HF.out]; simp))
    clear hf
    go_enter Try.func75, Try.ntmps75
    go_wp2_with (first
      | (go_at_call 104; refine (specTermSort_any ⟨sorts, ops⟩ vars t _ _ _ _ HS.out HV2.out HV3.out).mono ?_; rw [HQ.out]; rintro e w1 ⟨rfl, hb⟩; have g0 := cell_keep hb hbx.out.1; have g1 := cell_keep hb hbx.out.2; have HB2 := Lib.hid hb; clear hb)
      | (go_at_call 72; refine (specTermsFit_any ⟨sorts, ops⟩ others terms vars _ _ _ _ _ HSM.out (HS.out.keep HB2.out) (HV4.out.keep HB2.out) (HV5.out.keep HB2.out) (HV2.out.keep HB2.out)).mono ?_; rw [HF.out]; rintro e w2 ⟨rfl, hb⟩; have HB3 := Lib.hid (fit_keep HB2.out hb); clear hb))
    have s1 := HB3.out.size
    simp at s1
    refine bodyPost_ret (v := .tuple #[.slice (some ⟨w2.heap.size, 0, none⟩) 0 0, .bool false]) (by simp [results, Try.results75, go_sem]) rfl ?_
    rw [HN.out]
    exact ⟨_, rfl, (own_empty w2).base (by omega), (HB1.out.trans (HB3.out.mono (by simp))).trans ((below_alloc _ _).mono (by omega))⟩
  | true =>
    have HF := Lib.hid hf
    have HOK := Lib.hid (putOk_of (show 0 ≤ sortM ⟨sorts, ops⟩ vars t by rw [HQ.out]; omega) hf)
    clear hf
    by_cases hL : 30 < ((putRow terms t).length : Int)
    · have HN := Lib.hid (putM_no (s := ⟨sorts, ops⟩) (vars := vars) (t := t) (others := others) (terms := terms) (by omega))
      go_enter Try.func75, Try.ntmps75
      go_wp2_with (first
        | (go_at_call 104; refine (specTermSort_any ⟨sorts, ops⟩ vars t _ _ _ _ HS.out HV2.out HV3.out).mono ?_; rw [HQ.out]; rintro e w1 ⟨rfl, hb⟩; have g0 := cell_keep hb hbx.out.1; have g1 := cell_keep hb hbx.out.2; have HB2 := Lib.hid hb; clear hb)
        | (go_at_call 72; refine (specTermsFit_any ⟨sorts, ops⟩ others terms vars _ _ _ _ _ HSM.out (HS.out.keep HB2.out) (HV4.out.keep HB2.out) (HV5.out.keep HB2.out) (HV2.out.keep HB2.out)).mono ?_; rw [HF.out]; rintro e w2 ⟨rfl, hb⟩; have HB3 := Lib.hid (fit_keep HB2.out hb); clear hb g0 g1)
        | (go_at_call 73; refine (l2Put_any t terms _ _ _ HOK.out (HV3.out.keep HB3.out) (HV5.out.keep HB3.out)).mono ?_; rintro e w3 ⟨u3, rfl, ho, hb⟩; obtain ⟨A6, c6, rfl, -⟩ := ho.reads.form; have HO := Lib.hid ho; have HB4 := Lib.hid (fit_keep HB3.out hb); have HZ := Lib.hid (show w.heap.size ≤ w2.heap.size by have := HB3.out.size; simp at this; omega); clear hb ho))
      have s1 := HB4.out.size
      simp at s1
      refine bodyPost_ret (v := .tuple #[.slice (some ⟨w3.heap.size, 0, none⟩) 0 0, .bool false]) (by simp [results, Try.results75, go_sem]) rfl ?_
      rw [HN.out]
      exact ⟨_, rfl, (own_empty w3).base (by omega), (HB1.out.trans (HB4.out.mono (by simp))).trans ((below_alloc _ _).mono (by omega))⟩
    · have HN := Lib.hid (putM_yes (s := ⟨sorts, ops⟩) (vars := vars) (t := t) (others := others) (terms := terms) ⟨by rw [HQ.out]; omega, HF.out, by omega⟩)
      go_enter Try.func75, Try.ntmps75
      go_wp2_with (first
        | (go_at_call 104; refine (specTermSort_any ⟨sorts, ops⟩ vars t _ _ _ _ HS.out HV2.out HV3.out).mono ?_; rw [HQ.out]; rintro e w1 ⟨rfl, hb⟩; have g0 := cell_keep hb hbx.out.1; have g1 := cell_keep hb hbx.out.2; have HB2 := Lib.hid hb; clear hb)
        | (go_at_call 72; refine (specTermsFit_any ⟨sorts, ops⟩ others terms vars _ _ _ _ _ HSM.out (HS.out.keep HB2.out) (HV4.out.keep HB2.out) (HV5.out.keep HB2.out) (HV2.out.keep HB2.out)).mono ?_; rw [HF.out]; rintro e w2 ⟨rfl, hb⟩; have HB3 := Lib.hid (fit_keep HB2.out hb); clear hb g0 g1)
        | (go_at_call 73; refine (l2Put_any t terms _ _ _ HOK.out (HV3.out.keep HB3.out) (HV5.out.keep HB3.out)).mono ?_; rintro e w3 ⟨u3, rfl, ho, hb⟩; obtain ⟨A6, c6, rfl, -⟩ := ho.reads.form; have HO := Lib.hid ho; have HB4 := Lib.hid (fit_keep HB3.out hb); have HZ := Lib.hid (show w.heap.size ≤ w2.heap.size by have := HB3.out.size; simp at this; omega); clear hb ho))
      refine bodyPost_ret (v := .tuple #[.slice A6 (putRow terms t).length c6, .bool true]) (by simp [results, Try.results75, go_sem]) rfl ?_
      rw [HN.out]
      exact ⟨_, rfl, HO.out.base HZ.out, HB1.out.trans (HB4.out.mono (by simp))⟩

set_option maxHeartbeats 1600000 in
set_option maxRecDepth 100000 in
theorem termPut_any (s : MSig) (vars t others : List Int) (terms : List (List Int)) (w : World) (v vv tv ov sv : Value) (hst : Small t) (hsm : ∀ r ∈ terms, Small r) (h1 : RSig w v s) (h2 : RInts w vv vars) (h3 : RInts w tv t) (h4 : RInts w ov others) (h5 : RRows w sv terms) :
    Calls Try.prog 84 #[v, vv, tv, ov, sv] w (PairPost (putM s vars t others terms) w) := by
  obtain ⟨i0, hi0, hz0, hz1, hz2⟩ := info_parts Try.tinfo_int
  obtain ⟨u, rfl, hrr⟩ := h1
  obtain ⟨sorts, ops⟩ := s
  obtain ⟨A, c, rfl, -⟩ := hrr.form
  have hb1 := below_alloc w (.cells #[.int .i64 sorts, .slice A ops.length c] 33)
  have hbx := Lib.hid (box_cells w (.int .i64 sorts) (.slice A ops.length c) 33)
  have HS := Lib.hid (show RSig (w.alloc (.cells #[.int .i64 sorts, .slice A ops.length c] 33)) (.agg #[.int .i64 sorts, .slice A ops.length c]) ⟨sorts, ops⟩ from ⟨_, rfl, hrr.keep hb1⟩)
  have HV2 := Lib.hid (h2.keep hb1)
  have HV3 := Lib.hid (h3.keep hb1)
  have HV4 := Lib.hid (h4.keep hb1)
  have HV5 := Lib.hid (h5.keep hb1)
  have HSM := Lib.hid hsm
  have HST := Lib.hid hst
  have hl3 := h3.len
  have hl5 := h5.len
  obtain ⟨A2, c2, rfl, -⟩ := h2.form
  obtain ⟨A3, c3, rfl, -⟩ := h3.form
  obtain ⟨A4, c4, rfl, -⟩ := h4.form
  obtain ⟨A5, c5, rfl, -⟩ := h5.form
  have HB1 := Lib.hid hb1
  obtain ⟨q, hq⟩ : ∃ q, sortM ⟨sorts, ops⟩ vars t = q := ⟨_, rfl⟩
  have HQ := Lib.hid hq
  clear hrr h2 h3 h4 h5 hb1 hq hsm hst
  by_cases hq0 : q < 0
  · have HN := Lib.hid (putM_no (s := ⟨sorts, ops⟩) (vars := vars) (t := t) (others := others) (terms := terms) (by rw [HQ.out]; omega))
    go_enter Try.func84, Try.ntmps84
    go_wp2_with (go_at_call 114; refine (termSort_any ⟨sorts, ops⟩ vars t _ _ _ _ HST.out HS.out HV2.out HV3.out).mono ?_; rw [HQ.out]; rintro e w1 ⟨rfl, hb⟩; have HB2 := Lib.hid hb; clear hb)
    refine bodyPost_ret (v := .tuple #[.slice none 0 0, .bool false]) (by simp [results, Try.results84, go_sem]) rfl ?_
    rw [HN.out]
    exact ⟨_, rfl, OInts.nil _ _, HB1.out.trans (HB2.out.mono (by simp))⟩
  cases hf : fitsB ⟨sorts, ops⟩ others terms vars with
  | false =>
    have HF := Lib.hid hf
    have HN := Lib.hid (putM_no (s := ⟨sorts, ops⟩) (vars := vars) (t := t) (others := others) (terms := terms) (by rw [HF.out]; simp))
    clear hf
    go_enter Try.func84, Try.ntmps84
    go_wp2_with (first
      | (go_at_call 114; refine (termSort_any ⟨sorts, ops⟩ vars t _ _ _ _ HST.out HS.out HV2.out HV3.out).mono ?_; rw [HQ.out]; rintro e w1 ⟨rfl, hb⟩; have g0 := cell_keep hb hbx.out.1; have g1 := cell_keep hb hbx.out.2; have HB2 := Lib.hid hb; clear hb)
      | (go_at_call 80; refine (termsFit_any ⟨sorts, ops⟩ others terms vars _ _ _ _ _ HSM.out (HS.out.keep HB2.out) (HV4.out.keep HB2.out) (HV5.out.keep HB2.out) (HV2.out.keep HB2.out)).mono ?_; rw [HF.out]; rintro e w2 ⟨rfl, hb⟩; have HB3 := Lib.hid (fit_keep HB2.out hb); clear hb))
    refine bodyPost_ret (v := .tuple #[.slice none 0 0, .bool false]) (by simp [results, Try.results84, go_sem]) rfl ?_
    rw [HN.out]
    exact ⟨_, rfl, OInts.nil _ _, HB1.out.trans (HB3.out.mono (by simp))⟩
  | true =>
    have HF := Lib.hid hf
    have HOK := Lib.hid (putOk_of (show 0 ≤ sortM ⟨sorts, ops⟩ vars t by rw [HQ.out]; omega) hf)
    clear hf
    go_enter Try.func84, Try.ntmps84
    go_wp2_with (first
      | (go_at_call 114; refine (termSort_any ⟨sorts, ops⟩ vars t _ _ _ _ HST.out HS.out HV2.out HV3.out).mono ?_; rw [HQ.out]; rintro e w1 ⟨rfl, hb⟩; have g0 := cell_keep hb hbx.out.1; have g1 := cell_keep hb hbx.out.2; have HB2 := Lib.hid hb; clear hb)
      | (go_at_call 80; refine (termsFit_any ⟨sorts, ops⟩ others terms vars _ _ _ _ _ HSM.out (HS.out.keep HB2.out) (HV4.out.keep HB2.out) (HV5.out.keep HB2.out) (HV2.out.keep HB2.out)).mono ?_; rw [HF.out]; rintro e w2 ⟨rfl, hb⟩; have HB3 := Lib.hid (fit_keep HB2.out hb); clear hb g0 g1))
    obtain ⟨W, hW⟩ : ∃ W : World, W = w.alloc (.cells #[.int .i64 sorts, .slice A ops.length c] 33) := ⟨_, rfl⟩
    rw [← hW] at HB3 HV3 HV5 HB1
    have HWS := Lib.hid (show w.heap.size ≤ W.heap.size from HB1.out.size)
    clear hW
    go_loopw [12, 14, 30] (fun p n i wr => ∃ k : Nat, k ≤ t.length ∧ i = .int .i64 k ∧ OInts wr W.heap.size p (putRow terms (t.take k)) ∧ Below W.heap.size W wr) (fun _ _ i _ => t.length - (intOf i).toNat)
    case atStart => exact ⟨0, Nat.zero_le _, rfl, by simp [putRow]; exact OInts.nil _ _, HB3.out⟩
    case round =>
      obtain ⟨k, hk, rfl, ho, hb⟩ := hrel
      obtain ⟨A9, c9, rfl, -⟩ := own_reads ho
      have HO := Lib.hid ho
      have HB := Lib.hid hb
      clear ho hb
      by_cases hlt : k < t.length
      · have hlt' : (k : Int) < (t.length : Int) := by omega
        have hk0 : (0 : Int) ≤ (k : Int) := by omega
        obtain ⟨b, o, c', e, hx⟩ := (HV3.out.keep HB.out).at_ hlt
        cases e
        have HTK := Lib.hid (putRow_take (terms := terms) hlt)
        have HNUM := Lib.hid (HOK.out.nums _ (List.getElem_mem hlt))
        have hsh := HOK.out.short k hk
        have h30 := HOK.out.few
        have hone := (HOK.out.one (List.getElem_mem hlt)).2
        generalize t[k] = n at hx HTK HNUM hone
        have hs1 := HB.out.size
        generalize hps : putRow terms (t.take k) = ps at HO HTK hsh
        clear hps
        by_cases hn : 100 ≤ n
        · obtain ⟨j, rfl⟩ : ∃ j : Nat, n = 100 + (j : Int) := ⟨(n - 100).toNat, by omega⟩
          have hj : j < terms.length := by have := HNUM.out; omega
          obtain ⟨b2, o2, c8, u2, e, hcell, hri⟩ := (HV5.out.keep HB.out).at_ hj
          cases e
          have hrow := HOK.out.rows j hj
          have HP := Lib.hid (show putOne terms (100 + (j : Int)) = terms[j] by unfold putOne; rw [if_pos (by omega), show ((100 : Int) + (j : Int) - 100).toNat = j by omega, getD_at _ hj])
          generalize terms[j] = r at hcell hri hrow HP
          obtain ⟨b3, o3, c7, rfl, hx3⟩ := hri.at_ (k := 0) (by omega)
          have HNEWS := Lib.hid (news_of hri)
          have hj' : (j : Int) < (terms.length : Int) := by omega
          have hj0 : (0 : Int) ≤ (j : Int) := by omega
          have hw : IntKind.i64.wrap (100 + (j : Int) - 100) = (j : Int) := by rw [IntKind.wrap_i64]; omega
          clear hx3 hri
          go_wp2_with (at_builtin; refine wpList_append_own _ rfl _ _ 55 rfl W.heap.size 3 i0 (.int .i64 0) 1 8 Try.underlying55 hi0 hz0 hz1 hz2 rfl (by decide) _ ps.length (ps.map (Value.int .i64)) rfl HO.out ⟨b3, o3, none⟩ r.length c7 (r.map (Value.int .i64)) rfl (by simp) HNEWS.out (ints_one _) (by rw [maxLen_eq]; omega) (by omega) hs1 ?_)
          intro v' w4 hown4 hgrow4 _
          have HO4 := Lib.hid (app_ints rfl hown4)
          have HB4 := Lib.hid (HB.out.grown hgrow4 hs1 (fun k e => (own_lt HO.out k e).1))
          clear hown4 hgrow4
          go_wp2
          go_roundw
          case rel => exact ⟨k + 1, by omega, by go_num, by rw [HTK.out, HP.out]; exact HO4.out, HB4.out⟩
          case measure => simp [intOf]; omega
        · have HP := Lib.hid (show putOne terms n = [n] by unfold putOne; rw [if_neg hn])
          go_wp2_with (at_builtin; refine wpList_append_own _ rfl _ _ 55 rfl W.heap.size 3 i0 (.int .i64 0) 1 8 Try.underlying55 hi0 hz0 hz1 hz2 rfl (by decide) _ ps.length (ps.map (Value.int .i64)) rfl (own_keep HO.out (below_alloc wr _)) ⟨wr.heap.size, 0, none⟩ 1 1 ([n].map (Value.int .i64)) rfl (by simp) (one_new wr n) (ints_one _) (by rw [maxLen_eq]; omega) (by omega) (by simp; omega) ?_)
          intro v' w4 hown4 hgrow4 _
          have HO4 := Lib.hid (app_ints (rs := [n]) rfl hown4)
          have HB4 := Lib.hid ((HB.out.alloc hs1 (.cells #[.int .i64 n] 3)).grown hgrow4 (by simp; omega) (fun k e => (own_lt HO.out k e).1))
          clear hown4 hgrow4
          go_wp2
          go_roundw
          case rel => exact ⟨k + 1, by omega, by go_num, by rw [HTK.out, HP.out]; exact HO4.out, HB4.out⟩
          case measure => simp [intOf]; omega
      · have hlt' : ¬ (k : Int) < (t.length : Int) := by omega
        have HTA := Lib.hid (show t.take k = t from take_all (by omega))
        rw [HTA.out] at HO ⊢
        by_cases hL : 30 < ((putRow terms t).length : Int)
        · have HN := Lib.hid (putM_no (s := ⟨sorts, ops⟩) (vars := vars) (t := t) (others := others) (terms := terms) (by omega))
          go_wp2
          refine bodyPost_ret (v := .tuple #[.slice none 0 0, .bool false]) (by simp [results, Try.results84, go_sem]) rfl ?_
          rw [HN.out]
          exact ⟨_, rfl, OInts.nil _ _, HB1.out.trans (HB.out.mono HWS.out)⟩
        · have HN := Lib.hid (putM_yes (s := ⟨sorts, ops⟩) (vars := vars) (t := t) (others := others) (terms := terms) ⟨by rw [HQ.out]; omega, HF.out, by omega⟩)
          go_wp2
          refine bodyPost_ret (v := .tuple #[.slice A9 (putRow terms t).length c9, .bool true]) (by simp [results, Try.results84, go_sem]) rfl ?_
          rw [HN.out]
          exact ⟨_, rfl, HO.out.base HWS.out, HB1.out.trans (HB.out.mono HWS.out)⟩
end

section
open Go.RowKit
set_option linter.unusedVariables false

/-- a row of numbers at the end of an own one -/
theorem app_own_run (w : World) (ty : TypeId) (B : Nat) (v x : Value) (xs ys : List Int) (hs : OInts w B v xs) (hx : RInts w x ys) (hl : xs.length + ys.length ≤ 10000000) (hB : B ≤ w.heap.size) :
    ∃ A c w', (Builtin.append_ #[55, 55] ty #[v, x]).run Try.prog w = .ok (.slice A (xs ++ ys).length c) w' ∧ OInts w' B (.slice A (xs ++ ys).length c) (xs ++ ys) ∧ w.grownBy w' v.ownBlock := by
  obtain ⟨i0, hi0, hz0, hz1, hz2⟩ := info_parts Try.tinfo_int
  obtain ⟨A2, c2, rfl, -⟩ := hx.form
  cases A2 with
  | none =>
    have h0 : ys = [] := by
      cases ys with
      | nil => rfl
      | cons y ys =>
        obtain ⟨b, o, c', e, -⟩ := hx.at_ (k := 0) (by simp)
        cases e
    subst h0
    obtain ⟨A, c, rfl, hc, -⟩ := own_reads hs
    refine ⟨A, c, w, ?_, by simpa using hs, ⟨rfl, rfl, rfl, Nat.le_refl _, fun _ _ _ => rfl⟩⟩
    have := run_append_nothing (P := Try.prog) w 55 55 ty 3 i0 Try.underlying55 hi0 A xs.length c hc (.slice none ([] : List Int).length c2) (Src.ofNil w Try.underlying55 c2)
    simpa using this
  | some ad =>
    obtain ⟨v', w', hr, ho, hg, -⟩ := run_append_own (P := Try.prog) w B 55 ty 3 i0 (.int .i64 0) 1 8 Try.underlying55 hi0 hz0 hz1 hz2 rfl (by decide) v xs.length (xs.map (Value.int .i64)) hs ad ys.length c2 (ys.map (Value.int .i64)) (by simp) (news_any hx) (ints_one _) (by rw [maxLen_eq]; omega) (by omega) hB
    have ho' := app_ints rfl ho
    obtain ⟨A, c, rfl, -⟩ := own_reads ho'
    exact ⟨A, c, w', hr, ho', hg⟩
end

section
open Go.RowKit
set_option linter.unusedVariables false

theorem rows_made {wr w6 w7 : World} {B : Nat} {u v' rv : Value} {rows : List (List Int)} {row : List Int} {us : List Value} (hB : B ≤ wr.heap.size) (hb : Below wr.heap.size wr w6) (hr : OInts w6 wr.heap.size rv row)
    (h1 : wr.ownsRow B 55 1 u rows.length us) (h2 : us.length = rows.length)
    (h3 : ∀ (j : Nat) (u : Value) (row : List Int), us[j]? = some u → rows[j]? = some row → OInts wr B u row) (h4 : ∀ (i j : Nat) (u u' : Value), i < j → us[i]? = some u → us[j]? = some u' → u.ownBlock = none ∨ u.ownBlock ≠ u'.ownBlock)
    (hv' : w7.ownsRow B 55 1 v' (rows.length + 1) (us ++ [rv])) (hg : (w6.alloc (.cells #[rv] 55)).grownBy w7 u.ownBlock) : ORows w7 B v' (rows ++ [row]) := by
  refine ORows.push (w := w6.alloc (.cells #[rv] 55)) ((own_keep h1 hb).alloc _) h2 (fun j x r a b => World.ownsRow.alloc (own_keep (h3 j x r a b) hb) _) h4 (World.ownsRow.alloc (OInts.base hr hB) _) (fun i x hx => ?_) hg hv'
  have hi : i < us.length := (List.getElem?_eq_some_iff.1 hx).1
  have hxo := h3 i x rows[i] hx (List.getElem?_eq_getElem (by omega))
  cases hbx : x.ownBlock with
  | none => exact .inl rfl
  | some k =>
    right
    intro e
    have a := (own_lt hxo k hbx).2
    have b := (own_lt hr k e.symm).1
    omega
theorem below_made {w wr w6 w7 : World} {B : Nat} {u rv : Value} {n : Nat} {us : List Value} (hw : Below B w wr) (hB : B ≤ w.heap.size) (hb : Below wr.heap.size wr w6) (h1 : wr.ownsRow B 55 1 u n us)
    (hg : (w6.alloc (.cells #[rv] 55)).grownBy w7 u.ownBlock) : Below B w w7 := by
  have s1 := hw.size
  have s2 := hb.size
  exact ((hw.trans (hb.mono (by omega))).alloc (by omega) _).grown hg (by simp; omega) (fun k e => (own_lt h1 k e).1)
end

section
open Go.RowKit
set_option linter.unusedVariables false

theorem news_one2 (w : World) (x : Value) (t : TypeId) : ∀ (j : Nat) (u : Value), [x][j]? = some u → (w.alloc (.cells #[x] t)).cell? ((⟨w.heap.size, 0, none⟩ : Addr).add j) = some u := by
  intro j u hj
  match j, hj with
  | 0, hj =>
    simp at hj
    subst hj
    rw [show (⟨w.heap.size, 0, none⟩ : Addr).add 0 = ⟨w.heap.size, 0, none⟩ from rfl, World.cell?_alloc_at _ _ _ _ rfl]
    rfl
theorem rows_one2 {A : Option Addr} {n c : Nat} (x : Value) (hx : x = .slice A n c := by rfl) : ∀ u ∈ [x], u.oneCell' = true := by
  intro u hu; simp at hu; subst hu; subst hx; rfl
theorem own_emptyR2 (w : World) : w.alloc (.cells #[] 55) |>.ownsRow w.heap.size 55 1 (.slice (some ⟨w.heap.size, 0, none⟩) 0 0) 0 [] := World.ownsRow_lit w #[] 0 (Nat.le_refl _) (Nat.zero_le _) rfl
theorem ORows.empty2 (w : World) : ORows (w.alloc (.cells #[] 55)) w.heap.size (.slice (some ⟨w.heap.size, 0, none⟩) 0 0) [] := ⟨[], own_emptyR2 w, rfl, fun j u row h => by simp at h, fun i j u u' _ h => by simp at h⟩

theorem bel_grow2 {w w2 : World} {o : Obj} {A : Option Addr} {n c : Nat} (h : (w.alloc o).grownBy w2 (Value.slice A n c).ownBlock) (hr : ∀ k, (Value.slice A n c).ownBlock = some k → w.heap.size ≤ k) : Below w.heap.size w w2 :=
  (below_alloc w o).trans ⟨h.os, h.tape, h.output, h.size, fun k hk => h.block k (Nat.lt_of_lt_of_le hk (by simp)) (fun e => by have := hr k e.symm; omega)⟩
end

section
open Go.RowKit
set_option linter.unusedVariables false

set_option maxRecDepth 100000 in
theorem l1CopyAny (v : Value) (rows : List (List Int)) (w : World) (h : RRows w v rows) (hs : rows.length ≤ 1048576) (hs2 : ∀ (j : Nat) (hj : j < rows.length), rows[j].length ≤ 1048576) :
    Calls Try.prog 55 #[v] w fun e w' => ∃ u, e = .returned u ∧ ORows w' w.heap.size u rows ∧ Below w.heap.size w w' := by
  obtain ⟨A, c, rfl, -⟩ := h.form
  have H := Lib.hid h
  have HS2 := Lib.hid hs2
  clear h hs2
  obtain ⟨i0, hi0, hz0, hz1, hz2⟩ := info_parts Try.tinfo_int
  obtain ⟨i1, hj, hy0, hy1, hy2⟩ := info_parts Try.tinfo_ints
  have HE := Lib.hid (ORows.empty2 w)
  have HB0 := Lib.hid (below_alloc w (.cells #[] 55))
  go_enter Try.func55, Try.ntmps55
  go_wp2
  go_loopw [3, 4] (fun o i wr => ∃ k : Nat, ∃ u, k ≤ rows.length ∧ i = .int .i64 k ∧ u = o ∧ ORows wr w.heap.size u (rows.take k) ∧ Below w.heap.size w wr) (fun _ i _ => rows.length - (intOf i).toNat)
  case atStart => exact ⟨0, _, Nat.zero_le _, rfl, rfl, HE.out, HB0.out⟩
  case round =>
    obtain ⟨k, u, hk, rfl, rfl, ho, hbw⟩ := hrel
    have HBW := Lib.hid hbw
    obtain ⟨us, hu1, hu2, hu3, hu4⟩ := ho
    have hfl : (rows.take k).length = k := by rw [List.length_take]; omega
    have HU1 := Lib.hid hu1
    have HO := Lib.hid (show ORows wr w.heap.size u (rows.take k) from ⟨us, hu1, hu2, hu3, hu4⟩)
    rw [hfl] at hu1
    obtain ⟨Au, cu, rfl, -⟩ := own_reads hu1
    have HUJ := Lib.hid hu1
    have HU2 := Lib.hid hu2
    have HU3 := Lib.hid hu3
    have HU4 := Lib.hid hu4
    have HFL := Lib.hid hfl
    clear hu1 hu2 hu3 hu4 hfl hbw
    by_cases hlt : k < rows.length
    · obtain ⟨b, o, c', ur, e, hcell, hri⟩ := (H.out.keep HBW.out).at_ hlt
      cases e
      have HFT := Lib.hid (List.take_succ_eq_append_getElem hlt)
      have hrl := HS2.out k hlt
      generalize rows[k] = row at hri HFT hrl
      obtain ⟨Ax, cx, rfl, -⟩ := hri.form
      obtain ⟨wo, rfl⟩ : ∃ wo : World, wo = wr := ⟨_, rfl⟩
      have hsw : w.heap.size ≤ wo.heap.size := HBW.out.size
      have hlb := World.block_lt_of_cell? wo _ hcell
      obtain ⟨A6, c6, w6, hrun, ho6, hg6⟩ := app_own_run (wo.alloc (.cells #[] 3)) 55 wo.heap.size _ _ [] row (own_empty wo) (hri.keep (below_alloc wo (.cells #[] 3))) (by simp; omega) (by simp)
      rw [List.nil_append] at hrun ho6
      have HRUN := Lib.hid hrun
      have HB6 := Lib.hid (bel_grow2 hg6 (fun k e => by injection e with e; exact Nat.le_of_eq e))
      have HO6 := Lib.hid (show OInts w6 wo.heap.size (.slice A6 row.length c6) row from ho6)
      clear hri hrun ho6 hg6
      have HOU := Lib.hid ((own_keep HUJ.out HB6.out).alloc (.cells #[.slice A6 row.length c6] 55))
      have HN6 := Lib.hid (news_one2 w6 (.slice A6 row.length c6) 55)
      have s6 := HB6.out.size
      go_wp2_with (first | (at_builtin; refine Lib.wpList_append_run _ rfl (.tmp 13) (.tmp 17) _ _ rfl _ _ rfl rfl _ _ HRUN.out ?_) | (at_builtin; refine wpList_append_own _ rfl (.tmp 12) (.tmp 19) 22 rfl w.heap.size 55 i1 (.slice none 0 0) 1 24 Try.underlying22 hj hy0 hy1 hy2 rfl (by decide) _ _ _ rfl HOU.out ⟨w6.heap.size, 0, none⟩ 1 1 [.slice A6 row.length c6] rfl rfl HN6.out (rows_one2 _) (by rw [maxLen_eq]; omega) (by omega) (by simp; omega) ?_))
      intro v7 w7 hv7 hg7 _
      have HR7 := Lib.hid (rows_made hsw HB6.out HO6.out HU1.out HU2.out HU3.out HU4.out (by rw [HFL.out]; exact hv7) hg7)
      have HB7 := Lib.hid (below_made HBW.out (Nat.le_refl _) HB6.out HU1.out hg7)
      obtain ⟨A7, c7, rfl, -⟩ := own_reads hv7
      clear hg7 hv7
      go_wp2
      go_roundw
      case rel => exact ⟨k + 1, _, by omega, by go_num, rfl, by rw [HFT.out]; exact HR7.out, HB7.out⟩
      case measure => simp [intOf]; omega
    · have hjn : k = rows.length := by omega
      subst hjn
      go_wp2
      go_ret
      exact ⟨_, rfl, by have h := HO.out; rwa [take_all (Nat.le_refl _)] at h, HBW.out⟩
end
end Go.Proofs.Ytmmnamjgpfkabab
