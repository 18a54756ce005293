/- The exact laws' marks of a map and of an equation, to the number. -/
import Derived.Test.YteccjnnhihbdhabMapT
import Derived.Test.YteccjnnhihbdhabMarkG
import Derived.Test.YteccjnnhihbdhabEqC
namespace Go.Proofs.Yteccjnnhihbdhab
open Go.RowKit
set_option linter.unusedVariables false
set_option linter.unusedSimpArgs false

theorem apart_symm {a b : Value} (h : Apart a b) : Apart b a := by
  unfold Apart at *
  rcases h with h | h
  · rw [h]
    cases b.ownBlock with
    | none => exact .inl rfl
    | some k => right; simp
  · exact .inr (fun e => h e.symm)

def marksMp (k0 : Int) (m : MMap) : MMap := ⟨marks (k0) m.sorts.length, marks (k0 + (m.sorts.length : Int)) m.ops.length⟩
def totMp (m : MMap) : Int := (m.sorts.length : Int) + (m.ops.length : Int)
set_option maxRecDepth 100000 in
theorem markMap_n (v : Value) (B : Nat) (m : MMap) (k0 : Int) (wc w : World) (h : OMap wc B v m) (hk : Keeps B wc w) (hz : wc.heap.size ≤ w.heap.size) (hs : FitsMp m) (h0 : 0 ≤ k0) (h1 : k0 ≤ 90000000000000) :
    Calls Try.prog 21 #[v, .int .i64 k0] w fun e w' => e = .returned (.int .i64 (k0 + totMp m)) ∧ OMap w' B v (marksMp k0 m) ∧ ∃ wa, Below w.heap.size w wa ∧ Outside B wc.heap.size wa w' := by
  obtain ⟨a0, a1, rfl, o0, o1, ap0_1⟩ := h
  obtain ⟨xs0, xs1⟩ := m
  obtain ⟨hs0, hs1⟩ := hs
  simp only at o0 o1 hs0 hs1
  have hb := below_alloc w (.cells #[a0, a1] 37)
  have P0 := Lib.hid (o0.same (fun k q1 q2 => (hb.block k (by omega)).trans (hk k q1 q2)))
  have P1 := Lib.hid (o1.same (fun k q1 q2 => (hb.block k (by omega)).trans (hk k q1 q2)))
  have C0 := Lib.hid o0
  have C1 := Lib.hid o1
  have AP0_1 := Lib.hid ap0_1
  obtain ⟨A0, c0, rfl, -⟩ := o0.reads.form
  obtain ⟨A1, c1, rfl, -⟩ := o1.reads.form
  have t0 := bx_at w #[.slice A0 xs0.length c0, .slice A1 xs1.length c1] 37 (k := 0) rfl
  have t1 := bx_at w #[.slice A0 xs0.length c0, .slice A1 xs1.length c1] 37 (k := 1) rfl
  have hsW : (w.alloc (.cells #[.slice A0 xs0.length c0, .slice A1 xs1.length c1] 37)).heap.size = w.heap.size + 1 := by simp
  have HB := Lib.hid hb
  generalize hW : w.alloc (.cells #[.slice A0 xs0.length c0, .slice A1 xs1.length c1] 37) = W at HB hsW P0 P1 t0 t1
  have HOUT : Hid (Outside B wc.heap.size W W) := Outside.refl _ _ _
  have HSZ := Lib.hid hsW
  have HZ := Lib.hid hz
  clear o0 o1 ap0_1 hb hk hsW hz
  go_enter Try.func21, Try.ntmps21
  go_wp2_with fail
  clear hW
  refine (markIntS_any _ B xs0 _ _ P0.out hs0 (by omega) (by omega)).mono ?_
  rintro e y0 ⟨rfl, ho, hg, hzz⟩
  have hout := outside_grown C0.out hg hzz
  replace P1 := Lib.hid (own_grown P1.out hg (apart_symm AP0_1.out))
  replace P0 := Lib.hid ho
  replace t1 := (World.cell?_of_block (hout.block w.heap.size (.inr HZ.out))).trans t1
  replace HOUT := Lib.hid (HOUT.out.trans hout)
  clear ho hg hzz hout t0
  go_wp2_with fail
  refine (markIntS_any _ B xs1 _ _ P1.out hs1 (by omega) (by omega)).mono ?_
  rintro e y1 ⟨rfl, ho, hg, hzz⟩
  have hout := outside_grown C1.out hg hzz
  replace P0 := Lib.hid (own_grown P0.out hg AP0_1.out)
  replace P1 := Lib.hid ho
  replace HOUT := Lib.hid (HOUT.out.trans hout)
  clear ho hg hzz hout t1
  go_wp2
  go_ret
  refine ⟨ret_int (by simp only [totMp]; omega), ⟨_, _, rfl, ?_, ?_, AP0_1.out⟩, W, HB.out, HOUT.out⟩
  · exact P0.out
  · exact P1.out
theorem markMap_go (v : Value) (B : Nat) (m : MMap) (k0 : Int) (wc w : World) (h : OMap wc B v m) (hk : Keeps B wc w) (hz : wc.heap.size ≤ w.heap.size) (hs : FitsMp m) (h0 : 0 ≤ k0) (h1 : k0 ≤ 90000000000000) :
    Calls Try.prog 21 #[v, .int .i64 k0] w fun e w' => ∃ k : Int, e = .returned (.int .i64 k) ∧ 0 ≤ k ∧ k ≤ k0 + 2000000000000 ∧ ∃ wa, Below w.heap.size w wa ∧ Outside B wc.heap.size wa w' := by
  refine (markMap_n v B m k0 wc w h hk hz hs h0 h1).mono ?_
  rintro e w' ⟨rfl, ho, hout⟩
  obtain ⟨hs0, hs1⟩ := hs
  exact ⟨_, rfl, by unfold totMp; omega, by unfold totMp; omega, hout⟩
def marksE (k0 : Int) (m : MEq) : MEq := ⟨marks (k0) m.vars.length, marks (k0 + (m.vars.length : Int)) m.left.length, marks (k0 + (m.vars.length : Int) + (m.left.length : Int)) m.right.length⟩
def totE (m : MEq) : Int := (m.vars.length : Int) + (m.left.length : Int) + (m.right.length : Int)
end Go.Proofs.Yteccjnnhihbdhab
