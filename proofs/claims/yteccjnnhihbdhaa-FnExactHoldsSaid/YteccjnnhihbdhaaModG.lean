/- The exact laws' marks of a model. -/
import Derived.Test.YteccjnnhihbdhaaModT
import Derived.Test.YteccjnnhihbdhaaMarkG
import Derived.Test.YteccjnnhihbdhaaMark2
namespace Go.Proofs.Yteccjnnhihbdhaa
open Go.RowKit
set_option linter.unusedVariables false
set_option linter.unusedSimpArgs false

def marksMd (k0 : Int) (m : MModel) : MModel := ⟨marks (k0) m.sizes.length, marksR (k0 + (m.sizes.length : Int)) m.tables⟩
def totMd (m : MModel) : Int := (m.sizes.length : Int) + (tot m.tables : Int)
set_option maxRecDepth 100000 in
theorem markModel_n (v : Value) (B : Nat) (m : MModel) (k0 : Int) (wc w : World) (h : OModel wc B v m) (hk : Keeps B wc w) (hz : wc.heap.size ≤ w.heap.size) (hs : FitsMd m) (h0 : 0 ≤ k0) (h1 : k0 ≤ 90000000000000) :
    Calls Try.prog 29 #[v, .int .i64 k0] w fun e w' => e = .returned (.int .i64 (k0 + totMd m)) ∧ OModel w' B v (marksMd k0 m) ∧ ∃ wa, Below w.heap.size w wa ∧ Outside B wc.heap.size wa w' := by
  obtain ⟨a0, a1, rfl, o0, C, hC, hlow, o1⟩ := h
  obtain ⟨xs0, xs1⟩ := m
  obtain ⟨hs0, hs1⟩ := hs
  simp only at o0 o1 hs0 hs1
  have hb := below_alloc w (.cells #[a0, a1] 33)
  have P0 := Lib.hid (o0.same (fun k q1 q2 => (hb.block k (by omega)).trans (hk k q1 q2)))
  have P1 := Lib.hid (o1.same (w' := cutTo (w.alloc (.cells #[a0, a1] 33)) wc.heap.size) (fun k q1 q2 => (cut_block q2).trans ((hb.block k (by omega)).trans (hk k (by omega) q2))))
  have C0 := Lib.hid o0
  have C1 := Lib.hid o1
  have HLOW := Lib.hid hlow
  have HTL := Lib.hid (tot_le hs1.2)
  obtain ⟨A0, c0, rfl, -⟩ := o0.reads.form
  obtain ⟨A1, c1, rfl, -⟩ := o1.reads.form
  have t0 := bx_at w #[.slice A0 xs0.length c0, .slice A1 xs1.length c1] 33 (k := 0) rfl
  have t1 := bx_at w #[.slice A0 xs0.length c0, .slice A1 xs1.length c1] 33 (k := 1) rfl
  have hsW : (w.alloc (.cells #[.slice A0 xs0.length c0, .slice A1 xs1.length c1] 33)).heap.size = w.heap.size + 1 := by simp
  have HB := Lib.hid hb
  generalize hW : w.alloc (.cells #[.slice A0 xs0.length c0, .slice A1 xs1.length c1] 33) = W at HB hsW P0 P1 t0 t1
  have HOUT : Hid (Outside B wc.heap.size W W) := Outside.refl _ _ _
  have HSZ := Lib.hid hsW
  have HZ := Lib.hid hz
  clear o0 o1 hlow hb hk hsW hz
  go_enter Try.func29, Try.ntmps29
  go_wp2_with fail
  clear hW
  refine (markIntS_any _ B xs0 _ _ P0.out hs0 (by omega) (by omega)).mono ?_
  rintro e y0 ⟨rfl, ho, hg, hzz⟩
  have hout := outside_grown C0.out hg hzz
  have hzW : wc.heap.size ≤ W.heap.size := by have := HZ.out; have := HSZ.out; omega
  replace P1 := Lib.hid (ORows.same (w' := cutTo y0 wc.heap.size) P1.out (fun k q1 q2 => by
    rw [cut_size hzW] at q2
    rw [cut_block q2, cut_block q2]
    exact hg.block k (by omega) (fun e => by have := HLOW.out k e.symm; omega)))
  have HCB := Lib.hid (cut_below (show wc.heap.size ≤ y0.heap.size by omega))
  have HCS := Lib.hid (cut_size (show wc.heap.size ≤ y0.heap.size by omega))
  clear hzW
  replace P0 := Lib.hid ho
  replace t1 := (World.cell?_of_block (hout.block w.heap.size (.inr HZ.out))).trans t1
  replace HOUT := Lib.hid (HOUT.out.trans hout)
  clear ho hg hzz hout t0
  go_wp2_with fail
  refine (markIntSSp_any _ C xs1 _ _ _ P1.out HCB.out hs1.1 hs1.2 (by omega) (by omega)).mono ?_
  rintro e y1 ⟨rfl, ho, hout⟩
  rw [HCS.out] at hout
  replace P0 := Lib.hid (own_outside P0.out hout (fun k e => .inl (HLOW.out k e)))
  replace P1 := Lib.hid ho
  replace HOUT := Lib.hid (HOUT.out.trans (hout.mono hC (Nat.le_refl _)))
  clear ho hout t1
  have htl := HTL.out
  have hs1l := hs1.1
  go_wp2
  go_ret
  refine ⟨ret_int (by simp only [totMd]; omega), ⟨_, _, rfl, ?_, C, hC, HLOW.out, ?_⟩, W, HB.out, HOUT.out⟩
  · exact P0.out
  · exact P1.out
theorem markModel_go (v : Value) (B : Nat) (m : MModel) (k0 : Int) (wc w : World) (h : OModel wc B v m) (hk : Keeps B wc w) (hz : wc.heap.size ≤ w.heap.size) (hs : FitsMd m) (h0 : 0 ≤ k0) (h1 : k0 ≤ 90000000000000) :
    Calls Try.prog 29 #[v, .int .i64 k0] w fun e w' => ∃ k : Int, e = .returned (.int .i64 k) ∧ 0 ≤ k ∧ k ≤ k0 + 2000000000000 ∧ ∃ wa, Below w.heap.size w wa ∧ Outside B wc.heap.size wa w' := by
  refine (markModel_n v B m k0 wc w h hk hz hs h0 h1).mono ?_
  rintro e w' ⟨rfl, ho, hout⟩
  obtain ⟨hs0, hs1⟩ := hs
  have htl := tot_le hs1.2
  have hs1l := hs1.1
  exact ⟨_, rfl, by unfold totMd; omega, by unfold totMd; omega, hout⟩
end Go.Proofs.Yteccjnnhihbdhaa
