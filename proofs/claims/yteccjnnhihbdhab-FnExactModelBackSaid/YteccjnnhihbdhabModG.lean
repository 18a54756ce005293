/- The exact laws' marks of a model. -/
import Derived.Test.YteccjnnhihbdhabModT
import Derived.Test.YteccjnnhihbdhabMarkG
import Derived.Test.YteccjnnhihbdhabMark2
namespace Go.Proofs.Yteccjnnhihbdhab
open Go.RowKit
set_option linter.unusedVariables false
set_option linter.unusedSimpArgs false

def marksMd (k0 : Int) (m : MModel) : MModel := ⟨marks (k0) m.sizes.length, marksR (k0 + (m.sizes.length : Int)) m.tables⟩
def totMd (m : MModel) : Int := (m.sizes.length : Int) + (tot m.tables : Int)
set_option maxRecDepth 100000 in
theorem markModel_n (v : Value) (B : Nat) (m : MModel) (k0 : Int) (wc w : World) (h : OModel wc B v m) (hk : Keeps B wc w) (hz : wc.heap.size ≤ w.heap.size) (hs : FitsMd m) (h0 : 0 ≤ k0) (h1 : k0 ≤ 90000000000000) :
    Calls Try.prog 22 #[v, .int .i64 k0] w fun e w' => e = .returned (.int .i64 (k0 + totMd m)) ∧ OModel w' B v (marksMd k0 m) ∧ ∃ wa, Below w.heap.size w wa ∧ Outside B wc.heap.size wa w' := by
  obtain ⟨a0, a1, rfl, o0, C, hC, hlow, o1⟩ := h
  obtain ⟨xs0, xs1⟩ := m
  obtain ⟨hs0, hs1⟩ := hs
  simp only at o0 o1 hs0 hs1
  have hb := below_alloc w (.cells #[a0, a1] 33)
  have P0 := Lib.hid (o0.same (fun k q1 q2 => (hb.block k (by omega)).trans (hk k q1 q2)))
  have P1 := Lib.hid (o1.same (w' := cutTo (w.alloc (.cells #[a0, a1] 33)) wc.heap.size) (fun k q1 q2 => (cut_block q2).trans ((hb.block k (by omega)).trans (hk k (by omega) q2))))
  have C0 := Lib.hid o0
  have C1 := Lib.hid o1
  have HLOW := Lib.hid hlow
  have HTL := Lib.hid (tot_le hs1.2)
  obtain ⟨A0, c0, rfl, -⟩ := o0.reads.form
  obtain ⟨A1, c1, rfl, -⟩ := o1.reads.form
  have t0 := bx_at w #[.slice A0 xs0.length c0, .slice A1 xs1.length c1] 33 (k := 0) rfl
  have t1 := bx_at w #[.slice A0 xs0.length c0, .slice A1 xs1.length c1] 33 (k := 1) rfl
  have hsW : (w.alloc (.cells #[.slice A0 xs0.length c0, .slice A1 xs1.length c1] 33)).heap.size = w.heap.size + 1 := by simp
  have HB := Lib.hid hb
  generalize hW : w.alloc (.cells #[.slice A0 xs0.length c0, .slice A1 xs1.length c1] 33) = W at HB hsW P0 P1 t0 t1
  have HOUT : Hid (Outside B wc.heap.size W W) := Outside.refl _ _ _
  have HSZ := Lib.hid hsW
  have HZ := Lib.hid hz
  clear o0 o1 hlow hb hk hsW hz
  go_enter Try.func22, Try.ntmps22
  go_wp2_with fail
  clear hW
  refine (markIntS_any _ B xs0 _ _ P0.out hs0 (by omega) (by omega)).mono ?_
  rintro e y0 ⟨rfl, ho, hg, hzz⟩
  have hout := outside_grown C0.out hg hzz
  have hzW : wc.heap.size ≤ W.heap.size := by have := HZ.out; have := HSZ.out; omega
  replace P1 := Lib.hid (ORows.same (w' := cutTo y0 wc.heap.size) P1.out (fun k q1 q2 => by
    rw [cut_size hzW] at q2
    rw [cut_block q2, cut_block q2]
    exact hg.block k (by omega) (fun e => by have := HLOW.out k e.symm; omega)))
  have HCB := Lib.hid (cut_below (show wc.heap.size ≤ y0.heap.size by omega))
  have HCS := Lib.hid (cut_size (show wc.heap.size ≤ y0.heap.size by omega))
  clear hzW
  replace P0 := Lib.hid ho
  replace t1 := (World.cell?_of_block (hout.block w.heap.size (.inr HZ.out))).trans t1
  replace HOUT := Lib.hid (HOUT.out.trans hout)
  clear ho hg hzz hout t0
  go_wp2_with fail
  refine (markIntSSp_any _ C xs1 _ _ _ P1.out HCB.out hs1.1 hs1.2 (by omega) (by omega)).mono ?_
  rintro e y1 ⟨rfl, ho, hout⟩
  rw [HCS.out] at hout
  replace P0 := Lib.hid (own_outside P0.out hout (fun k e => .inl (HLOW.out k e)))
  replace P1 := Lib.hid ho
  replace HOUT := Lib.hid (HOUT.out.trans (hout.mono hC (Nat.le_refl _)))
  clear ho hout t1
  have htl := HTL.out
  have hs1l := hs1.1
  go_wp2
  go_ret
  refine ⟨ret_int (by simp only [totMd]; omega), ⟨_, _, rfl, ?_, C, hC, HLOW.out, ?_⟩, W, HB.out, HOUT.out⟩
  · exact P0.out
  · exact P1.out
set_option maxRecDepth 100000 in
theorem heldModel_n (v : Value) (m : MModel) (k0 : Int) (w : World) (h : RModel w v (marksMd k0 m)) (hs : FitsMd m) (h0 : 0 ≤ k0) (h1 : k0 ≤ 90000000000000) :
    Calls Try.prog 23 #[v, .int .i64 k0] w fun e w' => e = .returned (.int .i64 (k0 + totMd m)) ∧ Below w.heap.size w w' := by
  obtain ⟨a0, a1, rfl, o0, o1⟩ := h
  obtain ⟨xs0, xs1⟩ := m
  obtain ⟨hs0, hs1⟩ := hs
  simp only [marksMd] at o0 o1 hs0 hs1
  have hb := below_alloc w (.cells #[a0, a1] 33)
  have P0 := Lib.hid (o0.keep hb)
  have P1 := Lib.hid (o1.keep hb)
  obtain ⟨A0, c0, e, -⟩ := o0.form
  rw [marks_len] at e
  subst e
  obtain ⟨A1, c1, e, -⟩ := o1.form
  rw [marksR_len] at e
  subst e
  have t0 := bx_at w #[.slice A0 xs0.length c0, .slice A1 xs1.length c1] 33 (k := 0) rfl
  have t1 := bx_at w #[.slice A0 xs0.length c0, .slice A1 xs1.length c1] 33 (k := 1) rfl
  have HB := Lib.hid hb
  generalize hW : w.alloc (.cells #[.slice A0 xs0.length c0, .slice A1 xs1.length c1] 33) = W at HB P0 P1 t0 t1
  have nn0 : (0 : Int) ≤ (xs0.length : Int) := by omega
  have nn1 : (0 : Int) ≤ (tot xs1 : Int) := by omega
  clear o0 o1 hb
  go_enter Try.func23, Try.ntmps23
  go_wp2_with fail
  clear hW
  refine (heldIntS_any _ xs0.length _ _ P0.out hs0 (by omega) (by omega)).mono ?_
  rintro e y0 ⟨rfl, hd⟩
  have hb := hd.below
  replace HB := Lib.hid (sz_keep HB.out hb)
  replace t1 := cell_keep hb t1
  replace P1 := Lib.hid (P1.out.keep hb)
  clear hd hb t0 P0
  have nk0 : ¬ (k0 + (xs0.length : Int) < 0) := by omega
  go_wp2_with fail
  refine (heldIntSS_any _ xs1 _ _ P1.out hs1.1 hs1.2 (by omega) (by omega)).mono ?_
  rintro e y1 ⟨rfl, hd⟩
  have hb := hd.below
  replace HB := Lib.hid (sz_keep HB.out hb)
  clear hd hb t1 P1
  have nk1 : ¬ (k0 + (xs0.length : Int) + (tot xs1 : Int) < 0) := by omega
  go_wp2
  go_ret
  exact ⟨ret_int (by simp only [totMd]; omega), HB.out⟩
theorem markModel_go (v : Value) (B : Nat) (m : MModel) (k0 : Int) (wc w : World) (h : OModel wc B v m) (hk : Keeps B wc w) (hz : wc.heap.size ≤ w.heap.size) (hs : FitsMd m) (h0 : 0 ≤ k0) (h1 : k0 ≤ 90000000000000) :
    Calls Try.prog 22 #[v, .int .i64 k0] w fun e w' => ∃ k : Int, e = .returned (.int .i64 k) ∧ 0 ≤ k ∧ k ≤ k0 + 2000000000000 ∧ ∃ wa, Below w.heap.size w wa ∧ Outside B wc.heap.size wa w' := by
  refine (markModel_n v B m k0 wc w h hk hz hs h0 h1).mono ?_
  rintro e w' ⟨rfl, ho, hout⟩
  obtain ⟨hs0, hs1⟩ := hs
  have htl := tot_le hs1.2
  have hs1l := hs1.1
  exact ⟨_, rfl, by unfold totMd; omega, by unfold totMd; omega, hout⟩
theorem markModel_g (v : Value) (B : Nat) (m : MModel) (wc w : World) (h : OModel wc B v m) (hk : Keeps B wc w) (hz : wc.heap.size ≤ w.heap.size) (hs : FitsMd m) :
    Calls Try.prog 22 #[v, .int .i64 1] w fun e w' => ∃ K : Int, e = .returned (.int .i64 K) ∧ 0 ≤ K ∧ (∀ w2 : World, Keeps B w' w2 → Calls Try.prog 23 #[v, .int .i64 1] w2 fun e w3 => e = .returned (.int .i64 K) ∧ Below w2.heap.size w2 w3) ∧ ∃ wa, Below w.heap.size w wa ∧ Outside B wc.heap.size wa w' := by
  refine (markModel_n v B m 1 wc w h hk hz hs (by omega) (by omega)).mono ?_
  rintro e w' ⟨rfl, ho, hout⟩
  have hs2 := hs
  obtain ⟨hs0, hs1⟩ := hs2
  exact ⟨_, rfl, by unfold totMd; omega, fun w2 hk2 => heldModel_n v m 1 w2 (ho.same hk2).reads hs (by omega) (by omega), hout⟩
end Go.Proofs.Yteccjnnhihbdhab
