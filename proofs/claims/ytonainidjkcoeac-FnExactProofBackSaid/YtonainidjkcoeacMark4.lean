/- The exact laws' marks of lists of steps, to the number: markStepS, heldStepS. -/
import Derived.Test.YtonainidjkcoeacMark3
namespace Go.Proofs.Ytonainidjkcoeac
open Go.RowKit
set_option linter.unusedVariables false

set_option maxHeartbeats 800000 in
set_option maxRecDepth 100000 in
theorem markStepS_q (v : Value) (B : Nat) (ps : List MStep) (k0 : Int) (wc w : World) (h : OSteps wc B v ps) (hk : Keeps B wc w) (hz : wc.heap.size ≤ w.heap.size) (hs : FitsQ ps) (h0 : 0 ≤ k0) (h1 : k0 ≤ 80000000000000) :
    Calls Try.prog 13 #[v, .int .i64 k0] w fun e w' => e = .returned (.int .i64 (mkAt k0 ps ps.length)) ∧ OSteps w' B v (marksPs k0 ps) ∧ Outside B wc.heap.size w w' := by
  obtain ⟨g, c, cur, rg, rfl, g1, g2, g3, g4, g5, g6, g7⟩ := h
  have hgl := (Array.getElem?_eq_some_iff.1 g2).1
  have hps := hs.1.1
  have hus : ∃ us : Nat → Value, ∀ j p, ps[j]? = some p → cur[j * 4 + 3]? = some (us j) ∧ InR wc (rg j) (us j) p.terms ∧ B ≤ (rg j).1 ∧ (rg j).2 ≤ wc.heap.size ∧ (g < (rg j).1 ∨ (rg j).2 ≤ g) := by
    refine ⟨fun j => (cur[j * 4 + 3]?).getD (.bool false), fun j p hj => ?_⟩
    obtain ⟨u, -, -, -, c3, r, a, b, d⟩ := g6 j p hj
    simp only [c3, Option.getD_some]
    exact ⟨trivial, r, a, b, d⟩
  obtain ⟨us, hus⟩ := hus
  have hm : MarkQ w w B wc.heap.size g c ps.length us rg ps k0 0 := by
    refine ⟨⟨cur, (hk g g1 hgl).trans g2, g5, fun j hj => (hus j _ (List.getElem?_eq_getElem hj)).1, fun j hj => by omega⟩, fun j p hj => by omega, fun j p _ hp => ?_, fun j p hp => ?_, Outside.refl _ _ _⟩
    · obtain ⟨-, r, a, b, d⟩ := hus j p hp
      exact r.same fun x x1 x2 => hk x (by omega) (by omega)
    · obtain ⟨-, r, a, b, d⟩ := hus j p hp
      exact ⟨a, b, d⟩
  have HM := Lib.hid hm
  have HS := Lib.hid hs
  have HAP := Lib.hid g7
  clear g2 g6 g7 hus hm hk hs g5
  go_enter Try.func13, Try.ntmps13
  go_wp2
  go_loopw [1, 5] (fun l i wr => ∃ k : Nat, ∃ x : Int, k ≤ ps.length ∧ i = .int .i64 k ∧ l = .int .i64 x ∧ 0 ≤ x ∧ x = mkAt k0 ps k ∧ MarkQ w wr B wc.heap.size g c ps.length us rg ps k0 k) (fun _ i _ => ps.length - (intOf i).toNat)
  case atStart => exact ⟨0, k0, Nat.zero_le _, rfl, rfl, h0, by simp [mkAt, totP], HM.out⟩
  case round =>
    obtain ⟨k, x, hk, rfl, rfl, hx0, hx1, hm⟩ := hrel
    have HMK := Lib.hid hm
    have HX1 := Lib.hid hx1
    have htp : totP (ps.take k) ≤ totP ps := by
      have : ∀ (l : List MStep) (n : Nat), totP (l.take n) ≤ totP l := fun l => by
        induction l with
        | nil => intro n; simp
        | cons a l ih => intro n; cases n with
          | zero => simp [totP]
          | succ n => have := ih n; simp only [List.take_succ_cons, totP]; omega
      exact this ps k
    have hxb : x ≤ 80000000000000 + 3 * 1048576 + 1048576 := by have := HS.out.2; have h9 := HX1.out; unfold mkAt at h9; omega
    clear hm hx1 htp
    by_cases hlt : k < ps.length
    · have hlt' : (k : Int) < (ps.length : Int) := by omega
      have HTT := Lib.hid (totP_take hlt)
      have HFP := Lib.hid (show Fits ps[k].terms from HS.out.1.2 _ (List.getElem_mem hlt))
      have HPK := Lib.hid (List.getElem?_eq_getElem hlt)
      obtain ⟨z0, m0, n0⟩ := HMK.out.cell (j := k * 4) (by omega)
      have h1m := HMK.out.set g1 hgl (i := k * 4) (by omega) (by omega) (.int .i64 x)
      obtain ⟨z1, m1, n1⟩ := h1m.cell (j := k * 4 + 1) (by omega)
      have h2m := h1m.set g1 hgl (i := k * 4 + 1) (by omega) (by omega) (.bool ((x + 1) % 3 == 0))
      obtain ⟨z2, m2, n2⟩ := h2m.cell (j := k * 4 + 2) (by omega)
      have h3m := h2m.set g1 hgl (i := k * 4 + 2) (by omega) (by omega) (.int .i64 (x + 1 + 1))
      generalize hW3 : ((wr.setCell ⟨g, k * 4, none⟩ (.int .i64 x)).setCell ⟨g, k * 4 + 1, none⟩ (.bool ((x + 1) % 3 == 0))).setCell ⟨g, k * 4 + 2, none⟩ (.int .i64 (x + 1 + 1)) = W3 at h3m
      have hs3 : W3.heap.size = w.heap.size := h3m.frame.size
      have hin := h3m.todo k ps[k] (Nat.le_refl _) (List.getElem?_eq_getElem hlt)
      obtain ⟨hlo, hhi, -⟩ := h3m.rng k ps[k] (List.getElem?_eq_getElem hlt)
      obtain ⟨Ak, ck, hke, -⟩ := hin.rows.reads.form
      have m3 : W3.cell? ⟨g, k * 4 + 3, none⟩ = some (us k) := by
        obtain ⟨cur', b1, b2, b3, -⟩ := h3m.blk
        exact (blk_cell b1 _).trans (b3 k hlt)
      have hsc : (cutTo W3 (rg k).2).heap.size = (rg k).2 := cut_size (by omega)
      have hcb := cut_below (w := W3) (M := (rg k).2) (by omega)
      have HOC := Lib.hid (show ORows (cutTo W3 (rg k).2) (rg k).1 (us k) ps[k].terms by
        obtain ⟨wd, e1, e2, e3⟩ := hin
        exact orows_same e2 fun i a b => (cut_block (by omega)).trans (e3 i a (by omega)))
      have HCB := Lib.hid hcb
      have HSC := Lib.hid hsc
      rw [hke] at m3 HOC
      have htt : (tot ps[k].terms : Int) ≤ 1048576 := by
        have h5 := HS.out.2
        have : ∀ (l : List MStep) (n : Nat), totP (l.take n) ≤ totP l := fun l => by
          induction l with
          | nil => intro n; simp
          | cons a l ih => intro n; cases n with
            | zero => simp [totP]
            | succ n => have := ih n; simp only [List.take_succ_cons, totP]; omega
        have h6 := this ps (k + 1)
        have h7 := HTT.out
        omega
      have HSTEP := Lib.hid (fun (w1 : World) (ho : Outside (rg k).1 (rg k).2 W3 w1) (hi : InR w1 (rg k) (.slice Ak ps[k].terms.length ck) (marksR (x + 1 + 1 + 1) ps[k].terms)) => HMK.out.step HX1.out g1 hgl hlt rfl g3 HAP.out (by rw [hW3]; exact ho) (by rw [hke]; exact hi))
      generalize ps[k].terms = rows at m3 HOC HFP HTT htt hke HSTEP
      have HFP2 := Lib.hid (show Fits rows from HFP.out)
      clear hin hsc hcb h1m h2m h3m hke
      go_wp2_with fail
      clear hW3
      refine (markIntSSc_any _ (rg k).1 rows _ _ W3 HOC.out HCB.out HFP2.out.1 HFP2.out.2 (by omega) (by omega)).mono ?_
      rintro e w1 ⟨rfl, hoc, hout⟩
      rw [HSC.out] at hout hoc
      have hs1 := hout.size
      have HN := Lib.hid (HSTEP.out w1 hout ⟨cutTo w1 (rg k).2, cut_size (by omega), hoc, fun i a b => (cut_block b).symm⟩)
      clear hout m0 m1 m2 m3 n0 n1 n2
      go_wp2
      go_roundw
      case rel =>
        have a1 := HX1.out
        have a2 := HTT.out
        exact ⟨k + 1, _, by omega, by go_num, rfl, by omega, by unfold mkAt at a1 ⊢; rw [a2]; omega, HN.out⟩
      case measure => simp [intOf]; omega
    · have hlt' : ¬ (k : Int) < (ps.length : Int) := by omega
      have hkn : k = ps.length := by omega
      have HKN := Lib.hid hkn
      clear hkn
      go_wp2
      go_ret
      have e1 := HX1.out
      have e2 := HKN.out
      refine ⟨ret_int (by rw [e1, e2]), HMK.out.all e2 g1 g3 g4 (by have := HMK.out.frame.size; omega) HAP.out, HMK.out.frame⟩

set_option maxHeartbeats 800000 in
set_option maxRecDepth 100000 in
theorem heldStepS_any (v : Value) (ps : List MStep) (k0 : Int) (w : World) (h : RSteps w v (marksPs k0 ps)) (hs : FitsQ ps) (h0 : 0 ≤ k0) (h1 : k0 ≤ 80000000000000) :
    Calls Try.prog 14 #[v, .int .i64 k0] w fun e w' => e = .returned (.int .i64 (mkAt k0 ps ps.length)) ∧ Below w.heap.size w w' := by
  have H := Lib.hid h
  have HS := Lib.hid hs
  have hps := hs.1.1
  obtain ⟨A, c, e, -⟩ := h.form
  rw [marksPs_len] at e
  subst e
  clear h hs
  go_enter Try.func14, Try.ntmps14
  go_wp2
  go_loopw [1, 5] (fun l i wr => ∃ k : Nat, ∃ x : Int, k ≤ ps.length ∧ i = .int .i64 k ∧ l = .int .i64 x ∧ 0 ≤ x ∧ x = mkAt k0 ps k ∧ Below w.heap.size w wr) (fun _ i _ => ps.length - (intOf i).toNat)
  case atStart => exact ⟨0, k0, Nat.zero_le _, rfl, rfl, h0, by simp [mkAt, totP], Below.refl _ _⟩
  case round =>
    obtain ⟨k, x, hk, rfl, rfl, hx0, hx1, hb⟩ := hrel
    have HB := Lib.hid hb
    have HX1 := Lib.hid hx1
    have htp : ∀ n, totP (ps.take n) ≤ totP ps := by
      have : ∀ (l : List MStep) (n : Nat), totP (l.take n) ≤ totP l := fun l => by
        induction l with
        | nil => intro n; simp
        | cons a l ih => intro n; cases n with
          | zero => simp [totP]
          | succ n => have := ih n; simp only [List.take_succ_cons, totP]; omega
      exact this ps
    have hxb : x ≤ 80000000000000 + 3 * 1048576 + 1048576 := by have := HS.out.2; have := htp k; unfold mkAt at hx1; omega
    clear hb hx1
    by_cases hlt : k < ps.length
    · have hlt' : (k : Int) < (ps.length : Int) := by omega
      obtain ⟨b, o, c', u, e, c0, c1, c2, c3, q0⟩ := (H.out.keep HB.out).at_ (k := k) (by rw [marksPs_len]; exact hlt)
      rw [marksPs_len] at e
      cases e
      have hel : (marksPs k0 ps)[k]'(by rw [marksPs_len]; exact hlt) = markP (mkAt k0 ps k) ps[k] := by
        have := marksPs_at ps k0 k
        rw [List.getElem?_eq_getElem (by rw [marksPs_len]; exact hlt), List.getElem?_eq_getElem hlt] at this
        simpa using this
      rw [hel, ← HX1.out] at c0 c1 c2 q0
      simp only [markP] at c0 c1 c2 q0
      have HFP := Lib.hid (show Fits ps[k].terms from HS.out.1.2 _ (List.getElem_mem hlt))
      have HTT := Lib.hid (totP_take hlt)
      have htt : (tot ps[k].terms : Int) ≤ 1048576 := by
        have h5 := HS.out.2
        have h6 := htp (k + 1)
        have h7 := HTT.out
        omega
      clear hel htp
      generalize ps[k].terms = rows at q0 HFP HTT htt
      obtain ⟨A1, d1, e1, -⟩ := q0.form
      rw [marksR_len] at e1
      subst e1
      have HQ := Lib.hid q0
      clear q0
      have e2 : (x != x) = false := by simp
      have e3 : (x + 1 + 1 != x + 1 + 1) = false := by simp
      go_wp2_with fail
      refine (heldIntSS_any _ rows _ _ HQ.out HFP.out.1 HFP.out.2 (by omega) (by omega)).mono ?_
      rintro e w1 ⟨rfl, hd⟩
      have HB1 := Lib.hid (sz_keep HB.out hd.below)
      clear hd c0 c1 c2 c3
      go_wp2
      go_roundw
      case rel =>
        have a1 := HX1.out
        have a2 := HTT.out
        exact ⟨k + 1, _, by omega, by go_num, rfl, by omega, by unfold mkAt at a1 ⊢; rw [a2]; omega, HB1.out⟩
      case measure => simp [intOf]; omega
    · have hlt' : ¬ (k : Int) < (ps.length : Int) := by omega
      have hkn : k = ps.length := by omega
      have HKN := Lib.hid hkn
      clear hkn
      go_wp2
      go_ret
      have e1 := HX1.out
      have e2 := HKN.out
      exact ⟨ret_int (by rw [e1, e2]), HB.out⟩

theorem markStepS_g (v : Value) (B : Nat) (ps : List MStep) (wc w : World) (h : OSteps wc B v ps) (hk : Keeps B wc w) (hz : wc.heap.size ≤ w.heap.size) (hs : FitsQ ps) :
    Calls Try.prog 13 #[v, .int .i64 1] w fun e w' => ∃ K : Int, e = .returned (.int .i64 K) ∧ 0 ≤ K ∧ (∀ w2 : World, Keeps B w' w2 → w'.heap.size ≤ w2.heap.size → Calls Try.prog 14 #[v, .int .i64 1] w2 fun e w3 => e = .returned (.int .i64 K) ∧ Below w2.heap.size w2 w3) ∧ ∃ wa, Below w.heap.size w wa ∧ Outside B wc.heap.size wa w' := by
  refine (markStepS_q v B ps 1 wc w h hk hz hs (by omega) (by omega)).mono ?_
  rintro e w' ⟨rfl, ho, hout⟩
  refine ⟨_, rfl, by unfold mkAt; omega, fun w2 hk2 hz2 => ?_, w, Below.refl _ _, hout⟩
  exact heldStepS_any v ps 1 w2 (ho.same hz2 hk2).reads hs (by omega) (by omega)
end Go.Proofs.Ytonainidjkcoeac
