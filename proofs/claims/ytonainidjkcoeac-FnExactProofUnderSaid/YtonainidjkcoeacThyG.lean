/- The exact laws' marks of theories and steps: arguments alone, to no number. -/
import Derived.Test.YtonainidjkcoeacMarkG
import Derived.Test.YtonainidjkcoeacStepR
namespace Go.Proofs.Ytonainidjkcoeac
open Go.RowKit
set_option linter.unusedVariables false

/-- rows in whatever cells of a block, that bear whatever numbers -/
structure MarkT (T : TypeId) (size n : Nat) (w wr : World) (B M : Nat) (v : Value) (us : List Value) (rows : List (List Int)) : Prop where
  own : wr.ownsRow B T size v n us
  len : us.length = rows.length
  row : ∀ (j : Nat) (u : Value) (row : List Int), us[j]? = some u → rows[j]? = some row → ∃ ys : List Int, ys.length = row.length ∧ OInts wr B u ys
  apart : ∀ (i j : Nat) (u u' : Value), i < j → us[i]? = some u → us[j]? = some u' → u.ownBlock = none ∨ u.ownBlock ≠ u'.ownBlock
  low : ∀ (j : Nat) (u : Value), us[j]? = some u → ∀ k, u.ownBlock = some k → B ≤ k ∧ k < M
  frame : Outside B M w wr
theorem MarkT.start {T : TypeId} {size n : Nat} {w0 w : World} {B : Nat} {v : Value} {rows : List (List Int)} (h : ORowsT T size n w0 B v rows) (hb : Below w0.heap.size w0 w) : ∃ us, MarkT T size n w w B w0.heap.size v us rows := by
  obtain ⟨us, h1, h2, h3, h4⟩ := h
  refine ⟨us, own_keep h1 hb, h2, fun j u row hu hr => ⟨row, rfl, (h3 j u row hu hr).keep hb⟩, h4, fun j u hu k hk => ?_, Outside.refl _ _ _⟩
  have hj : j < rows.length := by rw [← h2]; exact (List.getElem?_eq_some_iff.1 hu).1
  exact own_lt (h3 j u _ hu (List.getElem?_eq_getElem hj)) k hk
theorem MarkT.step {T : TypeId} {size n : Nat} (hT : T ≠ 3) {w wr w1 : World} {B M : Nat} {v u : Value} {us : List Value} {rows : List (List Int)} {j : Nat} {ys : List Int} (h : MarkT T size n w wr B M v us rows) (hu : us[j]? = some u) (hy : OInts w1 B u ys) (hyl : ∀ row, rows[j]? = some row → ys.length = row.length)
    (hxs : ∃ xs, OInts wr B u xs) (hg : wr.grownBy w1 u.ownBlock) (hz : w1.heap.size = wr.heap.size) : MarkT T size n w w1 B M v us rows := by
  obtain ⟨xs, hxs⟩ := hxs
  refine ⟨own_grown h.own hg (own_ne h.own hxs hT), h.len, fun i x row hx hr => ?_, h.apart, h.low, h.frame.trans ⟨hg.os, hg.tape, hg.output, hz, fun k hk => ?_⟩⟩
  · by_cases hij : i = j
    · subst hij
      rw [hu] at hx
      cases hx
      exact ⟨ys, hyl row hr, hy⟩
    · obtain ⟨zs, z1, z2⟩ := h.row i x row hx hr
      refine ⟨zs, z1, own_grown z2 hg ?_⟩
      rcases Nat.lt_or_gt_of_ne hij with hlt | hgt
      · exact h.apart i j x u hlt hx hu
      · rcases h.apart j i u x hgt hu hx with e | e
        · rw [e]
          cases x.ownBlock with
          | none => exact .inl rfl
          | some k => right; simp
        · exact .inr (fun e' => e e'.symm)
  · by_cases hkl : k < wr.heap.size
    · exact hg.block k hkl (fun e => by have := h.low j u hu k e.symm; omega)
    · rw [Array.getElem?_eq_none (by omega), Array.getElem?_eq_none (by omega)]
/-- the cells of one element, ahead of its marks -/
theorem MarkT.at3 {T : TypeId} {n : Nat} {w wr : World} {B M : Nat} {v : Value} {us : List Value} {rows : List (List Int)} (h : MarkT T 3 n w wr B M v us rows) {j : Nat} (hj : j < rows.length) :
    ∃ A c u ys, v = .slice A n c ∧ us[j]? = some u ∧ (∃ b, A = some ⟨b, 0, none⟩ ∧ wr.cell? ⟨b, j, none⟩ = some u) ∧ OInts wr B u ys ∧ ∀ row, rows[j]? = some row → ys.length = row.length := by
  obtain ⟨A, c, e, -, -, hc⟩ := wide_reads h.own
  have hjl : j < us.length := by rw [h.len]; exact hj
  obtain ⟨ys, y1, y2⟩ := h.row j us[j] rows[j] (List.getElem?_eq_getElem hjl) (List.getElem?_eq_getElem hj)
  refine ⟨A, c, us[j], ys, e, List.getElem?_eq_getElem hjl, hc j _ (List.getElem?_eq_getElem hjl), y2, fun row hr => ?_⟩
  rw [List.getElem?_eq_getElem hj] at hr
  cases hr
  exact y1

set_option maxHeartbeats 800000 in
set_option maxRecDepth 100000 in
theorem markEqS_any (v : Value) (B : Nat) (es : List MEq) (k0 : Int) (w0 w : World) (h : OEqs w0 B v es) (hb : Below w0.heap.size w0 w) (hs : FitsEs es) (h0 : 0 ≤ k0) (h1 : k0 ≤ 90000000000000) :
    Calls Try.prog 69 #[v, .int .i64 k0] w fun e w' => ∃ k : Int, e = .returned (.int .i64 k) ∧ 0 ≤ k ∧ k ≤ k0 + 4000000000000 ∧ Outside B w0.heap.size w w' := by
  obtain ⟨us, hm0⟩ := MarkT.start h hb
  have HM0 := Lib.hid hm0
  have HS := Lib.hid hs
  have HL := Lib.hid (rows3_len es)
  have hes := hs.1
  obtain ⟨A, c, rfl, -⟩ := wide_reads hm0.own
  clear h hb hm0 hs
  go_enter Try.func69, Try.ntmps69
  go_wp2
  go_loopw [1, 5] (fun l i wr => ∃ k : Nat, ∃ x : Int, k ≤ es.length ∧ i = .int .i64 k ∧ l = .int .i64 x ∧ 0 ≤ x ∧ x ≤ k0 + 3145728 * (k : Int) ∧ MarkT 49 3 es.length w wr B w0.heap.size (.slice A es.length c) us (rows3 es)) (fun _ i _ => es.length - (intOf i).toNat)
  case atStart => exact ⟨0, k0, Nat.zero_le _, rfl, rfl, h0, by omega, HM0.out⟩
  case round =>
    obtain ⟨k, x, hk, rfl, rfl, hx0, hx1, hm⟩ := hrel
    have HM := Lib.hid hm
    clear hm
    by_cases hlt : k < es.length
    · have hfe := HS.out.2 _ (List.getElem_mem hlt)
      have HR3 := Lib.hid (rows3_at es k _ (List.getElem?_eq_getElem hlt))
      have hlt' : (k : Int) < (es.length : Int) := by omega
      generalize es[k] = e at hfe HR3
      obtain ⟨f0, f1, f2⟩ := hfe
      obtain ⟨A', c', u, ys, e', hu, ⟨b, ea, hcell⟩, hyo, hyl⟩ := HM.out.at3 (j := k * 3) (by have := HL.out; omega)
      cases e'
      subst ea
      have hyb : ys.length ≤ 1048576 := by have := hyl _ HR3.out.1; omega
      have HU := Lib.hid (And.intro hu hyl)
      have HYO := Lib.hid hyo
      obtain ⟨Au, cu, rfl, -⟩ := own_reads hyo
      clear hyo hu hyl
      go_wp2_with fail
      refine (markIntS_any _ B ys _ _ HYO.out (by omega) hx0 (by omega)).mono ?_
      rintro e' w1 ⟨rfl, ho, hg, hz⟩
      have HN := Lib.hid (HM.out.step (by decide) HU.out.1 ho (fun row hr => by rw [marks_len]; exact HU.out.2 row hr) ⟨ys, HYO.out⟩ hg hz)
      clear ho hg hz hcell
      obtain ⟨A', c', u, zs, e', hu, ⟨b', ea, hcell⟩, hyo, hyl⟩ := HN.out.at3 (j := k * 3 + 1) (by have := HL.out; omega)
      cases e'
      cases ea
      have hzb : zs.length ≤ 1048576 := by have := hyl _ HR3.out.2.1; omega
      have HU := Lib.hid (And.intro hu hyl)
      have HYO := Lib.hid hyo
      obtain ⟨Au, cu, rfl, -⟩ := own_reads hyo
      clear hyo hu hyl
      go_wp2_with fail
      refine (markIntS_any _ B zs _ _ HYO.out (by omega) (by omega) (by omega)).mono ?_
      rintro e' w2 ⟨rfl, ho, hg, hz⟩
      have HN2 := Lib.hid (HN.out.step (by decide) HU.out.1 ho (fun row hr => by rw [marks_len]; exact HU.out.2 row hr) ⟨zs, HYO.out⟩ hg hz)
      clear ho hg hz hcell
      obtain ⟨A', c', u, ts, e', hu, ⟨b'', ea, hcell⟩, hyo, hyl⟩ := HN2.out.at3 (j := k * 3 + 2) (by have := HL.out; omega)
      cases e'
      cases ea
      have htb : ts.length ≤ 1048576 := by have := hyl _ HR3.out.2.2; omega
      have HU := Lib.hid (And.intro hu hyl)
      have HYO := Lib.hid hyo
      obtain ⟨Au, cu, rfl, -⟩ := own_reads hyo
      clear hyo hu hyl
      go_wp2_with fail
      refine (markIntS_any _ B ts _ _ HYO.out (by omega) (by omega) (by omega)).mono ?_
      rintro e' w3 ⟨rfl, ho, hg, hz⟩
      have HN3 := Lib.hid (HN2.out.step (by decide) HU.out.1 ho (fun row hr => by rw [marks_len]; exact HU.out.2 row hr) ⟨ts, HYO.out⟩ hg hz)
      clear ho hg hz hcell
      go_wp2
      go_roundw
      case rel => exact ⟨k + 1, _, by omega, by go_num, rfl, by omega, by omega, HN3.out⟩
      case measure => simp [intOf]; omega
    · have hlt' : ¬ (k : Int) < (es.length : Int) := by omega
      go_wp2
      go_ret
      exact ⟨x, rfl, hx0, by omega, HM.out.frame⟩

theorem OThy.sameK {w w' : World} {B : Nat} {v : Value} {t : MThy} (h : OThy w B v t) (hk : Keeps B w w') (hs : w.heap.size ≤ w'.heap.size) : OThy w' B v t := h.same hs hk

set_option maxHeartbeats 800000 in
set_option maxRecDepth 100000 in
theorem markTheory_go (v : Value) (B : Nat) (t : MThy) (k0 : Int) (wc w : World) (h : OThy wc B v t) (hk : Keeps B wc w) (hz : wc.heap.size ≤ w.heap.size) (hs : FitsT t) (h0 : 0 ≤ k0) (h1 : k0 ≤ 50000000000000) :
    Calls Try.prog 28 #[v, .int .i64 k0] w fun e w' => ∃ k : Int, e = .returned (.int .i64 k) ∧ 0 ≤ k ∧ k ≤ k0 + 8000000000000 ∧ ∃ wa, Below w.heap.size w wa ∧ Outside B wc.heap.size wa w' := by
  obtain ⟨u, x, rfl, wd, B0, z, a, b, c, d, e⟩ := h
  obtain ⟨A1, d1, rfl, -⟩ := c.reads.form
  obtain ⟨A2, d2, rfl, -⟩ := (OEqs.reads e).form
  have hb := below_alloc w (.cells #[.int .i64 t.over.sorts, .slice A1 t.over.ops.length d1, .slice A2 t.eqs.length d2] 47)
  have t0 := bx_at w #[.int .i64 t.over.sorts, .slice A1 t.over.ops.length d1, .slice A2 t.eqs.length d2] 47 (k := 0) rfl
  have t1 := bx_at w #[.int .i64 t.over.sorts, .slice A1 t.over.ops.length d1, .slice A2 t.eqs.length d2] 47 (k := 1) rfl
  have t2 := bx_at w #[.int .i64 t.over.sorts, .slice A1 t.over.ops.length d1, .slice A2 t.eqs.length d2] 47 (k := 2) rfl
  have hsW : (w.alloc (.cells #[.int .i64 t.over.sorts, .slice A1 t.over.ops.length d1, .slice A2 t.eqs.length d2] 47)).heap.size = w.heap.size + 1 := by simp
  generalize hW : w.alloc (.cells #[.int .i64 t.over.sorts, .slice A1 t.over.ops.length d1, .slice A2 t.eqs.length d2] 47) = W at hb t0 t1 t2 hsW
  have HKD : Hid (Keeps B0 wd W) := fun k q1 q2 => ((hb.block k (by omega)).trans (hk k (by omega) (by omega))).trans (d k q1 q2)
  have HS := Lib.hid hs
  have HO1 := Lib.hid (show OSig wd B0 (.agg #[.int .i64 t.over.sorts, .slice A1 t.over.ops.length d1]) t.over from ⟨_, rfl, c⟩)
  have HE := Lib.hid e
  have HK := Lib.hid hk
  have HB := Lib.hid hb
  have hzz : wd.heap.size ≤ W.heap.size := by omega
  have HT2 := Lib.hid t2
  clear hs c e hk hb d
  go_enter Try.func28, Try.ntmps28
  go_wp2_with fail
  clear hW
  refine (markSig_go _ B0 t.over k0 wd W HO1.out HKD.out hzz HS.out.1 h0 (by omega)).mono ?_
  rintro e w1 ⟨k, rfl, hk0, hk1, wa, hba, hout⟩
  have hs1 := hout.size
  have hsa := hba.size
  have n2 : w1.cell? ⟨w.heap.size, 2, none⟩ = some (.slice A2 t.eqs.length d2) := (World.cell?_of_block (hout.block w.heap.size (.inr (by omega)))).trans (cell_keep hba HT2.out)
  have HEC := Lib.hid (show OEqs (cutTo w1 wc.heap.size) wd.heap.size (.slice A2 t.eqs.length d2) t.eqs from orowsT_same HE.out fun k q1 q2 => by
    rw [cut_block q2, hout.block k (.inr q1), hba.block k (by omega), HB.out.block k (by omega)]
    exact HK.out k (by omega) q2)
  have HCB := Lib.hid (cut_below (show wc.heap.size ≤ w1.heap.size by omega))
  have HCS := Lib.hid (cut_size (show wc.heap.size ≤ w1.heap.size by omega))
  have HOUT := Lib.hid hout
  have HBA := Lib.hid hba
  clear hout hba t0 t1 t2
  go_wp2_with fail
  refine (markEqS_any _ wd.heap.size t.eqs k _ w1 HEC.out HCB.out HS.out.2 hk0 (by omega)).mono ?_
  rintro e w2 ⟨k2, rfl, hk2, hk3, hout2⟩
  rw [HCS.out] at hout2
  have HOUT2 := Lib.hid hout2
  clear hout2 n2
  go_wp2
  go_ret
  exact ⟨k2, rfl, hk2, by omega, wa, HB.out.trans (HBA.out.mono HB.out.size), (HOUT.out.mono z (by omega)).trans (HOUT2.out.mono (by omega) (Nat.le_refl _))⟩

end Go.Proofs.Ytonainidjkcoeac
