/- ViewSelf of package spec: the view of a theory in itself. -/
import Derived.Test.YtbopcghbmbchkaaKfed4b1f5
import Derived.Deep.DeepCutAuto
namespace Go.Proofs.Ytbopcghbmbchkaa
section
open Go.RowKit
set_option linter.unusedVariables false
set_option linter.unusedSimpArgs false

theorem lit1p (w : World) (x : Int) : OInts (w.alloc (.cells #[.int .i64 x] 3)) w.heap.size (.slice (some ⟨w.heap.size, 0, none⟩) 1 1) [x] :=
  ⟨by simp, .inr ⟨w.heap.size, 1, _, rfl, Nat.le_refl _, heap_alloc_new w _, Nat.le_refl _, by rw [maxLen_eq]; omega, by simp, by simp⟩⟩
theorem cells_one (w : World) (x : Value) (T : TypeId) : ∀ (j : Nat) (u : Value), [x][j]? = some u → (w.alloc (.cells #[x] T)).cell? ((⟨w.heap.size, 0, none⟩ : Addr).add j) = some u := by
  intro j u hj
  match j, hj with
  | 0, hj =>
    simp at hj
    subst hj
    simp [Addr.add]
  | j + 1, hj => simp at hj
theorem bel_moreS {a b c : World} {row : Option Nat} (hb : Below a.heap.size a b) (hg : b.grownBy c row) (hr : ∀ k, row = some k → a.heap.size ≤ k) : Below a.heap.size a c :=
  ⟨hg.os.trans hb.os, hg.tape.trans hb.tape, hg.output.trans hb.output, Nat.le_trans hb.size hg.size, fun k hk => (hg.block k (Nat.lt_of_lt_of_le hk hb.size) (fun e => by have := hr k e.symm; omega)).trans (hb.block k hk)⟩
/-- one row more; w6: ahead of the append's one-place slice; rv: the new row, in a block of its own -/
theorem push_letter {wr w6 w7 : World} {B : Nat} {u v' rv : Value} {rows : List (List Int)} {row : List Int} {us : List Value} (hB : B ≤ wr.heap.size) (hb : Below wr.heap.size wr w6) (hr : OInts w6 wr.heap.size rv row)
    (h1 : wr.ownsRow B 28 1 u rows.length us) (h2 : us.length = rows.length)
    (h3 : ∀ (j : Nat) (u : Value) (row : List Int), us[j]? = some u → rows[j]? = some row → OInts wr B u row) (h4 : ∀ (i j : Nat) (u u' : Value), i < j → us[i]? = some u → us[j]? = some u' → u.ownBlock = none ∨ u.ownBlock ≠ u'.ownBlock)
    (hv' : w7.ownsRow B 28 1 v' (rows.length + 1) (us ++ [rv])) (hg : (w6.alloc (.cells #[rv] 28)).grownBy w7 u.ownBlock) : ORows w7 B v' (rows ++ [row]) := by
  refine ORows.push (w := w6.alloc (.cells #[rv] 28)) ((own_keep h1 hb).alloc _) h2 (fun j x r a b => World.ownsRow.alloc (own_keep (h3 j x r a b) hb) _) h4 (World.ownsRow.alloc (OInts.base hr hB) _) (fun i x hx => ?_) hg hv'
  have hi : i < us.length := (List.getElem?_eq_some_iff.1 hx).1
  have hxo := h3 i x rows[i] hx (List.getElem?_eq_getElem (by omega))
  cases hbx : x.ownBlock with
  | none => exact .inl rfl
  | some k =>
    right
    intro e
    have a := (own_lt hxo k hbx).2
    have b := (own_lt hr k e.symm).1
    omega
theorem no_letters (w : World) : ORows (w.alloc (.cells #[] 28)) w.heap.size (.slice (some ⟨w.heap.size, 0, none⟩) 0 0) (letR 0) :=
  ⟨[], World.ownsRow_lit w #[] 0 (Nat.le_refl _) (Nat.zero_le _) rfl, rfl, fun j u row h => by simp at h, fun i j u u' _ h => by simp at h⟩
set_option maxHeartbeats 12800000 in
set_option maxRecDepth 100000 in
theorem specViewSelf_any (t : MThy) (w : World) (v : Value) (hst : SmallT t) (h : RThy w v t) :
    Calls Try.prog 15 #[v] w fun x w' => ∃ u, x = .returned u ∧ OViewN w' w.heap.size u (viewSelfM t) ∧ Below w.heap.size w w' := by
  obtain ⟨Ata, cta, Atb, ctb, rfl⟩ := h.form
  have hb : Below w.heap.size w ((w.alloc (.cells #[.int .i64 t.over.sorts, .slice Ata t.over.ops.length cta, .slice Atb t.eqs.length ctb] 40)).alloc (.cells #[.slice none 0 0, .slice none 0 0, .slice none 0 0] 45)) := (below_alloc _ _).alloc (by simp) _
  have HB := Lib.hid hb
  have hsz : ((w.alloc (.cells #[.int .i64 t.over.sorts, .slice Ata t.over.ops.length cta, .slice Atb t.eqs.length ctb] 40)).alloc (.cells #[.slice none 0 0, .slice none 0 0, .slice none 0 0] 45)).heap.size = w.heap.size + 2 := by simp
  have Ht := Lib.hid (h.keep hb)
  have t0 := cell_keep (below_alloc (w.alloc (.cells #[.int .i64 t.over.sorts, .slice Ata t.over.ops.length cta, .slice Atb t.eqs.length ctb] 40)) (.cells #[.slice none 0 0, .slice none 0 0, .slice none 0 0] 45)) (bx_at (w) #[.int .i64 t.over.sorts, .slice Ata t.over.ops.length cta, .slice Atb t.eqs.length ctb] 40 (k := 0) rfl)
  have t1 := cell_keep (below_alloc (w.alloc (.cells #[.int .i64 t.over.sorts, .slice Ata t.over.ops.length cta, .slice Atb t.eqs.length ctb] 40)) (.cells #[.slice none 0 0, .slice none 0 0, .slice none 0 0] 45)) (bx_at (w) #[.int .i64 t.over.sorts, .slice Ata t.over.ops.length cta, .slice Atb t.eqs.length ctb] 40 (k := 1) rfl)
  have t2 := cell_keep (below_alloc (w.alloc (.cells #[.int .i64 t.over.sorts, .slice Ata t.over.ops.length cta, .slice Atb t.eqs.length ctb] 40)) (.cells #[.slice none 0 0, .slice none 0 0, .slice none 0 0] 45)) (bx_at (w) #[.int .i64 t.over.sorts, .slice Ata t.over.ops.length cta, .slice Atb t.eqs.length ctb] 40 (k := 2) rfl)
  have HZr := Lib.hid (show ((w.alloc (.cells #[.int .i64 t.over.sorts, .slice Ata t.over.ops.length cta, .slice Atb t.eqs.length ctb] 40)).alloc (.cells #[.slice none 0 0, .slice none 0 0, .slice none 0 0] 45)).heap[w.heap.size + 1]? = some (.cells #[.slice none 0 0, .slice none 0 0, .slice none 0 0] 45 (0, 0)) from (congrArg (fun i => ((w.alloc (.cells #[.int .i64 t.over.sorts, .slice Ata t.over.ops.length cta, .slice Atb t.eqs.length ctb] 40)).alloc (.cells #[.slice none 0 0, .slice none 0 0, .slice none 0 0] 45)).heap[i]?) (by simp)).trans (heap_alloc_new (w.alloc (.cells #[.int .i64 t.over.sorts, .slice Ata t.over.ops.length cta, .slice Atb t.eqs.length ctb] 40)) _))
  generalize hW : (w.alloc (.cells #[.int .i64 t.over.sorts, .slice Ata t.over.ops.length cta, .slice Atb t.eqs.length ctb] 40)).alloc (.cells #[.slice none 0 0, .slice none 0 0, .slice none 0 0] 45) = W at HB hsz Ht t0 t1 t2 HZr
  clear hb h
  have HST := Lib.hid hst
  have hlt := Ht.out.of.2.2.len
  clear hst
  cases hva : thyB t with
  | false =>
    have HA := Lib.hid hva
    have HE := Lib.hid (show viewSelfM t = ⟨⟨[], []⟩, []⟩ by unfold viewSelfM; rw [hva]; rfl)
    clear hva
    go_enter Try.func15, Try.ntmps15
    go_wp2_with fail
    clear hW
    refine (specTheoryOk_any t _ _ Ht.out).mono ?_
    rw [HA.out]
    rintro e w1 ⟨rfl, hb⟩
    replace HZr := Lib.hid (blk_keep HZr.out hb)
    replace HB := Lib.hid (sz_keep HB.out hb)
    replace t0 := cell_keep hb t0
    replace t1 := cell_keep hb t1
    replace t2 := cell_keep hb t2
    replace Ht := Lib.hid (Ht.out.keep hb)
    clear hb
    clear t0 t1 t2
    have j0 := blk_cell HZr.out 0
    have j1 := blk_cell HZr.out 1
    have j2 := blk_cell HZr.out 2
    have jf0 := blk_free HZr.out 0
    have jf1 := blk_free HZr.out 1
    have jf2 := blk_free HZr.out 2
    simp at j0 j1 j2
    go_wp2
    have d1 := blk_set (blk_set (blk_set (HZr.out) 0 (.slice none 0 0)) 1 (.slice none 0 0)) 2 (.slice none 0 0)
    have hbz := (((HB.out.setCell (p := ⟨w.heap.size + 1, 0, none⟩) (by show w.heap.size ≤ w.heap.size + 1; omega) (.slice none 0 0)).setCell (p := ⟨w.heap.size + 1, 1, none⟩) (by show w.heap.size ≤ w.heap.size + 1; omega) (.slice none 0 0)).setCell (p := ⟨w.heap.size + 1, 2, none⟩) (by show w.heap.size ≤ w.heap.size + 1; omega) (.slice none 0 0))
    generalize ((w1.setCell ⟨w.heap.size + 1, 0, none⟩ (.slice none 0 0)).setCell ⟨w.heap.size + 1, 1, none⟩ (.slice none 0 0)).setCell ⟨w.heap.size + 1, 2, none⟩ (.slice none 0 0) = wz at d1 hbz  ⊢
    have k0 := blk_cell d1 0
    have k1 := blk_cell d1 1
    have k2 := blk_cell d1 2
    simp at k0 k1 k2
    clear j0 j1 j2 jf0 jf1 jf2
    refine bodyPost_ret (v := .agg #[.slice none 0 0, .slice none 0 0, .slice none 0 0]) (by simp [results, Try.results15, go_sem, k0, k1, k2]) rfl ?_
    exact ⟨_, rfl, by rw [HE.out]; exact ⟨_, _, _, rfl, wz, w.heap.size, Nat.le_refl _, hbz.size, Nat.le_refl _, ⟨_, _, rfl, OInts.nil _ _, OInts.nil _ _, .inl rfl⟩, fun _ _ _ => rfl, .inr ⟨rfl, rfl⟩⟩, hbz⟩
  | true =>
    have HA := Lib.hid hva
    obtain ⟨ms, hms⟩ : ∃ ms, selfM t.over = ms := ⟨_, rfl⟩
    have HE := Lib.hid (show viewSelfM t = ⟨ms, selfPs t.eqs t.eqs.length⟩ by unfold viewSelfM; rw [hva, hms]; rfl)
    have HMS := Lib.hid hms
    have h6 := thy_few hva
    clear hva hms
    go_enter Try.func15, Try.ntmps15
    go_wp2_with fail
    clear hW
    refine (specTheoryOk_any t _ _ Ht.out).mono ?_
    rw [HA.out]
    rintro e w1 ⟨rfl, hb⟩
    replace HZr := Lib.hid (blk_keep HZr.out hb)
    replace HB := Lib.hid (sz_keep HB.out hb)
    replace t0 := cell_keep hb t0
    replace t1 := cell_keep hb t1
    replace t2 := cell_keep hb t2
    replace Ht := Lib.hid (Ht.out.keep hb)
    clear hb
    have hz1 : w.heap.size + 1 < w1.heap.size := (Array.getElem?_eq_some_iff.1 HZr.out).1
    go_wp2_with fail
    refine (specMapSelf_any t.over _ _ (show RSig _ (.agg #[.int .i64 t.over.sorts, .slice Ata t.over.ops.length cta]) t.over from ⟨_, rfl, Ht.out.of.2.1⟩)).mono ?_
    rw [HMS.out]
    rintro e w2 ⟨u2, rfl, hom, hb⟩
    have hz12 := hb.size
    replace HZr := Lib.hid (blk_keep HZr.out hb)
    replace HB := Lib.hid (sz_keep HB.out hb)
    replace t0 := cell_keep hb t0
    replace t1 := cell_keep hb t1
    replace t2 := cell_keep hb t2
    replace Ht := Lib.hid (Ht.out.keep hb)
    clear hb
    obtain ⟨U0, n0, U1, n1, rfl⟩ := hom.reads.form
    have HOM := Lib.hid hom
    have HC2 := Lib.hid t2
    clear hom
    obtain ⟨i1, hj, hy0, hy1, hy2⟩ := info_parts Try.tinfo_StepS
    have hb3 := below_alloc w2 (.cells #[.slice none 0 0, .slice none 0 0, .slice none 0 0] 45)
    have hl3 : (w2.alloc (.cells #[.slice none 0 0, .slice none 0 0, .slice none 0 0] 45)).heap[w2.heap.size]? = some (.cells #[.slice none 0 0, .slice none 0 0, .slice none 0 0] 45 (0, 0)) := heap_alloc_new w2 _
    generalize hW3 : w2.alloc (.cells #[.slice none 0 0, .slice none 0 0, .slice none 0 0] 45) = W3 at hb3 hl3
    have hl4 := blk_set (blk_set (blk_set hl3 0 (.slice U0 ms.sorts.length n0)) 1 (.slice U1 ms.ops.length n1)) 2 (.slice none 0 0)
    have hb4 : Below w2.heap.size w2 (((W3.setCell ⟨w2.heap.size, 0, none⟩ (.slice U0 ms.sorts.length n0)).setCell ⟨w2.heap.size, 1, none⟩ (.slice U1 ms.ops.length n1)).setCell ⟨w2.heap.size, 2, none⟩ (.slice none 0 0)) := ((hb3.setCell (p := ⟨w2.heap.size, 0, none⟩) (Nat.le_refl _) _).setCell (p := ⟨w2.heap.size, 1, none⟩) (Nat.le_refl _) _).setCell (p := ⟨w2.heap.size, 2, none⟩) (Nat.le_refl _) _
    have j0 := blk_cell hl3 0
    have j1 := blk_cell hl3 1
    have j2 := blk_cell hl3 2
    have jf0 := blk_free hl3 0
    have jf1 := blk_free hl3 1
    have jf2 := blk_free hl3 2
    simp at j0 j1 j2
    generalize hW4 : ((W3.setCell ⟨w2.heap.size, 0, none⟩ (.slice U0 ms.sorts.length n0)).setCell ⟨w2.heap.size, 1, none⟩ (.slice U1 ms.ops.length n1)).setCell ⟨w2.heap.size, 2, none⟩ (.slice none 0 0) = W4 at hl4 hb4
    have HL4 := Lib.hid (show W4.heap[w2.heap.size]? = some (.cells #[.slice U0 ms.sorts.length n0, .slice U1 ms.ops.length n1, .slice none 0 0] 45 (0, 0)) from hl4)
    have HB4 := Lib.hid hb4
    replace t2 := cell_keep hb4 t2
    clear hb3 hl3 hl4 hb4 t0 t1
    go_wp2
    clear hW3 hW4 j0 j1 j2 jf0 jf1 jf2 t2
    go_loopw [4, 5, 6] (fun i _ _ wr => ∃ (k : Nat) (pv : Value), k ≤ t.eqs.length ∧ i = .int .i64 k ∧ wr.heap[w2.heap.size]? = some (.cells #[.slice U0 ms.sorts.length n0, .slice U1 ms.ops.length n1, pv] 45 (0, 0)) ∧ PPs wr (w2.heap.size + 1) pv (selfPs t.eqs k) ∧ Below w2.heap.size w2 wr) (fun i _ _ _ => t.eqs.length - (intOf i).toNat)
    case atStart => exact ⟨0, _, Nat.zero_le _, rfl, HL4.out, PPs.nil _ _, HB4.out⟩
    case round =>
      obtain ⟨k, pv, hk, rfl, hbx, hpp, hd⟩ := hrel
      have HBX := Lib.hid hbx
      have HPP := Lib.hid hpp
      have HD := Lib.hid hd
      have HLN := Lib.hid (selfPs_len t.eqs k)
      have HTK := Lib.hid (fun (h : k < t.eqs.length) => selfPs_succ t.eqs h)
      have HALL := Lib.hid (fun (h : k = t.eqs.length) => (show selfPs t.eqs t.eqs.length = selfPs t.eqs k by rw [h]))
      generalize selfPs t.eqs k = pss at hpp HPP HLN HTK HALL
      obtain ⟨us0, -, ho0, -⟩ := id hpp
      obtain ⟨Ap, cp, rfl, -⟩ := own_reads ho0
      have n2 := cell_keep hd HC2.out
      have hszd := hd.size
      have hbl := (Array.getElem?_eq_some_iff.1 HBX.out).1
      clear hpp ho0
      by_cases hlt2 : k < t.eqs.length
      · obtain ⟨wo, rfl⟩ : ∃ wo : World, wo = wr := ⟨_, rfl⟩
        have hlt' : (k : Int) < (t.eqs.length : Int) := by omega
        obtain ⟨b4, o4, c4, y0, y1, y2, e4, c00, -, -, r0, -, -⟩ := (Ht.out.of.2.2.keep hd).at_ hlt2
        cases e4
        have HTS := Lib.hid (HTK.out hlt2)
        have hv4 : t.eqs[k].vars.length ≤ 4 := by
          have he := thy_eq HA.out hlt2
          unfold eqOkB at he
          simp only [Bool.and_eq_true, decide_eq_true_eq] at he
          obtain ⟨tm, hv, -⟩ := sortM_to he.1
          exact (vars_valid hv).2.1
        generalize t.eqs[k] = e at r0 HTS hv4
        obtain ⟨A0, g0, rfl, -⟩ := r0.form
        have HC0 := Lib.hid c00
        have HN2 := Lib.hid n2
        have HNL := Lib.hid (no_letters wo)
        have HNB := Lib.hid (below_alloc wo (.cells #[] 28))
        have HPM := Lib.hid (show pss.length + 1 ≤ maxLen ∧ (pss.length + 1) * 24 ≤ 140737488355328 by have hlk := HLN.out; rw [maxLen_eq]; omega)
        clear r0 hbx hd c00
        go_wp2
        clear n2
        go_loopw [5, 6] (fun o i wr => ∃ j : Nat, j ≤ e.vars.length ∧ i = .int .i64 j ∧ ORows wr wo.heap.size o (letR j) ∧ Below wo.heap.size wo wr) (fun _ i _ => e.vars.length - (intOf i).toNat)
        case atStart => exact ⟨0, Nat.zero_le _, rfl, HNL.out, HNB.out⟩
        case round =>
          obtain ⟨j, hj0, rfl, hor, hbj⟩ := hrel
          have HBJ := Lib.hid hbj
          have HOR := Lib.hid hor
          have n2 := cell_keep hbj HN2.out
          have c00 := cell_keep hbj HC0.out
          obtain ⟨us, h1, h2, h3, h4⟩ := hor
          obtain ⟨As, cs, rfl, -⟩ := own_reads h1
          have H1 := Lib.hid h1
          have HO := Lib.hid (And.intro h2 (And.intro h3 h4))
          have hzr := hbj.size
          have hsl := letR_len j
          rw [hsl] at h1
          have H1' := Lib.hid h1
          have HOR2 := Lib.hid (show ORows wr wo.heap.size (.slice As j cs) (letR j) from by have h := HOR.out; rw [hsl] at h; exact h)
          clear h1 h2 h3 h4 hbj
          rw [hsl]
          have HSL := Lib.hid hsl
          clear hsl
          by_cases hjl : j < e.vars.length
          · have hjl' : (j : Int) < (e.vars.length : Int) := by omega
            have hown := (H1'.out.alloc (.cells #[.int .i64 (100 + (j : Int))] 3)).alloc (.cells #[.slice (some ⟨wr.heap.size, 0, none⟩) 1 1] 28)
            have hw : IntKind.i64.wrap (100 + (j : Int)) = 100 + (j : Int) := by rw [IntKind.wrap_i64]; omega
            have HNR := Lib.hid (cells_one (wr.alloc (.cells #[.int .i64 (100 + (j : Int))] 3)) (.slice (some ⟨wr.heap.size, 0, none⟩) 1 1) 28)
            rw [show (wr.alloc (.cells #[.int .i64 (100 + (j : Int))] 3)).heap.size = wr.heap.size + 1 by simp] at HNR
            obtain ⟨i2, hi2, hx0, hx1, hx2⟩ := info_parts Try.tinfo_ints
            go_wp2_with (at_builtin; refine wpList_append_own_at _ rfl _ _ 22 rfl wo.heap.size 28 i2 (.slice none 0 0) 1 24 Try.underlying22 hi2 hx0 hx1 hx2 rfl (by decide) _ j us rfl hown ⟨wr.heap.size + 1, 0, none⟩ 1 1 [.slice (some ⟨wr.heap.size, 0, none⟩) 1 1] rfl rfl HNR.out (by intro u hu; simp at hu; subst hu; rfl) (by rw [maxLen_eq]; omega) (by omega) (by simp; omega) ?_)
            intro v' w7 hown7 hgrow7 _ _
            have hb7 : ∀ g, (Value.slice As j cs).ownBlock = some g → wo.heap.size ≤ g := fun g e => (own_lt H1'.out g e).1
            have HN := Lib.hid (push_letter hzr (below_alloc wr (.cells #[.int .i64 (100 + (j : Int))] 3)) (lit1p wr (100 + (j : Int))) H1.out HO.out.1 HO.out.2.1 HO.out.2.2 (by rw [HSL.out]; exact hown7) (by rw [HSL.out]; exact hgrow7))
            have HBN := Lib.hid (bel_moreS (a := wo) (sz_keep (sz_keep HBJ.out (below_alloc wr (.cells #[.int .i64 (100 + (j : Int))] 3))) (below_alloc (wr.alloc (.cells #[.int .i64 (100 + (j : Int))] 3)) (.cells #[.slice (some ⟨wr.heap.size, 0, none⟩) 1 1] 28))) hgrow7 hb7)
            clear hown hown7 hgrow7 hb7 n2 c00
            go_wp2
            go_roundw
            case rel => exact ⟨j + 1, by omega, by go_num, by rw [letR_succ]; exact HN.out, HBN.out⟩
            case measure => simp [intOf]; omega
          · have hjl' : ¬ (j : Int) < (e.vars.length : Int) := by omega
            have hjn : j = e.vars.length := by omega
            have HTS2 := Lib.hid (show selfPs t.eqs (k + 1) = pss ++ [[⟨(k : Int), false, 0, letR j⟩]] by rw [HTS.out, hjn]; rfl)
            clear hjn
            obtain ⟨us, rg, ho, hul, hre, hdi⟩ := id HPP.out
            have HOW := Lib.hid ho
            have HUS := Lib.hid (show ∃ rg : Nat → Nat × Nat, us.length = pss.length ∧ (∀ j ps, pss[j]? = some ps → ∃ u, us[j]? = some u ∧ InS wo (rg j) u ps ∧ w2.heap.size + 1 ≤ (rg j).1 ∧ (rg j).2 ≤ wo.heap.size ∧ ∀ g, (Value.slice Ap pss.length cp).ownBlock = some g → g < (rg j).1 ∨ (rg j).2 ≤ g) ∧ (∀ i j, i < j → j < pss.length → (rg i).2 ≤ (rg j).1) from ⟨rg, hul, hre, hdi⟩)
            have HLT9 := Lib.hid (show ∀ g, (Value.slice Ap pss.length cp).ownBlock = some g → g < wo.heap.size from fun g e => (own_lt ho g e).2)
            have HST6 := Lib.hid (one_step (w0 := wo) (p := ⟨(k : Int), false, 0, letR j⟩) HOR2.out HBJ.out.size)
            have HB6 := Lib.hid (sz_keep HBJ.out (below_alloc wr (.cells #[.int .i64 (k : Int), .bool false, .int .i64 0, .slice As j cs] 100)))
            have HB7 := Lib.hid (below_alloc (wr.alloc (.cells #[.int .i64 (k : Int), .bool false, .int .i64 0, .slice As j cs] 100)) (.cells #[.slice (some ⟨wr.heap.size, 0, none⟩) 1 1] 60))
            have HNC := Lib.hid (cells_one (wr.alloc (.cells #[.int .i64 (k : Int), .bool false, .int .i64 0, .slice As j cs] 100)) (.slice (some ⟨wr.heap.size, 0, none⟩) 1 1) 60)
            rw [show (wr.alloc (.cells #[.int .i64 (k : Int), .bool false, .int .i64 0, .slice As j cs] 100)).heap.size = wr.heap.size + 1 by simp] at HNC
            have HO7 := Lib.hid (own_keep HOW.out (sz_keep HB6.out HB7.out))
            have hz7 := (sz_keep HB6.out HB7.out).size
            have l2 := blk_cell (blk_keep HBX.out HBJ.out) 2
            simp at l2
            clear ho hul hre hdi
            go_wp2_with (at_builtin; refine wpList_append_own_at _ rfl _ _ 43 rfl (w2.heap.size + 1) 60 i1 (.slice none 0 0) 1 24 Try.underlying43 hj hy0 hy1 hy2 rfl (by decide) _ pss.length us rfl HO7.out ⟨wr.heap.size + 1, 0, none⟩ 1 1 [.slice (some ⟨wr.heap.size, 0, none⟩) 1 1] rfl rfl HNC.out (by intro u hu; simp at hu; subst hu; rfl) HPM.out.1 HPM.out.2 (by omega) ?_)
            intro v8 w8 hv8 hg8 _ hat8
            have HPN := Lib.hid (PPs.push HPP.out HB6.out HST6.out HB7.out (by omega) us HUS.out HLT9.out hv8 hg8 (by simpa using hat8))
            obtain ⟨A8, c8, rfl, -⟩ := own_reads hv8
            have hr8 : ∀ g, (Value.slice Ap pss.length cp).ownBlock = some g → w2.heap.size + 1 ≤ g := fun g e => (own_lt HO7.out g e).1
            have HD8 := Lib.hid (bel_moreS (a := w2) (sz_keep (sz_keep HD.out HB6.out) HB7.out) hg8 (fun g e => by have := hr8 g e; omega))
            have hbx8 := (hg8.block w2.heap.size (by omega) (fun e => by have := hr8 _ e.symm; omega)).trans (blk_keep (blk_keep HBX.out HB6.out) HB7.out)
            have HBX9 := Lib.hid (blk_set hbx8 2 (.slice A8 (pss.length + 1) c8))
            have HPN9 := Lib.hid (HPN.out.setLow (b := w2.heap.size) (by omega) 2 (.slice A8 (pss.length + 1) c8))
            have HD9 := Lib.hid (HD8.out.setCell (p := ⟨w2.heap.size, 2, none⟩) (Nat.le_refl _) (.slice A8 (pss.length + 1) c8))
            have q2 := blk_cell hbx8 2
            have qf2 := blk_free hbx8 2
            simp at q2
            clear hv8 hg8 hat8 hbx8 hr8 l2 n2 c00
            go_wp2
            go_roundw
            case rel => exact ⟨k + 1, _, by omega, by go_num, HBX9.out, by rw [HTS2.out]; exact HPN9.out, HD9.out⟩
            case measure => simp [intOf]; omega
      · have hlt' : ¬ (k : Int) < (t.eqs.length : Int) := by omega
        have hkn : k = t.eqs.length := by omega
        have HPE := Lib.hid (HALL.out hkn)
        clear hkn hbx hd
        have l0 := blk_cell HBX.out 0
        have l1 := blk_cell HBX.out 1
        have l2 := blk_cell HBX.out 2
        simp at l0 l1 l2
        replace HZr := Lib.hid (blk_keep HZr.out HD.out)
        have HDZ := Lib.hid HD.out
        replace HB := Lib.hid (sz_keep HB.out HD.out)
        have hzd := HD.out.size
        have j0 := blk_cell HZr.out 0
        have j1 := blk_cell HZr.out 1
        have j2 := blk_cell HZr.out 2
        have jf0 := blk_free HZr.out 0
        have jf1 := blk_free HZr.out 1
        have jf2 := blk_free HZr.out 2
        simp at j0 j1 j2
        go_wp2
        have d1 := blk_set (blk_set (blk_set (HZr.out) 0 (.slice U0 ms.sorts.length n0)) 1 (.slice U1 ms.ops.length n1)) 2 (.slice Ap pss.length cp)
        have hbz := (((HB.out.setCell (p := ⟨w.heap.size + 1, 0, none⟩) (by show w.heap.size ≤ w.heap.size + 1; omega) (.slice U0 ms.sorts.length n0)).setCell (p := ⟨w.heap.size + 1, 1, none⟩) (by show w.heap.size ≤ w.heap.size + 1; omega) (.slice U1 ms.ops.length n1)).setCell (p := ⟨w.heap.size + 1, 2, none⟩) (by show w.heap.size ≤ w.heap.size + 1; omega) (.slice Ap pss.length cp))
        have hbz9 := Lib.hid (show (∀ k, w.heap.size + 2 ≤ k → (((wr.setCell ⟨w.heap.size + 1, 0, none⟩ (.slice U0 ms.sorts.length n0)).setCell ⟨w.heap.size + 1, 1, none⟩ (.slice U1 ms.ops.length n1)).setCell ⟨w.heap.size + 1, 2, none⟩ (.slice Ap pss.length cp)).heap[k]? = wr.heap[k]?) ∧ wr.heap.size ≤ (((wr.setCell ⟨w.heap.size + 1, 0, none⟩ (.slice U0 ms.sorts.length n0)).setCell ⟨w.heap.size + 1, 1, none⟩ (.slice U1 ms.ops.length n1)).setCell ⟨w.heap.size + 1, 2, none⟩ (.slice Ap pss.length cp)).heap.size from ⟨fun k hk => ((Below.heap_setCell _ ⟨w.heap.size + 1, 2, none⟩ _ k (by show k ≠ w.heap.size + 1; omega)).trans ((Below.heap_setCell _ ⟨w.heap.size + 1, 1, none⟩ _ k (by show k ≠ w.heap.size + 1; omega)).trans (Below.heap_setCell _ ⟨w.heap.size + 1, 0, none⟩ _ k (by show k ≠ w.heap.size + 1; omega)))), by simp [World.setCell]⟩)
        generalize ((wr.setCell ⟨w.heap.size + 1, 0, none⟩ (.slice U0 ms.sorts.length n0)).setCell ⟨w.heap.size + 1, 1, none⟩ (.slice U1 ms.ops.length n1)).setCell ⟨w.heap.size + 1, 2, none⟩ (.slice Ap pss.length cp) = wz at d1 hbz hbz9 ⊢
        have k0 := blk_cell d1 0
        have k1 := blk_cell d1 1
        have k2 := blk_cell d1 2
        simp at k0 k1 k2
        clear j0 j1 j2 jf0 jf1 jf2 l0 l1 l2 n2
        refine bodyPost_ret (v := .agg #[.slice U0 ms.sorts.length n0, .slice U1 ms.ops.length n1, .slice Ap pss.length cp]) (by simp [results, Try.results15, go_sem, k0, k1, k2]) rfl ?_
        exact ⟨_, rfl, by
          rw [HE.out, HPE.out]
          exact ⟨_, _, _, rfl, w2, w1.heap.size, by omega, hz12, Nat.le_trans hzd hbz9.out.2, HOM.out, fun k a b => (hbz9.out.1 k (by omega)).trans (HDZ.out.block k b), (PPs.same HPP.out hbz9.out.2 (fun k a b => hbz9.out.1 k (by omega))).done.baseN (by omega)⟩, hbz⟩
end
end Go.Proofs.Ytbopcghbmbchkaa
