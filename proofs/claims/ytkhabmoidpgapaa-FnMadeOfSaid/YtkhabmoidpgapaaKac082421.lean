/- valueIn of package impl: the value of a term that was read. By recursion on the term. · l5Value of package spec: the value of the term at a place. By recursion on the term. · ValueOf of both packages. · slices.Backward over a slice of ints: the iterator's contract. -/
import Derived.Test.YtkhabmoidpgapaaK5218eaac
import Derived.Deep.RegionHeld3
import Derived.Deep.DeepCutAuto
import Derived.RangeFuncBox
import Derived.RangeFuncLeaves
import Derived.RangeFuncNested
import Derived.Shelf.Abstract
import Derived.WalkKit
import Derived.OwnWalkIn
import Derived.TacticsInMore
import Derived.LoopNIn
import Derived.LoopIn
namespace Go.Proofs.Ytkhabmoidpgapaa
section
open Go.RowKit
set_option linter.unusedVariables false
set_option linter.unusedSimpArgs false

theorem ta_letter (v : Value) (w : World) : (Instr.typeAssert (.iface 118 v) 81 118 true).run Try.prog w = .ok (.tuple #[v, .bool true]) w := by kernel_rfl
theorem ta_op (v : Value) (w : World) : (Instr.typeAssert (.iface 121 v) 81 121 true).run Try.prog w = .ok (.tuple #[v, .bool true]) w := by kernel_rfl
theorem ta_not (v : Value) (w : World) : (Instr.typeAssert (.iface 121 v) 81 118 true).run Try.prog w = .ok (.tuple #[.agg #[.int .i64 0, .int .i64 0], .bool false]) w := by kernel_rfl
def ValAt (m : MModel) (vals : List Int) (tm : Tm) : Prop := ∀ (w : World) (v vt vv : Value) (M : Nat → Prop), RModel w v m → RTerm w M vt tm → RInts w vv vals →
  Calls Try.prog 62 #[v, vt, vv] w fun e w' => e = .returned (.int .i64 (valT m vals tm)) ∧ Below w.heap.size w w'

set_option maxRecDepth 100000 in
theorem val_leaf (m : MModel) (vals : List Int) (k : Nat) (of : Int) (hk : k < vals.length) : ValAt m vals (.leaf k of) := by
  intro w v vt vv M h1 h2 h3
  unfold RTerm at h2
  subst h2
  obtain ⟨Ama, cma, Amb, cmb, rfl⟩ := h1.form
  have hb : Below w.heap.size w (w.alloc (.cells #[.slice Ama m.sizes.length cma, .slice Amb m.tables.length cmb] 28)) := below_alloc _ _
  have HB := Lib.hid hb
  have hsz : (w.alloc (.cells #[.slice Ama m.sizes.length cma, .slice Amb m.tables.length cmb] 28)).heap.size = w.heap.size + 1 := by simp
  have Hm := Lib.hid (h1.keep hb)
  have m0 := bx_at (w) #[.slice Ama m.sizes.length cma, .slice Amb m.tables.length cmb] 28 (k := 0) rfl
  have m1 := bx_at (w) #[.slice Ama m.sizes.length cma, .slice Amb m.tables.length cmb] 28 (k := 1) rfl
  generalize hW : w.alloc (.cells #[.slice Ama m.sizes.length cma, .slice Amb m.tables.length cmb] 28) = W at HB hsz Hm m0 m1
  clear hb h1
  obtain ⟨b, o, c, e, hx⟩ := (h3.keep HB.out).at_ hk
  cases e
  have HR := Lib.hid (show valT m vals (.leaf k of) = vals[k] by simp only [valT]; exact getD_at _ hk)
  generalize vals[k] = x at hx HR
  have hk' : (k : Int) < (vals.length : Int) := by omega
  have hba := below_alloc W (.cells #[.int .i64 (k : Int), .int .i64 of] 118)
  have hx2 := cell_keep hba hx
  have hb1 := (box_cells W (.int .i64 (k : Int)) (.int .i64 of) 118).1
  have HB2 := Lib.hid (sz_keep HB.out hba)
  have hw9 := World.new_ne W _ hx
  rw [hsz] at hb1
  have ta1 := ta_letter
  clear h3 m0 m1 hba
  go_enter Try.func62, Try.ntmps62
  go_wp2
  go_ret
  exact ⟨ret_int HR.out.symm, HB2.out⟩

set_option maxHeartbeats 3200000 in
set_option maxRecDepth 100000 in
theorem val_node (s : MSig) (m : MModel) (vars vals : List Int) (hf : ModFacts s m) (hv : ValsOk m vars vals) (op : Nat) (lv : Int) (ts : List Tm) (hw : wfT s vars (.node op lv ts)) (ih : ∀ (k : Nat) (h : k < ts.length), ValAt m vals ts[k]) : ValAt m vals (.node op lv ts) := by
  intro w v vt vv M h1 h2 h3
  have HST := Lib.hid (sizesT_taken hf hw)
  obtain ⟨pn, hop, hpn, hpl, hval⟩ := place_table hf hv hw
  have hw0 := hw
  unfold wfT at hw0
  obtain ⟨hk, -, hts⟩ := hw0
  have HIN := Lib.hid (valTs_in hf hv ts _ hts)
  have HSZ := Lib.hid (show Sizes (sizesT m ts) by rw [HST.out]; exact (hf.taken hk).1)
  have hl2 : ts.length ≤ 2 := by
    have := (hf.taken hk).2
    rw [← HST.out, sizesT_len] at this
    exact this
  have HSO := Lib.hid (show ∀ (k : Nat) (h : k < ts.length), 0 ≤ ts[k].sort ∧ ts[k].sort < (m.sizes.length : Int) from fun k h => by
    have hs := wfTs_sorts hts
    have hm : ts[k].sort ∈ (opRow s op).dropLast := by rw [hs]; exact List.mem_map_of_mem (List.getElem_mem h)
    have := (opRow_valid hf.va hk).2.2 _ (List.mem_of_mem_dropLast' hm)
    have := hf.sl
    omega)
  have HIH := Lib.hid ih
  have HPL := Lib.hid hpl
  have HVAL := Lib.hid hval
  clear hw hts hpl hval hf hv ih
  obtain ⟨Ama, cma, Amb, cmb, rfl⟩ := h1.form
  have hb : Below w.heap.size w (w.alloc (.cells #[.slice Ama m.sizes.length cma, .slice Amb m.tables.length cmb] 28)) := below_alloc _ _
  have HB := Lib.hid hb
  have hsz : (w.alloc (.cells #[.slice Ama m.sizes.length cma, .slice Amb m.tables.length cmb] 28)).heap.size = w.heap.size + 1 := by simp
  have Hm := Lib.hid (h1.keep hb)
  have m0 := bx_at (w) #[.slice Ama m.sizes.length cma, .slice Amb m.tables.length cmb] 28 (k := 0) rfl
  have m1 := bx_at (w) #[.slice Ama m.sizes.length cma, .slice Amb m.tables.length cmb] 28 (k := 1) rfl
  generalize hW : w.alloc (.cells #[.slice Ama m.sizes.length cma, .slice Amb m.tables.length cmb] 28) = W at HB hsz Hm m0 m1
  clear hb h1
  have hml := Hm.out.of.2.len
  have H2 := Lib.hid (h2.below HB.out)
  have H3 := Lib.hid (h3.keep HB.out)
  unfold RTerm at h2
  obtain ⟨A, c, us, rfl, hc1, hc2, hul, hat, hrt⟩ := h2
  have HRT := Lib.hid (show RTerms W M us ts from hrt.below HB.out)
  have HAT := Lib.hid (show ∀ (j : Nat) (u : Value), us[j]? = some u → ∃ b o, A = some ⟨b, o, none⟩ ∧ W.cell? ⟨b, o + j, none⟩ = some u from fun j u hj => by obtain ⟨b, o, e, -, hcc⟩ := hat j u hj; exact ⟨b, o, e, cell_keep HB.out hcc⟩)
  have HUL := Lib.hid hul
  obtain ⟨Av, cv, rfl, -⟩ := h3.form
  obtain ⟨b7, o7, c7, u7, e, ht7, hr7⟩ := Hm.out.of.2.at_ hop
  cases e
  have HR7 := Lib.hid hr7
  obtain ⟨b8, o8, c8, e, ht8⟩ := hr7.at_ hpn
  subst e
  generalize m.tables[op][pn] = y at ht8 HVAL
  clear hr7
  generalize m.tables[op].length = tl at ht7 hpn
  have hop' : (op : Int) < (m.tables.length : Int) := by omega
  have hpn' : (pn : Int) < (tl : Int) := by omega
  have hba := below_alloc W (.cells #[.int .i64 (op : Int), .int .i64 lv, .slice A ts.length c] 121)
  obtain ⟨z0, z1, z2⟩ := three_cells W (.int .i64 (op : Int)) (.int .i64 lv) (.slice A ts.length c) 121
  have HBW := Lib.hid hba
  have hsz2 : (W.alloc (.cells #[.int .i64 (op : Int), .int .i64 lv, .slice A ts.length c] 121)).heap.size = w.heap.size + 2 := by rw [World.size_alloc, hsz]
  rw [hsz] at z0 z1 z2
  have HC := Lib.hid (And.intro m0 (And.intro m1 (And.intro ht7 ht8)))
  generalize hW2 : W.alloc (.cells #[.int .i64 (op : Int), .int .i64 lv, .slice A ts.length c] 121) = W2 at z0 z1 z2 HBW hsz2
  have HZ := Lib.hid (And.intro z0 z2)
  have hmk := run_make_row' (P := Try.prog) 26 3 (.int .i64 0) 8 Try.underlying26 Try.tinfo_int rfl .i64 .i64 ts.length (by omega) (by omega)
  clear h3 hc2 hul hat hrt hba m0 m1 ht7 ht8 z0 z1 hk
  have ta2 := ta_not
  have ta3 := ta_op
  go_enter Try.func62, Try.ntmps62
  go_wp2_with fail
  clear hW hW2
  go_cut [9, 10] (fun s9 s10 wx => ∃ bs bt : Nat, s9 = .slice (some ⟨bs, 0, none⟩) ts.length ts.length ∧ s10 = .slice (some ⟨bt, 0, none⟩) ts.length ts.length ∧ TwoAt W2 wx bs bt ts.length (sizesT m ts) (valTs m vals ts) 0)
  case first =>
    go_region_held3 (fun w' => w'.cell? ⟨w.heap.size + 1, 2, none⟩ = some (.slice A ts.length c)) (first | (refine cell_keep (w := W2) ?_ z2; repeat (first | exact Below.refl _ _ | apply vb_drew | apply vb_alloc))) (first | fail)
    all_goals
      go_wp2_with fail
      go_meet
      case rel =>
        obtain ⟨p0, p1⟩ := two_start (W := W2) (n := ts.length) (wx := ((W2.alloc (.cells (madeCells #[.int .i64 0] ts.length) 3)).alloc (.cells (madeCells #[.int .i64 0] ts.length) 3)).drew) rfl rfl rfl rfl (by simp [madeCells]) (sizesT m ts) (valTs m vals ts)
        rw [hsz2] at p0 p1
        refine ⟨_, _, rfl, rfl, ?_⟩
        first | exact p0 | exact p1
  case rest =>
  obtain ⟨bs, bt, rfl, rfl, h2at⟩ := hcut
  have HT0 := Lib.hid h2at
  have n2 := cell_keep h2at.bel HZ.out.2
  clear hmk z2 h2at
  go_wp2
  clear n2
  go_loopw [11, 12, 36] (fun _ _ i wr => ∃ k : Nat, k ≤ ts.length ∧ i = .int .i64 k ∧ TwoAt W2 wr bs bt ts.length (sizesT m ts) (valTs m vals ts) k) (fun _ _ i _ => ts.length - (intOf i).toNat)
  case atStart => exact ⟨0, Nat.zero_le _, rfl, HT0.out⟩
  case round =>
    clear HT0
    obtain ⟨k, hk, rfl, hta⟩ := hrel
    have HT := Lib.hid hta
    have HBR := Lib.hid (show Below W.heap.size W wr from HBW.out.trans (hta.bel.mono HBW.out.size))
    clear hta
    have f0 := cell_keep HBR.out HC.out.1
    have f1 := cell_keep HBR.out HC.out.2.1
    by_cases hlt : k < ts.length
    · have hlt' : (k : Int) < (ts.length : Int) := by omega
      obtain ⟨u, hu, hru⟩ := HRT.out.at_ hlt
      obtain ⟨b9, o9, e9, hcu⟩ := HAT.out k u hu
      subst e9
      have f2 := cell_keep HBR.out hcu
      have hso := HSO.out k hlt
      have HIK := Lib.hid (HIH.out k hlt)
      have HXK := Lib.hid (show (sizesT m ts)[k]? = some (m.sizes.getD ts[k].sort.toNat 0) by unfold sizesT; rw [List.getElem?_map, List.getElem?_eq_getElem hlt]; rfl)
      have HYK := Lib.hid (show (valTs m vals ts)[k]? = some (valT m vals ts[k]) by rw [valTs_map, List.getElem?_map, List.getElem?_eq_getElem hlt]; rfl)
      obtain ⟨T, y9, fid, rfl, hms, hcf, hsc⟩ := hru.sorts
      have HSC := Lib.hid hsc
      have HRU := Lib.hid hru
      clear hu hru hcu hsc
      generalize ts[k] = t at hso HIK HXK HYK HSC HRU
      obtain ⟨n, hn⟩ : ∃ n : Nat, t.sort = (n : Int) := ⟨t.sort.toNat, by omega⟩
      rw [hn] at hso
      have hnl : n < m.sizes.length := by omega
      have hnl' : (n : Int) < (m.sizes.length : Int) := by omega
      obtain ⟨b6, o6, c6, e6, hz6⟩ := Hm.out.of.1.at_ hnl
      cases e6
      replace HXK := Lib.hid (show (sizesT m ts)[k]? = some m.sizes[n] by rw [HXK.out, hn, Int.toNat_natCast, getD_at _ hnl])
      have HSC := Lib.hid (show ∀ w' : World, Calls Try.prog fid #[y9] w' fun e w'' => e = .returned (.int .i64 (n : Int)) ∧ Below w'.heap.size w' w'' by rw [← hn]; exact HSC.out)
      generalize m.sizes[n] = z at hz6 HXK
      have f3 := cell_keep HBR.out hz6
      have g6 := World.block_lt_of_cell? W _ hz6
      obtain ⟨nb1, nb2, nb3⟩ := HT.out.ne
      simp only at g6
      have hd1 : w.heap.size ≠ bs := by omega
      have hd2 : w.heap.size ≠ bt := by omega
      have hd3 : b6 ≠ bs := by omega
      have hd4 : b6 ≠ bt := by omega
      clear hn hz6 hso g6
      go_wp2_with fail
      refine wp_region_held_drew (S := (fun w' => w'.cell? ⟨w.heap.size, 0, none⟩ = some (.slice (some ⟨b6, o6, none⟩) m.sizes.length cma) ∧ w'.cell? ⟨w.heap.size, 1, none⟩ = some (.slice (some ⟨b7, o7, none⟩) m.tables.length cmb) ∧ w'.cell? ⟨b6, o6 + n, none⟩ = some (.int .i64 z))) (by kernel_rfl) ?_ (fun hHeld => ?_)
      · exact ⟨f0, f1, f3⟩
      refine wpAnyH_take (i := 0) (oi := _) (v := ?_) rfl (by kernel_rfl) (by kernel_rfl) (by kernel_rfl) (fun _ _ _ h => h) (Or.inl ⟨by rfl, ?_⟩) (by assumption) ?_
      rotate_left
      · first | (intro w' hSw; (try dsimp only at hSw); go_simp; done) | (intro w' hSw; (try dsimp only at hSw); go_simp; with_reducible rfl)
      try simp only [Act.put, List.getElem_toArray, List.getElem_cons_zero, List.getElem_cons_succ, List.setIfInBounds_toArray, List.set_cons_zero, List.set_cons_succ]
      refine wpAnyH_take (i := 1) (oi := _) (v := ?_) rfl (by kernel_rfl) (by kernel_rfl) (by kernel_rfl) (fun _ _ _ h => h) (Or.inl ⟨by rfl, ?_⟩) (by assumption) ?_
      rotate_left
      · first | (intro w' hSw; (try dsimp only at hSw); go_simp; done) | (intro w' hSw; (try dsimp only at hSw); go_simp; with_reducible rfl)
      try simp only [Act.put, List.getElem_toArray, List.getElem_cons_zero, List.getElem_cons_succ, List.setIfInBounds_toArray, List.set_cons_zero, List.set_cons_succ]
      refine wpAnyH_take (i := 2) (oi := _) (v := ?_) rfl (by kernel_rfl) (by kernel_rfl) (by kernel_rfl) (fun _ _ _ h => h) (Or.inl ⟨by rfl, ?_⟩) (by assumption) ?_
      rotate_left
      · first | (intro w' hSw; (try dsimp only at hSw); go_simp; done) | (intro w' hSw; (try dsimp only at hSw); go_simp; with_reducible rfl)
      try simp only [Act.put, List.getElem_toArray, List.getElem_cons_zero, List.getElem_cons_succ, List.setIfInBounds_toArray, List.set_cons_zero, List.set_cons_succ]
      refine wpAnyH_take (i := 3) (oi := _) (v := ?_) rfl (by kernel_rfl) (by kernel_rfl) (by kernel_rfl) (fun _ _ _ h => h) (Or.inl ⟨by rfl, ?_⟩) (by assumption) ?_
      rotate_left
      · first | (intro w' hSw; (try dsimp only at hSw); go_simp; done) | (intro w' hSw; (try dsimp only at hSw); go_simp; with_reducible rfl)
      try simp only [Act.put, List.getElem_toArray, List.getElem_cons_zero, List.getElem_cons_succ, List.setIfInBounds_toArray, List.set_cons_zero, List.set_cons_succ]
      refine wpAnyH_take (i := 4) (oi := _) (v := ?_) rfl (by kernel_rfl) (by kernel_rfl) (by kernel_rfl) (fun _ _ _ h => h) (Or.inl ⟨by rfl, ?_⟩) (by assumption) ?_
      rotate_left
      · first | (intro w' hSw; (try dsimp only at hSw); go_simp; done) | (intro w' hSw; (try dsimp only at hSw); go_simp; with_reducible rfl)
      try simp only [Act.put, List.getElem_toArray, List.getElem_cons_zero, List.getElem_cons_succ, List.setIfInBounds_toArray, List.set_cons_zero, List.set_cons_succ]
      refine wpAnyH_take (i := 5) (oi := _) (v := ?_) rfl (by kernel_rfl) (by kernel_rfl) (by kernel_rfl) (fun _ _ _ h => h) (Or.inl ⟨by rfl, ?_⟩) (by assumption) ?_
      rotate_left
      · first | (intro w' hSw; (try dsimp only at hSw); go_simp; done) | (intro w' hSw; (try dsimp only at hSw); go_simp; with_reducible rfl)
      try simp only [Act.put, List.getElem_toArray, List.getElem_cons_zero, List.getElem_cons_succ, List.setIfInBounds_toArray, List.set_cons_zero, List.set_cons_succ]
      refine wpAnyH_take (i := 6) (oi := _) (v := ?_) rfl (by kernel_rfl) (by kernel_rfl) (by kernel_rfl) (fun _ _ _ h => h) (Or.inl ⟨by rfl, ?_⟩) (by assumption) ?_
      rotate_left
      · first | (intro w' hSw; (try dsimp only at hSw); go_simp; done) | (intro w' hSw; (try dsimp only at hSw); go_simp; with_reducible rfl)
      try simp only [Act.put, List.getElem_toArray, List.getElem_cons_zero, List.getElem_cons_succ, List.setIfInBounds_toArray, List.set_cons_zero, List.set_cons_succ]
      refine wpAnyH_take (i := 10) (oi := _) (v := ?_) rfl (by kernel_rfl) (by kernel_rfl) (by kernel_rfl) (fun _ _ _ h => h) (Or.inl ⟨by rfl, ?_⟩) (by assumption) ?_
      rotate_left
      · first | (intro w' hSw; (try dsimp only at hSw); go_simp; done) | (intro w' hSw; (try dsimp only at hSw); go_simp; with_reducible rfl)
      try simp only [Act.put, List.getElem_toArray, List.getElem_cons_zero, List.getElem_cons_succ, List.setIfInBounds_toArray, List.set_cons_zero, List.set_cons_succ]
      refine wpAnyH_take (i := 11) (oi := _) (v := ?_) rfl (by kernel_rfl) (by kernel_rfl) (by kernel_rfl) (fun _ _ _ h => h) (Or.inl ⟨by rfl, ?_⟩) (by assumption) ?_
      rotate_left
      · first | (intro w' hSw; (try dsimp only at hSw); go_simp; done) | (intro w' hSw; (try dsimp only at hSw); go_simp; with_reducible rfl)
      try simp only [Act.put, List.getElem_toArray, List.getElem_cons_zero, List.getElem_cons_succ, List.setIfInBounds_toArray, List.set_cons_zero, List.set_cons_succ]
      refine wpAnyH_take (i := 12) (oi := _) (v := ?_) rfl (by kernel_rfl) (by kernel_rfl) (by kernel_rfl) (fun _ _ _ h => h) (Or.inl ⟨by rfl, ?_⟩) (by assumption) ?_
      rotate_left
      · first | (intro w' hSw; (try dsimp only at hSw); go_simp; done) | (intro w' hSw; (try dsimp only at hSw); go_simp; with_reducible rfl)
      try simp only [Act.put, List.getElem_toArray, List.getElem_cons_zero, List.getElem_cons_succ, List.setIfInBounds_toArray, List.set_cons_zero, List.set_cons_succ]
      refine wpAnyH_ready (rs := [7]) (by kernel_rfl) (by simp) ?_
      refine AllReadyH.cons (o := _) rfl (fun K hK => ?_) AllReadyH.nil
      go_simp
      (with_reducible (show Calls _ _ _ _ _))
      refine (HSC.out wr.drew).mono ?_
      rintro x w4 ⟨rfl, hb4⟩
      have hx4 := vb_undrew hb4
      have HX4 := Lib.hid hx4
      have j1 := cell_keep hx4 f0
      have j2 := cell_keep hx4 f1
      have j3 := cell_keep hx4 f3
      clear hb4 hx4
      go_wp2_with fail
      refine hK.out _ _ ?_ (fun hHeld => ?_)
      · exact ⟨j1, j2, j3⟩
      clear hK K
      try simp only [Act.put, List.getElem_toArray, List.getElem_cons_zero, List.getElem_cons_succ, List.setIfInBounds_toArray, List.set_cons_zero, List.set_cons_succ]
      refine wpAnyH_take (i := 8) (oi := _) (v := ?_) rfl (by kernel_rfl) (by kernel_rfl) (by kernel_rfl) (fun _ _ _ h => h) (Or.inl ⟨by rfl, ?_⟩) (by assumption) ?_
      rotate_left
      · first | (intro w' hSw; (try dsimp only at hSw); go_simp; done) | (intro w' hSw; (try dsimp only at hSw); go_simp; with_reducible rfl)
      try simp only [Act.put, List.getElem_toArray, List.getElem_cons_zero, List.getElem_cons_succ, List.setIfInBounds_toArray, List.set_cons_zero, List.set_cons_succ]
      refine wpAnyH_take (i := 9) (oi := _) (v := ?_) rfl (by kernel_rfl) (by kernel_rfl) (by kernel_rfl) (fun _ _ _ h => h) (Or.inl ⟨by rfl, ?_⟩) (by assumption) ?_
      rotate_left
      · first | (intro w' hSw; (try dsimp only at hSw); go_simp; done) | (intro w' hSw; (try dsimp only at hSw); go_simp; with_reducible rfl)
      try simp only [Act.put, List.getElem_toArray, List.getElem_cons_zero, List.getElem_cons_succ, List.setIfInBounds_toArray, List.set_cons_zero, List.set_cons_succ]
      refine wpAnyH_ready (rs := [13]) (by kernel_rfl) (by simp) ?_
      refine AllReadyH.cons (o := _) rfl (fun K hK => ?_) AllReadyH.nil
      go_simp
      refine (HIK.out w4 _ _ _ M ((Hm.out.keep HBR.out).keep HX4.out) ((HRU.out.below HBR.out).below HX4.out) ((H3.out.keep HBR.out).keep HX4.out)).mono ?_
      rintro x w6 ⟨rfl, hb6⟩
      have HX6 := Lib.hid (sz_keep HX4.out hb6)
      have q1 := cell_keep hb6 j1
      have q2 := cell_keep hb6 j2
      have q3 := cell_keep hb6 j3
      obtain ⟨⟨u1, e1⟩, e2, ⟨u2, e3⟩, e4⟩ := HT.out.cells HX6.out hlt (.int .i64 z)
      clear hb6
      go_wp2_with fail
      refine hK.out _ _ ?_ (fun hHeld => ?_)
      · exact ⟨q1, q2, q3⟩
      clear hK K
      try simp only [Act.put, List.getElem_toArray, List.getElem_cons_zero, List.getElem_cons_succ, List.setIfInBounds_toArray, List.set_cons_zero, List.set_cons_succ]
      refine wpAnyH_take (i := 14) (oi := _) (v := ?_) rfl (by kernel_rfl) (by kernel_rfl) (by kernel_rfl) (fun _ _ _ h => h) (Or.inl ⟨by rfl, ?_⟩) (by assumption) ?_
      rotate_left
      · first | (intro w' hSw; (try dsimp only at hSw); go_simp; done) | (intro w' hSw; (try dsimp only at hSw); go_simp; with_reducible rfl)
      try simp only [Act.put, List.getElem_toArray, List.getElem_cons_zero, List.getElem_cons_succ, List.setIfInBounds_toArray, List.set_cons_zero, List.set_cons_succ]
      refine wpAnyH_ready (rs := [15]) (by kernel_rfl) (by simp) ?_
      refine AllReadyH.cons (o := _) rfl (fun K hK => ?_) AllReadyH.nil
      go_simp
      skip
      go_wp2_with fail
      refine hK.out _ _ ?_ (fun hHeld => ?_)
      · exact ⟨(va_far hd1 _ _ _).trans q1, (va_far hd1 _ _ _).trans q2, (va_far hd3 _ _ _).trans q3⟩
      clear hK K
      try simp only [Act.put, List.getElem_toArray, List.getElem_cons_zero, List.getElem_cons_succ, List.setIfInBounds_toArray, List.set_cons_zero, List.set_cons_succ]
      refine wpAnyH_take (i := 16) (oi := _) (v := ?_) rfl (by kernel_rfl) (by kernel_rfl) (by kernel_rfl) (fun _ _ _ h => h) (Or.inl ⟨by rfl, ?_⟩) (by assumption) ?_
      rotate_left
      · first | (intro w' hSw; (try dsimp only at hSw); go_simp; done) | (intro w' hSw; (try dsimp only at hSw); go_simp; with_reducible rfl)
      try simp only [Act.put, List.getElem_toArray, List.getElem_cons_zero, List.getElem_cons_succ, List.setIfInBounds_toArray, List.set_cons_zero, List.set_cons_succ]
      refine wpAnyH_ready (rs := [17]) (by kernel_rfl) (by simp) ?_
      refine AllReadyH.cons (o := _) rfl (fun K hK => ?_) AllReadyH.nil
      go_simp
      skip
      go_wp2_with fail
      refine hK.out _ _ ?_ (fun hHeld => ?_)
      · exact ⟨(va_far hd2 _ _ _).trans ((va_far hd1 _ _ _).trans q1), (va_far hd2 _ _ _).trans ((va_far hd1 _ _ _).trans q2), (va_far hd4 _ _ _).trans ((va_far hd3 _ _ _).trans q3)⟩
      clear hK K
      try simp only [Act.put, List.getElem_toArray, List.getElem_cons_zero, List.getElem_cons_succ, List.setIfInBounds_toArray, List.set_cons_zero, List.set_cons_succ]
      refine wpAnyH_done (by kernel_rfl) ?_ _
      have HTN := Lib.hid (HT.out.step HX6.out hlt HXK.out HYK.out)
      clear f0 f1 f2 f3 j1 j2 j3 q1 q2 q3 e1 e2 e3 e4
      go_wp2
      go_roundw
      case rel => exact ⟨k + 1, by omega, by go_num, HTN.out⟩
      case measure => simp [intOf]; omega
    · have hkn : k = ts.length := by omega
      have hlt' : ¬ (k : Int) < (ts.length : Int) := by omega
      rw [hkn] at HT
      have HD := Lib.hid (HT.out.done (sizesT_len m ts) (valTs_len m vals ts) (by omega))
      have g2 := cell_keep HT.out.bel HZ.out.1
      have g3 := cell_keep HBR.out HC.out.2.2.1
      have g4 := cell_keep HBR.out HC.out.2.2.2
      have hop0 : (0 : Int) ≤ (op : Int) := by omega
      have hpn0 : (0 : Int) ≤ (pn : Int) := by omega
      clear f0
      go_wp2_with fail
      refine wp_region_held_drew (S := (fun w' => w'.cell? ⟨w.heap.size, 1, none⟩ = some (.slice (some ⟨b7, o7, none⟩) m.tables.length cmb) ∧ w'.cell? ⟨w.heap.size + 1, 0, none⟩ = some (.int .i64 (op : Int)) ∧ w'.cell? ⟨b7, o7 + op, none⟩ = some (.slice (some ⟨b8, o8, none⟩) tl c8) ∧ w'.cell? ⟨b8, o8 + pn, none⟩ = some (.int .i64 y))) (by kernel_rfl) ?_ (fun hHeld => ?_)
      · exact ⟨f1, g2, g3, g4⟩
      refine wpAnyH_take (i := 0) (oi := _) (v := ?_) rfl (by kernel_rfl) (by kernel_rfl) (by kernel_rfl) (fun _ _ _ h => h) (Or.inl ⟨by rfl, ?_⟩) (by assumption) ?_
      rotate_left
      · first | (intro w' hSw; (try dsimp only at hSw); go_simp; done) | (intro w' hSw; (try dsimp only at hSw); go_simp; with_reducible rfl)
      try simp only [Act.put, List.getElem_toArray, List.getElem_cons_zero, List.getElem_cons_succ, List.setIfInBounds_toArray, List.set_cons_zero, List.set_cons_succ]
      refine wpAnyH_take (i := 1) (oi := _) (v := ?_) rfl (by kernel_rfl) (by kernel_rfl) (by kernel_rfl) (fun _ _ _ h => h) (Or.inl ⟨by rfl, ?_⟩) (by assumption) ?_
      rotate_left
      · first | (intro w' hSw; (try dsimp only at hSw); go_simp; done) | (intro w' hSw; (try dsimp only at hSw); go_simp; with_reducible rfl)
      try simp only [Act.put, List.getElem_toArray, List.getElem_cons_zero, List.getElem_cons_succ, List.setIfInBounds_toArray, List.set_cons_zero, List.set_cons_succ]
      refine wpAnyH_take (i := 2) (oi := _) (v := ?_) rfl (by kernel_rfl) (by kernel_rfl) (by kernel_rfl) (fun _ _ _ h => h) (Or.inl ⟨by rfl, ?_⟩) (by assumption) ?_
      rotate_left
      · first | (intro w' hSw; (try dsimp only at hSw); go_simp; done) | (intro w' hSw; (try dsimp only at hSw); go_simp; with_reducible rfl)
      try simp only [Act.put, List.getElem_toArray, List.getElem_cons_zero, List.getElem_cons_succ, List.setIfInBounds_toArray, List.set_cons_zero, List.set_cons_succ]
      refine wpAnyH_take (i := 3) (oi := _) (v := ?_) rfl (by kernel_rfl) (by kernel_rfl) (by kernel_rfl) (fun _ _ _ h => h) (Or.inl ⟨by rfl, ?_⟩) (by assumption) ?_
      rotate_left
      · first | (intro w' hSw; (try dsimp only at hSw); go_simp; done) | (intro w' hSw; (try dsimp only at hSw); go_simp; with_reducible rfl)
      try simp only [Act.put, List.getElem_toArray, List.getElem_cons_zero, List.getElem_cons_succ, List.setIfInBounds_toArray, List.set_cons_zero, List.set_cons_succ]
      refine wpAnyH_take (i := 4) (oi := _) (v := ?_) rfl (by kernel_rfl) (by kernel_rfl) (by kernel_rfl) (fun _ _ _ h => h) (Or.inl ⟨by rfl, ?_⟩) (by assumption) ?_
      rotate_left
      · first | (intro w' hSw; (try dsimp only at hSw); go_simp; done) | (intro w' hSw; (try dsimp only at hSw); go_simp; with_reducible rfl)
      try simp only [Act.put, List.getElem_toArray, List.getElem_cons_zero, List.getElem_cons_succ, List.setIfInBounds_toArray, List.set_cons_zero, List.set_cons_succ]
      refine wpAnyH_take (i := 5) (oi := _) (v := ?_) rfl (by kernel_rfl) (by kernel_rfl) (by kernel_rfl) (fun _ _ _ h => h) (Or.inl ⟨by rfl, ?_⟩) (by assumption) ?_
      rotate_left
      · first | (intro w' hSw; (try dsimp only at hSw); go_simp; done) | (intro w' hSw; (try dsimp only at hSw); go_simp; with_reducible rfl)
      try simp only [Act.put, List.getElem_toArray, List.getElem_cons_zero, List.getElem_cons_succ, List.setIfInBounds_toArray, List.set_cons_zero, List.set_cons_succ]
      refine wpAnyH_take (i := 6) (oi := _) (v := ?_) rfl (by kernel_rfl) (by kernel_rfl) (by kernel_rfl) (fun _ _ _ h => h) (Or.inl ⟨by rfl, ?_⟩) (by assumption) ?_
      rotate_left
      · first | (intro w' hSw; (try dsimp only at hSw); go_simp; done) | (intro w' hSw; (try dsimp only at hSw); go_simp; with_reducible rfl)
      try simp only [Act.put, List.getElem_toArray, List.getElem_cons_zero, List.getElem_cons_succ, List.setIfInBounds_toArray, List.set_cons_zero, List.set_cons_succ]
      refine wpAnyH_take (i := 7) (oi := _) (v := ?_) rfl (by kernel_rfl) (by kernel_rfl) (by kernel_rfl) (fun _ _ _ h => h) (Or.inl ⟨by rfl, ?_⟩) (by assumption) ?_
      rotate_left
      · first | (intro w' hSw; (try dsimp only at hSw); go_simp; done) | (intro w' hSw; (try dsimp only at hSw); go_simp; with_reducible rfl)
      try simp only [Act.put, List.getElem_toArray, List.getElem_cons_zero, List.getElem_cons_succ, List.setIfInBounds_toArray, List.set_cons_zero, List.set_cons_succ]
      refine wpAnyH_ready (rs := [8]) (by kernel_rfl) (by simp) ?_
      refine AllReadyH.cons (o := _) rfl (fun K hK => ?_) AllReadyH.nil
      go_simp
      refine (numberOf_any (sizesT m ts) (valTs m vals ts) _ _ _ (HD.out.1.keep (vb_drew (Below.refl _ _))) (HD.out.2.keep (vb_drew (Below.refl _ _))) HSZ.out (by rw [sizesT_len]; omega) HIN.out).mono ?_
      rw [HPL.out]
      rintro x w5 ⟨rfl, rfl⟩
      go_wp2_with fail
      refine hK.out _ _ ?_ (fun hHeld => ?_)
      · exact ⟨f1, g2, g3, g4⟩
      clear hK K
      try simp only [Act.put, List.getElem_toArray, List.getElem_cons_zero, List.getElem_cons_succ, List.setIfInBounds_toArray, List.set_cons_zero, List.set_cons_succ]
      refine wpAnyH_take (i := 9) (oi := _) (v := ?_) rfl (by kernel_rfl) (by kernel_rfl) (by kernel_rfl) (fun _ _ _ h => h) (Or.inl ⟨by rfl, ?_⟩) (by assumption) ?_
      rotate_left
      · first | (intro w' hSw; (try dsimp only at hSw); go_simp; done) | (intro w' hSw; (try dsimp only at hSw); go_simp; with_reducible rfl)
      try simp only [Act.put, List.getElem_toArray, List.getElem_cons_zero, List.getElem_cons_succ, List.setIfInBounds_toArray, List.set_cons_zero, List.set_cons_succ]
      refine wpAnyH_take (i := 10) (oi := _) (v := ?_) rfl (by kernel_rfl) (by kernel_rfl) (by kernel_rfl) (fun _ _ _ h => h) (Or.inl ⟨by rfl, ?_⟩) (by assumption) ?_
      rotate_left
      · first | (intro w' hSw; (try dsimp only at hSw); go_simp; done) | (intro w' hSw; (try dsimp only at hSw); go_simp; with_reducible rfl)
      try simp only [Act.put, List.getElem_toArray, List.getElem_cons_zero, List.getElem_cons_succ, List.setIfInBounds_toArray, List.set_cons_zero, List.set_cons_succ]
      refine wpAnyH_take (i := 11) (oi := _) (v := ?_) rfl (by kernel_rfl) (by kernel_rfl) (by kernel_rfl) (fun _ _ _ h => h) (Or.inl ⟨by rfl, ?_⟩) (by assumption) ?_
      rotate_left
      · first | (intro w' hSw; (try dsimp only at hSw); go_simp; done) | (intro w' hSw; (try dsimp only at hSw); go_simp; with_reducible rfl)
      try simp only [Act.put, List.getElem_toArray, List.getElem_cons_zero, List.getElem_cons_succ, List.setIfInBounds_toArray, List.set_cons_zero, List.set_cons_succ]
      refine wpAnyH_done (by kernel_rfl) ?_ _
      clear f1 g2 g3 g4
      go_wp2
      go_ret
      exact ⟨ret_int HVAL.out.symm, sz_keep HB.out (vb_drew HBR.out)⟩

mutual
theorem val_any {s : MSig} {m : MModel} {vars vals : List Int} (hf : ModFacts s m) (hv : ValsOk m vars vals) : ∀ tm : Tm, wfT s vars tm → ValAt m vals tm
  | .leaf k of, hw => by
    unfold wfT at hw
    exact val_leaf m vals k of (by rw [hv.1]; exact hw.1)
  | .node op lv ts, hw => val_node s m vars vals hf hv op lv ts hw (by
    have hw2 := hw
    unfold wfT at hw2
    exact val_all hf hv ts _ hw2.2.2)
theorem val_all {s : MSig} {m : MModel} {vars vals : List Int} (hf : ModFacts s m) (hv : ValsOk m vars vals) : ∀ (ts : List Tm) (ss : List Int), wfTs s vars ss ts → ∀ (k : Nat) (h : k < ts.length), ValAt m vals ts[k]
  | [], ss, hw, k, h => by simp at h
  | t :: ts, ss, hw, 0, h => by
    unfold wfTs at hw
    obtain ⟨x, ss', rfl, rfl, h1, h2⟩ := hw
    exact val_any hf hv t h1
  | t :: ts, ss, hw, k + 1, h => by
    unfold wfTs at hw
    obtain ⟨x, ss', rfl, rfl, h1, h2⟩ := hw
    exact val_all hf hv ts _ h2 k (by simpa using h)
end
end

section
open Go.RowKit
set_option linter.unusedVariables false
set_option linter.unusedSimpArgs false

theorem rows_split : ∀ (ts : List Tm) (j : Nat) (hj : j < ts.length), rowsOf ts = rowsOf (ts.take j) ++ (ts[j].row ++ rowsOf (ts.drop (j + 1)))
  | t :: ts, 0, h => by simp [rowsOf]
  | t :: ts, j + 1, h => by
    simp only [List.take_succ_cons, List.getElem_cons_succ, List.drop_succ_cons, rowsOf]
    rw [rows_split ts j (by simpa using h), List.append_assoc]
theorem rows_take_len {ts : List Tm} {j : Nat} (hj : j < ts.length) : (rowsOf (ts.take (j + 1))).length = (rowsOf (ts.take j)).length + ts[j].row.length := by
  have h := rows_split (ts.take (j + 1)) j (by rw [List.length_take]; omega)
  rw [h]
  simp only [List.length_append, List.take_take, List.getElem_take]
  rw [Nat.min_eq_left (by omega), List.drop_of_length_le (by rw [List.length_take]; omega)]
  simp [rowsOf]
theorem drop_at {t b : List Int} {ts : List Tm} {k j : Nat} (h : t.drop (k + 1) = rowsOf ts ++ b) (hj : j < ts.length) : t.drop (k + 1 + (rowsOf (ts.take j)).length) = ts[j].row ++ (rowsOf (ts.drop (j + 1)) ++ b) := by
  rw [← List.drop_drop, h, rows_split ts j hj, List.append_assoc, List.drop_left, List.append_assoc]

def L5At (s : MSig) (m : MModel) (t vals : List Int) (tm : Tm) : Prop := ∀ (k : Nat) (b : List Int) (w : World) (v v' tv vv : Value), t.drop k = tm.row ++ b → RSig w v s → RModel w v' m → RInts w tv t → RInts w vv vals →
  Calls Try.prog 65 #[v, v', tv, .int .i64 (k : Int), vv] w fun e w' => e = .returned (.tuple #[.int .i64 (valT m vals tm), .int .i64 ((k + tm.row.length : Nat) : Int)]) ∧ Below w.heap.size w w'

set_option maxHeartbeats 800000 in
set_option maxRecDepth 100000 in
theorem l5_leaf (s : MSig) (m : MModel) (t vals : List Int) (ht : t.length ≤ 30) (kk : Nat) (of : Int) (hk : kk < vals.length) (hv4 : vals.length ≤ 4) : L5At s m t vals (.leaf kk of) := by
  intro k b w v v' tv vv hd h1 h2 h3 h4
  simp only [Tm.row, List.singleton_append] at hd
  have hkt : k < t.length := by
    by_cases h : k < t.length
    · exact h
    · rw [List.drop_of_length_le (by omega)] at hd; cases hd
  have htk : t[k] = 100 + (kk : Int) := by
    have := List.drop_eq_getElem_cons hkt
    rw [this] at hd
    injection hd
  obtain ⟨Asa, csa, rfl⟩ := h1.form
  obtain ⟨Ama, cma, Amb, cmb, rfl⟩ := h2.form
  have hb : Below w.heap.size w ((w.alloc (.cells #[.int .i64 s.sorts, .slice Asa s.ops.length csa] 25)).alloc (.cells #[.slice Ama m.sizes.length cma, .slice Amb m.tables.length cmb] 28)) := (below_alloc _ _).alloc (by simp) _
  have HB := Lib.hid hb
  have hsz : ((w.alloc (.cells #[.int .i64 s.sorts, .slice Asa s.ops.length csa] 25)).alloc (.cells #[.slice Ama m.sizes.length cma, .slice Amb m.tables.length cmb] 28)).heap.size = w.heap.size + 2 := by simp
  have Hs := Lib.hid (h1.keep hb)
  have s0 := cell_keep (below_alloc (w.alloc (.cells #[.int .i64 s.sorts, .slice Asa s.ops.length csa] 25)) (.cells #[.slice Ama m.sizes.length cma, .slice Amb m.tables.length cmb] 28)) (bx_at (w) #[.int .i64 s.sorts, .slice Asa s.ops.length csa] 25 (k := 0) rfl)
  have s1 := cell_keep (below_alloc (w.alloc (.cells #[.int .i64 s.sorts, .slice Asa s.ops.length csa] 25)) (.cells #[.slice Ama m.sizes.length cma, .slice Amb m.tables.length cmb] 28)) (bx_at (w) #[.int .i64 s.sorts, .slice Asa s.ops.length csa] 25 (k := 1) rfl)
  have Hm := Lib.hid (h2.keep hb)
  have m0 := bx_at (w.alloc (.cells #[.int .i64 s.sorts, .slice Asa s.ops.length csa] 25)) #[.slice Ama m.sizes.length cma, .slice Amb m.tables.length cmb] 28 (k := 0) rfl
  have m1 := bx_at (w.alloc (.cells #[.int .i64 s.sorts, .slice Asa s.ops.length csa] 25)) #[.slice Ama m.sizes.length cma, .slice Amb m.tables.length cmb] 28 (k := 1) rfl
  simp only [World.size_alloc] at m0 m1
  generalize hW : (w.alloc (.cells #[.int .i64 s.sorts, .slice Asa s.ops.length csa] 25)).alloc (.cells #[.slice Ama m.sizes.length cma, .slice Amb m.tables.length cmb] 28) = W at HB hsz Hs s0 s1 Hm m0 m1
  clear hb h1 h2
  obtain ⟨b3, o3, c3, e, hx⟩ := (h3.keep HB.out).at_ hkt
  cases e
  rw [htk] at hx
  obtain ⟨b4, o4, c4, e, hy⟩ := (h4.keep HB.out).at_ hk
  cases e
  have HR := Lib.hid (show valT m vals (.leaf kk of) = vals[kk] by simp only [valT]; exact getD_at _ hk)
  generalize vals[kk] = y at hy HR
  have hk' : (kk : Int) < (vals.length : Int) := by omega
  have hkt' : (k : Int) < (t.length : Int) := by omega
  have hw1 : IntKind.i64.wrap (100 + (kk : Int) - 100) = (kk : Int) := by rw [IntKind.wrap_i64]; omega
  have hw2 : IntKind.i64.wrap ((k : Int) + 1) = (k : Int) + 1 := by rw [IntKind.wrap_i64]; omega
  have hge : (100 : Int) ≤ 100 + (kk : Int) := by omega
  clear h3 h4 hd htk s0 s1 m0 m1
  go_enter Try.func65, Try.ntmps65
  go_wp2
  refine bodyPost_ret (v := .tuple #[.int .i64 y, .int .i64 ((k : Int) + 1)]) (by simp [results, Try.results65, go_sem]) rfl ?_
  rw [HR.out]
  exact ⟨by simp [Tm.row], HB.out⟩

set_option maxHeartbeats 3200000 in
set_option maxRecDepth 100000 in
theorem l5_node (s : MSig) (m : MModel) (vars t vals : List Int) (ht : t.length ≤ 30) (hf : ModFacts s m) (hv : ValsOk m vars vals) (op : Nat) (lv : Int) (ts : List Tm) (hw : wfT s vars (.node op lv ts)) (ih : ∀ (k : Nat) (h : k < ts.length), L5At s m t vals ts[k]) : L5At s m t vals (.node op lv ts) := by
  intro k b w v v' tv vv hd h1 h2 h3 h4
  simp only [Tm.row, List.cons_append] at hd
  have hkt : k < t.length := by
    by_cases h : k < t.length
    · exact h
    · rw [List.drop_of_length_le (by omega)] at hd; cases hd
  have htk : t[k] = (op : Int) ∧ t.drop (k + 1) = rowsOf ts ++ b := by
    have := List.drop_eq_getElem_cons hkt
    rw [this] at hd
    injection hd with e1 e2
    exact ⟨e1, e2⟩
  obtain ⟨htk, hd2⟩ := htk
  have HST := Lib.hid (sizesT_taken hf hw)
  obtain ⟨pn, hop, hpn, hpl, hval⟩ := place_table hf hv hw
  have hw0 := hw
  unfold wfT at hw0
  obtain ⟨hk, -, hts⟩ := hw0
  have hinn := valTs_in hf hv ts _ hts
  have hszz : Sizes (sizesT m ts) := by rw [HST.out]; exact (hf.taken hk).1
  have hl2 : ts.length ≤ 2 := by
    have := (hf.taken hk).2
    rw [← HST.out, sizesT_len] at this
    exact this
  have HWR := Lib.hid (fun (j : Nat) (h : j < (sizesT m ts).length) (h' : j < (valTs m vals ts).length) => place_wrap hszz (by rw [sizesT_len]; omega) hinn h h')
  have hsrt := wfTs_sorts hts
  have hrv := opRow_valid hf.va hk
  rw [opRow_at hk] at hsrt hrv
  have hrl : s.ops[op].length = ts.length + 1 := by
    have := congrArg List.length hsrt
    rw [List.length_dropLast, List.length_map] at this
    have := hrv.1
    omega
  have HSO := Lib.hid (show ∀ (j : Nat) (h : j < ts.length) (h' : j < s.ops[op].length), s.ops[op][j] = ts[j].sort ∧ 0 ≤ ts[j].sort ∧ ts[j].sort < (m.sizes.length : Int) from fun j h h' => by
    have e1 : s.ops[op].dropLast[j]? = (ts.map Tm.sort)[j]? := by rw [hsrt]
    rw [List.getElem?_map, List.getElem?_eq_getElem h, List.getElem?_eq_getElem (by rw [List.length_dropLast]; omega), List.getElem_dropLast] at e1
    have e2 : s.ops[op][j] = ts[j].sort := by simpa using e1
    have h5 := hrv.2.2 _ (List.getElem_mem h')
    have h6 := hf.sl
    rw [e2] at h5
    exact ⟨e2, by omega, by omega⟩)
  have HIH := Lib.hid ih
  have HPL := Lib.hid hpl
  have HVAL := Lib.hid hval
  have HD := Lib.hid (fun (j : Nat) (hj : j < ts.length) => drop_at hd2 hj)
  have hfin : k + 1 + (rowsOf ts).length ≤ 30 := by
    have := congrArg List.length hd2
    rw [List.length_drop, List.length_append] at this
    omega
  have HFIN := Lib.hid hfin
  have hops6 : s.ops.length ≤ 6 := (valid_sorts hf.va).2.2
  clear hfin hw hts hpl hval hf hv ih hinn hszz hsrt hd hd2
  obtain ⟨Asa, csa, rfl⟩ := h1.form
  obtain ⟨Ama, cma, Amb, cmb, rfl⟩ := h2.form
  have hb : Below w.heap.size w ((w.alloc (.cells #[.int .i64 s.sorts, .slice Asa s.ops.length csa] 25)).alloc (.cells #[.slice Ama m.sizes.length cma, .slice Amb m.tables.length cmb] 28)) := (below_alloc _ _).alloc (by simp) _
  have HB := Lib.hid hb
  have hsz : ((w.alloc (.cells #[.int .i64 s.sorts, .slice Asa s.ops.length csa] 25)).alloc (.cells #[.slice Ama m.sizes.length cma, .slice Amb m.tables.length cmb] 28)).heap.size = w.heap.size + 2 := by simp
  have Hs := Lib.hid (h1.keep hb)
  have s0 := cell_keep (below_alloc (w.alloc (.cells #[.int .i64 s.sorts, .slice Asa s.ops.length csa] 25)) (.cells #[.slice Ama m.sizes.length cma, .slice Amb m.tables.length cmb] 28)) (bx_at (w) #[.int .i64 s.sorts, .slice Asa s.ops.length csa] 25 (k := 0) rfl)
  have s1 := cell_keep (below_alloc (w.alloc (.cells #[.int .i64 s.sorts, .slice Asa s.ops.length csa] 25)) (.cells #[.slice Ama m.sizes.length cma, .slice Amb m.tables.length cmb] 28)) (bx_at (w) #[.int .i64 s.sorts, .slice Asa s.ops.length csa] 25 (k := 1) rfl)
  have Hm := Lib.hid (h2.keep hb)
  have m0 := bx_at (w.alloc (.cells #[.int .i64 s.sorts, .slice Asa s.ops.length csa] 25)) #[.slice Ama m.sizes.length cma, .slice Amb m.tables.length cmb] 28 (k := 0) rfl
  have m1 := bx_at (w.alloc (.cells #[.int .i64 s.sorts, .slice Asa s.ops.length csa] 25)) #[.slice Ama m.sizes.length cma, .slice Amb m.tables.length cmb] 28 (k := 1) rfl
  simp only [World.size_alloc] at m0 m1
  generalize hW : (w.alloc (.cells #[.int .i64 s.sorts, .slice Asa s.ops.length csa] 25)).alloc (.cells #[.slice Ama m.sizes.length cma, .slice Amb m.tables.length cmb] 28) = W at HB hsz Hs s0 s1 Hm m0 m1
  clear hb h1 h2
  have hsl := Hs.out.of.2.len
  have hml := Hm.out.of.2.len
  have H3 := Lib.hid (h3.keep HB.out)
  have H4 := Lib.hid (h4.keep HB.out)
  obtain ⟨b3, o3, c3, e, hx⟩ := H3.out.at_ hkt
  cases e
  rw [htk] at hx
  obtain ⟨Av, cv, rfl, -⟩ := h4.form
  obtain ⟨b5, o5, c5, u5, e, hy, hry⟩ := Hs.out.of.2.at_ hk
  cases e
  have hhl := hk
  generalize hrow : s.ops[op] = row at hy hry hrl hrv HSO
  have HRY := Lib.hid hry
  obtain ⟨A5, d5, rfl, -⟩ := hry.form
  obtain ⟨b7, o7, c7, u7, e, ht7, hr7⟩ := Hm.out.of.2.at_ hop
  cases e
  obtain ⟨b8, o8, c8, e, ht8⟩ := hr7.at_ hpn
  subst e
  generalize m.tables[op][pn] = y at ht8 HVAL
  clear hr7
  generalize m.tables[op].length = tl at ht7 hpn
  have hop' : (op : Int) < (m.tables.length : Int) := by omega
  have hops' : (op : Int) < (s.ops.length : Int) := by omega
  have hpn' : (pn : Int) < (tl : Int) := by omega
  have hkt' : (k : Int) < (t.length : Int) := by omega
  have hop0 : (0 : Int) ≤ (op : Int) := by omega
  have hpn0 : (0 : Int) ≤ (pn : Int) := by omega
  have hk0 : (0 : Int) ≤ (k : Int) := by omega
  have hw2 : IntKind.i64.wrap ((k : Int) + 1) = (k : Int) + 1 := by rw [IntKind.wrap_i64]; omega
  have hlt100 : ¬ (100 : Int) ≤ (op : Int) := by omega
  have HC := Lib.hid (And.intro s0 (And.intro s1 (And.intro m0 (And.intro m1 (And.intro hx (And.intro ht7 ht8))))))
  clear h3 h4 hry hrow hhl htk
  go_enter Try.func65, Try.ntmps65
  go_wp2_with fail
  clear hW
  refine wp_region_held_drew (S := (fun w' => w'.cell? ⟨w.heap.size, 1, none⟩ = some (.slice (some ⟨b5, o5, none⟩) s.ops.length csa) ∧ w'.cell? ⟨b3, o3 + k, none⟩ = some (.int .i64 (op : Int)) ∧ w'.cell? ⟨b5, o5 + op, none⟩ = some (.slice A5 row.length d5))) (by kernel_rfl) ?_ (fun hHeld => ?_)
  · exact ⟨s1, hx, hy⟩
  refine wpAnyH_take (i := 0) (oi := _) (v := ?_) rfl (by kernel_rfl) (by kernel_rfl) (by kernel_rfl) (fun _ _ _ h => h) (Or.inl ⟨by rfl, ?_⟩) (by assumption) ?_
  rotate_left
  · first | (intro w' hSw; (try dsimp only at hSw); go_simp; done) | (intro w' hSw; (try dsimp only at hSw); go_simp; with_reducible rfl)
  try simp only [Act.put, List.getElem_toArray, List.getElem_cons_zero, List.getElem_cons_succ, List.setIfInBounds_toArray, List.set_cons_zero, List.set_cons_succ]
  refine wpAnyH_take (i := 1) (oi := _) (v := ?_) rfl (by kernel_rfl) (by kernel_rfl) (by kernel_rfl) (fun _ _ _ h => h) (Or.inl ⟨by rfl, ?_⟩) (by assumption) ?_
  rotate_left
  · first | (intro w' hSw; (try dsimp only at hSw); go_simp; done) | (intro w' hSw; (try dsimp only at hSw); go_simp; with_reducible rfl)
  try simp only [Act.put, List.getElem_toArray, List.getElem_cons_zero, List.getElem_cons_succ, List.setIfInBounds_toArray, List.set_cons_zero, List.set_cons_succ]
  refine wpAnyH_take (i := 2) (oi := _) (v := ?_) rfl (by kernel_rfl) (by kernel_rfl) (by kernel_rfl) (fun _ _ _ h => h) (Or.inl ⟨by rfl, ?_⟩) (by assumption) ?_
  rotate_left
  · first | (intro w' hSw; (try dsimp only at hSw); go_simp; done) | (intro w' hSw; (try dsimp only at hSw); go_simp; with_reducible rfl)
  try simp only [Act.put, List.getElem_toArray, List.getElem_cons_zero, List.getElem_cons_succ, List.setIfInBounds_toArray, List.set_cons_zero, List.set_cons_succ]
  refine wpAnyH_take (i := 3) (oi := _) (v := ?_) rfl (by kernel_rfl) (by kernel_rfl) (by kernel_rfl) (fun _ _ _ h => h) (Or.inl ⟨by rfl, ?_⟩) (by assumption) ?_
  rotate_left
  · first | (intro w' hSw; (try dsimp only at hSw); go_simp; done) | (intro w' hSw; (try dsimp only at hSw); go_simp; with_reducible rfl)
  try simp only [Act.put, List.getElem_toArray, List.getElem_cons_zero, List.getElem_cons_succ, List.setIfInBounds_toArray, List.set_cons_zero, List.set_cons_succ]
  refine wpAnyH_take (i := 4) (oi := _) (v := ?_) rfl (by kernel_rfl) (by kernel_rfl) (by kernel_rfl) (fun _ _ _ h => h) (Or.inl ⟨by rfl, ?_⟩) (by assumption) ?_
  rotate_left
  · first | (intro w' hSw; (try dsimp only at hSw); go_simp; done) | (intro w' hSw; (try dsimp only at hSw); go_simp; with_reducible rfl)
  try simp only [Act.put, List.getElem_toArray, List.getElem_cons_zero, List.getElem_cons_succ, List.setIfInBounds_toArray, List.set_cons_zero, List.set_cons_succ]
  refine wpAnyH_take (i := 5) (oi := _) (v := ?_) rfl (by kernel_rfl) (by kernel_rfl) (by kernel_rfl) (fun _ _ _ h => h) (Or.inl ⟨by rfl, ?_⟩) (by assumption) ?_
  rotate_left
  · first | (intro w' hSw; (try dsimp only at hSw); go_simp; done) | (intro w' hSw; (try dsimp only at hSw); go_simp; with_reducible rfl)
  try simp only [Act.put, List.getElem_toArray, List.getElem_cons_zero, List.getElem_cons_succ, List.setIfInBounds_toArray, List.set_cons_zero, List.set_cons_succ]
  refine wpAnyH_take (i := 6) (oi := _) (v := ?_) rfl (by kernel_rfl) (by kernel_rfl) (by kernel_rfl) (fun _ _ _ h => h) (Or.inl ⟨by rfl, ?_⟩) (by assumption) ?_
  rotate_left
  · first | (intro w' hSw; (try dsimp only at hSw); go_simp; done) | (intro w' hSw; (try dsimp only at hSw); go_simp; with_reducible rfl)
  try simp only [Act.put, List.getElem_toArray, List.getElem_cons_zero, List.getElem_cons_succ, List.setIfInBounds_toArray, List.set_cons_zero, List.set_cons_succ]
  refine wpAnyH_take (i := 7) (oi := _) (v := ?_) rfl (by kernel_rfl) (by kernel_rfl) (by kernel_rfl) (fun _ _ _ h => h) (Or.inl ⟨by rfl, ?_⟩) (by assumption) ?_
  rotate_left
  · first | (intro w' hSw; (try dsimp only at hSw); go_simp; done) | (intro w' hSw; (try dsimp only at hSw); go_simp; with_reducible rfl)
  try simp only [Act.put, List.getElem_toArray, List.getElem_cons_zero, List.getElem_cons_succ, List.setIfInBounds_toArray, List.set_cons_zero, List.set_cons_succ]
  refine wpAnyH_take (i := 8) (oi := _) (v := ?_) rfl (by kernel_rfl) (by kernel_rfl) (by kernel_rfl) (fun _ _ _ h => h) (Or.inl ⟨by rfl, ?_⟩) (by assumption) ?_
  rotate_left
  · first | (intro w' hSw; (try dsimp only at hSw); go_simp; done) | (intro w' hSw; (try dsimp only at hSw); go_simp; with_reducible rfl)
  try simp only [Act.put, List.getElem_toArray, List.getElem_cons_zero, List.getElem_cons_succ, List.setIfInBounds_toArray, List.set_cons_zero, List.set_cons_succ]
  refine wpAnyH_done (by kernel_rfl) ?_ _
  clear s0 s1 m0 m1 hx hy ht7 ht8
  go_wp2
  go_loopw [13, 14, 15, 16, 17] (fun p q i _ _ wr => ∃ j : Nat, j ≤ ts.length ∧ i = .int .i64 j ∧ p = .int .i64 (placeM 0 ((sizesT m ts).take j) ((valTs m vals ts).take j)) ∧ q = .int .i64 ((k + 1 + (rowsOf (ts.take j)).length : Nat) : Int) ∧ Below W.heap.size W wr) (fun _ _ i _ _ _ => ts.length - (intOf i).toNat)
  case atStart => exact ⟨0, Nat.zero_le _, rfl, rfl, by simp [rowsOf], map_drew (Below.refl _ _)⟩
  case round =>
    obtain ⟨j, hj, rfl, rfl, rfl, hd⟩ := hrel
    have HBR := Lib.hid hd
    have f0 := cell_keep hd HC.out.1
    have f1 := cell_keep hd HC.out.2.1
    have f2 := cell_keep hd HC.out.2.2.1
    have f3 := cell_keep hd HC.out.2.2.2.1
    clear hd
    have hw3 : IntKind.i64.wrap ((j : Int) + 1) = (j : Int) + 1 := by rw [IntKind.wrap_i64]; omega
    by_cases hlt : j < ts.length
    · have hlt' : (j : Int) + 1 < (row.length : Int) := by omega
      have hjr : j < row.length := by omega
      have hjr' : (j : Int) < (row.length : Int) := by omega
      have hjr2 : (j : Int) < (ts.length : Int) + 1 := by omega
      obtain ⟨b9, o9, c9, e, hcr⟩ := (HRY.out.keep HBR.out).at_ hjr
      have HFM := Lib.hid e
      cases e
      have HSJ := HSO.out j hlt hjr
      have HDJ := Lib.hid (HD.out j hlt)
      have HIJ := Lib.hid (HIH.out j hlt)
      have HNX := Lib.hid (rows_take_len hlt)
      have HXK := Lib.hid (show (sizesT m ts)[j]'(by rw [sizesT_len]; exact hlt) = m.sizes.getD ts[j].sort.toNat 0 by simp [sizesT])
      have HYK := Lib.hid (show (valTs m vals ts)[j]'(by rw [valTs_len]; exact hlt) = valT m vals ts[j] by simp [valTs_map])
      obtain ⟨a, hp1, hp2⟩ := HWR.out j (by rw [sizesT_len]; exact hlt) (by rw [valTs_len]; exact hlt)
      rw [HXK.out] at hp1
      rw [HYK.out] at hp2
      clear HXK HYK
      generalize ts[j] = tj at HSJ HDJ HIJ HNX hp1 hp2
      obtain ⟨g1, g2, g3⟩ := HSJ
      obtain ⟨n, hn⟩ : ∃ n : Nat, tj.sort = (n : Int) := ⟨tj.sort.toNat, by omega⟩
      rw [hn] at g1 g2 g3 hp1
      rw [g1] at hcr
      have hnl : n < m.sizes.length := by omega
      have hnl' : (n : Int) < (m.sizes.length : Int) := by omega
      obtain ⟨b6, o6, c6, e6, hz6⟩ := (Hm.out.of.1.keep HBR.out).at_ hnl
      cases e6
      rw [Int.toNat_natCast, getD_at _ hnl] at hp1
      generalize m.sizes[n] = z at hz6 hp1
      generalize placeM 0 ((sizesT m ts).take j) ((valTs m vals ts).take j) = pp at hp1
      generalize hqq : placeM 0 ((sizesT m ts).take (j + 1)) ((valTs m vals ts).take (j + 1)) = qq at hp2
      have HQQ := Lib.hid hqq
      generalize hvv : valT m vals tj = vj at hp2
      have HVV := Lib.hid hvv
      have HEE := Lib.hid (show k + 1 + (rowsOf (ts.take j)).length + tj.row.length = k + 1 + (rowsOf (ts.take (j + 1))).length by have := HNX.out; omega)
      generalize k + 1 + (rowsOf (ts.take j)).length = e0 at HDJ HEE
      clear g1 g2 g3 hn hqq hvv
      go_wp2_with fail
      refine (HIJ.out e0 _ _ _ _ _ _ HDJ.out (Hs.out.keep HBR.out) (Hm.out.keep HBR.out) (H3.out.keep HBR.out) (H4.out.keep HBR.out)).mono ?_
      rw [HVV.out, HEE.out]
      rintro x w4 ⟨rfl, hb4⟩
      have HX4 := Lib.hid (sz_keep HBR.out hb4)
      replace f0 := cell_keep hb4 f0
      replace f1 := cell_keep hb4 f1
      replace f2 := cell_keep hb4 f2
      replace f3 := cell_keep hb4 f3
      replace hcr := cell_keep hb4 hcr
      replace hz6 := cell_keep hb4 hz6
      generalize hee1 : k + 1 + (rowsOf (ts.take (j + 1))).length = e1 at HEE
      have HE1 := Lib.hid hee1
      clear hb4 hee1
      go_wp2_with fail
      refine wp_region_held_drew (S := (fun w' => w'.cell? ⟨w.heap.size + 1, 0, none⟩ = some (.slice (some ⟨b6, o6, none⟩) m.sizes.length cma) ∧ w'.cell? ⟨b9, o9 + j, none⟩ = some (.int .i64 (n : Int)) ∧ w'.cell? ⟨b6, o6 + n, none⟩ = some (.int .i64 z))) (by kernel_rfl) ?_ (fun hHeld => ?_)
      · exact ⟨f2, hcr, hz6⟩
      refine wpAnyH_take (i := 0) (oi := _) (v := ?_) rfl (by kernel_rfl) (by kernel_rfl) (by kernel_rfl) (fun _ _ _ h => h) (Or.inl ⟨by rfl, ?_⟩) (by assumption) ?_
      rotate_left
      · first | (intro w' hSw; (try dsimp only at hSw); go_simp; done) | (intro w' hSw; (try dsimp only at hSw); go_simp; with_reducible rfl)
      try simp only [Act.put, List.getElem_toArray, List.getElem_cons_zero, List.getElem_cons_succ, List.setIfInBounds_toArray, List.set_cons_zero, List.set_cons_succ]
      refine wpAnyH_take (i := 1) (oi := _) (v := ?_) rfl (by kernel_rfl) (by kernel_rfl) (by kernel_rfl) (fun _ _ _ h => h) (Or.inl ⟨by rfl, ?_⟩) (by assumption) ?_
      rotate_left
      · first | (intro w' hSw; (try dsimp only at hSw); go_simp; done) | (intro w' hSw; (try dsimp only at hSw); go_simp; with_reducible rfl)
      try simp only [Act.put, List.getElem_toArray, List.getElem_cons_zero, List.getElem_cons_succ, List.setIfInBounds_toArray, List.set_cons_zero, List.set_cons_succ]
      refine wpAnyH_take (i := 2) (oi := _) (v := ?_) rfl (by kernel_rfl) (by kernel_rfl) (by kernel_rfl) (fun _ _ _ h => h) (Or.inl ⟨by rfl, ?_⟩) (by assumption) ?_
      rotate_left
      · first | (intro w' hSw; (try dsimp only at hSw); go_simp; done) | (intro w' hSw; (try dsimp only at hSw); go_simp; with_reducible rfl)
      try simp only [Act.put, List.getElem_toArray, List.getElem_cons_zero, List.getElem_cons_succ, List.setIfInBounds_toArray, List.set_cons_zero, List.set_cons_succ]
      refine wpAnyH_take (i := 3) (oi := _) (v := ?_) rfl (by kernel_rfl) (by kernel_rfl) (by kernel_rfl) (fun _ _ _ h => h) (Or.inl ⟨by rfl, ?_⟩) (by assumption) ?_
      rotate_left
      · first | (intro w' hSw; (try dsimp only at hSw); go_simp; done) | (intro w' hSw; (try dsimp only at hSw); go_simp; with_reducible rfl)
      try simp only [Act.put, List.getElem_toArray, List.getElem_cons_zero, List.getElem_cons_succ, List.setIfInBounds_toArray, List.set_cons_zero, List.set_cons_succ]
      refine wpAnyH_take (i := 4) (oi := _) (v := ?_) rfl (by kernel_rfl) (by kernel_rfl) (by kernel_rfl) (fun _ _ _ h => h) (Or.inl ⟨by rfl, ?_⟩) (by assumption) ?_
      rotate_left
      · first | (intro w' hSw; (try dsimp only at hSw); go_simp; done) | (intro w' hSw; (try dsimp only at hSw); go_simp; with_reducible rfl)
      try simp only [Act.put, List.getElem_toArray, List.getElem_cons_zero, List.getElem_cons_succ, List.setIfInBounds_toArray, List.set_cons_zero, List.set_cons_succ]
      refine wpAnyH_take (i := 5) (oi := _) (v := ?_) rfl (by kernel_rfl) (by kernel_rfl) (by kernel_rfl) (fun _ _ _ h => h) (Or.inl ⟨by rfl, ?_⟩) (by assumption) ?_
      rotate_left
      · first | (intro w' hSw; (try dsimp only at hSw); go_simp; done) | (intro w' hSw; (try dsimp only at hSw); go_simp; with_reducible rfl)
      try simp only [Act.put, List.getElem_toArray, List.getElem_cons_zero, List.getElem_cons_succ, List.setIfInBounds_toArray, List.set_cons_zero, List.set_cons_succ]
      refine wpAnyH_take (i := 6) (oi := _) (v := ?_) rfl (by kernel_rfl) (by kernel_rfl) (by kernel_rfl) (fun _ _ _ h => h) (Or.inl ⟨by rfl, ?_⟩) (by assumption) ?_
      rotate_left
      · first | (intro w' hSw; (try dsimp only at hSw); go_simp; done) | (intro w' hSw; (try dsimp only at hSw); go_simp; with_reducible rfl)
      try simp only [Act.put, List.getElem_toArray, List.getElem_cons_zero, List.getElem_cons_succ, List.setIfInBounds_toArray, List.set_cons_zero, List.set_cons_succ]
      refine wpAnyH_take (i := 7) (oi := _) (v := ?_) rfl (by kernel_rfl) (by kernel_rfl) (by kernel_rfl) (fun _ _ _ h => h) (Or.inl ⟨by rfl, ?_⟩) (by assumption) ?_
      rotate_left
      · first | (intro w' hSw; (try dsimp only at hSw); go_simp; done) | (intro w' hSw; (try dsimp only at hSw); go_simp; with_reducible rfl)
      try simp only [Act.put, List.getElem_toArray, List.getElem_cons_zero, List.getElem_cons_succ, List.setIfInBounds_toArray, List.set_cons_zero, List.set_cons_succ]
      refine wpAnyH_take (i := 8) (oi := _) (v := ?_) rfl (by kernel_rfl) (by kernel_rfl) (by kernel_rfl) (fun _ _ _ h => h) (Or.inl ⟨by rfl, ?_⟩) (by assumption) ?_
      rotate_left
      · first | (intro w' hSw; (try dsimp only at hSw); go_simp; done) | (intro w' hSw; (try dsimp only at hSw); go_simp; with_reducible rfl)
      try simp only [Act.put, List.getElem_toArray, List.getElem_cons_zero, List.getElem_cons_succ, List.setIfInBounds_toArray, List.set_cons_zero, List.set_cons_succ]
      refine wpAnyH_take (i := 9) (oi := _) (v := ?_) rfl (by kernel_rfl) (by kernel_rfl) (by kernel_rfl) (fun _ _ _ h => h) (Or.inl ⟨by rfl, ?_⟩) (by assumption) ?_
      rotate_left
      · first | (intro w' hSw; (try dsimp only at hSw); go_simp; done) | (intro w' hSw; (try dsimp only at hSw); go_simp; with_reducible rfl)
      try simp only [Act.put, List.getElem_toArray, List.getElem_cons_zero, List.getElem_cons_succ, List.setIfInBounds_toArray, List.set_cons_zero, List.set_cons_succ]
      refine wpAnyH_take (i := 10) (oi := _) (v := ?_) rfl (by kernel_rfl) (by kernel_rfl) (by kernel_rfl) (fun _ _ _ h => h) (Or.inl ⟨by rfl, ?_⟩) (by assumption) ?_
      rotate_left
      · first | (intro w' hSw; (try dsimp only at hSw); go_simp; done) | (intro w' hSw; (try dsimp only at hSw); go_simp; with_reducible rfl)
      try simp only [Act.put, List.getElem_toArray, List.getElem_cons_zero, List.getElem_cons_succ, List.setIfInBounds_toArray, List.set_cons_zero, List.set_cons_succ]
      refine wpAnyH_take (i := 11) (oi := _) (v := ?_) rfl (by kernel_rfl) (by kernel_rfl) (by kernel_rfl) (fun _ _ _ h => h) (Or.inl ⟨by rfl, ?_⟩) (by assumption) ?_
      rotate_left
      · first | (intro w' hSw; (try dsimp only at hSw); go_simp; done) | (intro w' hSw; (try dsimp only at hSw); go_simp; with_reducible rfl)
      try simp only [Act.put, List.getElem_toArray, List.getElem_cons_zero, List.getElem_cons_succ, List.setIfInBounds_toArray, List.set_cons_zero, List.set_cons_succ]
      refine wpAnyH_take (i := 12) (oi := _) (v := ?_) rfl (by kernel_rfl) (by kernel_rfl) (by kernel_rfl) (fun _ _ _ h => h) (Or.inl ⟨by rfl, ?_⟩) (by assumption) ?_
      rotate_left
      · first | (intro w' hSw; (try dsimp only at hSw); go_simp; done) | (intro w' hSw; (try dsimp only at hSw); go_simp; with_reducible rfl)
      try simp only [Act.put, List.getElem_toArray, List.getElem_cons_zero, List.getElem_cons_succ, List.setIfInBounds_toArray, List.set_cons_zero, List.set_cons_succ]
      refine wpAnyH_done (by kernel_rfl) ?_ _
      have HX5 := Lib.hid (map_drew HX4.out)
      clear f0 f1 f2 f3 hcr hz6
      go_wp2
      go_roundw
      case rel => exact ⟨j + 1, by omega, by go_num, by rw [HQQ.out], by rw [HE1.out], HX5.out⟩
      case measure => simp [intOf]; omega
    · have hjn : j = ts.length := by omega
      have hlt' : ¬ (j : Int) + 1 < (row.length : Int) := by omega
      have HT1 := Lib.hid (show ts.take j = ts from take_all (by omega))
      have HT2 := Lib.hid (show (sizesT m ts).take j = sizesT m ts from take_all (by rw [sizesT_len]; omega))
      have HT3 := Lib.hid (show (valTs m vals ts).take j = valTs m vals ts from take_all (by rw [valTs_len]; omega))
      have g0 := cell_keep HBR.out HC.out.2.2.2.2.1
      have g1 := cell_keep HBR.out HC.out.2.2.2.2.2.1
      have g2 := cell_keep HBR.out HC.out.2.2.2.2.2.2
      rw [HT1.out, HT2.out, HT3.out, HPL.out]
      generalize hee : k + 1 + (rowsOf ts).length = e1
      have HEE := Lib.hid hee
      clear f0 f1 f2 hee
      go_wp2_with fail
      refine wp_region_held_drew (S := (fun w' => w'.cell? ⟨w.heap.size + 1, 1, none⟩ = some (.slice (some ⟨b7, o7, none⟩) m.tables.length cmb) ∧ w'.cell? ⟨b3, o3 + k, none⟩ = some (.int .i64 (op : Int)) ∧ w'.cell? ⟨b7, o7 + op, none⟩ = some (.slice (some ⟨b8, o8, none⟩) tl c8) ∧ w'.cell? ⟨b8, o8 + pn, none⟩ = some (.int .i64 y))) (by kernel_rfl) ?_ (fun hHeld => ?_)
      · exact ⟨f3, g0, g1, g2⟩
      refine wpAnyH_take (i := 0) (oi := _) (v := ?_) rfl (by kernel_rfl) (by kernel_rfl) (by kernel_rfl) (fun _ _ _ h => h) (Or.inl ⟨by rfl, ?_⟩) (by assumption) ?_
      rotate_left
      · first | (intro w' hSw; (try dsimp only at hSw); go_simp; done) | (intro w' hSw; (try dsimp only at hSw); go_simp; with_reducible rfl)
      try simp only [Act.put, List.getElem_toArray, List.getElem_cons_zero, List.getElem_cons_succ, List.setIfInBounds_toArray, List.set_cons_zero, List.set_cons_succ]
      refine wpAnyH_take (i := 1) (oi := _) (v := ?_) rfl (by kernel_rfl) (by kernel_rfl) (by kernel_rfl) (fun _ _ _ h => h) (Or.inl ⟨by rfl, ?_⟩) (by assumption) ?_
      rotate_left
      · first | (intro w' hSw; (try dsimp only at hSw); go_simp; done) | (intro w' hSw; (try dsimp only at hSw); go_simp; with_reducible rfl)
      try simp only [Act.put, List.getElem_toArray, List.getElem_cons_zero, List.getElem_cons_succ, List.setIfInBounds_toArray, List.set_cons_zero, List.set_cons_succ]
      refine wpAnyH_take (i := 2) (oi := _) (v := ?_) rfl (by kernel_rfl) (by kernel_rfl) (by kernel_rfl) (fun _ _ _ h => h) (Or.inl ⟨by rfl, ?_⟩) (by assumption) ?_
      rotate_left
      · first | (intro w' hSw; (try dsimp only at hSw); go_simp; done) | (intro w' hSw; (try dsimp only at hSw); go_simp; with_reducible rfl)
      try simp only [Act.put, List.getElem_toArray, List.getElem_cons_zero, List.getElem_cons_succ, List.setIfInBounds_toArray, List.set_cons_zero, List.set_cons_succ]
      refine wpAnyH_take (i := 3) (oi := _) (v := ?_) rfl (by kernel_rfl) (by kernel_rfl) (by kernel_rfl) (fun _ _ _ h => h) (Or.inl ⟨by rfl, ?_⟩) (by assumption) ?_
      rotate_left
      · first | (intro w' hSw; (try dsimp only at hSw); go_simp; done) | (intro w' hSw; (try dsimp only at hSw); go_simp; with_reducible rfl)
      try simp only [Act.put, List.getElem_toArray, List.getElem_cons_zero, List.getElem_cons_succ, List.setIfInBounds_toArray, List.set_cons_zero, List.set_cons_succ]
      refine wpAnyH_take (i := 4) (oi := _) (v := ?_) rfl (by kernel_rfl) (by kernel_rfl) (by kernel_rfl) (fun _ _ _ h => h) (Or.inl ⟨by rfl, ?_⟩) (by assumption) ?_
      rotate_left
      · first | (intro w' hSw; (try dsimp only at hSw); go_simp; done) | (intro w' hSw; (try dsimp only at hSw); go_simp; with_reducible rfl)
      try simp only [Act.put, List.getElem_toArray, List.getElem_cons_zero, List.getElem_cons_succ, List.setIfInBounds_toArray, List.set_cons_zero, List.set_cons_succ]
      refine wpAnyH_take (i := 5) (oi := _) (v := ?_) rfl (by kernel_rfl) (by kernel_rfl) (by kernel_rfl) (fun _ _ _ h => h) (Or.inl ⟨by rfl, ?_⟩) (by assumption) ?_
      rotate_left
      · first | (intro w' hSw; (try dsimp only at hSw); go_simp; done) | (intro w' hSw; (try dsimp only at hSw); go_simp; with_reducible rfl)
      try simp only [Act.put, List.getElem_toArray, List.getElem_cons_zero, List.getElem_cons_succ, List.setIfInBounds_toArray, List.set_cons_zero, List.set_cons_succ]
      refine wpAnyH_take (i := 6) (oi := _) (v := ?_) rfl (by kernel_rfl) (by kernel_rfl) (by kernel_rfl) (fun _ _ _ h => h) (Or.inl ⟨by rfl, ?_⟩) (by assumption) ?_
      rotate_left
      · first | (intro w' hSw; (try dsimp only at hSw); go_simp; done) | (intro w' hSw; (try dsimp only at hSw); go_simp; with_reducible rfl)
      try simp only [Act.put, List.getElem_toArray, List.getElem_cons_zero, List.getElem_cons_succ, List.setIfInBounds_toArray, List.set_cons_zero, List.set_cons_succ]
      refine wpAnyH_take (i := 7) (oi := _) (v := ?_) rfl (by kernel_rfl) (by kernel_rfl) (by kernel_rfl) (fun _ _ _ h => h) (Or.inl ⟨by rfl, ?_⟩) (by assumption) ?_
      rotate_left
      · first | (intro w' hSw; (try dsimp only at hSw); go_simp; done) | (intro w' hSw; (try dsimp only at hSw); go_simp; with_reducible rfl)
      try simp only [Act.put, List.getElem_toArray, List.getElem_cons_zero, List.getElem_cons_succ, List.setIfInBounds_toArray, List.set_cons_zero, List.set_cons_succ]
      refine wpAnyH_take (i := 8) (oi := _) (v := ?_) rfl (by kernel_rfl) (by kernel_rfl) (by kernel_rfl) (fun _ _ _ h => h) (Or.inl ⟨by rfl, ?_⟩) (by assumption) ?_
      rotate_left
      · first | (intro w' hSw; (try dsimp only at hSw); go_simp; done) | (intro w' hSw; (try dsimp only at hSw); go_simp; with_reducible rfl)
      try simp only [Act.put, List.getElem_toArray, List.getElem_cons_zero, List.getElem_cons_succ, List.setIfInBounds_toArray, List.set_cons_zero, List.set_cons_succ]
      refine wpAnyH_take (i := 9) (oi := _) (v := ?_) rfl (by kernel_rfl) (by kernel_rfl) (by kernel_rfl) (fun _ _ _ h => h) (Or.inl ⟨by rfl, ?_⟩) (by assumption) ?_
      rotate_left
      · first | (intro w' hSw; (try dsimp only at hSw); go_simp; done) | (intro w' hSw; (try dsimp only at hSw); go_simp; with_reducible rfl)
      try simp only [Act.put, List.getElem_toArray, List.getElem_cons_zero, List.getElem_cons_succ, List.setIfInBounds_toArray, List.set_cons_zero, List.set_cons_succ]
      refine wpAnyH_take (i := 10) (oi := _) (v := ?_) rfl (by kernel_rfl) (by kernel_rfl) (by kernel_rfl) (fun _ _ _ h => h) (Or.inl ⟨by rfl, ?_⟩) (by assumption) ?_
      rotate_left
      · first | (intro w' hSw; (try dsimp only at hSw); go_simp; done) | (intro w' hSw; (try dsimp only at hSw); go_simp; with_reducible rfl)
      try simp only [Act.put, List.getElem_toArray, List.getElem_cons_zero, List.getElem_cons_succ, List.setIfInBounds_toArray, List.set_cons_zero, List.set_cons_succ]
      refine wpAnyH_take (i := 11) (oi := _) (v := ?_) rfl (by kernel_rfl) (by kernel_rfl) (by kernel_rfl) (fun _ _ _ h => h) (Or.inl ⟨by rfl, ?_⟩) (by assumption) ?_
      rotate_left
      · first | (intro w' hSw; (try dsimp only at hSw); go_simp; done) | (intro w' hSw; (try dsimp only at hSw); go_simp; with_reducible rfl)
      try simp only [Act.put, List.getElem_toArray, List.getElem_cons_zero, List.getElem_cons_succ, List.setIfInBounds_toArray, List.set_cons_zero, List.set_cons_succ]
      refine wpAnyH_take (i := 12) (oi := _) (v := ?_) rfl (by kernel_rfl) (by kernel_rfl) (by kernel_rfl) (fun _ _ _ h => h) (Or.inl ⟨by rfl, ?_⟩) (by assumption) ?_
      rotate_left
      · first | (intro w' hSw; (try dsimp only at hSw); go_simp; done) | (intro w' hSw; (try dsimp only at hSw); go_simp; with_reducible rfl)
      try simp only [Act.put, List.getElem_toArray, List.getElem_cons_zero, List.getElem_cons_succ, List.setIfInBounds_toArray, List.set_cons_zero, List.set_cons_succ]
      refine wpAnyH_take (i := 13) (oi := _) (v := ?_) rfl (by kernel_rfl) (by kernel_rfl) (by kernel_rfl) (fun _ _ _ h => h) (Or.inl ⟨by rfl, ?_⟩) (by assumption) ?_
      rotate_left
      · first | (intro w' hSw; (try dsimp only at hSw); go_simp; done) | (intro w' hSw; (try dsimp only at hSw); go_simp; with_reducible rfl)
      try simp only [Act.put, List.getElem_toArray, List.getElem_cons_zero, List.getElem_cons_succ, List.setIfInBounds_toArray, List.set_cons_zero, List.set_cons_succ]
      refine wpAnyH_done (by kernel_rfl) ?_ _
      clear f3 g0 g1 g2
      go_wp2
      refine bodyPost_ret (v := .tuple #[.int .i64 y, .int .i64 (e1 : Int)]) (by simp [results, Try.results65, go_sem]) rfl ?_
      rw [HVAL.out, ← HEE.out]
      refine ⟨?_, sz_keep HB.out (map_drew HBR.out)⟩
      simp only [Tm.row, List.length_cons]
      rw [show k + ((rowsOf ts).length + 1) = k + 1 + (rowsOf ts).length by omega]

mutual
theorem l5_any {s : MSig} {m : MModel} {vars t vals : List Int} (ht : t.length ≤ 30) (hf : ModFacts s m) (hv : ValsOk m vars vals) (h4 : vars.length ≤ 4) : ∀ tm : Tm, wfT s vars tm → L5At s m t vals tm
  | .leaf k of, hw => by
    unfold wfT at hw
    exact l5_leaf s m t vals ht k of (by rw [hv.1]; exact hw.1) (by rw [hv.1]; exact h4)
  | .node op lv ts, hw => l5_node s m vars t vals ht hf hv op lv ts hw (by
    have hw2 := hw
    unfold wfT at hw2
    exact l5_all ht hf hv h4 ts _ hw2.2.2)
theorem l5_all {s : MSig} {m : MModel} {vars t vals : List Int} (ht : t.length ≤ 30) (hf : ModFacts s m) (hv : ValsOk m vars vals) (h4 : vars.length ≤ 4) : ∀ (ts : List Tm) (ss : List Int), wfTs s vars ss ts → ∀ (k : Nat) (h : k < ts.length), L5At s m t vals ts[k]
  | [], ss, hw, k, h => by simp at h
  | t :: ts, ss, hw, 0, h => by
    unfold wfTs at hw
    obtain ⟨x, ss', rfl, rfl, h1, h2⟩ := hw
    exact l5_any ht hf hv h4 t h1
  | t :: ts, ss, hw, k + 1, h => by
    unfold wfTs at hw
    obtain ⟨x, ss', rfl, rfl, h1, h2⟩ := hw
    exact l5_all ht hf hv h4 ts _ h2 k (by simpa using h)
end
end

section
open Go.RowKit
set_option linter.unusedVariables false
set_option linter.unusedSimpArgs false

theorem value_none {s : MSig} {m : MModel} {vars t vals : List Int} (h : termM s vars t = none) : valueM s m vars t vals = -1 := by unfold valueM; rw [h]
theorem value_bad {s : MSig} {m : MModel} {vars t vals : List Int} (h : valsB s m vars vals = false) : valueM s m vars t vals = -1 := by unfold valueM; rw [h]; cases termM s vars t <;> rfl
theorem value_some {s : MSig} {m : MModel} {vars t vals : List Int} {tm : Tm} (h : termM s vars t = some tm) (h2 : valsB s m vars vals = true) : valueM s m vars t vals = valT m vals tm := by unfold valueM; rw [h, h2]; rfl

set_option maxHeartbeats 1600000 in
set_option maxRecDepth 100000 in
theorem valueOf_any (s : MSig) (m : MModel) (vars t vals : List Int) (w : World) (v v' v2 v3 v4 : Value) (hsm : Small t) (h1 : RSig w v s) (h2 : RModel w v' m) (h3 : RInts w v2 vars) (h4 : RInts w v3 t) (h5 : RInts w v4 vals) :
    Calls Try.prog 25 #[v, v', v2, v3, v4] w fun e w' => e = .returned (.int .i64 (valueM s m vars t vals)) ∧ Below w.heap.size w w' := by
  obtain ⟨Asa, csa, rfl⟩ := h1.form
  obtain ⟨Ama, cma, Amb, cmb, rfl⟩ := h2.form
  have hb : Below w.heap.size w ((w.alloc (.cells #[.int .i64 s.sorts, .slice Asa s.ops.length csa] 25)).alloc (.cells #[.slice Ama m.sizes.length cma, .slice Amb m.tables.length cmb] 28)) := (below_alloc _ _).alloc (by simp) _
  have HB := Lib.hid hb
  have hsz : ((w.alloc (.cells #[.int .i64 s.sorts, .slice Asa s.ops.length csa] 25)).alloc (.cells #[.slice Ama m.sizes.length cma, .slice Amb m.tables.length cmb] 28)).heap.size = w.heap.size + 2 := by simp
  have Hs := Lib.hid (h1.keep hb)
  have s0 := cell_keep (below_alloc (w.alloc (.cells #[.int .i64 s.sorts, .slice Asa s.ops.length csa] 25)) (.cells #[.slice Ama m.sizes.length cma, .slice Amb m.tables.length cmb] 28)) (bx_at (w) #[.int .i64 s.sorts, .slice Asa s.ops.length csa] 25 (k := 0) rfl)
  have s1 := cell_keep (below_alloc (w.alloc (.cells #[.int .i64 s.sorts, .slice Asa s.ops.length csa] 25)) (.cells #[.slice Ama m.sizes.length cma, .slice Amb m.tables.length cmb] 28)) (bx_at (w) #[.int .i64 s.sorts, .slice Asa s.ops.length csa] 25 (k := 1) rfl)
  have Hm := Lib.hid (h2.keep hb)
  have m0 := bx_at (w.alloc (.cells #[.int .i64 s.sorts, .slice Asa s.ops.length csa] 25)) #[.slice Ama m.sizes.length cma, .slice Amb m.tables.length cmb] 28 (k := 0) rfl
  have m1 := bx_at (w.alloc (.cells #[.int .i64 s.sorts, .slice Asa s.ops.length csa] 25)) #[.slice Ama m.sizes.length cma, .slice Amb m.tables.length cmb] 28 (k := 1) rfl
  simp only [World.size_alloc] at m0 m1
  generalize hW : (w.alloc (.cells #[.int .i64 s.sorts, .slice Asa s.ops.length csa] 25)).alloc (.cells #[.slice Ama m.sizes.length cma, .slice Amb m.tables.length cmb] 28) = W at HB hsz Hs s0 s1 Hm m0 m1
  clear hb h1 h2
  have H3 := Lib.hid (h3.keep HB.out)
  have H4 := Lib.hid (h4.keep HB.out)
  have H5 := Lib.hid (h5.keep HB.out)
  have HSM := Lib.hid hsm
  obtain ⟨A3, d3, rfl, -⟩ := h3.form
  obtain ⟨A4, d4, rfl, -⟩ := h4.form
  obtain ⟨A5, d5, rfl, -⟩ := h5.form
  clear h3 h4 h5 hsm
  go_enter Try.func25, Try.ntmps25
  go_wp2_with fail
  clear hW
  refine (termOf_any s vars t _ _ _ _ HSM.out Hs.out H3.out H4.out).mono ?_
  rintro e w1 ⟨hm, hb⟩
  replace HB := Lib.hid (sz_keep HB.out hb)
  replace s0 := cell_keep hb s0
  replace s1 := cell_keep hb s1
  replace m0 := cell_keep hb m0
  replace m1 := cell_keep hb m1
  replace Hs := Lib.hid (Hs.out.keep hb)
  replace Hm := Lib.hid (Hm.out.keep hb)
  replace H3 := Lib.hid (H3.out.keep hb)
  replace H5 := Lib.hid (H5.out.keep hb)
  clear hb
  cases ht : termM s vars t with
  | none =>
    rw [ht] at hm
    simp only at hm
    subst hm
    have HR := Lib.hid (value_none (m := m) (vals := vals) ht)
    clear ht
    go_wp2
    go_ret
    exact ⟨ret_int HR.out.symm, HB.out⟩
  | some tm =>
    rw [ht] at hm
    simp only at hm
    obtain ⟨u, rfl, hu⟩ := hm
    have HU := Lib.hid hu
    have HTT := Lib.hid ht
    obtain ⟨T, y, fid, rfl, -⟩ := hu.sorts
    clear ht hu
    cases hv : valsB s m vars vals with
    | false =>
      have HV := Lib.hid hv
      have HR := Lib.hid (value_bad (t := t) hv)
      clear hv
      go_wp2_with fail
      refine (valuesOk_any s m vars vals _ _ _ _ _ Hs.out Hm.out H3.out H5.out).mono ?_
      rw [HV.out]
      rintro e w2 ⟨rfl, hb⟩
      replace HB := Lib.hid (sz_keep HB.out hb)
      replace s0 := cell_keep hb s0
      replace s1 := cell_keep hb s1
      replace m0 := cell_keep hb m0
      replace m1 := cell_keep hb m1
      replace Hs := Lib.hid (Hs.out.keep hb)
      replace Hm := Lib.hid (Hm.out.keep hb)
      replace H3 := Lib.hid (H3.out.keep hb)
      replace H5 := Lib.hid (H5.out.keep hb)
      clear hb
      go_wp2
      go_ret
      exact ⟨ret_int HR.out.symm, HB.out⟩
    | true =>
      have HV := Lib.hid hv
      have HR := Lib.hid (value_some HTT.out hv)
      clear hv
      go_wp2_with fail
      refine (valuesOk_any s m vars vals _ _ _ _ _ Hs.out Hm.out H3.out H5.out).mono ?_
      rw [HV.out]
      rintro e w2 ⟨rfl, hb⟩
      replace HU := Lib.hid (HU.out.below hb)
      replace HB := Lib.hid (sz_keep HB.out hb)
      replace s0 := cell_keep hb s0
      replace s1 := cell_keep hb s1
      replace m0 := cell_keep hb m0
      replace m1 := cell_keep hb m1
      replace Hs := Lib.hid (Hs.out.keep hb)
      replace Hm := Lib.hid (Hm.out.keep hb)
      replace H3 := Lib.hid (H3.out.keep hb)
      replace H5 := Lib.hid (H5.out.keep hb)
      clear hb
      go_wp2_with fail
      refine (val_any (model_facts (vals_facts HV.out).2.1) (vals_facts HV.out).2.2 tm (termM_to HTT.out).2.2.1 _ _ _ _ _ Hm.out HU.out H5.out).mono ?_
      rintro e w3 ⟨rfl, hb⟩
      replace HB := Lib.hid (sz_keep HB.out hb)
      replace s0 := cell_keep hb s0
      replace s1 := cell_keep hb s1
      replace m0 := cell_keep hb m0
      replace m1 := cell_keep hb m1
      replace Hs := Lib.hid (Hs.out.keep hb)
      replace Hm := Lib.hid (Hm.out.keep hb)
      replace H3 := Lib.hid (H3.out.keep hb)
      replace H5 := Lib.hid (H5.out.keep hb)
      clear hb
      go_wp2
      go_ret
      exact ⟨ret_int HR.out.symm, HB.out⟩
end

section
open Go.RowKit Go.Shelf
set_option linter.unusedVariables false
attribute [local go_sem] Oper.semAt_some

/-- what comes: an index and what stands there -/
abbrev At (zs : List Int) := { p : Nat × Int // zs[p.1]? = some p.2 }
/-- all of them, from the last one on -/
def bwd (zs : List Int) : List (At zs) := (List.finRange zs.length).reverse.map fun i => ⟨(i.1, zs[i.1]), List.getElem?_eq_getElem i.2⟩
theorem bwd_len (zs : List Int) : (bwd zs).length = zs.length := by simp [bwd]
theorem bwd_at {zs : List Int} {k m : Nat} (h : m + k + 1 = zs.length) (hk : k < (bwd zs).length) : (bwd zs)[k] = ⟨(m, zs[m]'(by omega)), List.getElem?_eq_getElem (by omega)⟩ := by
  have hm : zs.length - 1 - k = m := by omega
  subst hm
  simp [bwd]
theorem bwd_take {zs : List Int} {k : Nat} (hk : k < (bwd zs).length) : (bwd zs).take (k + 1) = (bwd zs).take k ++ [(bwd zs)[k]] := List.take_succ_eq_append_getElem hk

/-- what a round keeps: whatever lay below, and the box of the slice -/
def BwKp (w : World) (Bs : Nat) (sv : Value) (W1 W2 : World) : Prop := Below w.heap.size W1 W2 ∧ (W1.cell? ⟨Bs, 0, none⟩ = some sv → W2.cell? ⟨Bs, 0, none⟩ = some sv)
theorem bwKp_t {w : World} {Bs : Nat} {sv : Value} {A B C : World} (h : BwKp w Bs sv A B) (k : BwKp w Bs sv B C) : BwKp w Bs sv A C := ⟨h.1.trans k.1, fun c => k.2 (h.2 c)⟩
theorem bwKp_b {w w1 : World} {Bs : Nat} {sv : Value} (hn : w.heap.size ≤ w1.heap.size) (W : World) (l : Nat) (o o' : Obj) (hl : w1.heap.size ≤ l) (h : W.heap[l]? = some o) (hc : o.isCells = false) (hw : o.isWalk = false) : BwKp w Bs sv W (W.putObj l o') :=
  ⟨belowK_b hn W l o o' hl h hc hw, fun c => cell_kept c (grownBy_putObj' W l o') (fun r e => by cases e; exact ⟨o, h, hc⟩)⟩

set_option maxRecDepth 100000 in
set_option maxHeartbeats 2000000 in
theorem bw1_in (F : Fence) (n : Nat) (h7 : F.fn 104) (hro : F.round = none) (hn : 1 ≤ n) (l Bs c : Nat) (A : Option Addr) (zs : List Int) (hlen : zs.length ≤ 1048576) (w : World) (hz : RInts w (.slice A zs.length c) zs) (J Jx : List (At zs) → World → Prop)
    (hY : ∀ pre x W, J pre W → pre.length < zs.length → YieldAt F (n - 1) Try.prog l #[.int .i64 (x.1.1 : Int), .int .i64 x.1.2] W fun e W' =>
      (e = .returned (.bool true) ∧ J (pre ++ [x]) W' ∧ BwKp w Bs (.slice A zs.length c) W W') ∨ (e = .returned (.bool false) ∧ Jx (pre ++ [x]) W'))
    (W : World) (hW : Below w.heap.size w W) (hBs : W.cell? ⟨Bs, 0, none⟩ = some (.slice A zs.length c)) (h0 : J [] W) :
    CallsIn F n Try.prog 104 #[.func (.yield l) #[] #[], .pointer (some ⟨Bs, 0, none⟩)] W fun e W' => (∃ v, e = .returned v) ∧
      ((∃ ys, ys = bwd zs ∧ J ys W') ∨ (∃ pre, True ∧ Jx pre W')) := by
  have HZ := Lib.hid hz
  have HW := Lib.hid hW
  clear hz hW
  refine callsIn_of_wp Try.func104 rfl h7 ?_ hro
  simp only [Try.ntmps104, List.size_toArray, List.length_cons, List.length_nil, Nat.reduceAdd, Nat.reduceSub, Array.replicate_succ, Array.replicate_zero, List.push_toArray, List.append_toArray, List.nil_append, List.cons_append]
  gi_wp2
  gi_loopw [3] (fun i wr => ∃ r : Nat, r ≤ zs.length ∧ i = .int .i64 ((r : Int) - 1) ∧ J ((bwd zs).take (zs.length - r)) wr ∧ Below w.heap.size w wr ∧ wr.cell? ⟨Bs, 0, none⟩ = some (.slice A zs.length c))
    (fun i _ => (intOf i + 1).toNat)
  case atStart => exact ⟨zs.length, Nat.le_refl _, rfl, by simpa using h0, HW.out, hBs⟩
  case round =>
    obtain ⟨r, hr, rfl, hJs, hnx, hbc⟩ := hrel
    have HNX := Lib.hid hnx
    have HBC := Lib.hid hbc
    clear hnx
    cases r with
    | zero =>
      simp only [Nat.sub_zero] at hJs
      rw [List.take_of_length_le (by rw [bwd_len]; omega)] at hJs
      have e0 : ((0 : Nat) : Int) - 1 = -1 := rfl
      rw [e0]
      gi_wp2
      go_end0
      exact ⟨⟨_, rfl⟩, .inl ⟨_, rfl, hJs⟩⟩
    | succ m =>
      have e0 : ((m + 1 : Nat) : Int) - 1 = (m : Int) := by omega
      rw [e0]
      have hm : m < zs.length := by omega
      obtain ⟨b, o, c', e, hx⟩ := (HZ.out.keep HNX.out).at_ hm
      cases e
      have hm' : (m : Int) < (zs.length : Int) := by omega
      have hm0 : (0 : Int) ≤ (m : Int) := by omega
      have hkl : zs.length - (m + 1) < (bwd zs).length := by rw [bwd_len]; omega
      have hat := bwd_at (zs := zs) (k := zs.length - (m + 1)) (m := m) (by omega) hkl
      have HTK := Lib.hid (bwd_take hkl)
      rw [hat] at HTK
      obtain ⟨fn, tmps, assign, body, hy, hR⟩ := hY _ ⟨(m, zs[m]), List.getElem?_eq_getElem hm⟩ wr hJs (by rw [List.length_take, bwd_len]; omega)
      dsimp only at hy
      generalize hzz : zs[m] = z at hx hy
      have hw1 : IntKind.i64.wrap ((m : Int) - 1) = (m : Int) - 1 := by rw [IntKind.wrap_i64]; omega
      gi_wp2
      refine hR.mono ?_
      rintro e W3 (⟨rfl, hJ3, hk3⟩ | ⟨rfl, hJx3⟩)
      · have hbc3 := hk3.2 HBC.out
        gi_wp2
        go_roundw
        case rel => exact ⟨m, by omega, rfl, by rw [show zs.length - m = zs.length - (m + 1) + 1 by omega, HTK.out]; exact hJ3, HNX.out.trans hk3.1, hbc3⟩
        case measure => simp [intOf]
      · gi_wp2
        refine bodyPost_ret (results_none rfl _ _ _) rfl ?_
        exact ⟨⟨_, rfl⟩, .inr ⟨_, trivial, hJx3⟩⟩
theorem bw_stops (F : Fence) (n : Nat) (h7 : F.fn 104) (hro : F.round = none) (hn : 1 ≤ n) (Bs c : Nat) (A : Option Addr) (zs : List Int) (hlen : zs.length ≤ 1048576) (w : World) (hz : RInts w (.slice A zs.length c) zs) (w4 : World) (hB : Below w.heap.size w w4)
    (hBs : w4.cell? ⟨Bs, 0, none⟩ = some (.slice A zs.length c)) :
    SeqStopsK F n Try.prog 104 #[.pointer (some ⟨Bs, 0, none⟩)] (fun x : At zs => #[.int .i64 (x.1.1 : Int), .int .i64 x.1.2]) (BwKp w Bs (.slice A zs.length c)) (fun ys => ys = bwd zs) (fun _ => True) zs.length w4 :=
  fun l J Jx W hW _ _ hY h0 => bw1_in F n h7 hro hn l Bs c A zs hlen w hz J Jx hY W (hB.trans (hW.mono hB.size)) (cell_keep hW hBs) h0

set_option maxHeartbeats 1000000 in
theorem bw_in (F : Fence) (n : Nat) (h5 : F.fn 94) (hro : F.round = none) (a : Option Addr) (len cap : Nat) (w : World) :
    CallsIn F n Try.prog 94 #[.slice a len cap] w fun e w' => e = .returned (.func (.func 104) #[] #[.pointer (some ⟨w.heap.size, 0, none⟩)]) ∧ w' = w.alloc (.cells #[.slice a len cap] 26) := by
  refine callsIn_of_wp Try.func94 rfl h5 ?_ hro
  simp only [Try.ntmps94, List.size_toArray, List.length_cons, List.length_nil, Nat.reduceAdd, Nat.reduceSub, Array.replicate_succ, Array.replicate_zero, List.push_toArray, List.append_toArray, List.nil_append, List.cons_append]
  gi_wp2
  go_ret
  exact ⟨rfl, rfl⟩
end
end Go.Proofs.Ytkhabmoidpgapaa
