/- addMade of package impl. · MadeOf of package impl. · l6Sets of package spec. · l6Limits, l6Place of package spec. -/
import Derived.Test.YtkhabmoidpgapaaK02250000
import Derived.StillTailTactics
namespace Go.Proofs.Ytkhabmoidpgapaa
section
open Go.RowKit
set_option linter.unusedVariables false
set_option linter.unusedSimpArgs false

theorem gr_cell {w w' : World} {g b o : Nat} {u : Value} (h : w.grownBy w' (some g)) (hb : b ≠ g) (hc : w.cell? ⟨b, o, none⟩ = some u) : w'.cell? ⟨b, o, none⟩ = some u := by
  have hl := World.block_lt_of_cell? w _ hc
  rw [World.cell?_of_block (h.block b hl (fun e => by injection e with e; exact hb e))]
  exact hc
theorem gro_below {w w' w2 : World} {row : Option Nat} (h : w.grownBy w' row) (hb : Below w'.heap.size w' w2) : w.grownBy w2 row :=
  ⟨hb.os.trans h.os, hb.tape.trans h.tape, hb.output.trans h.output, Nat.le_trans h.size hb.size, fun i hi hne => (hb.block i (Nat.lt_of_lt_of_le hi h.size)).trans (h.block i hi hne)⟩
theorem gr_of_below {w w2 : World} {row : Option Nat} (hb : Below w.heap.size w w2) : w.grownBy w2 row := gro_below (grown_refl w row) hb
theorem gr_base {w0 w w' : World} {g : Nat} (h0 : Below w0.heap.size w0 w) (hg : w0.heap.size ≤ g) (h : w.grownBy w' (some g)) : Below w0.heap.size w0 w' :=
  h0.grown h h0.size (fun k e => by cases e; exact hg)
theorem own_gr {w w' : World} {B g : Nat} {v : Value} {xs : List Int} (h : OInts w B v xs) (hg : w.grownBy w' (some g)) (hB : g < B) : OInts w' B v xs := by
  refine own_grown h hg ?_
  cases e : v.ownBlock with
  | none => exact .inl rfl
  | some k => right; intro e2; injection e2 with e2; have := (own_lt h k e).1; omega

set_option maxRecDepth 100000 in
theorem takesAndLeaves_base (s : MSig) (k : Nat) (w0 w : World) (v : Value) (h0 : Below w0.heap.size w0 w) (h : RSig w0 v s) (hv : validB s = true) (hk : k < s.ops.length) :
    Calls Try.prog 97 #[v, .int .i64 k] w fun e w' => ∃ u, e = .returned (.tuple #[u, .int .i64 ((opRow s k).getLastD (-1))]) ∧ RInts w0 u (opRow s k).dropLast ∧ Below w.heap.size w w' := by
  have h' := h.keep h0
  have h9 := h
  obtain ⟨Asa, csa, rfl⟩ := h'.form
  have hb : Below w.heap.size w (w.alloc (.cells #[.int .i64 s.sorts, .slice Asa s.ops.length csa] 25)) := below_alloc _ _
  have HB := Lib.hid hb
  have hsz : (w.alloc (.cells #[.int .i64 s.sorts, .slice Asa s.ops.length csa] 25)).heap.size = w.heap.size + 1 := by simp
  have Hs := Lib.hid (h'.keep hb)
  have s0 := bx_at (w) #[.int .i64 s.sorts, .slice Asa s.ops.length csa] 25 (k := 0) rfl
  have s1 := bx_at (w) #[.int .i64 s.sorts, .slice Asa s.ops.length csa] 25 (k := 1) rfl
  generalize hW : w.alloc (.cells #[.int .i64 s.sorts, .slice Asa s.ops.length csa] 25) = W at HB hsz Hs s0 s1
  clear hb h'
  have HB9 := Lib.hid (sz_keep h0 HB.out)
  have hk' : (k : Int) < (s.ops.length : Int) := by omega
  obtain ⟨r1, r2, -⟩ := opRow_valid hv hk
  obtain ⟨b, o, c, u, e, hx, hr⟩ := h9.of.2.at_ hk
  cases e
  replace hx := cell_keep HB9.out hx
  have HR : Hid (RInts w0 u (opRow s k)) := by rw [opRow_at hk]; exact hr
  clear hr hv h9
  generalize opRow s k = row at HR r1 r2
  obtain ⟨n, hn⟩ : ∃ n : Nat, row.length = n + 1 := ⟨row.length - 1, by omega⟩
  have hne : n < row.length := by omega
  obtain ⟨b1, o1, c1, rfl, hy⟩ := HR.out.at_ hne
  replace hy := cell_keep HB9.out hy
  have hcap : n ≤ c1 := by
    obtain ⟨A9, c9, e, h9, -⟩ := HR.out.form
    cases e
    omega
  have HLS : Hid (row.getLastD (-1) = row[n]) := by
    have := last_at (row := row) (by omega)
    simp only [hn, Nat.add_sub_cancel] at this
    exact this
  have HD := Lib.hid HR.out.dropLast
  rw [hn] at HD
  simp only [Nat.add_sub_cancel] at HD
  rw [HLS.out]
  generalize row[n] = last at hy
  have hw0 : IntKind.i64.wrap (((n + 1 : Nat) : Int) - 1) = (n : Int) := by rw [IntKind.wrap_i64]; omega
  have hnn : (n : Int) < (n : Int) + 1 := by omega
  rw [hn] at hx
  clear HR HLS hne h0
  go_enter Try.func97, Try.ntmps97
  go_wp2_with fail
  clear hW
  refine wp_region_held_drew (S := (fun w' => w'.cell? ⟨b1, o1 + n, none⟩ = some (.int .i64 last))) (by kernel_rfl) ?_ (fun hHeld => ?_)
  · exact hy
  refine wpAnyH_take (i := 0) (oi := _) (v := ?_) rfl (by kernel_rfl) (by kernel_rfl) (by kernel_rfl) (fun _ _ _ h => h) (Or.inl ⟨by rfl, ?_⟩) (by assumption) ?_
  rotate_left
  · first | (intro w' hSw; (try dsimp only at hSw); go_simp; done) | (intro w' hSw; (try dsimp only at hSw); go_simp; with_reducible rfl)
  try simp only [Act.put, List.getElem_toArray, List.getElem_cons_zero, List.getElem_cons_succ, List.setIfInBounds_toArray, List.set_cons_zero, List.set_cons_succ]
  refine wpAnyH_take (i := 1) (oi := _) (v := ?_) rfl (by kernel_rfl) (by kernel_rfl) (by kernel_rfl) (fun _ _ _ h => h) (Or.inl ⟨by rfl, ?_⟩) (by assumption) ?_
  rotate_left
  · first | (intro w' hSw; (try dsimp only at hSw); go_simp; done) | (intro w' hSw; (try dsimp only at hSw); go_simp; with_reducible rfl)
  try simp only [Act.put, List.getElem_toArray, List.getElem_cons_zero, List.getElem_cons_succ, List.setIfInBounds_toArray, List.set_cons_zero, List.set_cons_succ]
  refine wpAnyH_take (i := 2) (oi := _) (v := ?_) rfl (by kernel_rfl) (by kernel_rfl) (by kernel_rfl) (fun _ _ _ h => h) (Or.inl ⟨by rfl, ?_⟩) (by assumption) ?_
  rotate_left
  · first | (intro w' hSw; (try dsimp only at hSw); go_simp; done) | (intro w' hSw; (try dsimp only at hSw); go_simp; with_reducible rfl)
  try simp only [Act.put, List.getElem_toArray, List.getElem_cons_zero, List.getElem_cons_succ, List.setIfInBounds_toArray, List.set_cons_zero, List.set_cons_succ]
  refine wpAnyH_take (i := 3) (oi := _) (v := ?_) rfl (by kernel_rfl) (by kernel_rfl) (by kernel_rfl) (fun _ _ _ h => h) (Or.inl ⟨by rfl, ?_⟩) (by assumption) ?_
  rotate_left
  · first | (intro w' hSw; (try dsimp only at hSw); go_simp; done) | (intro w' hSw; (try dsimp only at hSw); go_simp; with_reducible rfl)
  try simp only [Act.put, List.getElem_toArray, List.getElem_cons_zero, List.getElem_cons_succ, List.setIfInBounds_toArray, List.set_cons_zero, List.set_cons_succ]
  refine wpAnyH_take (i := 4) (oi := _) (v := ?_) rfl (by kernel_rfl) (by kernel_rfl) (by kernel_rfl) (fun _ _ _ h => h) (Or.inl ⟨by rfl, ?_⟩) (by assumption) ?_
  rotate_left
  · first | (intro w' hSw; (try dsimp only at hSw); go_simp; done) | (intro w' hSw; (try dsimp only at hSw); go_simp; with_reducible rfl)
  try simp only [Act.put, List.getElem_toArray, List.getElem_cons_zero, List.getElem_cons_succ, List.setIfInBounds_toArray, List.set_cons_zero, List.set_cons_succ]
  refine wpAnyH_take (i := 5) (oi := _) (v := ?_) rfl (by kernel_rfl) (by kernel_rfl) (by kernel_rfl) (fun _ _ _ h => h) (Or.inl ⟨by rfl, ?_⟩) (by assumption) ?_
  rotate_left
  · first | (intro w' hSw; (try dsimp only at hSw); go_simp; done) | (intro w' hSw; (try dsimp only at hSw); go_simp; with_reducible rfl)
  try simp only [Act.put, List.getElem_toArray, List.getElem_cons_zero, List.getElem_cons_succ, List.setIfInBounds_toArray, List.set_cons_zero, List.set_cons_succ]
  refine wpAnyH_take (i := 6) (oi := _) (v := ?_) rfl (by kernel_rfl) (by kernel_rfl) (by kernel_rfl) (fun _ _ _ h => h) (Or.inl ⟨by rfl, ?_⟩) (by assumption) ?_
  rotate_left
  · first | (intro w' hSw; (try dsimp only at hSw); go_simp; done) | (intro w' hSw; (try dsimp only at hSw); go_simp; with_reducible rfl)
  try simp only [Act.put, List.getElem_toArray, List.getElem_cons_zero, List.getElem_cons_succ, List.setIfInBounds_toArray, List.set_cons_zero, List.set_cons_succ]
  refine wpAnyH_take (i := 7) (oi := _) (v := ?_) rfl (by kernel_rfl) (by kernel_rfl) (by kernel_rfl) (fun _ _ _ h => h) (Or.inl ⟨by rfl, ?_⟩) (by assumption) ?_
  rotate_left
  · first | (intro w' hSw; (try dsimp only at hSw); go_simp; done) | (intro w' hSw; (try dsimp only at hSw); go_simp; with_reducible rfl)
  try simp only [Act.put, List.getElem_toArray, List.getElem_cons_zero, List.getElem_cons_succ, List.setIfInBounds_toArray, List.set_cons_zero, List.set_cons_succ]
  refine wpAnyH_take (i := 8) (oi := _) (v := ?_) rfl (by kernel_rfl) (by kernel_rfl) (by kernel_rfl) (fun _ _ _ h => h) (Or.inl ⟨by rfl, ?_⟩) (by assumption) ?_
  rotate_left
  · first | (intro w' hSw; (try dsimp only at hSw); go_simp; done) | (intro w' hSw; (try dsimp only at hSw); go_simp; with_reducible rfl)
  try simp only [Act.put, List.getElem_toArray, List.getElem_cons_zero, List.getElem_cons_succ, List.setIfInBounds_toArray, List.set_cons_zero, List.set_cons_succ]
  refine wpAnyH_done (by kernel_rfl) ?_ _
  clear hx hy s0 s1
  go_wp2
  refine bodyPost_ret (v := .tuple #[.slice (some ⟨b1, o1, none⟩) n c1, .int .i64 last]) (by simp [results, Try.results97, go_sem]) rfl ?_
  exact ⟨_, rfl, HD.out, map_drew HB.out⟩

set_option maxHeartbeats 3200000 in
set_option maxRecDepth 100000 in
theorem addMade_any (s : MSig) (m : MModel) (f : ModFacts s m) (xs : List Int) (hxs : SetsIn m xs) (w0 w : World) (B g c : Nat) (v va : Value) (h0 : Below w0.heap.size w0 w) (hg : w0.heap.size ≤ g) (h1 : RSig w0 v s) (h2 : RModel w0 va m) (ho : OInts w B (.slice (some ⟨g, 0, none⟩) xs.length c) xs) :
    Calls Try.prog 71 #[v, va, .slice (some ⟨g, 0, none⟩) xs.length c] w fun e w' => e = .returned (.bool (roundM s m xs).2) ∧ OInts w' B (.slice (some ⟨g, 0, none⟩) xs.length c) (roundM s m xs).1 ∧ Below w0.heap.size w0 w' := by
  have hgw : g < w.heap.size := (own_lt ho g rfl).2
  have h1' := h1.keep h0
  have h2' := h2.keep h0
  have H1 := Lib.hid h1
  have H2 := Lib.hid h2
  obtain ⟨Asa, csa, rfl⟩ := h1'.form
  obtain ⟨Ama, cma, Amb, cmb, rfl⟩ := h2'.form
  have hb : Below w.heap.size w ((w.alloc (.cells #[.int .i64 s.sorts, .slice Asa s.ops.length csa] 25)).alloc (.cells #[.slice Ama m.sizes.length cma, .slice Amb m.tables.length cmb] 28)) := (below_alloc _ _).alloc (by simp) _
  have HB := Lib.hid hb
  have hsz : ((w.alloc (.cells #[.int .i64 s.sorts, .slice Asa s.ops.length csa] 25)).alloc (.cells #[.slice Ama m.sizes.length cma, .slice Amb m.tables.length cmb] 28)).heap.size = w.heap.size + 2 := by simp
  have Hs := Lib.hid (h1'.keep hb)
  have s0 := cell_keep (below_alloc (w.alloc (.cells #[.int .i64 s.sorts, .slice Asa s.ops.length csa] 25)) (.cells #[.slice Ama m.sizes.length cma, .slice Amb m.tables.length cmb] 28)) (bx_at (w) #[.int .i64 s.sorts, .slice Asa s.ops.length csa] 25 (k := 0) rfl)
  have s1 := cell_keep (below_alloc (w.alloc (.cells #[.int .i64 s.sorts, .slice Asa s.ops.length csa] 25)) (.cells #[.slice Ama m.sizes.length cma, .slice Amb m.tables.length cmb] 28)) (bx_at (w) #[.int .i64 s.sorts, .slice Asa s.ops.length csa] 25 (k := 1) rfl)
  have Hm := Lib.hid (h2'.keep hb)
  have m0 := bx_at (w.alloc (.cells #[.int .i64 s.sorts, .slice Asa s.ops.length csa] 25)) #[.slice Ama m.sizes.length cma, .slice Amb m.tables.length cmb] 28 (k := 0) rfl
  have m1 := bx_at (w.alloc (.cells #[.int .i64 s.sorts, .slice Asa s.ops.length csa] 25)) #[.slice Ama m.sizes.length cma, .slice Amb m.tables.length cmb] 28 (k := 1) rfl
  simp only [World.size_alloc] at m0 m1
  generalize hW : (w.alloc (.cells #[.int .i64 s.sorts, .slice Asa s.ops.length csa] 25)).alloc (.cells #[.slice Ama m.sizes.length cma, .slice Amb m.tables.length cmb] 28) = W at HB hsz Hs s0 s1 Hm m0 m1
  clear hb h1' h2'
  have H0W := Lib.hid (sz_keep h0 HB.out)
  have HO := Lib.hid (ho.keep HB.out)
  have HF := Lib.hid f
  have HXS := Lib.hid hxs
  have HCX := Lib.hid (And.intro s0 (And.intro s1 (And.intro m0 m1)))
  have HTL0 := Lib.hid f.tl
  have hto := (valid_sorts f.va).2.2
  have hxl : xs.length ≤ 3 := by rw [hxs.len]; exact f.sorts.1
  have HGW := Lib.hid (show g < W.heap.size by have := HB.out.size; omega)
  have HN1 := Lib.hid (show w.heap.size ≠ g ∧ w.heap.size + 1 ≠ g by omega)
  have HGB := Lib.hid hg
  obtain ⟨n, hn⟩ : ∃ n, n = xs.length := ⟨_, rfl⟩
  rw [← hn] at HO ⊢
  have HNL := Lib.hid hn
  clear h0 h1 h2 ho f hxs hg hgw hsz hn
  go_enter Try.func71, Try.ntmps71
  go_wp2
  clear hW s0 s1 m0 m1
  go_loopw [7, 8, 9, 10, 11, 12, 13, 14, 18] (fun q _ _ _ _ _ _ _ i wr => ∃ k : Nat, k ≤ m.tables.length ∧ i = .int .i64 k ∧ q = .bool (addOps s m k (xs, false)).2 ∧ OInts wr B (.slice (some ⟨g, 0, none⟩) n c) (addOps s m k (xs, false)).1 ∧ W.grownBy wr (some g)) (fun _ _ _ _ _ _ _ _ i _ => m.tables.length - (intOf i).toNat)
  case atStart => exact ⟨0, Nat.zero_le _, rfl, rfl, HO.out, grown_refl _ _⟩
  case round =>
    obtain ⟨k, hk, rfl, rfl, ho, hgr⟩ := hrel
    have HGR := Lib.hid hgr
    have HO := Lib.hid ho
    have HD := Lib.hid (gr_base H0W.out HGB.out hgr)
    have f0 := gr_cell hgr HN1.out.1 HCX.out.1
    have f1 := gr_cell hgr HN1.out.1 HCX.out.2.1
    have f2 := gr_cell hgr HN1.out.2 HCX.out.2.2.1
    have f3 := gr_cell hgr HN1.out.2 HCX.out.2.2.2
    clear hgr ho
    by_cases hlt : k < m.tables.length
    · have hlt' : (k : Int) < (m.tables.length : Int) := by omega
      have hks : k < s.ops.length := by have := HTL0.out; omega
      obtain ⟨b4, o4, c4, u4, e, hx, hr4⟩ := H2.out.of.2.at_ hlt
      cases e
      replace hx := cell_keep HD.out hx
      have HTB : Hid (RInts w0 u4 (m.tables.getD k [])) := by rw [getD_at _ hlt]; exact hr4
      have HTS := Lib.hid (addOps_succ s m k (xs, false))
      have HGO := Lib.hid ((addOps_grows HF.out (st := (xs, false)) HXS.out k (by omega)).ok)
      have HOA := Lib.hid (HF.out.op hks)
      have HTA := Lib.hid (takesAndLeaves_base s k w0 wr _ HD.out H1.out HF.out.va hks)
      have HAD := Lib.hid (fun st => (show addOp s m k st = addRows (ledM m.sizes (opRow s k).dropLast) (opRow s k).dropLast ((opRow s k).getLastD (-1)) (m.tables.getD k []) (m.tables.getD k []).length st from rfl))
      clear hr4
      obtain ⟨A5, c5, rfl, hl5, -⟩ := HTB.out.form
      generalize hst : addOps s m k (xs, false) = st at HO HTS HGO
      rw [HAD.out] at HTS
      generalize (opRow s k).dropLast = takes at HOA HTA HTS
      generalize (opRow s k).getLastD (-1) = last at HOA HTA HTS
      generalize m.tables.getD k [] = table at HTB HOA hx HTS hl5
      clear hst HAD
      go_wp2_with fail
      refine HTA.out.mono ?_
      rintro x w2 ⟨ut, rfl, hut, hb⟩
      have HUT := Lib.hid hut
      obtain ⟨At, ct, rfl, -⟩ := hut.form
      have HB2 := Lib.hid hb
      replace f2 := cell_keep hb f2
      replace f3 := cell_keep hb f3
      clear hut hb hx f0 f1
      go_wp2_with fail
      refine (sizesOf_any m takes _ _ _ (H2.out.keep (sz_keep HD.out HB2.out)) (HUT.out.keep (sz_keep HD.out HB2.out)) HOA.out.into (by have := HOA.out.tsm; omega)).mono ?_
      rintro x w3 ⟨u3, rfl, ho3, hb3⟩
      have HZO := Lib.hid (ho3.base HB2.out.size)
      obtain ⟨A3, c3, rfl, -⟩ := ho3.reads.form
      have HB3 := Lib.hid (sz_keep HB2.out hb3)
      have HO3 := Lib.hid (HO.out.keep HB3.out)
      have HG3 := Lib.hid (gro_below HGR.out HB3.out)
      have HGA := Lib.hid (show g < wr.heap.size by have := HGR.out.size; have := HGW.out; omega)
      have HZ4 := Lib.hid HOA.out.zlen
      have HFW := Lib.hid HOA.out.few
      have HSA := Lib.hid HOA.out.siz
      have HTI := Lib.hid HOA.out.tin
      have HTM := Lib.hid HOA.out.tsm
      have HLI := Lib.hid HOA.out.lin
      have HVL := Lib.hid HOA.out.val
      have HLZ := Lib.hid (ledM_len m.sizes takes)
      have HAG := Lib.hid (fun (zs : List Int) (j : Nat) (hj : j ≤ table.length) => (addRows_grows HF.out HOA.out (zs := zs) HGO.out j hj).ok)
      generalize ledM m.sizes takes = zs at HZO HZ4 HSA HTS HLZ
      clear ho3 hb3
      clear f2 f3
      go_wp2
      go_loopw [7, 13, 14, 34] (fun q _ _ i wk => ∃ j : Nat, j ≤ table.length ∧ i = .int .i64 j ∧ q = .bool (addRows zs takes last table j st).2 ∧ OInts wk B (.slice (some ⟨g, 0, none⟩) n c) (addRows zs takes last table j st).1 ∧ w3.grownBy wk (some g)) (fun _ _ _ i _ => table.length - (intOf i).toNat)
      case atStart => exact ⟨0, Nat.zero_le _, rfl, rfl, HO3.out, grown_refl _ _⟩
      case round =>
        obtain ⟨j, hj, rfl, rfl, hoj, hgj⟩ := hrel
        obtain ⟨wk, hwk⟩ : ∃ x : World, x = wr := ⟨_, rfl⟩
        subst hwk
        have HGJ := Lib.hid hgj
        have HOJ := Lib.hid hoj
        have HG9 := Lib.hid (grown_trans HG3.out hgj)
        have HDK := Lib.hid (gr_base H0W.out HGB.out HG9.out)
        clear hoj hgj
        by_cases hjt : j < table.length
        · have hjt' : (j : Int) < (table.length : Int) := by omega
          have hfw := HFW.out
          obtain ⟨b7, o7, c7, e, hv7⟩ := (HTB.out.keep HDK.out).at_ hjt
          cases e
          have HRS := Lib.hid (addRows_succ zs takes last table j st)
          have HOK := Lib.hid (HAG.out zs j (by omega))
          have HGT := Lib.hid (show table.getD j 0 = table[j] from getD_at _ hjt)
          have HVJ := Lib.hid (HVL.out _ (List.getElem_mem hjt))
          generalize hcu : addRows zs takes last table j st = cu at HOJ HRS HOK
          have HAT := Lib.hid (show addAt zs takes last table j cu = if !haveOne cu.1 last (table.getD j 0) && haveB cu.1 takes (digM zs j) takes.length then (cu.1.set last.toNat (cu.1.getD last.toNat 0 + 2 ^ (table.getD j 0).toNat), true) else cu from rfl)
          rw [HGT.out] at HAT
          generalize table[j] = x7 at hv7 HGT HVJ HAT
          obtain ⟨cs, cb⟩ := cu
          simp only at HOJ HOK HAT
          have HCL := Lib.hid (show cs.length = n by rw [HOK.out.len, HNL.out, HXS.out.len])
          obtain ⟨l, hl⟩ : ∃ l : Nat, last = (l : Int) := ⟨last.toNat, by have := HLI.out; omega⟩
          have hlc : l < cs.length := by have := HLI.out; have := HOK.out.len; omega
          have hlm : l < m.sizes.length := by have := HLI.out; omega
          have HZL := Lib.hid (HF.out.sz _ (List.getElem_mem hlm))
          rw [hl, Int.toNat_natCast] at HVJ
          rw [getD_at _ hlm] at HVJ
          have hx70 : 0 ≤ x7 := HVJ.out.1
          have hx73 : x7 < 3 := by have := HVJ.out.2; have := HZL.out.2; omega
          have hy8 := HOK.out.small HF.out hlc
          obtain ⟨q1, q2⟩ := own_cell HOJ.out (by exact hlc)
          have HH1 := Lib.hid (show haveOne cs last x7 = hasB cs[l] x7 by unfold haveOne; rw [hl, Int.toNat_natCast, getD_at _ hlc])
          have HG4 := Lib.hid (show cs.getD last.toNat 0 = cs[l] by rw [hl, Int.toNat_natCast, getD_at _ hlc])
          rw [HH1.out, HG4.out] at HAT
          have HSM := Lib.hid (fun x (hx : x ∈ cs) => (show 0 ≤ x ∧ x < 8 by obtain ⟨i, hi, e⟩ := List.getElem_of_mem hx; rw [← e]; exact HOK.out.small HF.out hi))
          have HTC := Lib.hid (fun x (hx : x ∈ takes) => (show 0 ≤ x ∧ x < (cs.length : Int) by have := HTI.out x hx; have := HOK.out.len; omega))
          have HQ := Lib.hid (fun w' => (show Calls Try.prog 98 #[.int .i64 cs[l], .int .i64 x7] w' fun e w'' => e = .returned (.bool (hasB cs[l] x7)) ∧ w' = w'' from hasValue_any cs[l] x7 w' hy8.1 hy8.2 hx70 hx73))
          subst hl
          have hlc' : (l : Int) < (n : Int) := by have := HCL.out; omega
          have hl0 : (0 : Int) ≤ (l : Int) := by omega
          have HSETX := Lib.hid (fun y => own_set HOJ.out HCL.out.symm l y)
          rw [Int.toNat_natCast] at HAT
          generalize cs[l] = y at q1 HAT HQ hy8 HH1 HG4
          have HDG := Lib.hid (dig_three HSA.out (j : Int))
          have HDL := Lib.hid (digM_len zs (j : Int))
          clear hcu
          cases hhv : hasB y x7 with
          | true =>
            rw [hhv] at HAT HQ
            have HAE := Lib.hid (HAT.out.trans (if_neg (by simp)))
            clear hhv
            go_wp2_with fail
            refine (HQ.out _).mono ?_
            rintro e w7 ⟨rfl, rfl⟩
            clear q1 q2 hv7
            go_wp2
            go_roundw
            case rel => exact ⟨j + 1, by omega, by go_num, by rw [HRS.out, HAE.out], by rw [HRS.out, HAE.out]; exact HOJ.out, HGJ.out⟩
            case measure => simp [intOf]; omega
          | false =>
            rw [hhv] at HAT HQ
            clear hhv
            go_wp2_with fail
            refine (HQ.out _).mono ?_
            rintro e w7 ⟨rfl, rfl⟩
            go_wp2_with fail
            refine (rowAt_any zs (j : Int) _ _ (own_gr HZO.out HGJ.out HGA.out).reads HSA.out HZ4.out (by omega) (by omega)).mono ?_
            rintro x w8 ⟨u8, rfl, ho8, hb8⟩
            have HO8 := Lib.hid ho8.reads
            obtain ⟨A8, c8, rfl, -⟩ := ho8.reads.form
            have HB8 := Lib.hid hb8
            replace q1 := cell_keep hb8 q1
            replace hv7 := cell_keep hb8 hv7
            have HO9 := Lib.hid (HOJ.out.keep hb8)
            have hq2 : w8.frozen? ⟨g, l, none⟩ = false := (own_cell HO9.out hlc).2
            clear ho8 hb8 q2
            generalize digM zs (j : Int) = ds at HO8 HAT HDG HDL
            cases hhb : haveB cs takes ds takes.length with
            | false =>
              rw [hhb] at HAT
              have HHB := Lib.hid hhb
              have HAE := Lib.hid (HAT.out.trans (if_neg (by simp)))
              have HOR := Lib.hid HO9.out.reads
              clear hhb
              go_wp2_with fail
              refine (haveValues_any cs takes ds _ _ _ _ HOR.out (HUT.out.keep (sz_keep HDK.out HB8.out)) HO8.out (by rw [HDL.out, HLZ.out]) (by rw [HDL.out]; have := HZ4.out; omega) HTC.out HSM.out HDG.out).mono ?_
              rw [HHB.out]
              rintro e w9 ⟨rfl, rfl⟩
              clear q1 hq2 hv7
              go_wp2
              go_roundw
              case rel => exact ⟨j + 1, by omega, by go_num, by rw [HRS.out, HAE.out], by rw [HRS.out, HAE.out]; exact HO9.out, gro_below HGJ.out HB8.out⟩
              case measure => simp [intOf]; omega
            | true =>
              rw [hhb] at HAT
              have HHB := Lib.hid hhb
              have HAE := Lib.hid (HAT.out.trans (if_pos (by simp)))
              have HOR := Lib.hid HO9.out.reads
              have HPW := Lib.hid (shl_add hy8.1 hy8.2 hx70 hx73)
              obtain ⟨p, hp⟩ : ∃ p, (2 : Int) ^ x7.toNat = p := ⟨_, rfl⟩
              have HPE := Lib.hid hp
              rw [hp] at HAE
              clear hp
              obtain ⟨o1, g1⟩ := own_set HO9.out HCL.out.symm l (y + p)
              have HO1 := Lib.hid (own_drew2 o1)
              have HG1 := Lib.hid (grown_drew2 g1)
              clear hhb o1 g1
              go_wp2_with fail
              refine (haveValues_any cs takes ds _ _ _ _ HOR.out (HUT.out.keep (sz_keep HDK.out HB8.out)) HO8.out (by rw [HDL.out, HLZ.out]) (by rw [HDL.out]; have := HZ4.out; omega) HTC.out HSM.out HDG.out).mono ?_
              rw [HHB.out]
              rintro e w9 ⟨rfl, rfl⟩
              clear hv7
              replace q1 : w8.drew.cell? ⟨g, l, none⟩ = some (.int .i64 y) := q1
              replace hq2 : w8.drew.frozen? ⟨g, l, none⟩ = false := hq2
              go_wp2_with fail
              go_still_tail 8, (by kernel_rfl)
              change wpList _ _ _ _ _ w8.drew
              generalize w8.drew = wd at HO1 HG1 q1 hq2
              go_wp2
              go_roundw
              case rel => exact ⟨j + 1, by omega, by go_num, by rw [HRS.out, HAE.out], by rw [HRS.out, HAE.out, HPW.out, HPE.out]; exact HO1.out, by rw [HPW.out, HPE.out]; exact grown_trans (gro_below HGJ.out HB8.out) HG1.out⟩
              case measure => simp [intOf]; omega
        · have hjn : j = table.length := by omega
          have hjt' : ¬ (j : Int) < (table.length : Int) := by omega
          subst hjn
          go_wp2
          go_roundw
          case rel => exact ⟨k + 1, by omega, by go_num, by rw [HTS.out], by rw [HTS.out]; exact HOJ.out, HG9.out⟩
          case measure => simp [intOf]; omega
    · have hkn : k = s.ops.length := by have := HTL0.out; omega
      have hlt' : ¬ (k : Int) < (m.tables.length : Int) := by omega
      subst hkn
      go_wp2
      go_ret
      exact ⟨rfl, HO.out, HD.out⟩
end

section
open Go.RowKit
set_option linter.unusedVariables false
set_option linter.unusedSimpArgs false

def readN (w : World) (g n : Nat) : List Int := (readRow w g).take n
theorem readN_own {w : World} {B g n c : Nat} {xs : List Int} (h : OInts w B (.slice (some ⟨g, 0, none⟩) n c) xs) (hn : n = xs.length) : readN w g n = xs := by
  subst hn
  rcases h.2 with ⟨e, _⟩ | ⟨g', cap, cur, e, hg, hh, h1, h2, h3, h4⟩
  · cases e
  · injection e with e1 e2 e3
    injection e1 with e1
    injection e1 with e1
    subst e1 e3
    unfold readN readRow
    rw [hh]
    simp only
    rw [Nat.mul_one] at h4
    rw [← List.map_take, h4, List.map_map]
    conv => rhs; rw [← List.map_id xs]
    exact List.map_congr_left fun x _ => rfl
theorem own_at {w : World} {B : Nat} {v : Value} {xs : List Int} (h : OInts w B v xs) (hx : 0 < xs.length) : ∃ g c, v = .slice (some ⟨g, 0, none⟩) xs.length c ∧ B ≤ g := by
  rcases h.2 with ⟨e, e2⟩ | ⟨g', cap, cur, e, hg, r⟩
  · obtain ⟨b, o, c, e3, -⟩ := h.reads.at_ hx
    rw [e] at e3
    cases e3
  · exact ⟨g', cap, e, hg⟩
/-- how many values are still to come -/
def restM (n g : Nat) (w : World) : Nat := (22 - total (readN w g n)).toNat

set_option maxHeartbeats 1600000 in
set_option maxRecDepth 100000 in
theorem madeOf_any (s : MSig) (m : MModel) (sets : List Int) (w : World) (v va vs : Value) (h1 : RSig w v s) (h2 : RModel w va m) (h3 : RInts w vs sets) :
    Calls Try.prog 31 #[v, va, vs] w fun e w' => ∃ u, e = .returned u ∧ OInts w' w.heap.size u (madeM s m sets) ∧ Below w.heap.size w w' := by
  obtain ⟨Asa, csa, rfl⟩ := h1.form
  obtain ⟨Ama, cma, Amb, cmb, rfl⟩ := h2.form
  have hb : Below w.heap.size w ((w.alloc (.cells #[.int .i64 s.sorts, .slice Asa s.ops.length csa] 25)).alloc (.cells #[.slice Ama m.sizes.length cma, .slice Amb m.tables.length cmb] 28)) := (below_alloc _ _).alloc (by simp) _
  have HB := Lib.hid hb
  have hsz : ((w.alloc (.cells #[.int .i64 s.sorts, .slice Asa s.ops.length csa] 25)).alloc (.cells #[.slice Ama m.sizes.length cma, .slice Amb m.tables.length cmb] 28)).heap.size = w.heap.size + 2 := by simp
  have Hs := Lib.hid (h1.keep hb)
  have s0 := cell_keep (below_alloc (w.alloc (.cells #[.int .i64 s.sorts, .slice Asa s.ops.length csa] 25)) (.cells #[.slice Ama m.sizes.length cma, .slice Amb m.tables.length cmb] 28)) (bx_at (w) #[.int .i64 s.sorts, .slice Asa s.ops.length csa] 25 (k := 0) rfl)
  have s1 := cell_keep (below_alloc (w.alloc (.cells #[.int .i64 s.sorts, .slice Asa s.ops.length csa] 25)) (.cells #[.slice Ama m.sizes.length cma, .slice Amb m.tables.length cmb] 28)) (bx_at (w) #[.int .i64 s.sorts, .slice Asa s.ops.length csa] 25 (k := 1) rfl)
  have Hm := Lib.hid (h2.keep hb)
  have m0 := bx_at (w.alloc (.cells #[.int .i64 s.sorts, .slice Asa s.ops.length csa] 25)) #[.slice Ama m.sizes.length cma, .slice Amb m.tables.length cmb] 28 (k := 0) rfl
  have m1 := bx_at (w.alloc (.cells #[.int .i64 s.sorts, .slice Asa s.ops.length csa] 25)) #[.slice Ama m.sizes.length cma, .slice Amb m.tables.length cmb] 28 (k := 1) rfl
  simp only [World.size_alloc] at m0 m1
  generalize hW : (w.alloc (.cells #[.int .i64 s.sorts, .slice Asa s.ops.length csa] 25)).alloc (.cells #[.slice Ama m.sizes.length cma, .slice Amb m.tables.length cmb] 28) = W at HB hsz Hs s0 s1 Hm m0 m1
  clear hb h1 h2
  have HH := Lib.hid (h3.keep HB.out)
  obtain ⟨Ah, ch, rfl, -⟩ := h3.form
  clear h3
  cases hma : modelB s m with
  | false =>
    have HMA := Lib.hid hma
    have HE := Lib.hid (made_no1 (sets := sets) hma)
    clear hma
    go_enter Try.func31, Try.ntmps31
    go_wp2_with fail
    clear hW
    refine (modelOk_any s m _ _ _ Hs.out Hm.out).mono ?_
    rw [HMA.out]
    rintro x w1 ⟨rfl, hb⟩
    replace HB := Lib.hid (sz_keep HB.out hb)
    replace s0 := cell_keep hb s0
    replace s1 := cell_keep hb s1
    replace m0 := cell_keep hb m0
    replace m1 := cell_keep hb m1
    replace Hs := Lib.hid (Hs.out.keep hb)
    replace Hm := Lib.hid (Hm.out.keep hb)
    replace HH := Lib.hid (HH.out.keep hb)
    clear hb
    go_wp2
    go_ret
    rw [HE.out]
    exact ⟨_, rfl, OInts.nil _ _, HB.out⟩
  | true =>
    have HMA := Lib.hid hma
    have HF := Lib.hid (model_facts hma)
    clear hma
    cases hse : setsB m sets with
    | false =>
      have HSE := Lib.hid hse
      have HE := Lib.hid (made_no2 (s := s) hse)
      clear hse
      go_enter Try.func31, Try.ntmps31
      go_wp2_with fail
      clear hW
      refine (modelOk_any s m _ _ _ Hs.out Hm.out).mono ?_
      rw [HMA.out]
      rintro x w1 ⟨rfl, hb⟩
      replace HB := Lib.hid (sz_keep HB.out hb)
      replace s0 := cell_keep hb s0
      replace s1 := cell_keep hb s1
      replace m0 := cell_keep hb m0
      replace m1 := cell_keep hb m1
      replace Hs := Lib.hid (Hs.out.keep hb)
      replace Hm := Lib.hid (Hm.out.keep hb)
      replace HH := Lib.hid (HH.out.keep hb)
      clear hb
      go_wp2_with fail
      refine (setsOk_any m sets _ _ _ Hm.out HH.out HF.out.sz HF.out.sorts.1).mono ?_
      rw [HSE.out]
      rintro x w2 ⟨rfl, hb⟩
      replace HB := Lib.hid (sz_keep HB.out hb)
      replace s0 := cell_keep hb s0
      replace s1 := cell_keep hb s1
      replace m0 := cell_keep hb m0
      replace m1 := cell_keep hb m1
      replace Hs := Lib.hid (Hs.out.keep hb)
      replace Hm := Lib.hid (Hm.out.keep hb)
      replace HH := Lib.hid (HH.out.keep hb)
      clear hb
      go_wp2
      go_ret
      rw [HE.out]
      exact ⟨_, rfl, OInts.nil _ _, HB.out⟩
    | true =>
      have HSE := Lib.hid hse
      have HE := Lib.hid (made_yes HMA.out hse)
      have HIN := Lib.hid (setsB_iff.1 hse)
      have hs3 : sets.length ≤ 3 := by have := HIN.out.len; have := HF.out.sorts; omega
      have hs1 : 0 < sets.length := by have := HIN.out.len; have := HF.out.sorts; omega
      obtain ⟨b, o, c, e, -⟩ := HH.out.at_ hs1
      cases e
      clear hse
      go_enter Try.func31, Try.ntmps31
      go_wp2_with fail
      clear hW
      refine (modelOk_any s m _ _ _ Hs.out Hm.out).mono ?_
      rw [HMA.out]
      rintro x w1 ⟨rfl, hb⟩
      replace HB := Lib.hid (sz_keep HB.out hb)
      replace s0 := cell_keep hb s0
      replace s1 := cell_keep hb s1
      replace m0 := cell_keep hb m0
      replace m1 := cell_keep hb m1
      replace Hs := Lib.hid (Hs.out.keep hb)
      replace Hm := Lib.hid (Hm.out.keep hb)
      replace HH := Lib.hid (HH.out.keep hb)
      clear hb
      go_wp2_with fail
      refine (setsOk_any m sets _ _ _ Hm.out HH.out HF.out.sz HF.out.sorts.1).mono ?_
      rw [HSE.out]
      rintro x w2 ⟨rfl, hb⟩
      replace HB := Lib.hid (sz_keep HB.out hb)
      replace s0 := cell_keep hb s0
      replace s1 := cell_keep hb s1
      replace m0 := cell_keep hb m0
      replace m1 := cell_keep hb m1
      replace Hs := Lib.hid (Hs.out.keep hb)
      replace Hm := Lib.hid (Hm.out.keep hb)
      replace HH := Lib.hid (HH.out.keep hb)
      clear hb
      go_wp2_with fail
      refine (clone_any _ _ _ sets _ HH.out (by omega)).mono ?_
      rintro x w3 ⟨u, rfl, ho, hb⟩
      obtain ⟨g, cg, rfl, hg⟩ := own_at ho hs1
      have HO := Lib.hid ho
      have HB3 := Lib.hid hb
      have HG := Lib.hid hg
      have HCX := Lib.hid (And.intro s0 (And.intro s1 (And.intro m0 m1)))
      clear ho hb hg
      go_wp2
      clear s0 s1 m0 m1
      go_loopw [] (fun wr => ∃ now : List Int, Closing s m sets now ∧ OInts wr w2.heap.size (.slice (some ⟨g, 0, none⟩) sets.length cg) now ∧ Below w2.heap.size w2 wr) (fun wr => restM sets.length g wr)
      case atStart => exact ⟨sets, closing_start HF.out HIN.out, HO.out, HB3.out⟩
      case round =>
        obtain ⟨now, hcl, ho, hd⟩ := hrel
        have HCL := Lib.hid hcl
        have HO := Lib.hid ho
        have HD := Lib.hid hd
        have hnl : now.length = sets.length := by rw [hcl.1.len, HIN.out.len]
        have HNL := Lib.hid hnl
        have f0 := cell_keep hd HCX.out.1
        have f1 := cell_keep hd HCX.out.2.1
        have f2 := cell_keep hd HCX.out.2.2.1
        have f3 := cell_keep hd HCX.out.2.2.2
        have HAM := addMade_any s m HF.out now hcl.1 w2 wr w2.heap.size g cg _ _ hd HG.out Hs.out Hm.out (by rw [hnl]; exact ho)
        rw [hnl] at HAM
        replace HAM := Lib.hid HAM
        have HM0 := Lib.hid (show restM sets.length g wr = (22 - total now).toNat by unfold restM; rw [readN_own ho hnl.symm])
        clear hcl ho hd hnl
        go_wp2_with fail
        refine HAM.out.mono ?_
        cases hr : (roundM s m now).2 with
        | true =>
          obtain ⟨hmo, hup⟩ := HCL.out.more HF.out hr
          have HMO := Lib.hid hmo
          have HUP := Lib.hid hup
          rintro x w4 ⟨rfl, ho4, hd4⟩
          have HO4 := Lib.hid ho4
          have HD4 := Lib.hid hd4
          have HM1 := Lib.hid (show restM sets.length g w4 = (22 - total (roundM s m now).1).toNat by unfold restM; rw [readN_own ho4 (by rw [hmo.1.len, HIN.out.len])])
          have HT := Lib.hid (total_21 HF.out HMO.out.1)
          clear ho4 hd4 hmo hup f0 f1 f2 f3
          go_wp2
          go_roundw
          case rel => exact ⟨_, HMO.out, HO4.out, HD4.out⟩
          case measure => rw [HM0.out, HM1.out]; have := HUP.out; have := HT.out; omega
        | false =>
          obtain ⟨hdo, hsa⟩ := HCL.out.done HF.out hr
          have HDO := Lib.hid hdo
          have HSA := Lib.hid hsa
          rw [hsa]
          rintro x w4 ⟨rfl, ho4, hd4⟩
          have HO4 := Lib.hid ho4
          have HD4 := Lib.hid hd4
          clear ho4 hd4 hdo hsa f0 f1 f2 f3
          go_wp2
          go_ret
          rw [HE.out, HDO.out]
          exact ⟨_, rfl, HO4.out.base HB.out.size, sz_keep HB.out HD4.out⟩
end

section
open Go.RowKit
set_option linter.unusedVariables false
set_option linter.unusedSimpArgs false

def setsOkB (s : MSig) (m : MModel) (sets : List Int) : Bool := modelB s m && setsB m sets
theorem shl_less {z : Int} (h0 : 1 ≤ z) (h3 : z ≤ 3) : wrap64 (wrap64 (2 ^ min z.toNat 64) - 1) = 2 ^ z.toNat - 1 := by
  rcases (show z = 1 ∨ z = 2 ∨ z = 3 by omega) with rfl | rfl | rfl <;> simp [wrap64]
theorem setB_inB {x p : Int} : inB x 0 (p - 1) = (decide (0 ≤ x) && decide (x < p)) := by unfold inB; rw [← Bool.decide_and, ← Bool.decide_and, decide_eq_decide]; omega

set_option maxHeartbeats 1600000 in
set_option maxRecDepth 100000 in
theorem l6Sets_any (s : MSig) (m : MModel) (sets : List Int) (w : World) (v va vs : Value) (h1 : RSig w v s) (h2 : RModel w va m) (h3 : RInts w vs sets) :
    Calls Try.prog 72 #[v, va, vs] w fun e w' => e = .returned (.bool (setsOkB s m sets)) ∧ Below w.heap.size w w' := by
  obtain ⟨Asa, csa, rfl⟩ := h1.form
  obtain ⟨Ama, cma, Amb, cmb, rfl⟩ := h2.form
  have hb : Below w.heap.size w ((w.alloc (.cells #[.int .i64 s.sorts, .slice Asa s.ops.length csa] 25)).alloc (.cells #[.slice Ama m.sizes.length cma, .slice Amb m.tables.length cmb] 28)) := (below_alloc _ _).alloc (by simp) _
  have HB := Lib.hid hb
  have hsz : ((w.alloc (.cells #[.int .i64 s.sorts, .slice Asa s.ops.length csa] 25)).alloc (.cells #[.slice Ama m.sizes.length cma, .slice Amb m.tables.length cmb] 28)).heap.size = w.heap.size + 2 := by simp
  have Hs := Lib.hid (h1.keep hb)
  have s0 := cell_keep (below_alloc (w.alloc (.cells #[.int .i64 s.sorts, .slice Asa s.ops.length csa] 25)) (.cells #[.slice Ama m.sizes.length cma, .slice Amb m.tables.length cmb] 28)) (bx_at (w) #[.int .i64 s.sorts, .slice Asa s.ops.length csa] 25 (k := 0) rfl)
  have s1 := cell_keep (below_alloc (w.alloc (.cells #[.int .i64 s.sorts, .slice Asa s.ops.length csa] 25)) (.cells #[.slice Ama m.sizes.length cma, .slice Amb m.tables.length cmb] 28)) (bx_at (w) #[.int .i64 s.sorts, .slice Asa s.ops.length csa] 25 (k := 1) rfl)
  have Hm := Lib.hid (h2.keep hb)
  have m0 := bx_at (w.alloc (.cells #[.int .i64 s.sorts, .slice Asa s.ops.length csa] 25)) #[.slice Ama m.sizes.length cma, .slice Amb m.tables.length cmb] 28 (k := 0) rfl
  have m1 := bx_at (w.alloc (.cells #[.int .i64 s.sorts, .slice Asa s.ops.length csa] 25)) #[.slice Ama m.sizes.length cma, .slice Amb m.tables.length cmb] 28 (k := 1) rfl
  simp only [World.size_alloc] at m0 m1
  generalize hW : (w.alloc (.cells #[.int .i64 s.sorts, .slice Asa s.ops.length csa] 25)).alloc (.cells #[.slice Ama m.sizes.length cma, .slice Amb m.tables.length cmb] 28) = W at HB hsz Hs s0 s1 Hm m0 m1
  clear hb h1 h2
  have HH := Lib.hid (h3.keep HB.out)
  have hl1 := h3.len
  obtain ⟨Ah, ch, rfl, -⟩ := h3.form
  clear h3
  cases hma : modelB s m with
  | false =>
    have HMA := Lib.hid hma
    have HE := Lib.hid (show setsOkB s m sets = false by unfold setsOkB; rw [hma, Bool.false_and])
    clear hma
    go_enter Try.func72, Try.ntmps72
    go_wp2_with fail
    clear hW
    refine (specModelOk_any s m _ _ _ Hs.out Hm.out).mono ?_
    rw [HMA.out]
    rintro x w1 ⟨rfl, hb⟩
    replace HB := Lib.hid (sz_keep HB.out hb)
    replace s0 := cell_keep hb s0
    replace s1 := cell_keep hb s1
    replace m0 := cell_keep hb m0
    replace m1 := cell_keep hb m1
    replace Hs := Lib.hid (Hs.out.keep hb)
    replace Hm := Lib.hid (Hm.out.keep hb)
    replace HH := Lib.hid (HH.out.keep hb)
    clear hb
    go_wp2
    go_ret
    exact ⟨ret_bool HE.out.symm, HB.out⟩
  | true =>
    have HMA := Lib.hid hma
    have HF := Lib.hid (model_facts hma)
    have HEQ := Lib.hid (show setsOkB s m sets = setsB m sets by unfold setsOkB; rw [hma, Bool.true_and])
    clear hma
    by_cases hlen : (sets.length : Int) = s.sorts
    · have e1 : ((sets.length : Int) != s.sorts) = false := by simp [hlen]
      have HLEN := Lib.hid (show sets.length = m.sizes.length by have := HF.out.sl; omega)
      have hs3 : sets.length ≤ 3 := by have := HLEN.out; have := HF.out.sorts; omega
      have HNO := Lib.hid (fun (k : Nat) (hk : k < sets.length) e => setsB_no2 (m := m) hk e)
      have HYE := Lib.hid (fun e => setsB_yes (m := m) HLEN.out e)
      clear hlen
      go_enter Try.func72, Try.ntmps72
      go_wp2_with fail
      clear hW
      refine (specModelOk_any s m _ _ _ Hs.out Hm.out).mono ?_
      rw [HMA.out]
      rintro x w1 ⟨rfl, hb⟩
      replace HB := Lib.hid (sz_keep HB.out hb)
      replace s0 := cell_keep hb s0
      replace s1 := cell_keep hb s1
      replace m0 := cell_keep hb m0
      replace m1 := cell_keep hb m1
      replace Hs := Lib.hid (Hs.out.keep hb)
      replace Hm := Lib.hid (Hm.out.keep hb)
      replace HH := Lib.hid (HH.out.keep hb)
      clear hb
      have HC := Lib.hid m0
      go_wp2
      clear s0 s1 m0 m1
      go_loopw [7] (fun i wr => ∃ k : Nat, k ≤ sets.length ∧ i = .int .i64 k ∧ allN (setB m sets) k = true ∧ Below w1.heap.size w1 wr) (fun i _ => sets.length - (intOf i).toNat)
      case atStart => exact ⟨0, Nat.zero_le _, rfl, rfl, Below.refl _ _⟩
      case round =>
        obtain ⟨k, hk, rfl, hall, hd⟩ := hrel
        have HALL := Lib.hid hall
        have HD := Lib.hid hd
        have m0 := cell_keep hd HC.out
        clear hall hd
        by_cases hlt : k < sets.length
        · have hlt' : (k : Int) < (sets.length : Int) := by omega
          have hkm : k < m.sizes.length := by have := HLEN.out; omega
          have hkm' : (k : Int) < (m.sizes.length : Int) := by omega
          obtain ⟨b, o, c', e, hx⟩ := (HH.out.keep HD.out).at_ hlt
          cases e
          obtain ⟨b5, o5, c5, e, hy⟩ := (Hm.out.of.1.keep HD.out).at_ hkm
          cases e
          have HT := Lib.hid (allN_succ (setB m sets) k)
          have HN := Lib.hid (fun e => HNO.out k hlt e)
          have HDE := Lib.hid (show setB m sets k = (decide (0 ≤ sets[k]) && decide (sets[k] < 2 ^ (m.sizes[k]).toNat)) by unfold setB; rw [getD_at _ hlt, getD_at _ hkm])
          rw [HDE.out] at HT HN
          have HZK := Lib.hid (HF.out.sz _ (List.getElem_mem hkm))
          generalize sets[k] = x at hx HT HN HDE
          generalize m.sizes[k] = z at hy HT HN HZK HDE
          have hz1 : (0 : Int) ≤ z := by have := HZK.out; omega
          have HPS := Lib.hid (pow_size HZK.out.1 HZK.out.2)
          have hsh := shl_wrap (v := z) (by omega) (by have := HZK.out; omega)
          have HPP : Hid ((1 : Int) ≤ 2 ^ z.toNat) := Lib.hid (by rcases (show z = 1 ∨ z = 2 ∨ z = 3 by have := HZK.out; omega) with rfl | rfl | rfl <;> decide)
          rw [← setB_inB] at HT HN
          generalize (2 : Int) ^ z.toNat = p at HT HN HDE hsh HPP HPS
          have hpw : IntKind.i64.wrap (p - 1) = p - 1 := by have := HPP.out; have := HPS.out; rw [IntKind.wrap_i64]; omega
          obtain ⟨r, hr⟩ : ∃ r, inB x 0 (p - 1) = r := ⟨_, rfl⟩
          rw [hr] at HT HN
          have HR := Lib.hid hr
          clear hr
          go_wp2_with fail
          refine wp_region_held_drew (S := (fun w' => w'.cell? ⟨b, o + k, none⟩ = some (.int .i64 x) ∧ w'.cell? ⟨w.heap.size + 1, 0, none⟩ = some (.slice (some ⟨b5, o5, none⟩) m.sizes.length cma) ∧ w'.cell? ⟨b5, o5 + k, none⟩ = some (.int .i64 z))) (by kernel_rfl) ?_ (fun hHeld => ?_)
          · exact ⟨hx, m0, hy⟩
          refine wpAnyH_take (i := 0) (oi := _) (v := ?_) rfl (by kernel_rfl) (by kernel_rfl) (by kernel_rfl) (fun _ _ _ h => h) (Or.inl ⟨by rfl, ?_⟩) (by assumption) ?_
          rotate_left
          · first | (intro w' hSw; (try dsimp only at hSw); go_simp; done) | (intro w' hSw; (try dsimp only at hSw); go_simp; with_reducible rfl)
          try simp only [Act.put, List.getElem_toArray, List.getElem_cons_zero, List.getElem_cons_succ, List.setIfInBounds_toArray, List.set_cons_zero, List.set_cons_succ]
          refine wpAnyH_take (i := 1) (oi := _) (v := ?_) rfl (by kernel_rfl) (by kernel_rfl) (by kernel_rfl) (fun _ _ _ h => h) (Or.inl ⟨by rfl, ?_⟩) (by assumption) ?_
          rotate_left
          · first | (intro w' hSw; (try dsimp only at hSw); go_simp; done) | (intro w' hSw; (try dsimp only at hSw); go_simp; with_reducible rfl)
          try simp only [Act.put, List.getElem_toArray, List.getElem_cons_zero, List.getElem_cons_succ, List.setIfInBounds_toArray, List.set_cons_zero, List.set_cons_succ]
          refine wpAnyH_take (i := 2) (oi := _) (v := ?_) rfl (by kernel_rfl) (by kernel_rfl) (by kernel_rfl) (fun _ _ _ h => h) (Or.inl ⟨by rfl, ?_⟩) (by assumption) ?_
          rotate_left
          · first | (intro w' hSw; (try dsimp only at hSw); go_simp; done) | (intro w' hSw; (try dsimp only at hSw); go_simp; with_reducible rfl)
          try simp only [Act.put, List.getElem_toArray, List.getElem_cons_zero, List.getElem_cons_succ, List.setIfInBounds_toArray, List.set_cons_zero, List.set_cons_succ]
          refine wpAnyH_take (i := 3) (oi := _) (v := ?_) rfl (by kernel_rfl) (by kernel_rfl) (by kernel_rfl) (fun _ _ _ h => h) (Or.inl ⟨by rfl, ?_⟩) (by assumption) ?_
          rotate_left
          · first | (intro w' hSw; (try dsimp only at hSw); go_simp; done) | (intro w' hSw; (try dsimp only at hSw); go_simp; with_reducible rfl)
          try simp only [Act.put, List.getElem_toArray, List.getElem_cons_zero, List.getElem_cons_succ, List.setIfInBounds_toArray, List.set_cons_zero, List.set_cons_succ]
          refine wpAnyH_take (i := 4) (oi := _) (v := ?_) rfl (by kernel_rfl) (by kernel_rfl) (by kernel_rfl) (fun _ _ _ h => h) (Or.inl ⟨by rfl, ?_⟩) (by assumption) ?_
          rotate_left
          · first | (intro w' hSw; (try dsimp only at hSw); go_simp; done) | (intro w' hSw; (try dsimp only at hSw); go_simp; with_reducible rfl)
          try simp only [Act.put, List.getElem_toArray, List.getElem_cons_zero, List.getElem_cons_succ, List.setIfInBounds_toArray, List.set_cons_zero, List.set_cons_succ]
          refine wpAnyH_take (i := 5) (oi := _) (v := ?_) rfl (by kernel_rfl) (by kernel_rfl) (by kernel_rfl) (fun _ _ _ h => h) (Or.inl ⟨by rfl, ?_⟩) (by assumption) ?_
          rotate_left
          · first | (intro w' hSw; (try dsimp only at hSw); go_simp; done) | (intro w' hSw; (try dsimp only at hSw); go_simp; with_reducible rfl)
          try simp only [Act.put, List.getElem_toArray, List.getElem_cons_zero, List.getElem_cons_succ, List.setIfInBounds_toArray, List.set_cons_zero, List.set_cons_succ]
          refine wpAnyH_take (i := 6) (oi := _) (v := ?_) rfl (by kernel_rfl) (by kernel_rfl) (by kernel_rfl) (fun _ _ _ h => h) (Or.inl ⟨by rfl, ?_⟩) (by assumption) ?_
          rotate_left
          · first | (intro w' hSw; (try dsimp only at hSw); go_simp; done) | (intro w' hSw; (try dsimp only at hSw); go_simp; with_reducible rfl)
          try simp only [Act.put, List.getElem_toArray, List.getElem_cons_zero, List.getElem_cons_succ, List.setIfInBounds_toArray, List.set_cons_zero, List.set_cons_succ]
          refine wpAnyH_take (i := 7) (oi := _) (v := ?_) rfl (by kernel_rfl) (by kernel_rfl) (by kernel_rfl) (fun _ _ _ h => h) (Or.inl ⟨by rfl, ?_⟩) (by assumption) ?_
          rotate_left
          · first | (intro w' hSw; (try dsimp only at hSw); go_simp; done) | (intro w' hSw; (try dsimp only at hSw); go_simp; with_reducible rfl)
          try simp only [Act.put, List.getElem_toArray, List.getElem_cons_zero, List.getElem_cons_succ, List.setIfInBounds_toArray, List.set_cons_zero, List.set_cons_succ]
          refine wpAnyH_take (i := 8) (oi := _) (v := ?_) rfl (by kernel_rfl) (by kernel_rfl) (by kernel_rfl) (fun _ _ _ h => h) (Or.inl ⟨by rfl, ?_⟩) (by assumption) ?_
          rotate_left
          · first | (intro w' hSw; (try dsimp only at hSw); go_simp; done) | (intro w' hSw; (try dsimp only at hSw); go_simp; with_reducible rfl)
          try simp only [Act.put, List.getElem_toArray, List.getElem_cons_zero, List.getElem_cons_succ, List.setIfInBounds_toArray, List.set_cons_zero, List.set_cons_succ]
          refine wpAnyH_take (i := 9) (oi := _) (v := ?_) rfl (by kernel_rfl) (by kernel_rfl) (by kernel_rfl) (fun _ _ _ h => h) (Or.inl ⟨by rfl, ?_⟩) (by assumption) ?_
          rotate_left
          · first | (intro w' hSw; (try dsimp only at hSw); go_simp; done) | (intro w' hSw; (try dsimp only at hSw); go_simp; with_reducible rfl)
          try simp only [Act.put, List.getElem_toArray, List.getElem_cons_zero, List.getElem_cons_succ, List.setIfInBounds_toArray, List.set_cons_zero, List.set_cons_succ]
          refine wpAnyH_take (i := 10) (oi := _) (v := ?_) rfl (by kernel_rfl) (by kernel_rfl) (by kernel_rfl) (fun _ _ _ h => h) (Or.inl ⟨by rfl, ?_⟩) (by assumption) ?_
          rotate_left
          · first | (intro w' hSw; (try dsimp only at hSw); go_simp; done) | (intro w' hSw; (try dsimp only at hSw); go_simp; with_reducible rfl)
          try simp only [Act.put, List.getElem_toArray, List.getElem_cons_zero, List.getElem_cons_succ, List.setIfInBounds_toArray, List.set_cons_zero, List.set_cons_succ]
          refine wpAnyH_ready (rs := [11]) (by kernel_rfl) (by simp) ?_
          refine AllReadyH.cons (o := _) rfl (fun K hK => ?_) AllReadyH.nil
          go_simp
          refine (l1In_is x 0 (p - 1) _ r HR.out).mono ?_
          rintro e w7 ⟨rfl, rfl⟩
          go_wp2_with fail
          refine hK.out _ _ ?_ (fun hHeld => ?_)
          · exact ⟨hx, m0, hy⟩
          clear hK K
          try simp only [Act.put, List.getElem_toArray, List.getElem_cons_zero, List.getElem_cons_succ, List.setIfInBounds_toArray, List.set_cons_zero, List.set_cons_succ]
          refine wpAnyH_take (i := 12) (oi := _) (v := ?_) rfl (by kernel_rfl) (by kernel_rfl) (by kernel_rfl) (fun _ _ _ h => h) (Or.inl ⟨by rfl, ?_⟩) (by assumption) ?_
          rotate_left
          · first | (intro w' hSw; (try dsimp only at hSw); go_simp; done) | (intro w' hSw; (try dsimp only at hSw); go_simp; with_reducible rfl)
          try simp only [Act.put, List.getElem_toArray, List.getElem_cons_zero, List.getElem_cons_succ, List.setIfInBounds_toArray, List.set_cons_zero, List.set_cons_succ]
          refine wpAnyH_done (by kernel_rfl) ?_ _
          clear hx m0 hy
          cases r with
          | true =>
            go_wp2
            go_roundw
            case rel => exact ⟨k + 1, by omega, by go_num, by rw [HT.out, HALL.out]; rfl, map_drew HD.out⟩
            case measure => simp [intOf]; omega
          | false =>
            have HFF := Lib.hid (HN.out rfl)
            go_wp2
            go_ret
            exact ⟨ret_bool (by rw [HEQ.out, HFF.out]), map_drew (sz_keep HB.out HD.out)⟩
        · have hkn : k = sets.length := by omega
          have hlt' : ¬ (k : Int) < (sets.length : Int) := by omega
          have HFF := Lib.hid (HYE.out (by rw [← hkn]; exact HALL.out))
          go_wp2
          go_ret
          exact ⟨ret_bool (by rw [HEQ.out, HFF.out]), sz_keep HB.out HD.out⟩
    · have e1 : ((sets.length : Int) != s.sorts) = true := by simpa using hlen
      have HE := Lib.hid (setsB_no1 (m := m) (sets := sets) (by have := HF.out.sl; omega))
      clear hlen
      go_enter Try.func72, Try.ntmps72
      go_wp2_with fail
      clear hW
      refine (specModelOk_any s m _ _ _ Hs.out Hm.out).mono ?_
      rw [HMA.out]
      rintro x w1 ⟨rfl, hb⟩
      replace HB := Lib.hid (sz_keep HB.out hb)
      replace s0 := cell_keep hb s0
      replace s1 := cell_keep hb s1
      replace m0 := cell_keep hb m0
      replace m1 := cell_keep hb m1
      replace Hs := Lib.hid (Hs.out.keep hb)
      replace Hm := Lib.hid (Hm.out.keep hb)
      replace HH := Lib.hid (HH.out.keep hb)
      clear hb
      go_wp2
      go_ret
      exact ⟨ret_bool (by rw [HEQ.out, HE.out]), HB.out⟩
end

section
open Go.RowKit
set_option linter.unusedVariables false
set_option linter.unusedSimpArgs false

theorem led_dl_take {sizes row : List Int} {k : Nat} (hk : k + 1 < row.length) (h : ∀ x ∈ row, 0 ≤ x ∧ x < (sizes.length : Int)) (hs : sizes.length ≤ 3) : ledM sizes (row.dropLast.take (k + 1)) = ledM sizes (row.dropLast.take k) ++ [sizes.getD (row[k]).toNat 0] := by
  have hd : k < row.dropLast.length := by rw [List.length_dropLast]; omega
  rw [ledM_take hd]
  have hg : row.dropLast[k] = row[k] := List.getElem_dropLast hd
  rw [hg]
  have := h _ (List.getElem_mem (show k < row.length by omega))
  rw [if_pos (by omega)]
theorem fin_below {W wr w6 : World} {o : Obj} {A : Option Addr} {n c : Nat} (h : Below W.heap.size W wr) (hg : (wr.alloc o).grownBy w6 (Value.slice A n c).ownBlock) (hr : ∀ k, (Value.slice A n c).ownBlock = some k → W.heap.size ≤ k) : Below W.heap.size W w6 :=
  (h.alloc h.size o).grown hg (h.alloc h.size o).size hr

set_option maxHeartbeats 1600000 in
set_option maxRecDepth 100000 in
theorem l6Limits_any (sizes row : List Int) (w : World) (v v' : Value) (h : RInts w v sizes) (h' : RInts w v' row) (hr1 : 1 ≤ row.length) (hr3 : row.length ≤ 3) (hin : ∀ x ∈ row, 0 ≤ x ∧ x < (sizes.length : Int)) (hms : sizes.length ≤ 3) :
    Calls Try.prog 73 #[v, v'] w fun e w' => ∃ u, e = .returned u ∧ OInts w' w.heap.size u (ledM sizes row.dropLast) ∧ Below w.heap.size w w' := by
  obtain ⟨i0, hi0, hz0, hz1, hz2⟩ := info_parts Try.tinfo_int
  have H := Lib.hid h
  have HV := Lib.hid h'
  have HIN := Lib.hid hin
  obtain ⟨A, c, rfl, -⟩ := h.form
  obtain ⟨A', c', rfl, -⟩ := h'.form
  have HTK := Lib.hid (fun (k : Nat) (hk : k + 1 < row.length) => led_dl_take hk hin hms)
  clear h h' hin
  go_enter Try.func73, Try.ntmps73
  go_wp2
  go_loopw [5, 6] (fun p i wr => ∃ k : Nat, k + 1 ≤ row.length ∧ i = .int .i64 k ∧ OInts wr w.heap.size p (ledM sizes (row.dropLast.take k)) ∧ Below w.heap.size w wr) (fun _ i _ => row.length - (intOf i).toNat)
  case atStart => exact ⟨0, by omega, rfl, by first | exact own_empty w | (have h := own_empty w; simpa [ledM] using h), below_alloc _ _⟩
  case round =>
    obtain ⟨k, hk, rfl, ho, hb⟩ := hrel
    have HBW := Lib.hid hb
    clear hb
    have hw1 : IntKind.i64.wrap ((k : Int) + 1) = (k : Int) + 1 := by rw [IntKind.wrap_i64]; omega
    by_cases hlt : k + 1 < row.length
    · obtain ⟨A9, c9, rfl, -⟩ := own_reads ho
      have HO := Lib.hid ho
      clear ho
      have hlt1 : (k : Int) + 1 < (row.length : Int) := by omega
      have hlt' : (k : Int) < (row.length : Int) := by omega
      have hkr : k < row.length := by omega
      obtain ⟨b, o, c4, e, hx⟩ := (HV.out.keep HBW.out).at_ hkr
      cases e
      have HTK1 := Lib.hid (HTK.out k hlt)
      have HI := Lib.hid (HIN.out _ (List.getElem_mem hkr))
      generalize row[k] = x at hx HTK1 HI
      obtain ⟨n, rfl⟩ : ∃ n : Nat, x = (n : Int) := ⟨x.toNat, by have := HI.out; omega⟩
      have hnl : n < sizes.length := by have := HI.out; omega
      have hnl' : (n : Int) < (sizes.length : Int) := by omega
      have hn0 : (0 : Int) ≤ (n : Int) := by omega
      obtain ⟨b2, o2, c2, e2, hy⟩ := (H.out.keep HBW.out).at_ hnl
      cases e2
      have HY := Lib.hid (show sizes.getD (n : Int).toNat 0 = sizes[n] by rw [Int.toNat_natCast, getD_at _ hnl])
      generalize sizes[n] = y at hy HY
      have hlen : (ledM sizes (row.dropLast.take k)).length = k := by rw [ledM_len, List.length_take, List.length_dropLast]; omega
      have HLEN := Lib.hid hlen
      generalize hps : ledM sizes (row.dropLast.take k) = ps at HO HTK1 HLEN
      clear hps hlen
      have hs1 := HBW.out.size
      go_wp2_with (at_builtin; refine wpList_append_own _ rfl _ _ 26 rfl w.heap.size 3 i0 (.int .i64 0) 1 8 Try.underlying26 hi0 hz0 hz1 hz2 rfl (by decide) _ ps.length (ps.map (Value.int .i64)) rfl (own_keep HO.out (below_alloc wr _)) ⟨wr.heap.size, 0, none⟩ 1 1 ([y].map (Value.int .i64)) rfl (by simp) (led_new wr y) (ints_one _) (by rw [HLEN.out, maxLen_eq]; omega) (by rw [HLEN.out]; omega) (by simp; omega) ?_)
      intro v6 w6 hv6 hg6 _
      have HO6 := Lib.hid (led_app (rs := [y]) rfl hv6)
      obtain ⟨A6, c6, rfl, -⟩ := own_reads hv6
      have HB6 := Lib.hid (fin_below HBW.out hg6 (fun k e => (own_lt HO.out k e).1))
      clear hv6 hg6 hx hy
      go_wp2
      go_roundw
      case rel => exact ⟨k + 1, by omega, by go_num, by rw [HTK1.out, HY.out]; exact HO6.out, HB6.out⟩
      case measure => simp [intOf]; omega
    · have hkn : k + 1 = row.length := by omega
      have hlt1 : ¬ (k : Int) + 1 < (row.length : Int) := by omega
      have HTA := Lib.hid (show row.dropLast.take k = row.dropLast from take_all (by rw [List.length_dropLast]; omega))
      rw [HTA.out] at ho
      obtain ⟨A9, c9, rfl, -⟩ := own_reads ho
      have HO := Lib.hid ho
      clear ho
      go_wp2
      go_ret
      exact ⟨_, rfl, HO.out, HBW.out⟩

set_option maxHeartbeats 1600000 in
set_option maxRecDepth 100000 in
theorem l6Place_any (sizes row vals : List Int) (w : World) (v v' v2 : Value) (h : RInts w v sizes) (h' : RInts w v' row) (h2 : RInts w v2 vals) (hr3 : row.length ≤ 3) (hz : Sizes (ledM sizes row.dropLast)) (hin : ∀ x ∈ row, 0 ≤ x ∧ x < (sizes.length : Int)) (hms : sizes.length ≤ 3) (hal : InAll (ledM sizes row.dropLast) vals) :
    Calls Try.prog 74 #[v, v', v2] w fun e w' => e = .returned (.int .i64 (placeM 0 (ledM sizes row.dropLast) vals)) ∧ Below w.heap.size w w' := by
  have H := Lib.hid h
  have HV := Lib.hid h'
  have H2 := Lib.hid h2
  have HIN := Lib.hid hin
  obtain ⟨A, c, rfl, -⟩ := h.form
  obtain ⟨A', c', rfl, -⟩ := h'.form
  obtain ⟨A2, c2, rfl, -⟩ := h2.form
  have hll : (ledM sizes row.dropLast).length = row.length - 1 := by rw [ledM_len, List.length_dropLast]
  have hvl : vals.length ≤ 2 := by have := hal.1; omega
  have HVL : Hid (vals.length + 1 ≤ row.length ∨ vals.length = 0) := Lib.hid (show vals.length + 1 ≤ row.length ∨ vals.length = 0 by have := hal.1; omega)
  have HW := Lib.hid (fun (k : Nat) (hk : k < (ledM sizes row.dropLast).length) (hk' : k < vals.length) => place_wrap hz (by omega) hal hk hk')
  have HA := Lib.hid (fun (k : Nat) (hk : k + 1 < row.length) (h1 : k < (ledM sizes row.dropLast).length) => led_dl_at hk hin hms h1)
  have HAL := Lib.hid hal
  have HZL := Lib.hid hal.1
  have HPT := Lib.hid (fun (k : Nat) (h1 : k < (ledM sizes row.dropLast).length) (h2 : k < vals.length) => placeM_take h1 h2)
  generalize hzs : ledM sizes row.dropLast = zs at HW HA HAL HZL hll HPT ⊢
  have HLL := Lib.hid hll
  clear h h' h2 hin hz hal hzs hll
  go_enter Try.func74, Try.ntmps74
  go_wp2
  go_loopw [7, 8] (fun p i wr => ∃ k : Nat, k ≤ vals.length ∧ i = .int .i64 k ∧ p = .int .i64 (placeM 0 (zs.take k) (vals.take k)) ∧ Below w.heap.size w wr) (fun _ i _ => vals.length - (intOf i).toNat)
  case atStart => exact ⟨0, by omega, rfl, rfl, Below.refl _ _⟩
  case round =>
    obtain ⟨k, hk, rfl, rfl, hb⟩ := hrel
    have HB := Lib.hid hb
    clear hb
    have hw1 : IntKind.i64.wrap ((k : Int) + 1) = (k : Int) + 1 := by rw [IntKind.wrap_i64]; omega
    by_cases hlt : k < vals.length
    · have hlt' : (k : Int) < (vals.length : Int) := by omega
      have hkr1 : k + 1 < row.length := by have := HZL.out; have := HLL.out; omega
      have hkr : k < row.length := by omega
      have hkr' : (k : Int) < (row.length : Int) := by omega
      have hkz : k < zs.length := by have := HLL.out; omega
      obtain ⟨b, o, c4, e, hx⟩ := (HV.out.keep HB.out).at_ hkr
      cases e
      obtain ⟨b3, o3, c3, e, hv⟩ := (H2.out.keep HB.out).at_ hlt
      cases e
      have HI := Lib.hid (HIN.out _ (List.getElem_mem hkr))
      have hw := HW.out k hkz hlt
      have hpt := HPT.out k hkz hlt
      have hza := HA.out k hkr1 hkz
      rw [hza] at hw hpt
      clear hza
      generalize row[k] = x at hx HI hw hpt
      obtain ⟨n, rfl⟩ : ∃ n : Nat, x = (n : Int) := ⟨x.toNat, by have := HI.out; omega⟩
      have hnl : n < sizes.length := by have := HI.out; omega
      have hnl' : (n : Int) < (sizes.length : Int) := by omega
      have hn0 : (0 : Int) ≤ (n : Int) := by omega
      obtain ⟨b2, o2, c5, e2, hy⟩ := (H.out.keep HB.out).at_ hnl
      cases e2
      rw [Int.toNat_natCast, getD_at _ hnl] at hw hpt
      generalize sizes[n] = y at hy hw hpt
      generalize vals[k] = t at hv hw hpt
      obtain ⟨a, ha1, ha2⟩ := hw
      clear hpt
      generalize placeM 0 (zs.take k) (vals.take k) = pk at ha1
      generalize hp1 : placeM 0 (zs.take (k + 1)) (vals.take (k + 1)) = pk1 at ha2
      have HP1 := Lib.hid hp1
      clear hp1
      go_wp2_with fail
      refine wp_region_held_drew (S := (fun w' => w'.cell? ⟨b, o + k, none⟩ = some (.int .i64 (n : Int)) ∧ w'.cell? ⟨b3, o3 + k, none⟩ = some (.int .i64 t) ∧ w'.cell? ⟨b2, o2 + n, none⟩ = some (.int .i64 y))) (by kernel_rfl) ?_ (fun hHeld => ?_)
      · exact ⟨hx, hv, hy⟩
      refine wpAnyH_take (i := 0) (oi := _) (v := ?_) rfl (by kernel_rfl) (by kernel_rfl) (by kernel_rfl) (fun _ _ _ h => h) (Or.inl ⟨by rfl, ?_⟩) (by assumption) ?_
      rotate_left
      · first | (intro w' hSw; (try dsimp only at hSw); go_simp; done) | (intro w' hSw; (try dsimp only at hSw); go_simp; with_reducible rfl)
      try simp only [Act.put, List.getElem_toArray, List.getElem_cons_zero, List.getElem_cons_succ, List.setIfInBounds_toArray, List.set_cons_zero, List.set_cons_succ]
      refine wpAnyH_take (i := 1) (oi := _) (v := ?_) rfl (by kernel_rfl) (by kernel_rfl) (by kernel_rfl) (fun _ _ _ h => h) (Or.inl ⟨by rfl, ?_⟩) (by assumption) ?_
      rotate_left
      · first | (intro w' hSw; (try dsimp only at hSw); go_simp; done) | (intro w' hSw; (try dsimp only at hSw); go_simp; with_reducible rfl)
      try simp only [Act.put, List.getElem_toArray, List.getElem_cons_zero, List.getElem_cons_succ, List.setIfInBounds_toArray, List.set_cons_zero, List.set_cons_succ]
      refine wpAnyH_take (i := 2) (oi := _) (v := ?_) rfl (by kernel_rfl) (by kernel_rfl) (by kernel_rfl) (fun _ _ _ h => h) (Or.inl ⟨by rfl, ?_⟩) (by assumption) ?_
      rotate_left
      · first | (intro w' hSw; (try dsimp only at hSw); go_simp; done) | (intro w' hSw; (try dsimp only at hSw); go_simp; with_reducible rfl)
      try simp only [Act.put, List.getElem_toArray, List.getElem_cons_zero, List.getElem_cons_succ, List.setIfInBounds_toArray, List.set_cons_zero, List.set_cons_succ]
      refine wpAnyH_take (i := 3) (oi := _) (v := ?_) rfl (by kernel_rfl) (by kernel_rfl) (by kernel_rfl) (fun _ _ _ h => h) (Or.inl ⟨by rfl, ?_⟩) (by assumption) ?_
      rotate_left
      · first | (intro w' hSw; (try dsimp only at hSw); go_simp; done) | (intro w' hSw; (try dsimp only at hSw); go_simp; with_reducible rfl)
      try simp only [Act.put, List.getElem_toArray, List.getElem_cons_zero, List.getElem_cons_succ, List.setIfInBounds_toArray, List.set_cons_zero, List.set_cons_succ]
      refine wpAnyH_take (i := 4) (oi := _) (v := ?_) rfl (by kernel_rfl) (by kernel_rfl) (by kernel_rfl) (fun _ _ _ h => h) (Or.inl ⟨by rfl, ?_⟩) (by assumption) ?_
      rotate_left
      · first | (intro w' hSw; (try dsimp only at hSw); go_simp; done) | (intro w' hSw; (try dsimp only at hSw); go_simp; with_reducible rfl)
      try simp only [Act.put, List.getElem_toArray, List.getElem_cons_zero, List.getElem_cons_succ, List.setIfInBounds_toArray, List.set_cons_zero, List.set_cons_succ]
      refine wpAnyH_take (i := 5) (oi := _) (v := ?_) rfl (by kernel_rfl) (by kernel_rfl) (by kernel_rfl) (fun _ _ _ h => h) (Or.inl ⟨by rfl, ?_⟩) (by assumption) ?_
      rotate_left
      · first | (intro w' hSw; (try dsimp only at hSw); go_simp; done) | (intro w' hSw; (try dsimp only at hSw); go_simp; with_reducible rfl)
      try simp only [Act.put, List.getElem_toArray, List.getElem_cons_zero, List.getElem_cons_succ, List.setIfInBounds_toArray, List.set_cons_zero, List.set_cons_succ]
      refine wpAnyH_take (i := 6) (oi := _) (v := ?_) rfl (by kernel_rfl) (by kernel_rfl) (by kernel_rfl) (fun _ _ _ h => h) (Or.inl ⟨by rfl, ?_⟩) (by assumption) ?_
      rotate_left
      · first | (intro w' hSw; (try dsimp only at hSw); go_simp; done) | (intro w' hSw; (try dsimp only at hSw); go_simp; with_reducible rfl)
      try simp only [Act.put, List.getElem_toArray, List.getElem_cons_zero, List.getElem_cons_succ, List.setIfInBounds_toArray, List.set_cons_zero, List.set_cons_succ]
      refine wpAnyH_take (i := 7) (oi := _) (v := ?_) rfl (by kernel_rfl) (by kernel_rfl) (by kernel_rfl) (fun _ _ _ h => h) (Or.inl ⟨by rfl, ?_⟩) (by assumption) ?_
      rotate_left
      · first | (intro w' hSw; (try dsimp only at hSw); go_simp; done) | (intro w' hSw; (try dsimp only at hSw); go_simp; with_reducible rfl)
      try simp only [Act.put, List.getElem_toArray, List.getElem_cons_zero, List.getElem_cons_succ, List.setIfInBounds_toArray, List.set_cons_zero, List.set_cons_succ]
      refine wpAnyH_take (i := 8) (oi := _) (v := ?_) rfl (by kernel_rfl) (by kernel_rfl) (by kernel_rfl) (fun _ _ _ h => h) (Or.inl ⟨by rfl, ?_⟩) (by assumption) ?_
      rotate_left
      · first | (intro w' hSw; (try dsimp only at hSw); go_simp; done) | (intro w' hSw; (try dsimp only at hSw); go_simp; with_reducible rfl)
      try simp only [Act.put, List.getElem_toArray, List.getElem_cons_zero, List.getElem_cons_succ, List.setIfInBounds_toArray, List.set_cons_zero, List.set_cons_succ]
      refine wpAnyH_take (i := 9) (oi := _) (v := ?_) rfl (by kernel_rfl) (by kernel_rfl) (by kernel_rfl) (fun _ _ _ h => h) (Or.inl ⟨by rfl, ?_⟩) (by assumption) ?_
      rotate_left
      · first | (intro w' hSw; (try dsimp only at hSw); go_simp; done) | (intro w' hSw; (try dsimp only at hSw); go_simp; with_reducible rfl)
      try simp only [Act.put, List.getElem_toArray, List.getElem_cons_zero, List.getElem_cons_succ, List.setIfInBounds_toArray, List.set_cons_zero, List.set_cons_succ]
      refine wpAnyH_take (i := 10) (oi := _) (v := ?_) rfl (by kernel_rfl) (by kernel_rfl) (by kernel_rfl) (fun _ _ _ h => h) (Or.inl ⟨by rfl, ?_⟩) (by assumption) ?_
      rotate_left
      · first | (intro w' hSw; (try dsimp only at hSw); go_simp; done) | (intro w' hSw; (try dsimp only at hSw); go_simp; with_reducible rfl)
      try simp only [Act.put, List.getElem_toArray, List.getElem_cons_zero, List.getElem_cons_succ, List.setIfInBounds_toArray, List.set_cons_zero, List.set_cons_succ]
      refine wpAnyH_take (i := 11) (oi := _) (v := ?_) rfl (by kernel_rfl) (by kernel_rfl) (by kernel_rfl) (fun _ _ _ h => h) (Or.inl ⟨by rfl, ?_⟩) (by assumption) ?_
      rotate_left
      · first | (intro w' hSw; (try dsimp only at hSw); go_simp; done) | (intro w' hSw; (try dsimp only at hSw); go_simp; with_reducible rfl)
      try simp only [Act.put, List.getElem_toArray, List.getElem_cons_zero, List.getElem_cons_succ, List.setIfInBounds_toArray, List.set_cons_zero, List.set_cons_succ]
      refine wpAnyH_take (i := 12) (oi := _) (v := ?_) rfl (by kernel_rfl) (by kernel_rfl) (by kernel_rfl) (fun _ _ _ h => h) (Or.inl ⟨by rfl, ?_⟩) (by assumption) ?_
      rotate_left
      · first | (intro w' hSw; (try dsimp only at hSw); go_simp; done) | (intro w' hSw; (try dsimp only at hSw); go_simp; with_reducible rfl)
      try simp only [Act.put, List.getElem_toArray, List.getElem_cons_zero, List.getElem_cons_succ, List.setIfInBounds_toArray, List.set_cons_zero, List.set_cons_succ]
      refine wpAnyH_take (i := 13) (oi := _) (v := ?_) rfl (by kernel_rfl) (by kernel_rfl) (by kernel_rfl) (fun _ _ _ h => h) (Or.inl ⟨by rfl, ?_⟩) (by assumption) ?_
      rotate_left
      · first | (intro w' hSw; (try dsimp only at hSw); go_simp; done) | (intro w' hSw; (try dsimp only at hSw); go_simp; with_reducible rfl)
      try simp only [Act.put, List.getElem_toArray, List.getElem_cons_zero, List.getElem_cons_succ, List.setIfInBounds_toArray, List.set_cons_zero, List.set_cons_succ]
      refine wpAnyH_take (i := 14) (oi := _) (v := ?_) rfl (by kernel_rfl) (by kernel_rfl) (by kernel_rfl) (fun _ _ _ h => h) (Or.inl ⟨by rfl, ?_⟩) (by assumption) ?_
      rotate_left
      · first | (intro w' hSw; (try dsimp only at hSw); go_simp; done) | (intro w' hSw; (try dsimp only at hSw); go_simp; with_reducible rfl)
      try simp only [Act.put, List.getElem_toArray, List.getElem_cons_zero, List.getElem_cons_succ, List.setIfInBounds_toArray, List.set_cons_zero, List.set_cons_succ]
      refine wpAnyH_done (by kernel_rfl) ?_ _
      clear hx hv hy
      go_wp2
      go_roundw
      case rel => exact ⟨k + 1, by omega, by go_num, by rw [HP1.out], map_drew HB.out⟩
      case measure => simp [intOf]; omega
    · have hkn : k = vals.length := by omega
      have hlt' : ¬ (k : Int) < (vals.length : Int) := by omega
      have HT := Lib.hid (show zs.take k = zs from take_all (by have := HZL.out; omega))
      have HT2 := Lib.hid (show vals.take k = vals from take_all (by omega))
      rw [HT.out, HT2.out]
      go_wp2
      go_ret
      exact ⟨rfl, HB.out⟩
end
end Go.Proofs.Ytkhabmoidpgapaa
