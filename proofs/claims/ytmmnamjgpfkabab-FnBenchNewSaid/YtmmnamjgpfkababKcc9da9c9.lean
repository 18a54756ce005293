/- BenchNew of both packages. -/
import Derived.Test.YtmmnamjgpfkababKc853d429
import Derived.Deep.DeepCutAuto
import Derived.Deep.RegionHeld3
namespace Go.Proofs.Ytmmnamjgpfkabab
section
open Go.RowKit
set_option linter.unusedVariables false
set_option linter.unusedSimpArgs false

def benchNewM (s : MSig) : MBench := if validB s then ⟨⟨s, []⟩, []⟩ else ⟨⟨⟨0, []⟩, []⟩, []⟩
theorem benchNew_no {s : MSig} (h : validB s = false) : benchNewM s = ⟨⟨⟨0, []⟩, []⟩, []⟩ := by unfold benchNewM; rw [h]; rfl
theorem benchNew_yes {s : MSig} (h : validB s = true) : benchNewM s = ⟨⟨s, []⟩, []⟩ := by unfold benchNewM; rw [h]; rfl
theorem fits_valid {s : MSig} (h : validB s = true) : Fits s.ops := by
  have h6 := (valid_sorts h).2.2
  refine ⟨by omega, fun row hr => ?_⟩
  obtain ⟨k, hk, rfl⟩ := List.getElem_of_mem hr
  have := opRow_valid h hk
  rw [opRow_at hk] at this
  omega
theorem blk_held2 {wc wd : World} {bx : Nat} {o : Obj} (hz : wc.heap[bx]? = some o) (hb : Below wc.heap.size wc wd) : wd.heap[bx]? = some o := (hb.block _ (Array.getElem?_eq_some_iff.1 hz).1).trans hz
theorem far3 {w : World} {b rb : Nat} (h : b ≠ rb) (i0 i1 i2 o : Nat) (u0 u1 u2 : Value) : (((w.setCell ⟨rb, i0, none⟩ u0).setCell ⟨rb, i1, none⟩ u1).setCell ⟨rb, i2, none⟩ u2).cell? ⟨b, o, none⟩ = w.cell? ⟨b, o, none⟩ :=
  World.cell?_of_block ((Below.heap_setCell _ ⟨rb, i2, none⟩ u2 b h).trans ((Below.heap_setCell _ ⟨rb, i1, none⟩ u1 b h).trans (Below.heap_setCell w ⟨rb, i0, none⟩ u0 b h)))
theorem far4N {w : World} {b rb : Nat} (h : b ≠ rb) (i0 i1 i2 i3 o : Nat) (u0 u1 u2 u3 : Value) : ((((w.setCell ⟨rb, i0, none⟩ u0).setCell ⟨rb, i1, none⟩ u1).setCell ⟨rb, i2, none⟩ u2).setCell ⟨rb, i3, none⟩ u3).cell? ⟨b, o, none⟩ = w.cell? ⟨b, o, none⟩ :=
  World.cell?_of_block ((Below.heap_setCell _ ⟨rb, i3, none⟩ u3 b h).trans ((Below.heap_setCell _ ⟨rb, i2, none⟩ u2 b h).trans ((Below.heap_setCell _ ⟨rb, i1, none⟩ u1 b h).trans (Below.heap_setCell w ⟨rb, i0, none⟩ u0 b h))))
theorem own_notB {w : World} {B b : Nat} {e t : TypeId} {size n : Nat} {v : Value} {zs : List Value} {cs : Array Value} (h : w.ownsRow B e size v n zs) (hb : w.heap[b]? = some (.cells cs t (0, 0))) (hne : e ≠ t) : v.ownBlock ≠ some b := by
  rcases h.2 with ⟨rfl, _⟩ | ⟨g, cap, cur, rfl, hg, hh, r⟩
  · simp [Value.ownBlock]
  · intro he
    simp [Value.ownBlock] at he
    subst he
    rw [hh] at hb
    injection hb with hb
    injection hb with _ ht
    exact hne ht
theorem own_pokeB {w : World} {B b i : Nat} {e t : TypeId} {size n : Nat} {v x : Value} {zs : List Value} {cs : Array Value} (h : w.ownsRow B e size v n zs) (hb : w.heap[b]? = some (.cells cs t (0, 0))) (hne : e ≠ t) : (w.setCell ⟨b, i, none⟩ x).ownsRow B e size v n zs :=
  own_grown h (row := some b) ⟨rfl, rfl, rfl, by simp [World.setCell], fun k _ hk => Below.heap_setCell w ⟨b, i, none⟩ x k (by rintro rfl; exact hk rfl)⟩ (.inr (own_notB h hb hne))
theorem ORows.pokeB {w : World} {B b i : Nat} {t : TypeId} {v x : Value} {rows : List (List Int)} {cs : Array Value} (h : ORows w B v rows) (hb : w.heap[b]? = some (.cells cs t (0, 0))) (hne : 55 ≠ t) (hne2 : 3 ≠ t) : ORows (w.setCell ⟨b, i, none⟩ x) B v rows := by
  obtain ⟨us, h1, h2, h3, h4⟩ := h
  exact ⟨us, own_pokeB h1 hb hne, h2, fun j x r a c => own_pokeB (h3 j x r a c) hb hne2, h4⟩

set_option maxHeartbeats 3200000 in
set_option maxRecDepth 100000 in
theorem copiedTheoryN_any (u : Value) (so : Int) (rows : List (List Int)) (w : World) (h : RRows w u rows) (hs : Fits rows) :
    Calls Try.prog 92 #[.agg #[.int .i64 so, u, .slice none 0 0]] w fun e w' => ∃ u', e = .returned (.agg #[.int .i64 so, u', .slice none 0 0]) ∧ ORows w' w.heap.size u' rows ∧ Below w.heap.size w w' := by
  obtain ⟨A, c, rfl, -⟩ := h.form
  have HS := Lib.hid hs
  have hb : Below w.heap.size w ((w.alloc (.cells #[.int .i64 so, .slice A rows.length c, .slice none 0 0] 36)).alloc (.cells #[.int .i64 0, .slice none 0 0, .slice none 0 0] 36)) := (below_alloc _ _).alloc (by simp) _
  have HB := Lib.hid hb
  have hsz : ((w.alloc (.cells #[.int .i64 so, .slice A rows.length c, .slice none 0 0] 36)).alloc (.cells #[.int .i64 0, .slice none 0 0, .slice none 0 0] 36)).heap.size = w.heap.size + 2 := by simp
  have t0 : ((w.alloc (.cells #[.int .i64 so, .slice A rows.length c, .slice none 0 0] 36)).alloc (.cells #[.int .i64 0, .slice none 0 0, .slice none 0 0] 36)).cell? ⟨w.heap.size, 0, none⟩ = some (.int .i64 so) := cell_keep (below_alloc (w.alloc (.cells #[.int .i64 so, .slice A rows.length c, .slice none 0 0] 36)) (.cells #[.int .i64 0, .slice none 0 0, .slice none 0 0] 36)) (bx_at w #[.int .i64 so, .slice A rows.length c, .slice none 0 0] 36 (k := 0) rfl)
  have t1 : ((w.alloc (.cells #[.int .i64 so, .slice A rows.length c, .slice none 0 0] 36)).alloc (.cells #[.int .i64 0, .slice none 0 0, .slice none 0 0] 36)).cell? ⟨w.heap.size, 1, none⟩ = some (.slice A rows.length c) := cell_keep (below_alloc (w.alloc (.cells #[.int .i64 so, .slice A rows.length c, .slice none 0 0] 36)) (.cells #[.int .i64 0, .slice none 0 0, .slice none 0 0] 36)) (bx_at w #[.int .i64 so, .slice A rows.length c, .slice none 0 0] 36 (k := 1) rfl)
  have t2 : ((w.alloc (.cells #[.int .i64 so, .slice A rows.length c, .slice none 0 0] 36)).alloc (.cells #[.int .i64 0, .slice none 0 0, .slice none 0 0] 36)).cell? ⟨w.heap.size, 2, none⟩ = some (.slice none 0 0) := cell_keep (below_alloc (w.alloc (.cells #[.int .i64 so, .slice A rows.length c, .slice none 0 0] 36)) (.cells #[.int .i64 0, .slice none 0 0, .slice none 0 0] 36)) (bx_at w #[.int .i64 so, .slice A rows.length c, .slice none 0 0] 36 (k := 2) rfl)
  have HZr := Lib.hid (show ((w.alloc (.cells #[.int .i64 so, .slice A rows.length c, .slice none 0 0] 36)).alloc (.cells #[.int .i64 0, .slice none 0 0, .slice none 0 0] 36)).heap[w.heap.size + 1]? = some (.cells #[.int .i64 0, .slice none 0 0, .slice none 0 0] 36 (0, 0)) from (congrArg (fun i => ((w.alloc (.cells #[.int .i64 so, .slice A rows.length c, .slice none 0 0] 36)).alloc (.cells #[.int .i64 0, .slice none 0 0, .slice none 0 0] 36)).heap[i]?) (by simp)).trans (heap_alloc_new (w.alloc (.cells #[.int .i64 so, .slice A rows.length c, .slice none 0 0] 36)) _))
  have HR := Lib.hid (h.keep hb)
  generalize hW : ((w.alloc (.cells #[.int .i64 so, .slice A rows.length c, .slice none 0 0] 36)).alloc (.cells #[.int .i64 0, .slice none 0 0, .slice none 0 0] 36)) = W at HB hsz t0 t1 t2 HZr HR
  clear hb h
  clear hs
  go_enter Try.func92, Try.ntmps92
  go_wp2_with fail
  clear hW
  go_cut [3] (fun s3 wx => ∃ (bz : Nat) (A3 : Option Addr) (c3 : Nat), s3 = .pointer (some ⟨bz, 0, none⟩) ∧ W.heap.size ≤ bz ∧ wx.heap[bz]? = some (.cells #[.int .i64 so, .slice A3 rows.length c3, .slice none 0 0] 36 (0, 0)) ∧ ORows wx W.heap.size (.slice A3 rows.length c3) rows ∧ Below W.heap.size W wx)
  case first =>
    refine wp_region_held_drew (S := (fun w' => w'.cell? ⟨w.heap.size, 0, none⟩ = some (.int .i64 so) ∧ w'.cell? ⟨w.heap.size, 1, none⟩ = some (.slice A rows.length c))) (by kernel_rfl) ?_ (fun hHeld => ?_)
    · exact ⟨t0, t1⟩
    refine wpAnyH_take (i := 0) (oi := _) (v := ?_) rfl (by kernel_rfl) (by kernel_rfl) (by kernel_rfl) (fun _ _ _ h => h) (Or.inl ⟨by rfl, ?_⟩) (by assumption) ?_
    rotate_left
    · first | (intro w' hSw; (try dsimp only at hSw); go_simp; done) | (intro w' hSw; (try dsimp only at hSw); go_simp; with_reducible rfl)
    try simp only [Act.put, List.getElem_toArray, List.getElem_cons_zero, List.getElem_cons_succ, List.setIfInBounds_toArray, List.set_cons_zero, List.set_cons_succ]
    refine wpAnyH_take (i := 1) (oi := _) (v := ?_) rfl (by kernel_rfl) (by kernel_rfl) (by kernel_rfl) (fun _ _ _ h => h) (Or.inl ⟨by rfl, ?_⟩) (by assumption) ?_
    rotate_left
    · first | (intro w' hSw; (try dsimp only at hSw); go_simp; done) | (intro w' hSw; (try dsimp only at hSw); go_simp; with_reducible rfl)
    try simp only [Act.put, List.getElem_toArray, List.getElem_cons_zero, List.getElem_cons_succ, List.setIfInBounds_toArray, List.set_cons_zero, List.set_cons_succ]
    refine wpAnyH_take (i := 2) (oi := _) (v := ?_) rfl (by kernel_rfl) (by kernel_rfl) (by kernel_rfl) (fun _ _ _ h => h) (Or.inl ⟨by rfl, ?_⟩) (by assumption) ?_
    rotate_left
    · first | (intro w' hSw; (try dsimp only at hSw); go_simp; done) | (intro w' hSw; (try dsimp only at hSw); go_simp; with_reducible rfl)
    try simp only [Act.put, List.getElem_toArray, List.getElem_cons_zero, List.getElem_cons_succ, List.setIfInBounds_toArray, List.set_cons_zero, List.set_cons_succ]
    refine wpAnyH_take (i := 3) (oi := _) (v := ?_) rfl (by kernel_rfl) (by kernel_rfl) (by kernel_rfl) (fun _ _ _ h => h) (Or.inl ⟨by rfl, ?_⟩) (by assumption) ?_
    rotate_left
    · first | (intro w' hSw; (try dsimp only at hSw); go_simp; done) | (intro w' hSw; (try dsimp only at hSw); go_simp; with_reducible rfl)
    try simp only [Act.put, List.getElem_toArray, List.getElem_cons_zero, List.getElem_cons_succ, List.setIfInBounds_toArray, List.set_cons_zero, List.set_cons_succ]
    refine wpAnyH_take (i := 4) (oi := _) (v := ?_) rfl (by kernel_rfl) (by kernel_rfl) (by kernel_rfl) (fun _ _ _ h => h) (Or.inl ⟨by rfl, ?_⟩) (by assumption) ?_
    rotate_left
    · first | (intro w' hSw; (try dsimp only at hSw); go_simp; done) | (intro w' hSw; (try dsimp only at hSw); go_simp; with_reducible rfl)
    try simp only [Act.put, List.getElem_toArray, List.getElem_cons_zero, List.getElem_cons_succ, List.setIfInBounds_toArray, List.set_cons_zero, List.set_cons_succ]
    refine wpAnyH_take (i := 5) (oi := _) (v := ?_) rfl (by kernel_rfl) (by kernel_rfl) (by kernel_rfl) (fun _ _ _ h => h) (Or.inl ⟨by rfl, ?_⟩) (by assumption) ?_
    rotate_left
    · first | (intro w' hSw; (try dsimp only at hSw); go_simp; done) | (intro w' hSw; (try dsimp only at hSw); go_simp; with_reducible rfl)
    try simp only [Act.put, List.getElem_toArray, List.getElem_cons_zero, List.getElem_cons_succ, List.setIfInBounds_toArray, List.set_cons_zero, List.set_cons_succ]
    refine wpAnyH_ready (rs := [6, 9]) (by kernel_rfl) (by simp) ?_
    refine AllReadyH.cons (o := _) rfl (fun K hK => ?_) (AllReadyH.cons (o := _) rfl (fun K hK => ?_) AllReadyH.nil)
    go_simp
    refine (copiedRows_any _ rows W.drew (HR.out.keep (eq_drew _)) HS.out).mono ?_
    rintro _ w3 ⟨u3, rfl, ho, hb⟩
    obtain ⟨A3, c3, rfl, -⟩ := ho.reads.form
    replace hb : Below W.heap.size W w3 := eq_undrew hb
    have p0 := cell_keep hb t0
    have p1 := cell_keep hb t1
    have HO3 := Lib.hid (show ORows w3 W.heap.size (.slice A3 rows.length c3) rows from ho)
    have HB3 := Lib.hid hb
    have HBZ := Lib.hid (show W.heap.size ≤ w3.heap.size from hb.size)
    clear ho hb
    go_wp2_with fail
    refine hK.out _ _ ⟨p0, p1⟩ (fun hHeld => ?_)
    clear hK K
    try simp only [Act.put, List.getElem_toArray, List.getElem_cons_zero, List.getElem_cons_succ, List.setIfInBounds_toArray, List.set_cons_zero, List.set_cons_succ]
    refine wpAnyH_take (i := 7) (oi := _) (v := ?_) rfl (by kernel_rfl) (by kernel_rfl) (by kernel_rfl) (fun _ _ _ h => h) (Or.inl ⟨by rfl, ?_⟩) (by assumption) ?_
    rotate_left
    · first | (intro w' hSw; (try dsimp only at hSw); go_simp; done) | (intro w' hSw; (try dsimp only at hSw); go_simp; with_reducible rfl)
    try simp only [Act.put, List.getElem_toArray, List.getElem_cons_zero, List.getElem_cons_succ, List.setIfInBounds_toArray, List.set_cons_zero, List.set_cons_succ]
    refine wpAnyH_take (i := 8) (oi := _) (v := ?_) rfl (by kernel_rfl) (by kernel_rfl) (by kernel_rfl) (fun _ _ _ h => h) (Or.inl ⟨by rfl, ?_⟩) (by assumption) ?_
    rotate_left
    · first | (intro w' hSw; (try dsimp only at hSw); go_simp; done) | (intro w' hSw; (try dsimp only at hSw); go_simp; with_reducible rfl)
    try simp only [Act.put, List.getElem_toArray, List.getElem_cons_zero, List.getElem_cons_succ, List.setIfInBounds_toArray, List.set_cons_zero, List.set_cons_succ]
    refine wpAnyH_ready (rs := [9]) (by kernel_rfl) (by simp) ?_
    refine AllReadyH.cons (o := _) rfl (fun K hK => ?_) AllReadyH.nil
    go_simp
    have hb := below_alloc w3 (.cells #[.int .i64 0, .slice none 0 0, .slice none 0 0] 36)
    have hl := heap_alloc_new w3 (.cells #[.int .i64 0, .slice none 0 0, .slice none 0 0] 36)
    generalize hWA : w3.alloc (.cells #[.int .i64 0, .slice none 0 0, .slice none 0 0] 36) = w4 at hb hl ⊢
    clear hWA
    have HLb := Lib.hid (show w4.heap[w3.heap.size]? = some (.cells #[.int .i64 0, .slice none 0 0, .slice none 0 0] 36 (0, 0)) from hl)
    replace HO3 := Lib.hid (HO3.out.keep hb)
    replace HB3 := Lib.hid (sz_keep HB3.out hb)
    replace p0 := cell_keep hb p0
    replace p1 := cell_keep hb p1
    clear hb hl
    refine hK.out _ _ ⟨p0, p1⟩ (fun hHeld => ?_)
    clear hK K
    try simp only [Act.put, List.getElem_toArray, List.getElem_cons_zero, List.getElem_cons_succ, List.setIfInBounds_toArray, List.set_cons_zero, List.set_cons_succ]
    refine wpAnyH_ready (rs := [10]) (by kernel_rfl) (by simp) ?_
    refine AllReadyH.cons (o := _) rfl (fun K hK => ?_) AllReadyH.nil
    have j0 := blk_cell HLb.out 0
    have j1 := blk_cell HLb.out 1
    have j2 := blk_cell HLb.out 2
    have jf0 := blk_free HLb.out 0
    have jf1 := blk_free HLb.out 1
    have jf2 := blk_free HLb.out 2
    simp at j0 j1 j2
    have d1 := blk_set (blk_set (blk_set HLb.out 0 (.int .i64 so)) 1 (.slice A3 rows.length c3)) 2 (.slice none 0 0)
    have n0 := ((HO3.out.pokeB (b := w3.heap.size) (i := 0) (x := .int .i64 so) HLb.out (by decide) (by decide)).pokeB (b := w3.heap.size) (i := 1) (x := .slice A3 rows.length c3) (blk_set HLb.out 0 _) (by decide) (by decide)).pokeB (b := w3.heap.size) (i := 2) (x := .slice none 0 0) (blk_set (blk_set HLb.out 0 _) 1 _) (by decide) (by decide)
    have hbz := ((HB3.out.setCell (p := ⟨w3.heap.size, 0, none⟩) HBZ.out (.int .i64 so)).setCell (p := ⟨w3.heap.size, 1, none⟩) HBZ.out (.slice A3 rows.length c3)).setCell (p := ⟨w3.heap.size, 2, none⟩) HBZ.out (.slice none 0 0)
    have D9 := Lib.hid (And.intro d1 (And.intro n0 hbz))
    have e0 := (far3 (w := w4) (b := w.heap.size) (rb := w3.heap.size) (by have := HBZ.out; omega) 0 1 2 0 (.int .i64 so) (.slice A3 rows.length c3) (.slice none 0 0)).trans p0
    have e1 := (far3 (w := w4) (b := w.heap.size) (rb := w3.heap.size) (by have := HBZ.out; omega) 0 1 2 1 (.int .i64 so) (.slice A3 rows.length c3) (.slice none 0 0)).trans p1
    clear d1 n0 hbz
    go_simp
    clear j0 j1 j2 jf0 jf1 jf2
    refine hK.out _ _ ⟨e0, e1⟩ (fun hHeld => ?_)
    clear hK K
    try simp only [Act.put, List.getElem_toArray, List.getElem_cons_zero, List.getElem_cons_succ, List.setIfInBounds_toArray, List.set_cons_zero, List.set_cons_succ]
    refine wpAnyH_done (by kernel_rfl) ?_ _
    go_wp2_with fail
    go_meet
    exact ⟨w3.heap.size, A3, c3, rfl, HBZ.out, D9.out.1, D9.out.2.1, D9.out.2.2⟩
    rotate_left
    go_simp
    have hb := below_alloc W (.cells #[.int .i64 0, .slice none 0 0, .slice none 0 0] 36)
    have hl := heap_alloc_new W (.cells #[.int .i64 0, .slice none 0 0, .slice none 0 0] 36)
    generalize hWA : W.alloc (.cells #[.int .i64 0, .slice none 0 0, .slice none 0 0] 36) = w4 at hb hl ⊢
    clear hWA
    have HLb := Lib.hid (show w4.heap[w.heap.size + 2]? = some (.cells #[.int .i64 0, .slice none 0 0, .slice none 0 0] 36 (0, 0)) by rw [← hsz]; exact hl)
    have HB4 := Lib.hid hb
    have HR4 := Lib.hid (HR.out.keep hb)
    have p0 := cell_keep hb t0
    have p1 := cell_keep hb t1
    have HBZ := Lib.hid (show W.heap.size ≤ w.heap.size + 2 by omega)
    clear hb hl
    refine hK.out _ _ ⟨p0, p1⟩ (fun hHeld => ?_)
    clear hK K
    try simp only [Act.put, List.getElem_toArray, List.getElem_cons_zero, List.getElem_cons_succ, List.setIfInBounds_toArray, List.set_cons_zero, List.set_cons_succ]
    refine wpAnyH_ready (rs := [6]) (by kernel_rfl) (by simp) ?_
    refine AllReadyH.cons (o := _) rfl (fun K hK => ?_) AllReadyH.nil
    go_simp
    refine (copiedRows_any _ rows w4.drew (HR4.out.keep (eq_drew _)) HS.out).mono ?_
    rintro _ w3 ⟨u3, rfl, ho, hb⟩
    replace hb : Below w4.heap.size w4 w3 := eq_undrew hb
    obtain ⟨A3, c3, rfl, -⟩ := ho.reads.form
    replace HLb := Lib.hid (blk_held2 HLb.out hb)
    replace p0 := cell_keep hb p0
    replace p1 := cell_keep hb p1
    have HO3 := Lib.hid (show ORows w3 W.heap.size (.slice A3 rows.length c3) rows from ho.base HB4.out.size)
    have HB3 := Lib.hid (sz_keep HB4.out hb)
    clear ho hb
    go_wp2_with fail
    refine hK.out _ _ ⟨p0, p1⟩ (fun hHeld => ?_)
    clear hK K
    try simp only [Act.put, List.getElem_toArray, List.getElem_cons_zero, List.getElem_cons_succ, List.setIfInBounds_toArray, List.set_cons_zero, List.set_cons_succ]
    refine wpAnyH_take (i := 7) (oi := _) (v := ?_) rfl (by kernel_rfl) (by kernel_rfl) (by kernel_rfl) (fun _ _ _ h => h) (Or.inl ⟨by rfl, ?_⟩) (by assumption) ?_
    rotate_left
    · first | (intro w' hSw; (try dsimp only at hSw); go_simp; done) | (intro w' hSw; (try dsimp only at hSw); go_simp; with_reducible rfl)
    try simp only [Act.put, List.getElem_toArray, List.getElem_cons_zero, List.getElem_cons_succ, List.setIfInBounds_toArray, List.set_cons_zero, List.set_cons_succ]
    refine wpAnyH_take (i := 8) (oi := _) (v := ?_) rfl (by kernel_rfl) (by kernel_rfl) (by kernel_rfl) (fun _ _ _ h => h) (Or.inl ⟨by rfl, ?_⟩) (by assumption) ?_
    rotate_left
    · first | (intro w' hSw; (try dsimp only at hSw); go_simp; done) | (intro w' hSw; (try dsimp only at hSw); go_simp; with_reducible rfl)
    try simp only [Act.put, List.getElem_toArray, List.getElem_cons_zero, List.getElem_cons_succ, List.setIfInBounds_toArray, List.set_cons_zero, List.set_cons_succ]
    refine wpAnyH_ready (rs := [10]) (by kernel_rfl) (by simp) ?_
    refine AllReadyH.cons (o := _) rfl (fun K hK => ?_) AllReadyH.nil
    have j0 := blk_cell HLb.out 0
    have j1 := blk_cell HLb.out 1
    have j2 := blk_cell HLb.out 2
    have jf0 := blk_free HLb.out 0
    have jf1 := blk_free HLb.out 1
    have jf2 := blk_free HLb.out 2
    simp at j0 j1 j2
    have d1 := blk_set (blk_set (blk_set HLb.out 0 (.int .i64 so)) 1 (.slice A3 rows.length c3)) 2 (.slice none 0 0)
    have n0 := ((HO3.out.pokeB (b := w.heap.size + 2) (i := 0) (x := .int .i64 so) HLb.out (by decide) (by decide)).pokeB (b := w.heap.size + 2) (i := 1) (x := .slice A3 rows.length c3) (blk_set HLb.out 0 _) (by decide) (by decide)).pokeB (b := w.heap.size + 2) (i := 2) (x := .slice none 0 0) (blk_set (blk_set HLb.out 0 _) 1 _) (by decide) (by decide)
    have hbz := ((HB3.out.setCell (p := ⟨w.heap.size + 2, 0, none⟩) HBZ.out (.int .i64 so)).setCell (p := ⟨w.heap.size + 2, 1, none⟩) HBZ.out (.slice A3 rows.length c3)).setCell (p := ⟨w.heap.size + 2, 2, none⟩) HBZ.out (.slice none 0 0)
    have D9 := Lib.hid (And.intro d1 (And.intro n0 hbz))
    have e0 := (far3 (w := w3) (b := w.heap.size) (rb := w.heap.size + 2) (by have := HBZ.out; omega) 0 1 2 0 (.int .i64 so) (.slice A3 rows.length c3) (.slice none 0 0)).trans p0
    have e1 := (far3 (w := w3) (b := w.heap.size) (rb := w.heap.size + 2) (by have := HBZ.out; omega) 0 1 2 1 (.int .i64 so) (.slice A3 rows.length c3) (.slice none 0 0)).trans p1
    clear d1 n0 hbz
    go_simp
    clear j0 j1 j2 jf0 jf1 jf2
    refine hK.out _ _ ⟨e0, e1⟩ (fun hHeld => ?_)
    clear hK K
    try simp only [Act.put, List.getElem_toArray, List.getElem_cons_zero, List.getElem_cons_succ, List.setIfInBounds_toArray, List.set_cons_zero, List.set_cons_succ]
    refine wpAnyH_done (by kernel_rfl) ?_ _
    go_wp2_with fail
    go_meet
    exact ⟨w.heap.size + 2, A3, c3, rfl, HBZ.out, D9.out.1, D9.out.2.1, D9.out.2.2⟩
  case rest =>
  obtain ⟨bz, A3, c3, rfl, hbz1, hl, ho, hb⟩ := hcut
  have HO3 := Lib.hid ho
  have HL3 := Lib.hid hl
  have HZ3 := Lib.hid (blk_held2 HZr.out hb)
  have t2c := cell_keep hb t2
  replace HB := Lib.hid (sz_keep HB.out hb)
  clear t0 t1 t2 ho hl hb
  go_wp2
  clear t2c
  go_loopw [5, 18] (fun _ i wr => i = .int .i64 0 ∧ wc = wr) (fun _ i _ => 1)
  case atStart => exact ⟨rfl, rfl⟩
  case round =>
    obtain ⟨rfl, rfl⟩ := hrel
    have g0 := blk_cell HL3.out 0
    have g1 := blk_cell HL3.out 1
    have g2 := blk_cell HL3.out 2
    simp at g0 g1 g2
    have j0 := blk_cell HZ3.out 0
    have j1 := blk_cell HZ3.out 1
    have j2 := blk_cell HZ3.out 2
    have jf0 := blk_free HZ3.out 0
    have jf1 := blk_free HZ3.out 1
    have jf2 := blk_free HZ3.out 2
    simp at j0 j1 j2
    go_wp2
    have d1 := blk_set (blk_set (blk_set (HZ3.out) 0 (.int .i64 so)) 1 (.slice A3 rows.length c3)) 2 (.slice none 0 0)
    have n0 := (((HO3.out.setLow' (b := w.heap.size + 1) (by omega) 0 (.int .i64 so)).setLow' (b := w.heap.size + 1) (by omega) 1 (.slice A3 rows.length c3)).setLow' (b := w.heap.size + 1) (by omega) 2 (.slice none 0 0))
    have hbz := (((HB.out.setCell (p := ⟨w.heap.size + 1, 0, none⟩) (by show w.heap.size ≤ w.heap.size + 1; omega) (.int .i64 so)).setCell (p := ⟨w.heap.size + 1, 1, none⟩) (by show w.heap.size ≤ w.heap.size + 1; omega) (.slice A3 rows.length c3)).setCell (p := ⟨w.heap.size + 1, 2, none⟩) (by show w.heap.size ≤ w.heap.size + 1; omega) (.slice none 0 0))
    generalize ((wc.setCell ⟨w.heap.size + 1, 0, none⟩ (.int .i64 so)).setCell ⟨w.heap.size + 1, 1, none⟩ (.slice A3 rows.length c3)).setCell ⟨w.heap.size + 1, 2, none⟩ (.slice none 0 0) = wz at d1 hbz n0 ⊢
    have k0 := blk_cell d1 0
    have k1 := blk_cell d1 1
    have k2 := blk_cell d1 2
    simp at k0 k1 k2
    clear j0 j1 j2 jf0 jf1 jf2 g0 g1 g2
    refine bodyPost_ret (v := .agg #[.int .i64 so, .slice A3 rows.length c3, .slice none 0 0]) (by simp [results, Try.results92, go_sem, k0, k1, k2]) rfl ?_
    exact ⟨_, rfl, n0.base (by omega), hbz⟩

set_option maxHeartbeats 3200000 in
set_option maxRecDepth 100000 in
theorem copiedBenchN_any (u : Value) (so : Int) (rows : List (List Int)) (w : World) (h : RRows w u rows) (hs : Fits rows) :
    Calls Try.prog 57 #[.agg #[.int .i64 so, u, .slice none 0 0, .slice none 0 0]] w fun e w' => ∃ u', e = .returned (.agg #[.int .i64 so, u', .slice none 0 0, .slice none 0 0]) ∧ ORows w' w.heap.size u' rows ∧ Below w.heap.size w w' := by
  obtain ⟨A, c, rfl, -⟩ := h.form
  have HS := Lib.hid hs
  have hb : Below w.heap.size w ((w.alloc (.cells #[.int .i64 so, .slice A rows.length c, .slice none 0 0, .slice none 0 0] 39)).alloc (.cells #[.int .i64 0, .slice none 0 0, .slice none 0 0, .slice none 0 0] 39)) := (below_alloc _ _).alloc (by simp) _
  have HB := Lib.hid hb
  have hsz : ((w.alloc (.cells #[.int .i64 so, .slice A rows.length c, .slice none 0 0, .slice none 0 0] 39)).alloc (.cells #[.int .i64 0, .slice none 0 0, .slice none 0 0, .slice none 0 0] 39)).heap.size = w.heap.size + 2 := by simp
  have t0 : ((w.alloc (.cells #[.int .i64 so, .slice A rows.length c, .slice none 0 0, .slice none 0 0] 39)).alloc (.cells #[.int .i64 0, .slice none 0 0, .slice none 0 0, .slice none 0 0] 39)).cell? ⟨w.heap.size, 0, none⟩ = some (.int .i64 so) := cell_keep (below_alloc (w.alloc (.cells #[.int .i64 so, .slice A rows.length c, .slice none 0 0, .slice none 0 0] 39)) (.cells #[.int .i64 0, .slice none 0 0, .slice none 0 0, .slice none 0 0] 39)) (bx_at w #[.int .i64 so, .slice A rows.length c, .slice none 0 0, .slice none 0 0] 39 (k := 0) rfl)
  have t1 : ((w.alloc (.cells #[.int .i64 so, .slice A rows.length c, .slice none 0 0, .slice none 0 0] 39)).alloc (.cells #[.int .i64 0, .slice none 0 0, .slice none 0 0, .slice none 0 0] 39)).cell? ⟨w.heap.size, 1, none⟩ = some (.slice A rows.length c) := cell_keep (below_alloc (w.alloc (.cells #[.int .i64 so, .slice A rows.length c, .slice none 0 0, .slice none 0 0] 39)) (.cells #[.int .i64 0, .slice none 0 0, .slice none 0 0, .slice none 0 0] 39)) (bx_at w #[.int .i64 so, .slice A rows.length c, .slice none 0 0, .slice none 0 0] 39 (k := 1) rfl)
  have t2 : ((w.alloc (.cells #[.int .i64 so, .slice A rows.length c, .slice none 0 0, .slice none 0 0] 39)).alloc (.cells #[.int .i64 0, .slice none 0 0, .slice none 0 0, .slice none 0 0] 39)).cell? ⟨w.heap.size, 2, none⟩ = some (.slice none 0 0) := cell_keep (below_alloc (w.alloc (.cells #[.int .i64 so, .slice A rows.length c, .slice none 0 0, .slice none 0 0] 39)) (.cells #[.int .i64 0, .slice none 0 0, .slice none 0 0, .slice none 0 0] 39)) (bx_at w #[.int .i64 so, .slice A rows.length c, .slice none 0 0, .slice none 0 0] 39 (k := 2) rfl)
  have t3 : ((w.alloc (.cells #[.int .i64 so, .slice A rows.length c, .slice none 0 0, .slice none 0 0] 39)).alloc (.cells #[.int .i64 0, .slice none 0 0, .slice none 0 0, .slice none 0 0] 39)).cell? ⟨w.heap.size, 3, none⟩ = some (.slice none 0 0) := cell_keep (below_alloc (w.alloc (.cells #[.int .i64 so, .slice A rows.length c, .slice none 0 0, .slice none 0 0] 39)) (.cells #[.int .i64 0, .slice none 0 0, .slice none 0 0, .slice none 0 0] 39)) (bx_at w #[.int .i64 so, .slice A rows.length c, .slice none 0 0, .slice none 0 0] 39 (k := 3) rfl)
  have HZr := Lib.hid (show ((w.alloc (.cells #[.int .i64 so, .slice A rows.length c, .slice none 0 0, .slice none 0 0] 39)).alloc (.cells #[.int .i64 0, .slice none 0 0, .slice none 0 0, .slice none 0 0] 39)).heap[w.heap.size + 1]? = some (.cells #[.int .i64 0, .slice none 0 0, .slice none 0 0, .slice none 0 0] 39 (0, 0)) from (congrArg (fun i => ((w.alloc (.cells #[.int .i64 so, .slice A rows.length c, .slice none 0 0, .slice none 0 0] 39)).alloc (.cells #[.int .i64 0, .slice none 0 0, .slice none 0 0, .slice none 0 0] 39)).heap[i]?) (by simp)).trans (heap_alloc_new (w.alloc (.cells #[.int .i64 so, .slice A rows.length c, .slice none 0 0, .slice none 0 0] 39)) _))
  have HR := Lib.hid (h.keep hb)
  generalize hW : ((w.alloc (.cells #[.int .i64 so, .slice A rows.length c, .slice none 0 0, .slice none 0 0] 39)).alloc (.cells #[.int .i64 0, .slice none 0 0, .slice none 0 0, .slice none 0 0] 39)) = W at HB hsz t0 t1 t2 t3 HZr HR
  clear hb h
  clear hs
  go_enter Try.func57, Try.ntmps57
  go_wp2_with fail
  clear hW
  refine (copiedTheoryN_any _ so rows W HR.out HS.out).mono ?_
  rintro _ w3 ⟨u3, rfl, ho, hb⟩
  obtain ⟨A3, c3, rfl, -⟩ := ho.reads.form
  have hb4 := below_alloc w3 (.cells #[.int .i64 0, .slice none 0 0, .slice none 0 0, .slice none 0 0] 39)
  have hl4 : (w3.alloc (.cells #[.int .i64 0, .slice none 0 0, .slice none 0 0, .slice none 0 0] 39)).heap[w3.heap.size]? = some (.cells #[.int .i64 0, .slice none 0 0, .slice none 0 0, .slice none 0 0] 39 (0, 0)) := heap_alloc_new w3 _
  generalize hW4 : w3.alloc (.cells #[.int .i64 0, .slice none 0 0, .slice none 0 0, .slice none 0 0] 39) = w4 at hb4 hl4
  have j0 := blk_cell hl4 0
  have j1 := blk_cell hl4 1
  have j2 := blk_cell hl4 2
  have j3 := blk_cell hl4 3
  have jf0 := blk_free hl4 0
  have jf1 := blk_free hl4 1
  have jf2 := blk_free hl4 2
  have jf3 := blk_free hl4 3
  simp at j0 j1 j2 j3
  have d1 := blk_set (blk_set (blk_set (blk_set hl4 0 (.int .i64 so)) 1 (.slice A3 rows.length c3)) 2 (.slice none 0 0)) 3 (.slice none 0 0)
  have n0 := (((((ho.keep hb4).pokeB (i := 0) (x := .int .i64 so) hl4 (by decide) (by decide)).pokeB (i := 1) (x := .slice A3 rows.length c3) (blk_set hl4 0 _) (by decide) (by decide)).pokeB (i := 2) (x := .slice none 0 0) (blk_set (blk_set hl4 0 _) 1 _) (by decide) (by decide)).pokeB (i := 3) (x := .slice none 0 0) (blk_set (blk_set (blk_set hl4 0 _) 1 _) 2 _) (by decide) (by decide))
  have hs3 := hb.size
  have hb5 := ((((sz_keep hb hb4).setCell (p := ⟨w3.heap.size, 0, none⟩) hs3 (.int .i64 so)).setCell (p := ⟨w3.heap.size, 1, none⟩) hs3 (.slice A3 rows.length c3)).setCell (p := ⟨w3.heap.size, 2, none⟩) hs3 (.slice none 0 0)).setCell (p := ⟨w3.heap.size, 3, none⟩) hs3 (.slice none 0 0)
  generalize hW5 : (((w4.setCell ⟨w3.heap.size, 0, none⟩ (.int .i64 so)).setCell ⟨w3.heap.size, 1, none⟩ (.slice A3 rows.length c3)).setCell ⟨w3.heap.size, 2, none⟩ (.slice none 0 0)).setCell ⟨w3.heap.size, 3, none⟩ (.slice none 0 0) = wc at d1 n0 hb5
  have HO3 := Lib.hid n0
  have HL3 := Lib.hid d1
  have HZ3 := Lib.hid (blk_held2 HZr.out hb5)
  have t3c := cell_keep hb5 t3
  replace HB := Lib.hid (sz_keep HB.out hb5)
  clear t0 t1 t2 t3 ho hb hb4 hl4 d1 n0 hb5
  go_wp2
  clear t3c hW4 hW5 j0 j1 j2 j3 jf0 jf1 jf2 jf3
  go_loopw [5, 13] (fun _ i wr => i = .int .i64 0 ∧ wc = wr) (fun _ i _ => 1)
  case atStart => exact ⟨rfl, rfl⟩
  case round =>
    obtain ⟨rfl, rfl⟩ := hrel
    have g0 := blk_cell HL3.out 0
    have g1 := blk_cell HL3.out 1
    have g2 := blk_cell HL3.out 2
    have g3 := blk_cell HL3.out 3
    simp at g0 g1 g2 g3
    have j0 := blk_cell HZ3.out 0
    have j1 := blk_cell HZ3.out 1
    have j2 := blk_cell HZ3.out 2
    have j3 := blk_cell HZ3.out 3
    have jf0 := blk_free HZ3.out 0
    have jf1 := blk_free HZ3.out 1
    have jf2 := blk_free HZ3.out 2
    have jf3 := blk_free HZ3.out 3
    simp at j0 j1 j2 j3
    go_wp2
    have d1 := blk_set (blk_set (blk_set (blk_set (HZ3.out) 0 (.int .i64 so)) 1 (.slice A3 rows.length c3)) 2 (.slice none 0 0)) 3 (.slice none 0 0)
    have n0 := ((((HO3.out.setLow' (b := w.heap.size + 1) (by omega) 0 (.int .i64 so)).setLow' (b := w.heap.size + 1) (by omega) 1 (.slice A3 rows.length c3)).setLow' (b := w.heap.size + 1) (by omega) 2 (.slice none 0 0)).setLow' (b := w.heap.size + 1) (by omega) 3 (.slice none 0 0))
    have hbz := ((((HB.out.setCell (p := ⟨w.heap.size + 1, 0, none⟩) (by show w.heap.size ≤ w.heap.size + 1; omega) (.int .i64 so)).setCell (p := ⟨w.heap.size + 1, 1, none⟩) (by show w.heap.size ≤ w.heap.size + 1; omega) (.slice A3 rows.length c3)).setCell (p := ⟨w.heap.size + 1, 2, none⟩) (by show w.heap.size ≤ w.heap.size + 1; omega) (.slice none 0 0)).setCell (p := ⟨w.heap.size + 1, 3, none⟩) (by show w.heap.size ≤ w.heap.size + 1; omega) (.slice none 0 0))
    generalize (((wc.setCell ⟨w.heap.size + 1, 0, none⟩ (.int .i64 so)).setCell ⟨w.heap.size + 1, 1, none⟩ (.slice A3 rows.length c3)).setCell ⟨w.heap.size + 1, 2, none⟩ (.slice none 0 0)).setCell ⟨w.heap.size + 1, 3, none⟩ (.slice none 0 0) = wz at d1 hbz n0 ⊢
    have k0 := blk_cell d1 0
    have k1 := blk_cell d1 1
    have k2 := blk_cell d1 2
    have k3 := blk_cell d1 3
    simp at k0 k1 k2 k3
    clear j0 j1 j2 j3 jf0 jf1 jf2 jf3 g0 g1 g2 g3
    refine bodyPost_ret (v := .agg #[.int .i64 so, .slice A3 rows.length c3, .slice none 0 0, .slice none 0 0]) (by simp [results, Try.results57, go_sem, k0, k1, k2, k3]) rfl ?_
    exact ⟨_, rfl, n0.base (by omega), hbz⟩

set_option maxHeartbeats 3200000 in
set_option maxRecDepth 100000 in
theorem benchNew_any (s : MSig) (w : World) (v : Value) (h1 : RSig w v s) :
    Calls Try.prog 15 #[v] w fun e w' => ∃ u, e = .returned u ∧ OBenchN w' w.heap.size u (benchNewM s) ∧ Below w.heap.size w w' := by
  obtain ⟨Asa, csa, rfl⟩ := h1.form
  have hb : Below w.heap.size w ((w.alloc (.cells #[.int .i64 s.sorts, .slice Asa s.ops.length csa] 33)).alloc (.cells #[.int .i64 0, .slice none 0 0, .slice none 0 0, .slice none 0 0] 39)) := (below_alloc _ _).alloc (by simp) _
  have HB := Lib.hid hb
  have hsz : ((w.alloc (.cells #[.int .i64 s.sorts, .slice Asa s.ops.length csa] 33)).alloc (.cells #[.int .i64 0, .slice none 0 0, .slice none 0 0, .slice none 0 0] 39)).heap.size = w.heap.size + 2 := by simp
  have Hs := Lib.hid (h1.keep hb)
  have s0 := cell_keep (below_alloc (w.alloc (.cells #[.int .i64 s.sorts, .slice Asa s.ops.length csa] 33)) (.cells #[.int .i64 0, .slice none 0 0, .slice none 0 0, .slice none 0 0] 39)) (bx_at (w) #[.int .i64 s.sorts, .slice Asa s.ops.length csa] 33 (k := 0) rfl)
  have s1 := cell_keep (below_alloc (w.alloc (.cells #[.int .i64 s.sorts, .slice Asa s.ops.length csa] 33)) (.cells #[.int .i64 0, .slice none 0 0, .slice none 0 0, .slice none 0 0] 39)) (bx_at (w) #[.int .i64 s.sorts, .slice Asa s.ops.length csa] 33 (k := 1) rfl)
  have HZr := Lib.hid (show ((w.alloc (.cells #[.int .i64 s.sorts, .slice Asa s.ops.length csa] 33)).alloc (.cells #[.int .i64 0, .slice none 0 0, .slice none 0 0, .slice none 0 0] 39)).heap[w.heap.size + 1]? = some (.cells #[.int .i64 0, .slice none 0 0, .slice none 0 0, .slice none 0 0] 39 (0, 0)) from (congrArg (fun i => ((w.alloc (.cells #[.int .i64 s.sorts, .slice Asa s.ops.length csa] 33)).alloc (.cells #[.int .i64 0, .slice none 0 0, .slice none 0 0, .slice none 0 0] 39)).heap[i]?) (by simp)).trans (heap_alloc_new (w.alloc (.cells #[.int .i64 s.sorts, .slice Asa s.ops.length csa] 33)) _))
  generalize hW : (w.alloc (.cells #[.int .i64 s.sorts, .slice Asa s.ops.length csa] 33)).alloc (.cells #[.int .i64 0, .slice none 0 0, .slice none 0 0, .slice none 0 0] 39) = W at HB hsz Hs s0 s1 HZr
  clear hb h1
  cases hv : validB s with
  | false =>
    have HV := Lib.hid hv
    have HE := Lib.hid (benchNew_no hv)
    clear hv
    go_enter Try.func15, Try.ntmps15
    go_wp2_with fail
    clear hW
    refine (sigValid_any _ s _ Hs.out).mono ?_
    rw [HV.out]
    rintro _ w1 ⟨rfl, hb⟩
    replace HZr := Lib.hid (blk_held2 HZr.out hb)
    replace HB := Lib.hid (sz_keep HB.out hb)
    clear hb s0 s1
    have j0 := blk_cell HZr.out 0
    have j1 := blk_cell HZr.out 1
    have j2 := blk_cell HZr.out 2
    have j3 := blk_cell HZr.out 3
    have jf0 := blk_free HZr.out 0
    have jf1 := blk_free HZr.out 1
    have jf2 := blk_free HZr.out 2
    have jf3 := blk_free HZr.out 3
    simp at j0 j1 j2 j3
    go_wp2
    have d1 := blk_set (blk_set (blk_set (blk_set (HZr.out) 0 (.int .i64 0)) 1 (.slice none 0 0)) 2 (.slice none 0 0)) 3 (.slice none 0 0)
    have hbz := ((((HB.out.setCell (p := ⟨w.heap.size + 1, 0, none⟩) (by show w.heap.size ≤ w.heap.size + 1; omega) (.int .i64 0)).setCell (p := ⟨w.heap.size + 1, 1, none⟩) (by show w.heap.size ≤ w.heap.size + 1; omega) (.slice none 0 0)).setCell (p := ⟨w.heap.size + 1, 2, none⟩) (by show w.heap.size ≤ w.heap.size + 1; omega) (.slice none 0 0)).setCell (p := ⟨w.heap.size + 1, 3, none⟩) (by show w.heap.size ≤ w.heap.size + 1; omega) (.slice none 0 0))
    generalize (((w1.setCell ⟨w.heap.size + 1, 0, none⟩ (.int .i64 0)).setCell ⟨w.heap.size + 1, 1, none⟩ (.slice none 0 0)).setCell ⟨w.heap.size + 1, 2, none⟩ (.slice none 0 0)).setCell ⟨w.heap.size + 1, 3, none⟩ (.slice none 0 0) = wz at d1 hbz  ⊢
    have k0 := blk_cell d1 0
    have k1 := blk_cell d1 1
    have k2 := blk_cell d1 2
    have k3 := blk_cell d1 3
    simp at k0 k1 k2 k3
    clear j0 j1 j2 j3 jf0 jf1 jf2 jf3
    refine bodyPost_ret (v := .agg #[.int .i64 0, .slice none 0 0, .slice none 0 0, .slice none 0 0]) (by simp [results, Try.results15, go_sem, k0, k1, k2, k3]) rfl ?_
    exact ⟨_, rfl, by rw [HE.out]; exact ⟨_, rfl, ORows.nil _ _, rfl, rfl⟩, hbz⟩
  | true =>
    have HV := Lib.hid hv
    have HE := Lib.hid (benchNew_yes hv)
    have HS := Lib.hid (fits_valid hv)
    clear hv
    go_enter Try.func15, Try.ntmps15
    go_wp2_with fail
    clear hW
    refine (sigValid_any _ s _ Hs.out).mono ?_
    rw [HV.out]
    rintro _ w1 ⟨rfl, hb⟩
    have HZ1 := Lib.hid (blk_held2 HZr.out hb)
    have HB1 := Lib.hid (sz_keep HB.out hb)
    replace Hs := Lib.hid (Hs.out.keep hb)
    replace s0 := cell_keep hb s0
    replace s1 := cell_keep hb s1
    have hs1 := hb.size
    clear hb
    go_wp2_with fail
    refine (copiedBenchN_any _ s.sorts s.ops w1 Hs.out.of.2 HS.out).mono ?_
    rintro _ w3 ⟨u3, rfl, ho, hb⟩
    obtain ⟨A3, c3, rfl, -⟩ := ho.reads.form
    have HO3 := Lib.hid ho
    have HZ3 := Lib.hid (blk_held2 HZ1.out hb)
    have HB := Lib.hid (sz_keep HB1.out hb)
    clear ho hb s0 s1
    have j0 := blk_cell HZ3.out 0
    have j1 := blk_cell HZ3.out 1
    have j2 := blk_cell HZ3.out 2
    have j3 := blk_cell HZ3.out 3
    have jf0 := blk_free HZ3.out 0
    have jf1 := blk_free HZ3.out 1
    have jf2 := blk_free HZ3.out 2
    have jf3 := blk_free HZ3.out 3
    simp at j0 j1 j2 j3
    go_wp2
    have d1 := blk_set (blk_set (blk_set (blk_set (HZ3.out) 0 (.int .i64 s.sorts)) 1 (.slice A3 s.ops.length c3)) 2 (.slice none 0 0)) 3 (.slice none 0 0)
    have n0 := ((((HO3.out.setLow' (b := w.heap.size + 1) (by omega) 0 (.int .i64 s.sorts)).setLow' (b := w.heap.size + 1) (by omega) 1 (.slice A3 s.ops.length c3)).setLow' (b := w.heap.size + 1) (by omega) 2 (.slice none 0 0)).setLow' (b := w.heap.size + 1) (by omega) 3 (.slice none 0 0))
    have hbz := ((((HB.out.setCell (p := ⟨w.heap.size + 1, 0, none⟩) (by show w.heap.size ≤ w.heap.size + 1; omega) (.int .i64 s.sorts)).setCell (p := ⟨w.heap.size + 1, 1, none⟩) (by show w.heap.size ≤ w.heap.size + 1; omega) (.slice A3 s.ops.length c3)).setCell (p := ⟨w.heap.size + 1, 2, none⟩) (by show w.heap.size ≤ w.heap.size + 1; omega) (.slice none 0 0)).setCell (p := ⟨w.heap.size + 1, 3, none⟩) (by show w.heap.size ≤ w.heap.size + 1; omega) (.slice none 0 0))
    generalize (((w3.setCell ⟨w.heap.size + 1, 0, none⟩ (.int .i64 s.sorts)).setCell ⟨w.heap.size + 1, 1, none⟩ (.slice A3 s.ops.length c3)).setCell ⟨w.heap.size + 1, 2, none⟩ (.slice none 0 0)).setCell ⟨w.heap.size + 1, 3, none⟩ (.slice none 0 0) = wz at d1 hbz n0 ⊢
    have k0 := blk_cell d1 0
    have k1 := blk_cell d1 1
    have k2 := blk_cell d1 2
    have k3 := blk_cell d1 3
    simp at k0 k1 k2 k3
    clear j0 j1 j2 j3 jf0 jf1 jf2 jf3
    refine bodyPost_ret (v := .agg #[.int .i64 s.sorts, .slice A3 s.ops.length c3, .slice none 0 0, .slice none 0 0]) (by simp [results, Try.results15, go_sem, k0, k1, k2, k3]) rfl ?_
    exact ⟨_, rfl, by rw [HE.out]; exact ⟨_, rfl, n0.base (by omega), rfl, rfl⟩, hbz⟩

set_option maxHeartbeats 3200000 in
set_option maxRecDepth 100000 in
theorem specBenchNew_any (s : MSig) (w : World) (v : Value) (h1 : RSig w v s) :
    Calls Try.prog 13 #[v] w fun e w' => ∃ u, e = .returned u ∧ OBenchN w' w.heap.size u (benchNewM s) ∧ Below w.heap.size w w' := by
  obtain ⟨Asa, csa, rfl⟩ := h1.form
  have hb : Below w.heap.size w ((w.alloc (.cells #[.int .i64 s.sorts, .slice Asa s.ops.length csa] 33)).alloc (.cells #[.int .i64 0, .slice none 0 0, .slice none 0 0, .slice none 0 0] 39)) := (below_alloc _ _).alloc (by simp) _
  have HB := Lib.hid hb
  have hsz : ((w.alloc (.cells #[.int .i64 s.sorts, .slice Asa s.ops.length csa] 33)).alloc (.cells #[.int .i64 0, .slice none 0 0, .slice none 0 0, .slice none 0 0] 39)).heap.size = w.heap.size + 2 := by simp
  have Hs := Lib.hid (h1.keep hb)
  have s0 := cell_keep (below_alloc (w.alloc (.cells #[.int .i64 s.sorts, .slice Asa s.ops.length csa] 33)) (.cells #[.int .i64 0, .slice none 0 0, .slice none 0 0, .slice none 0 0] 39)) (bx_at (w) #[.int .i64 s.sorts, .slice Asa s.ops.length csa] 33 (k := 0) rfl)
  have s1 := cell_keep (below_alloc (w.alloc (.cells #[.int .i64 s.sorts, .slice Asa s.ops.length csa] 33)) (.cells #[.int .i64 0, .slice none 0 0, .slice none 0 0, .slice none 0 0] 39)) (bx_at (w) #[.int .i64 s.sorts, .slice Asa s.ops.length csa] 33 (k := 1) rfl)
  have HZr := Lib.hid (show ((w.alloc (.cells #[.int .i64 s.sorts, .slice Asa s.ops.length csa] 33)).alloc (.cells #[.int .i64 0, .slice none 0 0, .slice none 0 0, .slice none 0 0] 39)).heap[w.heap.size + 1]? = some (.cells #[.int .i64 0, .slice none 0 0, .slice none 0 0, .slice none 0 0] 39 (0, 0)) from (congrArg (fun i => ((w.alloc (.cells #[.int .i64 s.sorts, .slice Asa s.ops.length csa] 33)).alloc (.cells #[.int .i64 0, .slice none 0 0, .slice none 0 0, .slice none 0 0] 39)).heap[i]?) (by simp)).trans (heap_alloc_new (w.alloc (.cells #[.int .i64 s.sorts, .slice Asa s.ops.length csa] 33)) _))
  generalize hW : (w.alloc (.cells #[.int .i64 s.sorts, .slice Asa s.ops.length csa] 33)).alloc (.cells #[.int .i64 0, .slice none 0 0, .slice none 0 0, .slice none 0 0] 39) = W at HB hsz Hs s0 s1 HZr
  clear hb h1
  cases hv : validB s with
  | false =>
    have HV := Lib.hid hv
    have HE := Lib.hid (benchNew_no hv)
    clear hv
    go_enter Try.func13, Try.ntmps13
    go_wp2_with fail
    clear hW
    refine (specSigValid_any _ s _ Hs.out).mono ?_
    rw [HV.out]
    rintro _ w1 ⟨rfl, hb⟩
    replace HZr := Lib.hid (blk_held2 HZr.out hb)
    replace HB := Lib.hid (sz_keep HB.out hb)
    clear hb s0 s1
    have j0 := blk_cell HZr.out 0
    have j1 := blk_cell HZr.out 1
    have j2 := blk_cell HZr.out 2
    have j3 := blk_cell HZr.out 3
    have jf0 := blk_free HZr.out 0
    have jf1 := blk_free HZr.out 1
    have jf2 := blk_free HZr.out 2
    have jf3 := blk_free HZr.out 3
    simp at j0 j1 j2 j3
    go_wp2
    have d1 := blk_set (blk_set (blk_set (blk_set (HZr.out) 0 (.int .i64 0)) 1 (.slice none 0 0)) 2 (.slice none 0 0)) 3 (.slice none 0 0)
    have hbz := ((((HB.out.setCell (p := ⟨w.heap.size + 1, 0, none⟩) (by show w.heap.size ≤ w.heap.size + 1; omega) (.int .i64 0)).setCell (p := ⟨w.heap.size + 1, 1, none⟩) (by show w.heap.size ≤ w.heap.size + 1; omega) (.slice none 0 0)).setCell (p := ⟨w.heap.size + 1, 2, none⟩) (by show w.heap.size ≤ w.heap.size + 1; omega) (.slice none 0 0)).setCell (p := ⟨w.heap.size + 1, 3, none⟩) (by show w.heap.size ≤ w.heap.size + 1; omega) (.slice none 0 0))
    generalize (((w1.setCell ⟨w.heap.size + 1, 0, none⟩ (.int .i64 0)).setCell ⟨w.heap.size + 1, 1, none⟩ (.slice none 0 0)).setCell ⟨w.heap.size + 1, 2, none⟩ (.slice none 0 0)).setCell ⟨w.heap.size + 1, 3, none⟩ (.slice none 0 0) = wz at d1 hbz  ⊢
    have k0 := blk_cell d1 0
    have k1 := blk_cell d1 1
    have k2 := blk_cell d1 2
    have k3 := blk_cell d1 3
    simp at k0 k1 k2 k3
    clear j0 j1 j2 j3 jf0 jf1 jf2 jf3
    refine bodyPost_ret (v := .agg #[.int .i64 0, .slice none 0 0, .slice none 0 0, .slice none 0 0]) (by simp [results, Try.results13, go_sem, k0, k1, k2, k3]) rfl ?_
    exact ⟨_, rfl, by rw [HE.out]; exact ⟨_, rfl, ORows.nil _ _, rfl, rfl⟩, hbz⟩
  | true =>
    have HV := Lib.hid hv
    have HE := Lib.hid (benchNew_yes hv)
    have HS := Lib.hid (fits_valid hv)
    clear hv
    go_enter Try.func13, Try.ntmps13
    go_wp2_with fail
    clear hW
    refine (specSigValid_any _ s _ Hs.out).mono ?_
    rw [HV.out]
    rintro _ w1 ⟨rfl, hb⟩
    have HZ1 := Lib.hid (blk_held2 HZr.out hb)
    have HB1 := Lib.hid (sz_keep HB.out hb)
    replace Hs := Lib.hid (Hs.out.keep hb)
    replace s0 := cell_keep hb s0
    replace s1 := cell_keep hb s1
    have hs1 := hb.size
    clear hb
    go_wp2_with fail
    refine wp_region_held_drew (S := (fun w' => w'.cell? ⟨w.heap.size, 0, none⟩ = some (.int .i64 s.sorts) ∧ w'.cell? ⟨w.heap.size, 1, none⟩ = some (.slice Asa s.ops.length csa))) (by kernel_rfl) ?_ (fun hHeld => ?_)
    · exact ⟨s0, s1⟩
    refine wpAnyH_take (i := 0) (oi := _) (v := ?_) rfl (by kernel_rfl) (by kernel_rfl) (by kernel_rfl) (fun _ _ _ h => h) (Or.inl ⟨by rfl, ?_⟩) (by assumption) ?_
    rotate_left
    · first | (intro w' hSw; (try dsimp only at hSw); go_simp; done) | (intro w' hSw; (try dsimp only at hSw); go_simp; with_reducible rfl)
    try simp only [Act.put, List.getElem_toArray, List.getElem_cons_zero, List.getElem_cons_succ, List.setIfInBounds_toArray, List.set_cons_zero, List.set_cons_succ]
    refine wpAnyH_take (i := 1) (oi := _) (v := ?_) rfl (by kernel_rfl) (by kernel_rfl) (by kernel_rfl) (fun _ _ _ h => h) (Or.inl ⟨by rfl, ?_⟩) (by assumption) ?_
    rotate_left
    · first | (intro w' hSw; (try dsimp only at hSw); go_simp; done) | (intro w' hSw; (try dsimp only at hSw); go_simp; with_reducible rfl)
    try simp only [Act.put, List.getElem_toArray, List.getElem_cons_zero, List.getElem_cons_succ, List.setIfInBounds_toArray, List.set_cons_zero, List.set_cons_succ]
    refine wpAnyH_take (i := 2) (oi := _) (v := ?_) rfl (by kernel_rfl) (by kernel_rfl) (by kernel_rfl) (fun _ _ _ h => h) (Or.inl ⟨by rfl, ?_⟩) (by assumption) ?_
    rotate_left
    · first | (intro w' hSw; (try dsimp only at hSw); go_simp; done) | (intro w' hSw; (try dsimp only at hSw); go_simp; with_reducible rfl)
    try simp only [Act.put, List.getElem_toArray, List.getElem_cons_zero, List.getElem_cons_succ, List.setIfInBounds_toArray, List.set_cons_zero, List.set_cons_succ]
    refine wpAnyH_take (i := 3) (oi := _) (v := ?_) rfl (by kernel_rfl) (by kernel_rfl) (by kernel_rfl) (fun _ _ _ h => h) (Or.inl ⟨by rfl, ?_⟩) (by assumption) ?_
    rotate_left
    · first | (intro w' hSw; (try dsimp only at hSw); go_simp; done) | (intro w' hSw; (try dsimp only at hSw); go_simp; with_reducible rfl)
    try simp only [Act.put, List.getElem_toArray, List.getElem_cons_zero, List.getElem_cons_succ, List.setIfInBounds_toArray, List.set_cons_zero, List.set_cons_succ]
    refine wpAnyH_ready (rs := [4]) (by kernel_rfl) (by simp) ?_
    refine AllReadyH.cons (o := _) rfl (fun K hK => ?_) AllReadyH.nil
    go_simp
    refine (l1CopyAny _ s.ops w1.drew (Hs.out.of.2.keep (eq_drew _)) HS.out.1 (fun j hj => HS.out.2 _ (List.getElem_mem hj))).mono ?_
    rintro _ w3 ⟨u3, rfl, ho, hb⟩
    obtain ⟨A3, c3, rfl, -⟩ := ho.reads.form
    replace hb : Below w1.heap.size w1 w3 := eq_undrew hb
    have p0 := cell_keep hb s0
    have p1 := cell_keep hb s1
    have HO3 := Lib.hid (show ORows w3 w1.heap.size (.slice A3 s.ops.length c3) s.ops from ho)
    have HZ3 := Lib.hid (blk_held2 HZ1.out hb)
    have HB3 := Lib.hid (sz_keep HB1.out hb)
    clear ho hb
    have j0 := blk_cell HZ3.out 0
    have j1 := blk_cell HZ3.out 1
    have j2 := blk_cell HZ3.out 2
    have j3 := blk_cell HZ3.out 3
    have jf0 := blk_free HZ3.out 0
    have jf1 := blk_free HZ3.out 1
    have jf2 := blk_free HZ3.out 2
    have jf3 := blk_free HZ3.out 3
    simp at j0 j1 j2 j3
    go_wp2_with fail
    refine hK.out _ _ ?_ (fun hHeld => ?_)
    · exact ⟨p0, p1⟩
    clear hK K
    try simp only [Act.put, List.getElem_toArray, List.getElem_cons_zero, List.getElem_cons_succ, List.setIfInBounds_toArray, List.set_cons_zero, List.set_cons_succ]
    refine wpAnyH_take (i := 5) (oi := _) (v := ?_) rfl (by kernel_rfl) (by kernel_rfl) (by kernel_rfl) (fun _ _ _ h => h) (Or.inl ⟨by rfl, ?_⟩) (by assumption) ?_
    rotate_left
    · first | (intro w' hSw; (try dsimp only at hSw); go_simp; done) | (intro w' hSw; (try dsimp only at hSw); go_simp; with_reducible rfl)
    try simp only [Act.put, List.getElem_toArray, List.getElem_cons_zero, List.getElem_cons_succ, List.setIfInBounds_toArray, List.set_cons_zero, List.set_cons_succ]
    refine wpAnyH_take (i := 6) (oi := _) (v := ?_) rfl (by kernel_rfl) (by kernel_rfl) (by kernel_rfl) (fun _ _ _ h => h) (Or.inl ⟨by rfl, ?_⟩) (by assumption) ?_
    rotate_left
    · first | (intro w' hSw; (try dsimp only at hSw); go_simp; done) | (intro w' hSw; (try dsimp only at hSw); go_simp; with_reducible rfl)
    try simp only [Act.put, List.getElem_toArray, List.getElem_cons_zero, List.getElem_cons_succ, List.setIfInBounds_toArray, List.set_cons_zero, List.set_cons_succ]
    refine wpAnyH_take (i := 7) (oi := _) (v := ?_) rfl (by kernel_rfl) (by kernel_rfl) (by kernel_rfl) (fun _ _ _ h => h) (Or.inl ⟨by rfl, ?_⟩) (by assumption) ?_
    rotate_left
    · first | (intro w' hSw; (try dsimp only at hSw); go_simp; done) | (intro w' hSw; (try dsimp only at hSw); go_simp; with_reducible rfl)
    try simp only [Act.put, List.getElem_toArray, List.getElem_cons_zero, List.getElem_cons_succ, List.setIfInBounds_toArray, List.set_cons_zero, List.set_cons_succ]
    refine wpAnyH_ready (rs := [8]) (by kernel_rfl) (by simp) ?_
    refine AllReadyH.cons (o := _) rfl (fun K hK => ?_) AllReadyH.nil
    go_simp
    have e0 := (far4N (b := w.heap.size) (rb := w.heap.size + 1) (by omega) 0 1 2 3 0 (.int .i64 s.sorts) (.slice A3 s.ops.length c3) (.slice none 0 0) (.slice none 0 0)).trans p0
    have e1 := (far4N (b := w.heap.size) (rb := w.heap.size + 1) (by omega) 0 1 2 3 1 (.int .i64 s.sorts) (.slice A3 s.ops.length c3) (.slice none 0 0) (.slice none 0 0)).trans p1
    refine hK.out _ _ ?_ (fun hHeld => ?_)
    · exact ⟨e0, e1⟩
    clear hK K
    try simp only [Act.put, List.getElem_toArray, List.getElem_cons_zero, List.getElem_cons_succ, List.setIfInBounds_toArray, List.set_cons_zero, List.set_cons_succ]
    refine wpAnyH_done (by kernel_rfl) ?_ _
    have HB := Lib.hid HB3.out
    go_wp2
    have d1 := blk_set (blk_set (blk_set (blk_set (HZ3.out) 0 (.int .i64 s.sorts)) 1 (.slice A3 s.ops.length c3)) 2 (.slice none 0 0)) 3 (.slice none 0 0)
    have n0 := ((((HO3.out.setLow' (b := w.heap.size + 1) (by omega) 0 (.int .i64 s.sorts)).setLow' (b := w.heap.size + 1) (by omega) 1 (.slice A3 s.ops.length c3)).setLow' (b := w.heap.size + 1) (by omega) 2 (.slice none 0 0)).setLow' (b := w.heap.size + 1) (by omega) 3 (.slice none 0 0))
    have hbz := ((((HB.out.setCell (p := ⟨w.heap.size + 1, 0, none⟩) (by show w.heap.size ≤ w.heap.size + 1; omega) (.int .i64 s.sorts)).setCell (p := ⟨w.heap.size + 1, 1, none⟩) (by show w.heap.size ≤ w.heap.size + 1; omega) (.slice A3 s.ops.length c3)).setCell (p := ⟨w.heap.size + 1, 2, none⟩) (by show w.heap.size ≤ w.heap.size + 1; omega) (.slice none 0 0)).setCell (p := ⟨w.heap.size + 1, 3, none⟩) (by show w.heap.size ≤ w.heap.size + 1; omega) (.slice none 0 0))
    generalize (((w3.setCell ⟨w.heap.size + 1, 0, none⟩ (.int .i64 s.sorts)).setCell ⟨w.heap.size + 1, 1, none⟩ (.slice A3 s.ops.length c3)).setCell ⟨w.heap.size + 1, 2, none⟩ (.slice none 0 0)).setCell ⟨w.heap.size + 1, 3, none⟩ (.slice none 0 0) = wz at d1 hbz n0 ⊢
    have k0 := blk_cell d1 0
    have k1 := blk_cell d1 1
    have k2 := blk_cell d1 2
    have k3 := blk_cell d1 3
    simp at k0 k1 k2 k3
    clear j0 j1 j2 j3 jf0 jf1 jf2 jf3 p0 p1 e0 e1 s0 s1
    refine bodyPost_ret (v := .agg #[.int .i64 s.sorts, .slice A3 s.ops.length c3, .slice none 0 0, .slice none 0 0]) (by simp [results, Try.results13, go_sem, k0, k1, k2, k3]) rfl ?_
    exact ⟨_, rfl, by rw [HE.out]; exact ⟨_, rfl, n0.base (by omega), rfl, rfl⟩, hbz⟩
end
end Go.Proofs.Ytmmnamjgpfkabab
