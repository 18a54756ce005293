/- numberOf of package impl; two rows that are filled at once. · valueIn of package impl: the value of a term that was read. By recursion on the term. · l5Value of package spec: the value of the term at a place. By recursion on the term. · ValueOf of both packages. · A row of numbers at the end of an own one, whatever its address. -/
import Derived.Test.YticldaddbljleaaK25154c51
import Derived.Deep.AppendLies
import Derived.Deep.RegionHeld3
import Derived.Deep.DeepCutAuto
import Derived.Lib.AppendZeros
import Derived.Deep.AppendSrc
import Derived.Deep.Upon
namespace Go.Proofs.Yticldaddbljleaa
section
open Go.RowKit
set_option linter.unusedVariables false
set_option linter.unusedSimpArgs false

theorem vb_alloc {a w : World} (h : Below a.heap.size a w) (o : Obj) : Below a.heap.size a (w.alloc o) := h.alloc h.size o
theorem vb_drew {a w : World} (h : Below a.heap.size a w) : Below a.heap.size a w.drew := ⟨h.os, h.tape, h.output, h.size, h.block⟩
theorem vb_undrew {w w' : World} (h : Below w.drew.heap.size w.drew w') : Below w.heap.size w w' := ⟨h.os, h.tape, h.output, h.size, h.block⟩
theorem va_far {w : World} {b rb : Nat} (h : b ≠ rb) (i o : Nat) (u : Value) : (w.setCell ⟨rb, i, none⟩ u).cell? ⟨b, o, none⟩ = w.cell? ⟨b, o, none⟩ := World.cell?_of_block (Below.heap_setCell w ⟨rb, i, none⟩ u b h)
theorem place_wrap {zs vs : List Int} (hz : Sizes zs) (hl : zs.length ≤ 4) (h : InAll zs vs) {k : Nat} (hk : k < zs.length) (hk' : k < vs.length) :
    ∃ a, IntKind.i64.wrap (placeM 0 (zs.take k) (vs.take k) * zs[k]) = a ∧ IntKind.i64.wrap (a + vs[k]) = placeM 0 (zs.take (k + 1)) (vs.take (k + 1)) := by
  have h1 := ways_few (hz.take (k + 1)) (by simp; omega)
  obtain ⟨h2, h3⟩ := place_in (hz.take (k + 1)) (h.take (k + 1))
  have h4 := h.2 k hk hk'
  have h5 := hz _ (List.getElem_mem hk)
  rw [placeM_take hk hk'] at h2 h3 ⊢
  generalize placeM 0 (zs.take k) (vs.take k) * zs[k] = q at h2 h3 ⊢
  generalize vs[k] = v at h2 h3 h4 ⊢
  refine ⟨q, ?_, ?_⟩ <;> (rw [IntKind.wrap_i64]; omega)

set_option maxRecDepth 100000 in
theorem numberOf_any (zs vs : List Int) (w : World) (v v' : Value) (h : RInts w v zs) (h' : RInts w v' vs) (hz : Sizes zs) (hl : zs.length ≤ 4) (hin : InAll zs vs) :
    Calls Try.prog 129 #[v, v'] w fun e w' => e = .returned (.int .i64 (placeM 0 zs vs)) ∧ w = w' := by
  have H := Lib.hid h
  have H' := Lib.hid h'
  obtain ⟨A, c, rfl, -⟩ := h.form
  obtain ⟨A', c', rfl, -⟩ := h'.form
  have HW := Lib.hid (fun (k : Nat) (hk : k < zs.length) (hk' : k < vs.length) => place_wrap hz hl hin hk hk')
  have HL := Lib.hid hin.1
  have hvl : vs.length ≤ 4 := by rw [hin.1]; exact hl
  clear h h' hz hin
  go_enter Try.func129, Try.ntmps129
  go_wp2
  go_loopw [5, 6, 7, 10] (fun p _ _ i wr => ∃ k : Nat, k ≤ vs.length ∧ i = .int .i64 k ∧ p = .int .i64 (placeM 0 (zs.take k) (vs.take k)) ∧ w = wr) (fun _ _ _ i _ => vs.length - (intOf i).toNat)
  case atStart => exact ⟨0, Nat.zero_le _, rfl, rfl, rfl⟩
  case round =>
    obtain ⟨k, hk, rfl, rfl, rfl⟩ := hrel
    by_cases hlt : k < vs.length
    · obtain ⟨b, o, c2, e, hx⟩ := H'.out.at_ hlt
      cases e
      have hlt' : (k : Int) < (vs.length : Int) := by omega
      have hkz : k < zs.length := by rw [← HL.out]; exact hlt
      have hkz' : (k : Int) < (zs.length : Int) := by omega
      obtain ⟨b2, o2, c3, e, hy⟩ := H.out.at_ hkz
      cases e
      obtain ⟨a, hw1, hw2⟩ := HW.out k hkz hlt
      generalize vs[k] = x at hx hw2
      generalize zs[k] = z at hy hw1
      generalize hq : placeM 0 (zs.take (k + 1)) (vs.take (k + 1)) = q at hw2
      have HQ := Lib.hid hq
      clear hq
      go_wp2
      go_roundw
      case rel => exact ⟨k + 1, by omega, by go_num, by rw [HQ.out], by first | trivial | rfl⟩
      case measure => simp [intOf]; omega
    · have hkn : k = vs.length := by omega
      have hlt' : ¬ (k : Int) < (vs.length : Int) := by omega
      have HT := Lib.hid (show zs.take k = zs from take_all (by rw [← HL.out]; omega))
      have HT2 := Lib.hid (show vs.take k = vs from take_all (by omega))
      rw [HT.out, HT2.out]
      go_wp2
      go_ret
      exact ⟨rfl, rfl⟩

/-- two rows that are being filled at once: k of their places are done -/
def TwoAt (W2 wr : World) (bs bt n : Nat) (xs ys : List Int) (k : Nat) : Prop :=
  ∃ cs ds : Array Value, wr.heap[bs]? = some (.cells cs 3 (0, 0)) ∧ wr.heap[bt]? = some (.cells ds 3 (0, 0)) ∧ cs.size = n ∧ ds.size = n ∧ (∀ j, j < k → cs[j]? = (xs[j]?).map (Value.int .i64)) ∧ (∀ j, j < k → ds[j]? = (ys[j]?).map (Value.int .i64)) ∧
    bs ≠ bt ∧ W2.heap.size ≤ bs ∧ W2.heap.size ≤ bt ∧ Below W2.heap.size W2 wr
section
variable {W2 wr w6 : World} {bs bt n k : Nat} {xs ys : List Int} {x y : Int}
theorem TwoAt.bel (h : TwoAt W2 wr bs bt n xs ys k) : Below W2.heap.size W2 wr := by obtain ⟨_, _, _, _, _, _, _, _, _, _, _, hb⟩ := h; exact hb
theorem TwoAt.ne (h : TwoAt W2 wr bs bt n xs ys k) : bs ≠ bt ∧ W2.heap.size ≤ bs ∧ W2.heap.size ≤ bt := by obtain ⟨_, _, _, _, _, _, _, _, a, b, c, _⟩ := h; exact ⟨a, b, c⟩
theorem two_put {cs : Array Value} {zs : List Int} {z : Int} (hs : cs.size = n) (hk : k < n) (hd : ∀ j, j < k → cs[j]? = (zs[j]?).map (Value.int .i64)) (hz : zs[k]? = some z) : ∀ j, j < k + 1 → (cs.setIfInBounds k (.int .i64 z))[j]? = (zs[j]?).map (Value.int .i64) := by
  intro j hj
  rw [Array.getElem?_setIfInBounds]
  by_cases hjk : k = j
  · subst hjk
    rw [if_pos rfl, if_pos (by omega), hz]
    rfl
  · rw [if_neg hjk]
    exact hd j (by omega)
theorem TwoAt.step (h : TwoAt W2 wr bs bt n xs ys k) (hb : Below wr.heap.size wr w6) (hk : k < n) (hx : xs[k]? = some x) (hy : ys[k]? = some y) :
    TwoAt W2 ((w6.setCell ⟨bs, k, none⟩ (.int .i64 x)).setCell ⟨bt, k, none⟩ (.int .i64 y)) bs bt n xs ys (k + 1) := by
  obtain ⟨cs, ds, a1, a2, a3, a4, a5, a6, a7, a8, a9, a10⟩ := h
  have b1 := (hb.block _ (Array.getElem?_eq_some_iff.1 a1).1).trans a1
  have b2 := (hb.block _ (Array.getElem?_eq_some_iff.1 a2).1).trans a2
  refine ⟨_, _, (Below.heap_setCell _ ⟨bt, k, none⟩ _ bs (by show bs ≠ bt; exact a7)).trans (blk_set b1 k _), blk_set ((Below.heap_setCell _ ⟨bs, k, none⟩ _ bt (by show bt ≠ bs; exact fun e => a7 e.symm)).trans b2) k _, by simpa using a3, by simpa using a4, two_put a3 hk a5 hx, two_put a4 hk a6 hy, a7, a8, a9,
    ((a10.trans (hb.mono a10.size)).setCell (p := ⟨bs, k, none⟩) a8 _).setCell (p := ⟨bt, k, none⟩) a9 _⟩
theorem TwoAt.cells (h : TwoAt W2 wr bs bt n xs ys k) (hb : Below wr.heap.size wr w6) (hk : k < n) (X : Value) :
    (∃ u, w6.cell? ⟨bs, k, none⟩ = some u) ∧ w6.frozen? ⟨bs, k, none⟩ = false ∧ (∃ u, (w6.setCell ⟨bs, k, none⟩ X).cell? ⟨bt, k, none⟩ = some u) ∧ (w6.setCell ⟨bs, k, none⟩ X).frozen? ⟨bt, k, none⟩ = false := by
  obtain ⟨cs, ds, a1, a2, a3, a4, a5, a6, a7, a8, a9, a10⟩ := h
  have b1 := (hb.block _ (Array.getElem?_eq_some_iff.1 a1).1).trans a1
  have b2 := (hb.block _ (Array.getElem?_eq_some_iff.1 a2).1).trans a2
  have b3 := (Below.heap_setCell w6 ⟨bs, k, none⟩ X bt (by show bt ≠ bs; exact fun e => a7 e.symm)).trans b2
  exact ⟨⟨cs[k]'(by omega), (blk_cell b1 k).trans (Array.getElem?_eq_getElem (by omega))⟩, blk_free b1 k, ⟨ds[k]'(by omega), (blk_cell b3 k).trans (Array.getElem?_eq_getElem (by omega))⟩, blk_free b3 k⟩
theorem TwoAt.done (h : TwoAt W2 wr bs bt n xs ys n) (hx : xs.length = n) (hy : ys.length = n) (hm : n ≤ 9223372036854775807) : RInts wr (.slice (some ⟨bs, 0, none⟩) n n) xs ∧ RInts wr (.slice (some ⟨bt, 0, none⟩) n n) ys := by
  obtain ⟨cs, ds, a1, a2, a3, a4, a5, a6, a7, a8, a9, a10⟩ := h
  refine ⟨⟨_, n, by rw [hx], by omega, by rw [maxLen_eq]; exact hm, fun j x hj => ⟨bs, 0, rfl, ?_⟩⟩, ⟨_, n, by rw [hy], by omega, by rw [maxLen_eq]; exact hm, fun j x hj => ⟨bt, 0, rfl, ?_⟩⟩⟩
  · have hl := (List.getElem?_eq_some_iff.1 hj).1
    rw [Nat.zero_add, blk_cell a1, a5 j (by omega), hj]; rfl
  · have hl := (List.getElem?_eq_some_iff.1 hj).1
    rw [Nat.zero_add, blk_cell a2, a6 j (by omega), hj]; rfl
theorem two_start {W wx : World} {o : Array Value} (hh : wx.heap = ((W.alloc (.cells o 3)).alloc (.cells o 3)).heap) (ho : wx.os = W.os) (ht : wx.tape = W.tape) (hp : wx.output = W.output) (hn : o.size = n) (xs ys : List Int) :
    TwoAt W wx W.heap.size (W.heap.size + 1) n xs ys 0 ∧ TwoAt W wx (W.heap.size + 1) W.heap.size n xs ys 0 := by
  have h1 : ((W.alloc (.cells o 3)).alloc (.cells o 3)).heap[W.heap.size]? = some (.cells o 3 (0, 0)) := by
    rw [heap_alloc_old _ _ (by simp)]; exact heap_alloc_new W _
  have h2 : ((W.alloc (.cells o 3)).alloc (.cells o 3)).heap[W.heap.size + 1]? = some (.cells o 3 (0, 0)) :=
    (congrArg (fun i => ((W.alloc (.cells o 3)).alloc (.cells o 3)).heap[i]?) (by simp)).trans (heap_alloc_new (W.alloc (.cells o 3)) _)
  have hb : Below W.heap.size W ((W.alloc (.cells o 3)).alloc (.cells o 3)) := (below_alloc _ _).alloc (by simp) _
  have hb' : Below W.heap.size W wx := ⟨ho, ht, hp, by rw [hh]; exact hb.size, fun n hn => by rw [hh]; exact hb.block n hn⟩
  rw [← hh] at h1 h2
  exact ⟨⟨o, o, h1, h2, hn, hn, fun j hj => by omega, fun j hj => by omega, by omega, by omega, by omega, hb'⟩, ⟨o, o, h2, h1, hn, hn, fun j hj => by omega, fun j hj => by omega, by omega, by omega, by omega, hb'⟩⟩
end
end

section
open Go.RowKit
set_option linter.unusedVariables false
set_option linter.unusedSimpArgs false

theorem ta_letter (v : Value) (w : World) : (Instr.typeAssert (.iface 167 v) 104 167 true).run Try.prog w = .ok (.tuple #[v, .bool true]) w := by kernel_rfl
theorem ta_op (v : Value) (w : World) : (Instr.typeAssert (.iface 170 v) 104 170 true).run Try.prog w = .ok (.tuple #[v, .bool true]) w := by kernel_rfl
theorem ta_not (v : Value) (w : World) : (Instr.typeAssert (.iface 170 v) 104 167 true).run Try.prog w = .ok (.tuple #[.agg #[.int .i64 0, .int .i64 0], .bool false]) w := by kernel_rfl
def ValAt (m : MModel) (vals : List Int) (tm : Tm) : Prop := ∀ (w : World) (v vt vv : Value) (M : Nat → Prop), RModel w v m → RTerm w M vt tm → RInts w vv vals →
  Calls Try.prog 67 #[v, vt, vv] w fun e w' => e = .returned (.int .i64 (valT m vals tm)) ∧ Below w.heap.size w w'

set_option maxRecDepth 100000 in
theorem val_leaf (m : MModel) (vals : List Int) (k : Nat) (of : Int) (hk : k < vals.length) : ValAt m vals (.leaf k of) := by
  intro w v vt vv M h1 h2 h3
  unfold RTerm at h2
  subst h2
  obtain ⟨Ama, cma, Amb, cmb, rfl⟩ := h1.form
  have hb : Below w.heap.size w (w.alloc (.cells #[.slice Ama m.sizes.length cma, .slice Amb m.tables.length cmb] 28)) := below_alloc _ _
  have HB := Lib.hid hb
  have hsz : (w.alloc (.cells #[.slice Ama m.sizes.length cma, .slice Amb m.tables.length cmb] 28)).heap.size = w.heap.size + 1 := by simp
  have Hm := Lib.hid (h1.keep hb)
  have m0 := bx_at (w) #[.slice Ama m.sizes.length cma, .slice Amb m.tables.length cmb] 28 (k := 0) rfl
  have m1 := bx_at (w) #[.slice Ama m.sizes.length cma, .slice Amb m.tables.length cmb] 28 (k := 1) rfl
  generalize hW : w.alloc (.cells #[.slice Ama m.sizes.length cma, .slice Amb m.tables.length cmb] 28) = W at HB hsz Hm m0 m1
  clear hb h1
  obtain ⟨b, o, c, e, hx⟩ := (h3.keep HB.out).at_ hk
  cases e
  have HR := Lib.hid (show valT m vals (.leaf k of) = vals[k] by simp only [valT]; exact getD_at _ hk)
  generalize vals[k] = x at hx HR
  have hk' : (k : Int) < (vals.length : Int) := by omega
  have hba := below_alloc W (.cells #[.int .i64 (k : Int), .int .i64 of] 167)
  have hx2 := cell_keep hba hx
  have hb1 := (box_cells W (.int .i64 (k : Int)) (.int .i64 of) 167).1
  have HB2 := Lib.hid (sz_keep HB.out hba)
  have hw9 := World.new_ne W _ hx
  rw [hsz] at hb1
  have ta1 := ta_letter
  clear h3 m0 m1 hba
  go_enter Try.func67, Try.ntmps67
  go_wp2
  go_ret
  exact ⟨ret_int HR.out.symm, HB2.out⟩

set_option maxHeartbeats 3200000 in
set_option maxRecDepth 100000 in
theorem val_node (s : MSig) (m : MModel) (vars vals : List Int) (hf : ModFacts s m) (hv : ValsOk m vars vals) (op : Nat) (lv : Int) (ts : List Tm) (hw : wfT s vars (.node op lv ts)) (ih : ∀ (k : Nat) (h : k < ts.length), ValAt m vals ts[k]) : ValAt m vals (.node op lv ts) := by
  intro w v vt vv M h1 h2 h3
  have HST := Lib.hid (sizesT_taken hf hw)
  obtain ⟨pn, hop, hpn, hpl, hval⟩ := place_table hf hv hw
  have hw0 := hw
  unfold wfT at hw0
  obtain ⟨hk, -, hts⟩ := hw0
  have HIN := Lib.hid (valTs_in hf hv ts _ hts)
  have HSZ := Lib.hid (show Sizes (sizesT m ts) by rw [HST.out]; exact (hf.taken hk).1)
  have hl2 : ts.length ≤ 2 := by
    have := (hf.taken hk).2
    rw [← HST.out, sizesT_len] at this
    exact this
  have HSO := Lib.hid (show ∀ (k : Nat) (h : k < ts.length), 0 ≤ ts[k].sort ∧ ts[k].sort < (m.sizes.length : Int) from fun k h => by
    have hs := wfTs_sorts hts
    have hm : ts[k].sort ∈ (opRow s op).dropLast := by rw [hs]; exact List.mem_map_of_mem (List.getElem_mem h)
    have := (opRow_valid hf.va hk).2.2 _ (List.mem_of_mem_dropLast' hm)
    have := hf.sl
    omega)
  have HIH := Lib.hid ih
  have HPL := Lib.hid hpl
  have HVAL := Lib.hid hval
  clear hw hts hpl hval hf hv ih
  obtain ⟨Ama, cma, Amb, cmb, rfl⟩ := h1.form
  have hb : Below w.heap.size w (w.alloc (.cells #[.slice Ama m.sizes.length cma, .slice Amb m.tables.length cmb] 28)) := below_alloc _ _
  have HB := Lib.hid hb
  have hsz : (w.alloc (.cells #[.slice Ama m.sizes.length cma, .slice Amb m.tables.length cmb] 28)).heap.size = w.heap.size + 1 := by simp
  have Hm := Lib.hid (h1.keep hb)
  have m0 := bx_at (w) #[.slice Ama m.sizes.length cma, .slice Amb m.tables.length cmb] 28 (k := 0) rfl
  have m1 := bx_at (w) #[.slice Ama m.sizes.length cma, .slice Amb m.tables.length cmb] 28 (k := 1) rfl
  generalize hW : w.alloc (.cells #[.slice Ama m.sizes.length cma, .slice Amb m.tables.length cmb] 28) = W at HB hsz Hm m0 m1
  clear hb h1
  have hml := Hm.out.of.2.len
  have H2 := Lib.hid (h2.below HB.out)
  have H3 := Lib.hid (h3.keep HB.out)
  unfold RTerm at h2
  obtain ⟨A, c, us, rfl, hc1, hc2, hul, hat, hrt⟩ := h2
  have HRT := Lib.hid (show RTerms W M us ts from hrt.below HB.out)
  have HAT := Lib.hid (show ∀ (j : Nat) (u : Value), us[j]? = some u → ∃ b o, A = some ⟨b, o, none⟩ ∧ W.cell? ⟨b, o + j, none⟩ = some u from fun j u hj => by obtain ⟨b, o, e, -, hcc⟩ := hat j u hj; exact ⟨b, o, e, cell_keep HB.out hcc⟩)
  have HUL := Lib.hid hul
  obtain ⟨Av, cv, rfl, -⟩ := h3.form
  obtain ⟨b7, o7, c7, u7, e, ht7, hr7⟩ := Hm.out.of.2.at_ hop
  cases e
  have HR7 := Lib.hid hr7
  obtain ⟨b8, o8, c8, e, ht8⟩ := hr7.at_ hpn
  subst e
  generalize m.tables[op][pn] = y at ht8 HVAL
  clear hr7
  generalize m.tables[op].length = tl at ht7 hpn
  have hop' : (op : Int) < (m.tables.length : Int) := by omega
  have hpn' : (pn : Int) < (tl : Int) := by omega
  have hba := below_alloc W (.cells #[.int .i64 (op : Int), .int .i64 lv, .slice A ts.length c] 170)
  obtain ⟨z0, z1, z2⟩ := three_cells W (.int .i64 (op : Int)) (.int .i64 lv) (.slice A ts.length c) 170
  have HBW := Lib.hid hba
  have hsz2 : (W.alloc (.cells #[.int .i64 (op : Int), .int .i64 lv, .slice A ts.length c] 170)).heap.size = w.heap.size + 2 := by rw [World.size_alloc, hsz]
  rw [hsz] at z0 z1 z2
  have HC := Lib.hid (And.intro m0 (And.intro m1 (And.intro ht7 ht8)))
  generalize hW2 : W.alloc (.cells #[.int .i64 (op : Int), .int .i64 lv, .slice A ts.length c] 170) = W2 at z0 z1 z2 HBW hsz2
  have HZ := Lib.hid (And.intro z0 z2)
  have hmk := run_make_row' (P := Try.prog) 26 3 (.int .i64 0) 8 Try.underlying26 Try.tinfo_int rfl .i64 .i64 ts.length (by omega) (by omega)
  clear h3 hc2 hul hat hrt hba m0 m1 ht7 ht8 z0 z1 hk
  have ta2 := ta_not
  have ta3 := ta_op
  go_enter Try.func67, Try.ntmps67
  go_wp2_with fail
  clear hW hW2
  go_cut [9, 10] (fun s9 s10 wx => ∃ bs bt : Nat, s9 = .slice (some ⟨bs, 0, none⟩) ts.length ts.length ∧ s10 = .slice (some ⟨bt, 0, none⟩) ts.length ts.length ∧ TwoAt W2 wx bs bt ts.length (sizesT m ts) (valTs m vals ts) 0)
  case first =>
    go_region_held3 (fun w' => w'.cell? ⟨w.heap.size + 1, 2, none⟩ = some (.slice A ts.length c)) (first | (refine cell_keep (w := W2) ?_ z2; repeat (first | exact Below.refl _ _ | apply vb_drew | apply vb_alloc))) (first | fail)
    all_goals
      go_wp2_with fail
      go_meet
      case rel =>
        obtain ⟨p0, p1⟩ := two_start (W := W2) (n := ts.length) (wx := ((W2.alloc (.cells (madeCells #[.int .i64 0] ts.length) 3)).alloc (.cells (madeCells #[.int .i64 0] ts.length) 3)).drew) rfl rfl rfl rfl (by simp [madeCells]) (sizesT m ts) (valTs m vals ts)
        rw [hsz2] at p0 p1
        refine ⟨_, _, rfl, rfl, ?_⟩
        first | exact p0 | exact p1
  case rest =>
  obtain ⟨bs, bt, rfl, rfl, h2at⟩ := hcut
  have HT0 := Lib.hid h2at
  have n2 := cell_keep h2at.bel HZ.out.2
  clear hmk z2 h2at
  go_wp2
  clear n2
  go_loopw [11, 12, 36] (fun _ _ i wr => ∃ k : Nat, k ≤ ts.length ∧ i = .int .i64 k ∧ TwoAt W2 wr bs bt ts.length (sizesT m ts) (valTs m vals ts) k) (fun _ _ i _ => ts.length - (intOf i).toNat)
  case atStart => exact ⟨0, Nat.zero_le _, rfl, HT0.out⟩
  case round =>
    clear HT0
    obtain ⟨k, hk, rfl, hta⟩ := hrel
    have HT := Lib.hid hta
    have HBR := Lib.hid (show Below W.heap.size W wr from HBW.out.trans (hta.bel.mono HBW.out.size))
    clear hta
    have f0 := cell_keep HBR.out HC.out.1
    have f1 := cell_keep HBR.out HC.out.2.1
    by_cases hlt : k < ts.length
    · have hlt' : (k : Int) < (ts.length : Int) := by omega
      obtain ⟨u, hu, hru⟩ := HRT.out.at_ hlt
      obtain ⟨b9, o9, e9, hcu⟩ := HAT.out k u hu
      subst e9
      have f2 := cell_keep HBR.out hcu
      have hso := HSO.out k hlt
      have HIK := Lib.hid (HIH.out k hlt)
      have HXK := Lib.hid (show (sizesT m ts)[k]? = some (m.sizes.getD ts[k].sort.toNat 0) by unfold sizesT; rw [List.getElem?_map, List.getElem?_eq_getElem hlt]; rfl)
      have HYK := Lib.hid (show (valTs m vals ts)[k]? = some (valT m vals ts[k]) by rw [valTs_map, List.getElem?_map, List.getElem?_eq_getElem hlt]; rfl)
      obtain ⟨T, y9, fid, rfl, hms, hcf, hsc⟩ := hru.sorts
      have HSC := Lib.hid hsc
      have HRU := Lib.hid hru
      clear hu hru hcu hsc
      generalize ts[k] = t at hso HIK HXK HYK HSC HRU
      obtain ⟨n, hn⟩ : ∃ n : Nat, t.sort = (n : Int) := ⟨t.sort.toNat, by omega⟩
      rw [hn] at hso
      have hnl : n < m.sizes.length := by omega
      have hnl' : (n : Int) < (m.sizes.length : Int) := by omega
      obtain ⟨b6, o6, c6, e6, hz6⟩ := Hm.out.of.1.at_ hnl
      cases e6
      replace HXK := Lib.hid (show (sizesT m ts)[k]? = some m.sizes[n] by rw [HXK.out, hn, Int.toNat_natCast, getD_at _ hnl])
      have HSC := Lib.hid (show ∀ w' : World, Calls Try.prog fid #[y9] w' fun e w'' => e = .returned (.int .i64 (n : Int)) ∧ Below w'.heap.size w' w'' by rw [← hn]; exact HSC.out)
      generalize m.sizes[n] = z at hz6 HXK
      have f3 := cell_keep HBR.out hz6
      have g6 := World.block_lt_of_cell? W _ hz6
      obtain ⟨nb1, nb2, nb3⟩ := HT.out.ne
      simp only at g6
      have hd1 : w.heap.size ≠ bs := by omega
      have hd2 : w.heap.size ≠ bt := by omega
      have hd3 : b6 ≠ bs := by omega
      have hd4 : b6 ≠ bt := by omega
      clear hn hz6 hso g6
      go_wp2_with fail
      refine wp_region_held_drew (S := (fun w' => w'.cell? ⟨w.heap.size, 0, none⟩ = some (.slice (some ⟨b6, o6, none⟩) m.sizes.length cma) ∧ w'.cell? ⟨w.heap.size, 1, none⟩ = some (.slice (some ⟨b7, o7, none⟩) m.tables.length cmb) ∧ w'.cell? ⟨b6, o6 + n, none⟩ = some (.int .i64 z))) (by kernel_rfl) ?_ (fun hHeld => ?_)
      · exact ⟨f0, f1, f3⟩
      refine wpAnyH_take (i := 0) (oi := _) (v := ?_) rfl (by kernel_rfl) (by kernel_rfl) (by kernel_rfl) (fun _ _ _ h => h) (Or.inl ⟨by rfl, ?_⟩) (by assumption) ?_
      rotate_left
      · first | (intro w' hSw; (try dsimp only at hSw); go_simp; done) | (intro w' hSw; (try dsimp only at hSw); go_simp; with_reducible rfl)
      try simp only [Act.put, List.getElem_toArray, List.getElem_cons_zero, List.getElem_cons_succ, List.setIfInBounds_toArray, List.set_cons_zero, List.set_cons_succ]
      refine wpAnyH_take (i := 1) (oi := _) (v := ?_) rfl (by kernel_rfl) (by kernel_rfl) (by kernel_rfl) (fun _ _ _ h => h) (Or.inl ⟨by rfl, ?_⟩) (by assumption) ?_
      rotate_left
      · first | (intro w' hSw; (try dsimp only at hSw); go_simp; done) | (intro w' hSw; (try dsimp only at hSw); go_simp; with_reducible rfl)
      try simp only [Act.put, List.getElem_toArray, List.getElem_cons_zero, List.getElem_cons_succ, List.setIfInBounds_toArray, List.set_cons_zero, List.set_cons_succ]
      refine wpAnyH_take (i := 2) (oi := _) (v := ?_) rfl (by kernel_rfl) (by kernel_rfl) (by kernel_rfl) (fun _ _ _ h => h) (Or.inl ⟨by rfl, ?_⟩) (by assumption) ?_
      rotate_left
      · first | (intro w' hSw; (try dsimp only at hSw); go_simp; done) | (intro w' hSw; (try dsimp only at hSw); go_simp; with_reducible rfl)
      try simp only [Act.put, List.getElem_toArray, List.getElem_cons_zero, List.getElem_cons_succ, List.setIfInBounds_toArray, List.set_cons_zero, List.set_cons_succ]
      refine wpAnyH_take (i := 3) (oi := _) (v := ?_) rfl (by kernel_rfl) (by kernel_rfl) (by kernel_rfl) (fun _ _ _ h => h) (Or.inl ⟨by rfl, ?_⟩) (by assumption) ?_
      rotate_left
      · first | (intro w' hSw; (try dsimp only at hSw); go_simp; done) | (intro w' hSw; (try dsimp only at hSw); go_simp; with_reducible rfl)
      try simp only [Act.put, List.getElem_toArray, List.getElem_cons_zero, List.getElem_cons_succ, List.setIfInBounds_toArray, List.set_cons_zero, List.set_cons_succ]
      refine wpAnyH_take (i := 4) (oi := _) (v := ?_) rfl (by kernel_rfl) (by kernel_rfl) (by kernel_rfl) (fun _ _ _ h => h) (Or.inl ⟨by rfl, ?_⟩) (by assumption) ?_
      rotate_left
      · first | (intro w' hSw; (try dsimp only at hSw); go_simp; done) | (intro w' hSw; (try dsimp only at hSw); go_simp; with_reducible rfl)
      try simp only [Act.put, List.getElem_toArray, List.getElem_cons_zero, List.getElem_cons_succ, List.setIfInBounds_toArray, List.set_cons_zero, List.set_cons_succ]
      refine wpAnyH_take (i := 5) (oi := _) (v := ?_) rfl (by kernel_rfl) (by kernel_rfl) (by kernel_rfl) (fun _ _ _ h => h) (Or.inl ⟨by rfl, ?_⟩) (by assumption) ?_
      rotate_left
      · first | (intro w' hSw; (try dsimp only at hSw); go_simp; done) | (intro w' hSw; (try dsimp only at hSw); go_simp; with_reducible rfl)
      try simp only [Act.put, List.getElem_toArray, List.getElem_cons_zero, List.getElem_cons_succ, List.setIfInBounds_toArray, List.set_cons_zero, List.set_cons_succ]
      refine wpAnyH_take (i := 6) (oi := _) (v := ?_) rfl (by kernel_rfl) (by kernel_rfl) (by kernel_rfl) (fun _ _ _ h => h) (Or.inl ⟨by rfl, ?_⟩) (by assumption) ?_
      rotate_left
      · first | (intro w' hSw; (try dsimp only at hSw); go_simp; done) | (intro w' hSw; (try dsimp only at hSw); go_simp; with_reducible rfl)
      try simp only [Act.put, List.getElem_toArray, List.getElem_cons_zero, List.getElem_cons_succ, List.setIfInBounds_toArray, List.set_cons_zero, List.set_cons_succ]
      refine wpAnyH_take (i := 10) (oi := _) (v := ?_) rfl (by kernel_rfl) (by kernel_rfl) (by kernel_rfl) (fun _ _ _ h => h) (Or.inl ⟨by rfl, ?_⟩) (by assumption) ?_
      rotate_left
      · first | (intro w' hSw; (try dsimp only at hSw); go_simp; done) | (intro w' hSw; (try dsimp only at hSw); go_simp; with_reducible rfl)
      try simp only [Act.put, List.getElem_toArray, List.getElem_cons_zero, List.getElem_cons_succ, List.setIfInBounds_toArray, List.set_cons_zero, List.set_cons_succ]
      refine wpAnyH_take (i := 11) (oi := _) (v := ?_) rfl (by kernel_rfl) (by kernel_rfl) (by kernel_rfl) (fun _ _ _ h => h) (Or.inl ⟨by rfl, ?_⟩) (by assumption) ?_
      rotate_left
      · first | (intro w' hSw; (try dsimp only at hSw); go_simp; done) | (intro w' hSw; (try dsimp only at hSw); go_simp; with_reducible rfl)
      try simp only [Act.put, List.getElem_toArray, List.getElem_cons_zero, List.getElem_cons_succ, List.setIfInBounds_toArray, List.set_cons_zero, List.set_cons_succ]
      refine wpAnyH_take (i := 12) (oi := _) (v := ?_) rfl (by kernel_rfl) (by kernel_rfl) (by kernel_rfl) (fun _ _ _ h => h) (Or.inl ⟨by rfl, ?_⟩) (by assumption) ?_
      rotate_left
      · first | (intro w' hSw; (try dsimp only at hSw); go_simp; done) | (intro w' hSw; (try dsimp only at hSw); go_simp; with_reducible rfl)
      try simp only [Act.put, List.getElem_toArray, List.getElem_cons_zero, List.getElem_cons_succ, List.setIfInBounds_toArray, List.set_cons_zero, List.set_cons_succ]
      refine wpAnyH_ready (rs := [7]) (by kernel_rfl) (by simp) ?_
      refine AllReadyH.cons (o := _) rfl (fun K hK => ?_) AllReadyH.nil
      go_simp
      (with_reducible (show Calls _ _ _ _ _))
      refine (HSC.out wr.drew).mono ?_
      rintro x w4 ⟨rfl, hb4⟩
      have hx4 := vb_undrew hb4
      have HX4 := Lib.hid hx4
      have j1 := cell_keep hx4 f0
      have j2 := cell_keep hx4 f1
      have j3 := cell_keep hx4 f3
      clear hb4 hx4
      go_wp2_with fail
      refine hK.out _ _ ?_ (fun hHeld => ?_)
      · exact ⟨j1, j2, j3⟩
      clear hK K
      try simp only [Act.put, List.getElem_toArray, List.getElem_cons_zero, List.getElem_cons_succ, List.setIfInBounds_toArray, List.set_cons_zero, List.set_cons_succ]
      refine wpAnyH_take (i := 8) (oi := _) (v := ?_) rfl (by kernel_rfl) (by kernel_rfl) (by kernel_rfl) (fun _ _ _ h => h) (Or.inl ⟨by rfl, ?_⟩) (by assumption) ?_
      rotate_left
      · first | (intro w' hSw; (try dsimp only at hSw); go_simp; done) | (intro w' hSw; (try dsimp only at hSw); go_simp; with_reducible rfl)
      try simp only [Act.put, List.getElem_toArray, List.getElem_cons_zero, List.getElem_cons_succ, List.setIfInBounds_toArray, List.set_cons_zero, List.set_cons_succ]
      refine wpAnyH_take (i := 9) (oi := _) (v := ?_) rfl (by kernel_rfl) (by kernel_rfl) (by kernel_rfl) (fun _ _ _ h => h) (Or.inl ⟨by rfl, ?_⟩) (by assumption) ?_
      rotate_left
      · first | (intro w' hSw; (try dsimp only at hSw); go_simp; done) | (intro w' hSw; (try dsimp only at hSw); go_simp; with_reducible rfl)
      try simp only [Act.put, List.getElem_toArray, List.getElem_cons_zero, List.getElem_cons_succ, List.setIfInBounds_toArray, List.set_cons_zero, List.set_cons_succ]
      refine wpAnyH_ready (rs := [13]) (by kernel_rfl) (by simp) ?_
      refine AllReadyH.cons (o := _) rfl (fun K hK => ?_) AllReadyH.nil
      go_simp
      refine (HIK.out w4 _ _ _ M ((Hm.out.keep HBR.out).keep HX4.out) ((HRU.out.below HBR.out).below HX4.out) ((H3.out.keep HBR.out).keep HX4.out)).mono ?_
      rintro x w6 ⟨rfl, hb6⟩
      have HX6 := Lib.hid (sz_keep HX4.out hb6)
      have q1 := cell_keep hb6 j1
      have q2 := cell_keep hb6 j2
      have q3 := cell_keep hb6 j3
      obtain ⟨⟨u1, e1⟩, e2, ⟨u2, e3⟩, e4⟩ := HT.out.cells HX6.out hlt (.int .i64 z)
      clear hb6
      go_wp2_with fail
      refine hK.out _ _ ?_ (fun hHeld => ?_)
      · exact ⟨q1, q2, q3⟩
      clear hK K
      try simp only [Act.put, List.getElem_toArray, List.getElem_cons_zero, List.getElem_cons_succ, List.setIfInBounds_toArray, List.set_cons_zero, List.set_cons_succ]
      refine wpAnyH_take (i := 14) (oi := _) (v := ?_) rfl (by kernel_rfl) (by kernel_rfl) (by kernel_rfl) (fun _ _ _ h => h) (Or.inl ⟨by rfl, ?_⟩) (by assumption) ?_
      rotate_left
      · first | (intro w' hSw; (try dsimp only at hSw); go_simp; done) | (intro w' hSw; (try dsimp only at hSw); go_simp; with_reducible rfl)
      try simp only [Act.put, List.getElem_toArray, List.getElem_cons_zero, List.getElem_cons_succ, List.setIfInBounds_toArray, List.set_cons_zero, List.set_cons_succ]
      refine wpAnyH_ready (rs := [15]) (by kernel_rfl) (by simp) ?_
      refine AllReadyH.cons (o := _) rfl (fun K hK => ?_) AllReadyH.nil
      go_simp
      skip
      go_wp2_with fail
      refine hK.out _ _ ?_ (fun hHeld => ?_)
      · exact ⟨(va_far hd1 _ _ _).trans q1, (va_far hd1 _ _ _).trans q2, (va_far hd3 _ _ _).trans q3⟩
      clear hK K
      try simp only [Act.put, List.getElem_toArray, List.getElem_cons_zero, List.getElem_cons_succ, List.setIfInBounds_toArray, List.set_cons_zero, List.set_cons_succ]
      refine wpAnyH_take (i := 16) (oi := _) (v := ?_) rfl (by kernel_rfl) (by kernel_rfl) (by kernel_rfl) (fun _ _ _ h => h) (Or.inl ⟨by rfl, ?_⟩) (by assumption) ?_
      rotate_left
      · first | (intro w' hSw; (try dsimp only at hSw); go_simp; done) | (intro w' hSw; (try dsimp only at hSw); go_simp; with_reducible rfl)
      try simp only [Act.put, List.getElem_toArray, List.getElem_cons_zero, List.getElem_cons_succ, List.setIfInBounds_toArray, List.set_cons_zero, List.set_cons_succ]
      refine wpAnyH_ready (rs := [17]) (by kernel_rfl) (by simp) ?_
      refine AllReadyH.cons (o := _) rfl (fun K hK => ?_) AllReadyH.nil
      go_simp
      skip
      go_wp2_with fail
      refine hK.out _ _ ?_ (fun hHeld => ?_)
      · exact ⟨(va_far hd2 _ _ _).trans ((va_far hd1 _ _ _).trans q1), (va_far hd2 _ _ _).trans ((va_far hd1 _ _ _).trans q2), (va_far hd4 _ _ _).trans ((va_far hd3 _ _ _).trans q3)⟩
      clear hK K
      try simp only [Act.put, List.getElem_toArray, List.getElem_cons_zero, List.getElem_cons_succ, List.setIfInBounds_toArray, List.set_cons_zero, List.set_cons_succ]
      refine wpAnyH_done (by kernel_rfl) ?_ _
      have HTN := Lib.hid (HT.out.step HX6.out hlt HXK.out HYK.out)
      clear f0 f1 f2 f3 j1 j2 j3 q1 q2 q3 e1 e2 e3 e4
      go_wp2
      go_roundw
      case rel => exact ⟨k + 1, by omega, by go_num, HTN.out⟩
      case measure => simp [intOf]; omega
    · have hkn : k = ts.length := by omega
      have hlt' : ¬ (k : Int) < (ts.length : Int) := by omega
      rw [hkn] at HT
      have HD := Lib.hid (HT.out.done (sizesT_len m ts) (valTs_len m vals ts) (by omega))
      have g2 := cell_keep HT.out.bel HZ.out.1
      have g3 := cell_keep HBR.out HC.out.2.2.1
      have g4 := cell_keep HBR.out HC.out.2.2.2
      have hop0 : (0 : Int) ≤ (op : Int) := by omega
      have hpn0 : (0 : Int) ≤ (pn : Int) := by omega
      clear f0
      go_wp2_with fail
      refine wp_region_held_drew (S := (fun w' => w'.cell? ⟨w.heap.size, 1, none⟩ = some (.slice (some ⟨b7, o7, none⟩) m.tables.length cmb) ∧ w'.cell? ⟨w.heap.size + 1, 0, none⟩ = some (.int .i64 (op : Int)) ∧ w'.cell? ⟨b7, o7 + op, none⟩ = some (.slice (some ⟨b8, o8, none⟩) tl c8) ∧ w'.cell? ⟨b8, o8 + pn, none⟩ = some (.int .i64 y))) (by kernel_rfl) ?_ (fun hHeld => ?_)
      · exact ⟨f1, g2, g3, g4⟩
      refine wpAnyH_take (i := 0) (oi := _) (v := ?_) rfl (by kernel_rfl) (by kernel_rfl) (by kernel_rfl) (fun _ _ _ h => h) (Or.inl ⟨by rfl, ?_⟩) (by assumption) ?_
      rotate_left
      · first | (intro w' hSw; (try dsimp only at hSw); go_simp; done) | (intro w' hSw; (try dsimp only at hSw); go_simp; with_reducible rfl)
      try simp only [Act.put, List.getElem_toArray, List.getElem_cons_zero, List.getElem_cons_succ, List.setIfInBounds_toArray, List.set_cons_zero, List.set_cons_succ]
      refine wpAnyH_take (i := 1) (oi := _) (v := ?_) rfl (by kernel_rfl) (by kernel_rfl) (by kernel_rfl) (fun _ _ _ h => h) (Or.inl ⟨by rfl, ?_⟩) (by assumption) ?_
      rotate_left
      · first | (intro w' hSw; (try dsimp only at hSw); go_simp; done) | (intro w' hSw; (try dsimp only at hSw); go_simp; with_reducible rfl)
      try simp only [Act.put, List.getElem_toArray, List.getElem_cons_zero, List.getElem_cons_succ, List.setIfInBounds_toArray, List.set_cons_zero, List.set_cons_succ]
      refine wpAnyH_take (i := 2) (oi := _) (v := ?_) rfl (by kernel_rfl) (by kernel_rfl) (by kernel_rfl) (fun _ _ _ h => h) (Or.inl ⟨by rfl, ?_⟩) (by assumption) ?_
      rotate_left
      · first | (intro w' hSw; (try dsimp only at hSw); go_simp; done) | (intro w' hSw; (try dsimp only at hSw); go_simp; with_reducible rfl)
      try simp only [Act.put, List.getElem_toArray, List.getElem_cons_zero, List.getElem_cons_succ, List.setIfInBounds_toArray, List.set_cons_zero, List.set_cons_succ]
      refine wpAnyH_take (i := 3) (oi := _) (v := ?_) rfl (by kernel_rfl) (by kernel_rfl) (by kernel_rfl) (fun _ _ _ h => h) (Or.inl ⟨by rfl, ?_⟩) (by assumption) ?_
      rotate_left
      · first | (intro w' hSw; (try dsimp only at hSw); go_simp; done) | (intro w' hSw; (try dsimp only at hSw); go_simp; with_reducible rfl)
      try simp only [Act.put, List.getElem_toArray, List.getElem_cons_zero, List.getElem_cons_succ, List.setIfInBounds_toArray, List.set_cons_zero, List.set_cons_succ]
      refine wpAnyH_take (i := 4) (oi := _) (v := ?_) rfl (by kernel_rfl) (by kernel_rfl) (by kernel_rfl) (fun _ _ _ h => h) (Or.inl ⟨by rfl, ?_⟩) (by assumption) ?_
      rotate_left
      · first | (intro w' hSw; (try dsimp only at hSw); go_simp; done) | (intro w' hSw; (try dsimp only at hSw); go_simp; with_reducible rfl)
      try simp only [Act.put, List.getElem_toArray, List.getElem_cons_zero, List.getElem_cons_succ, List.setIfInBounds_toArray, List.set_cons_zero, List.set_cons_succ]
      refine wpAnyH_take (i := 5) (oi := _) (v := ?_) rfl (by kernel_rfl) (by kernel_rfl) (by kernel_rfl) (fun _ _ _ h => h) (Or.inl ⟨by rfl, ?_⟩) (by assumption) ?_
      rotate_left
      · first | (intro w' hSw; (try dsimp only at hSw); go_simp; done) | (intro w' hSw; (try dsimp only at hSw); go_simp; with_reducible rfl)
      try simp only [Act.put, List.getElem_toArray, List.getElem_cons_zero, List.getElem_cons_succ, List.setIfInBounds_toArray, List.set_cons_zero, List.set_cons_succ]
      refine wpAnyH_take (i := 6) (oi := _) (v := ?_) rfl (by kernel_rfl) (by kernel_rfl) (by kernel_rfl) (fun _ _ _ h => h) (Or.inl ⟨by rfl, ?_⟩) (by assumption) ?_
      rotate_left
      · first | (intro w' hSw; (try dsimp only at hSw); go_simp; done) | (intro w' hSw; (try dsimp only at hSw); go_simp; with_reducible rfl)
      try simp only [Act.put, List.getElem_toArray, List.getElem_cons_zero, List.getElem_cons_succ, List.setIfInBounds_toArray, List.set_cons_zero, List.set_cons_succ]
      refine wpAnyH_take (i := 7) (oi := _) (v := ?_) rfl (by kernel_rfl) (by kernel_rfl) (by kernel_rfl) (fun _ _ _ h => h) (Or.inl ⟨by rfl, ?_⟩) (by assumption) ?_
      rotate_left
      · first | (intro w' hSw; (try dsimp only at hSw); go_simp; done) | (intro w' hSw; (try dsimp only at hSw); go_simp; with_reducible rfl)
      try simp only [Act.put, List.getElem_toArray, List.getElem_cons_zero, List.getElem_cons_succ, List.setIfInBounds_toArray, List.set_cons_zero, List.set_cons_succ]
      refine wpAnyH_ready (rs := [8]) (by kernel_rfl) (by simp) ?_
      refine AllReadyH.cons (o := _) rfl (fun K hK => ?_) AllReadyH.nil
      go_simp
      refine (numberOf_any (sizesT m ts) (valTs m vals ts) _ _ _ (HD.out.1.keep (vb_drew (Below.refl _ _))) (HD.out.2.keep (vb_drew (Below.refl _ _))) HSZ.out (by rw [sizesT_len]; omega) HIN.out).mono ?_
      rw [HPL.out]
      rintro x w5 ⟨rfl, rfl⟩
      go_wp2_with fail
      refine hK.out _ _ ?_ (fun hHeld => ?_)
      · exact ⟨f1, g2, g3, g4⟩
      clear hK K
      try simp only [Act.put, List.getElem_toArray, List.getElem_cons_zero, List.getElem_cons_succ, List.setIfInBounds_toArray, List.set_cons_zero, List.set_cons_succ]
      refine wpAnyH_take (i := 9) (oi := _) (v := ?_) rfl (by kernel_rfl) (by kernel_rfl) (by kernel_rfl) (fun _ _ _ h => h) (Or.inl ⟨by rfl, ?_⟩) (by assumption) ?_
      rotate_left
      · first | (intro w' hSw; (try dsimp only at hSw); go_simp; done) | (intro w' hSw; (try dsimp only at hSw); go_simp; with_reducible rfl)
      try simp only [Act.put, List.getElem_toArray, List.getElem_cons_zero, List.getElem_cons_succ, List.setIfInBounds_toArray, List.set_cons_zero, List.set_cons_succ]
      refine wpAnyH_take (i := 10) (oi := _) (v := ?_) rfl (by kernel_rfl) (by kernel_rfl) (by kernel_rfl) (fun _ _ _ h => h) (Or.inl ⟨by rfl, ?_⟩) (by assumption) ?_
      rotate_left
      · first | (intro w' hSw; (try dsimp only at hSw); go_simp; done) | (intro w' hSw; (try dsimp only at hSw); go_simp; with_reducible rfl)
      try simp only [Act.put, List.getElem_toArray, List.getElem_cons_zero, List.getElem_cons_succ, List.setIfInBounds_toArray, List.set_cons_zero, List.set_cons_succ]
      refine wpAnyH_take (i := 11) (oi := _) (v := ?_) rfl (by kernel_rfl) (by kernel_rfl) (by kernel_rfl) (fun _ _ _ h => h) (Or.inl ⟨by rfl, ?_⟩) (by assumption) ?_
      rotate_left
      · first | (intro w' hSw; (try dsimp only at hSw); go_simp; done) | (intro w' hSw; (try dsimp only at hSw); go_simp; with_reducible rfl)
      try simp only [Act.put, List.getElem_toArray, List.getElem_cons_zero, List.getElem_cons_succ, List.setIfInBounds_toArray, List.set_cons_zero, List.set_cons_succ]
      refine wpAnyH_done (by kernel_rfl) ?_ _
      clear f1 g2 g3 g4
      go_wp2
      go_ret
      exact ⟨ret_int HVAL.out.symm, sz_keep HB.out (vb_drew HBR.out)⟩

mutual
theorem val_any {s : MSig} {m : MModel} {vars vals : List Int} (hf : ModFacts s m) (hv : ValsOk m vars vals) : ∀ tm : Tm, wfT s vars tm → ValAt m vals tm
  | .leaf k of, hw => by
    unfold wfT at hw
    exact val_leaf m vals k of (by rw [hv.1]; exact hw.1)
  | .node op lv ts, hw => val_node s m vars vals hf hv op lv ts hw (by
    have hw2 := hw
    unfold wfT at hw2
    exact val_all hf hv ts _ hw2.2.2)
theorem val_all {s : MSig} {m : MModel} {vars vals : List Int} (hf : ModFacts s m) (hv : ValsOk m vars vals) : ∀ (ts : List Tm) (ss : List Int), wfTs s vars ss ts → ∀ (k : Nat) (h : k < ts.length), ValAt m vals ts[k]
  | [], ss, hw, k, h => by simp at h
  | t :: ts, ss, hw, 0, h => by
    unfold wfTs at hw
    obtain ⟨x, ss', rfl, rfl, h1, h2⟩ := hw
    exact val_any hf hv t h1
  | t :: ts, ss, hw, k + 1, h => by
    unfold wfTs at hw
    obtain ⟨x, ss', rfl, rfl, h1, h2⟩ := hw
    exact val_all hf hv ts _ h2 k (by simpa using h)
end
end

section
open Go.RowKit
set_option linter.unusedVariables false
set_option linter.unusedSimpArgs false

theorem rows_split : ∀ (ts : List Tm) (j : Nat) (hj : j < ts.length), rowsOf ts = rowsOf (ts.take j) ++ (ts[j].row ++ rowsOf (ts.drop (j + 1)))
  | t :: ts, 0, h => by simp [rowsOf]
  | t :: ts, j + 1, h => by
    simp only [List.take_succ_cons, List.getElem_cons_succ, List.drop_succ_cons, rowsOf]
    rw [rows_split ts j (by simpa using h), List.append_assoc]
theorem rows_take_len {ts : List Tm} {j : Nat} (hj : j < ts.length) : (rowsOf (ts.take (j + 1))).length = (rowsOf (ts.take j)).length + ts[j].row.length := by
  have h := rows_split (ts.take (j + 1)) j (by rw [List.length_take]; omega)
  rw [h]
  simp only [List.length_append, List.take_take, List.getElem_take]
  rw [Nat.min_eq_left (by omega), List.drop_of_length_le (by rw [List.length_take]; omega)]
  simp [rowsOf]
theorem drop_at {t b : List Int} {ts : List Tm} {k j : Nat} (h : t.drop (k + 1) = rowsOf ts ++ b) (hj : j < ts.length) : t.drop (k + 1 + (rowsOf (ts.take j)).length) = ts[j].row ++ (rowsOf (ts.drop (j + 1)) ++ b) := by
  rw [← List.drop_drop, h, rows_split ts j hj, List.append_assoc, List.drop_left, List.append_assoc]

def L5At (s : MSig) (m : MModel) (t vals : List Int) (tm : Tm) : Prop := ∀ (k : Nat) (b : List Int) (w : World) (v v' tv vv : Value), t.drop k = tm.row ++ b → RSig w v s → RModel w v' m → RInts w tv t → RInts w vv vals →
  Calls Try.prog 69 #[v, v', tv, .int .i64 (k : Int), vv] w fun e w' => e = .returned (.tuple #[.int .i64 (valT m vals tm), .int .i64 ((k + tm.row.length : Nat) : Int)]) ∧ Below w.heap.size w w'

set_option maxHeartbeats 800000 in
set_option maxRecDepth 100000 in
theorem l5_leaf (s : MSig) (m : MModel) (t vals : List Int) (ht : t.length ≤ 30) (kk : Nat) (of : Int) (hk : kk < vals.length) (hv4 : vals.length ≤ 4) : L5At s m t vals (.leaf kk of) := by
  intro k b w v v' tv vv hd h1 h2 h3 h4
  simp only [Tm.row, List.singleton_append] at hd
  have hkt : k < t.length := by
    by_cases h : k < t.length
    · exact h
    · rw [List.drop_of_length_le (by omega)] at hd; cases hd
  have htk : t[k] = 100 + (kk : Int) := by
    have := List.drop_eq_getElem_cons hkt
    rw [this] at hd
    injection hd
  obtain ⟨Asa, csa, rfl⟩ := h1.form
  obtain ⟨Ama, cma, Amb, cmb, rfl⟩ := h2.form
  have hb : Below w.heap.size w ((w.alloc (.cells #[.int .i64 s.sorts, .slice Asa s.ops.length csa] 25)).alloc (.cells #[.slice Ama m.sizes.length cma, .slice Amb m.tables.length cmb] 28)) := (below_alloc _ _).alloc (by simp) _
  have HB := Lib.hid hb
  have hsz : ((w.alloc (.cells #[.int .i64 s.sorts, .slice Asa s.ops.length csa] 25)).alloc (.cells #[.slice Ama m.sizes.length cma, .slice Amb m.tables.length cmb] 28)).heap.size = w.heap.size + 2 := by simp
  have Hs := Lib.hid (h1.keep hb)
  have s0 := cell_keep (below_alloc (w.alloc (.cells #[.int .i64 s.sorts, .slice Asa s.ops.length csa] 25)) (.cells #[.slice Ama m.sizes.length cma, .slice Amb m.tables.length cmb] 28)) (bx_at (w) #[.int .i64 s.sorts, .slice Asa s.ops.length csa] 25 (k := 0) rfl)
  have s1 := cell_keep (below_alloc (w.alloc (.cells #[.int .i64 s.sorts, .slice Asa s.ops.length csa] 25)) (.cells #[.slice Ama m.sizes.length cma, .slice Amb m.tables.length cmb] 28)) (bx_at (w) #[.int .i64 s.sorts, .slice Asa s.ops.length csa] 25 (k := 1) rfl)
  have Hm := Lib.hid (h2.keep hb)
  have m0 := bx_at (w.alloc (.cells #[.int .i64 s.sorts, .slice Asa s.ops.length csa] 25)) #[.slice Ama m.sizes.length cma, .slice Amb m.tables.length cmb] 28 (k := 0) rfl
  have m1 := bx_at (w.alloc (.cells #[.int .i64 s.sorts, .slice Asa s.ops.length csa] 25)) #[.slice Ama m.sizes.length cma, .slice Amb m.tables.length cmb] 28 (k := 1) rfl
  simp only [World.size_alloc] at m0 m1
  generalize hW : (w.alloc (.cells #[.int .i64 s.sorts, .slice Asa s.ops.length csa] 25)).alloc (.cells #[.slice Ama m.sizes.length cma, .slice Amb m.tables.length cmb] 28) = W at HB hsz Hs s0 s1 Hm m0 m1
  clear hb h1 h2
  obtain ⟨b3, o3, c3, e, hx⟩ := (h3.keep HB.out).at_ hkt
  cases e
  rw [htk] at hx
  obtain ⟨b4, o4, c4, e, hy⟩ := (h4.keep HB.out).at_ hk
  cases e
  have HR := Lib.hid (show valT m vals (.leaf kk of) = vals[kk] by simp only [valT]; exact getD_at _ hk)
  generalize vals[kk] = y at hy HR
  have hk' : (kk : Int) < (vals.length : Int) := by omega
  have hkt' : (k : Int) < (t.length : Int) := by omega
  have hw1 : IntKind.i64.wrap (100 + (kk : Int) - 100) = (kk : Int) := by rw [IntKind.wrap_i64]; omega
  have hw2 : IntKind.i64.wrap ((k : Int) + 1) = (k : Int) + 1 := by rw [IntKind.wrap_i64]; omega
  have hge : (100 : Int) ≤ 100 + (kk : Int) := by omega
  clear h3 h4 hd htk s0 s1 m0 m1
  go_enter Try.func69, Try.ntmps69
  go_wp2
  refine bodyPost_ret (v := .tuple #[.int .i64 y, .int .i64 ((k : Int) + 1)]) (by simp [results, Try.results69, go_sem]) rfl ?_
  rw [HR.out]
  exact ⟨by simp [Tm.row], HB.out⟩

set_option maxHeartbeats 3200000 in
set_option maxRecDepth 100000 in
theorem l5_node (s : MSig) (m : MModel) (vars t vals : List Int) (ht : t.length ≤ 30) (hf : ModFacts s m) (hv : ValsOk m vars vals) (op : Nat) (lv : Int) (ts : List Tm) (hw : wfT s vars (.node op lv ts)) (ih : ∀ (k : Nat) (h : k < ts.length), L5At s m t vals ts[k]) : L5At s m t vals (.node op lv ts) := by
  intro k b w v v' tv vv hd h1 h2 h3 h4
  simp only [Tm.row, List.cons_append] at hd
  have hkt : k < t.length := by
    by_cases h : k < t.length
    · exact h
    · rw [List.drop_of_length_le (by omega)] at hd; cases hd
  have htk : t[k] = (op : Int) ∧ t.drop (k + 1) = rowsOf ts ++ b := by
    have := List.drop_eq_getElem_cons hkt
    rw [this] at hd
    injection hd with e1 e2
    exact ⟨e1, e2⟩
  obtain ⟨htk, hd2⟩ := htk
  have HST := Lib.hid (sizesT_taken hf hw)
  obtain ⟨pn, hop, hpn, hpl, hval⟩ := place_table hf hv hw
  have hw0 := hw
  unfold wfT at hw0
  obtain ⟨hk, -, hts⟩ := hw0
  have hinn := valTs_in hf hv ts _ hts
  have hszz : Sizes (sizesT m ts) := by rw [HST.out]; exact (hf.taken hk).1
  have hl2 : ts.length ≤ 2 := by
    have := (hf.taken hk).2
    rw [← HST.out, sizesT_len] at this
    exact this
  have HWR := Lib.hid (fun (j : Nat) (h : j < (sizesT m ts).length) (h' : j < (valTs m vals ts).length) => place_wrap hszz (by rw [sizesT_len]; omega) hinn h h')
  have hsrt := wfTs_sorts hts
  have hrv := opRow_valid hf.va hk
  rw [opRow_at hk] at hsrt hrv
  have hrl : s.ops[op].length = ts.length + 1 := by
    have := congrArg List.length hsrt
    rw [List.length_dropLast, List.length_map] at this
    have := hrv.1
    omega
  have HSO := Lib.hid (show ∀ (j : Nat) (h : j < ts.length) (h' : j < s.ops[op].length), s.ops[op][j] = ts[j].sort ∧ 0 ≤ ts[j].sort ∧ ts[j].sort < (m.sizes.length : Int) from fun j h h' => by
    have e1 : s.ops[op].dropLast[j]? = (ts.map Tm.sort)[j]? := by rw [hsrt]
    rw [List.getElem?_map, List.getElem?_eq_getElem h, List.getElem?_eq_getElem (by rw [List.length_dropLast]; omega), List.getElem_dropLast] at e1
    have e2 : s.ops[op][j] = ts[j].sort := by simpa using e1
    have h5 := hrv.2.2 _ (List.getElem_mem h')
    have h6 := hf.sl
    rw [e2] at h5
    exact ⟨e2, by omega, by omega⟩)
  have HIH := Lib.hid ih
  have HPL := Lib.hid hpl
  have HVAL := Lib.hid hval
  have HD := Lib.hid (fun (j : Nat) (hj : j < ts.length) => drop_at hd2 hj)
  have hfin : k + 1 + (rowsOf ts).length ≤ 30 := by
    have := congrArg List.length hd2
    rw [List.length_drop, List.length_append] at this
    omega
  have HFIN := Lib.hid hfin
  have hops6 : s.ops.length ≤ 6 := (valid_sorts hf.va).2.2
  clear hfin hw hts hpl hval hf hv ih hinn hszz hsrt hd hd2
  obtain ⟨Asa, csa, rfl⟩ := h1.form
  obtain ⟨Ama, cma, Amb, cmb, rfl⟩ := h2.form
  have hb : Below w.heap.size w ((w.alloc (.cells #[.int .i64 s.sorts, .slice Asa s.ops.length csa] 25)).alloc (.cells #[.slice Ama m.sizes.length cma, .slice Amb m.tables.length cmb] 28)) := (below_alloc _ _).alloc (by simp) _
  have HB := Lib.hid hb
  have hsz : ((w.alloc (.cells #[.int .i64 s.sorts, .slice Asa s.ops.length csa] 25)).alloc (.cells #[.slice Ama m.sizes.length cma, .slice Amb m.tables.length cmb] 28)).heap.size = w.heap.size + 2 := by simp
  have Hs := Lib.hid (h1.keep hb)
  have s0 := cell_keep (below_alloc (w.alloc (.cells #[.int .i64 s.sorts, .slice Asa s.ops.length csa] 25)) (.cells #[.slice Ama m.sizes.length cma, .slice Amb m.tables.length cmb] 28)) (bx_at (w) #[.int .i64 s.sorts, .slice Asa s.ops.length csa] 25 (k := 0) rfl)
  have s1 := cell_keep (below_alloc (w.alloc (.cells #[.int .i64 s.sorts, .slice Asa s.ops.length csa] 25)) (.cells #[.slice Ama m.sizes.length cma, .slice Amb m.tables.length cmb] 28)) (bx_at (w) #[.int .i64 s.sorts, .slice Asa s.ops.length csa] 25 (k := 1) rfl)
  have Hm := Lib.hid (h2.keep hb)
  have m0 := bx_at (w.alloc (.cells #[.int .i64 s.sorts, .slice Asa s.ops.length csa] 25)) #[.slice Ama m.sizes.length cma, .slice Amb m.tables.length cmb] 28 (k := 0) rfl
  have m1 := bx_at (w.alloc (.cells #[.int .i64 s.sorts, .slice Asa s.ops.length csa] 25)) #[.slice Ama m.sizes.length cma, .slice Amb m.tables.length cmb] 28 (k := 1) rfl
  simp only [World.size_alloc] at m0 m1
  generalize hW : (w.alloc (.cells #[.int .i64 s.sorts, .slice Asa s.ops.length csa] 25)).alloc (.cells #[.slice Ama m.sizes.length cma, .slice Amb m.tables.length cmb] 28) = W at HB hsz Hs s0 s1 Hm m0 m1
  clear hb h1 h2
  have hsl := Hs.out.of.2.len
  have hml := Hm.out.of.2.len
  have H3 := Lib.hid (h3.keep HB.out)
  have H4 := Lib.hid (h4.keep HB.out)
  obtain ⟨b3, o3, c3, e, hx⟩ := H3.out.at_ hkt
  cases e
  rw [htk] at hx
  obtain ⟨Av, cv, rfl, -⟩ := h4.form
  obtain ⟨b5, o5, c5, u5, e, hy, hry⟩ := Hs.out.of.2.at_ hk
  cases e
  have hhl := hk
  generalize hrow : s.ops[op] = row at hy hry hrl hrv HSO
  have HRY := Lib.hid hry
  obtain ⟨A5, d5, rfl, -⟩ := hry.form
  obtain ⟨b7, o7, c7, u7, e, ht7, hr7⟩ := Hm.out.of.2.at_ hop
  cases e
  obtain ⟨b8, o8, c8, e, ht8⟩ := hr7.at_ hpn
  subst e
  generalize m.tables[op][pn] = y at ht8 HVAL
  clear hr7
  generalize m.tables[op].length = tl at ht7 hpn
  have hop' : (op : Int) < (m.tables.length : Int) := by omega
  have hops' : (op : Int) < (s.ops.length : Int) := by omega
  have hpn' : (pn : Int) < (tl : Int) := by omega
  have hkt' : (k : Int) < (t.length : Int) := by omega
  have hop0 : (0 : Int) ≤ (op : Int) := by omega
  have hpn0 : (0 : Int) ≤ (pn : Int) := by omega
  have hk0 : (0 : Int) ≤ (k : Int) := by omega
  have hw2 : IntKind.i64.wrap ((k : Int) + 1) = (k : Int) + 1 := by rw [IntKind.wrap_i64]; omega
  have hlt100 : ¬ (100 : Int) ≤ (op : Int) := by omega
  have HC := Lib.hid (And.intro s0 (And.intro s1 (And.intro m0 (And.intro m1 (And.intro hx (And.intro ht7 ht8))))))
  clear h3 h4 hry hrow hhl htk
  go_enter Try.func69, Try.ntmps69
  go_wp2_with fail
  clear hW
  refine wp_region_held_drew (S := (fun w' => w'.cell? ⟨w.heap.size, 1, none⟩ = some (.slice (some ⟨b5, o5, none⟩) s.ops.length csa) ∧ w'.cell? ⟨b3, o3 + k, none⟩ = some (.int .i64 (op : Int)) ∧ w'.cell? ⟨b5, o5 + op, none⟩ = some (.slice A5 row.length d5))) (by kernel_rfl) ?_ (fun hHeld => ?_)
  · exact ⟨s1, hx, hy⟩
  refine wpAnyH_take (i := 0) (oi := _) (v := ?_) rfl (by kernel_rfl) (by kernel_rfl) (by kernel_rfl) (fun _ _ _ h => h) (Or.inl ⟨by rfl, ?_⟩) (by assumption) ?_
  rotate_left
  · first | (intro w' hSw; (try dsimp only at hSw); go_simp; done) | (intro w' hSw; (try dsimp only at hSw); go_simp; with_reducible rfl)
  try simp only [Act.put, List.getElem_toArray, List.getElem_cons_zero, List.getElem_cons_succ, List.setIfInBounds_toArray, List.set_cons_zero, List.set_cons_succ]
  refine wpAnyH_take (i := 1) (oi := _) (v := ?_) rfl (by kernel_rfl) (by kernel_rfl) (by kernel_rfl) (fun _ _ _ h => h) (Or.inl ⟨by rfl, ?_⟩) (by assumption) ?_
  rotate_left
  · first | (intro w' hSw; (try dsimp only at hSw); go_simp; done) | (intro w' hSw; (try dsimp only at hSw); go_simp; with_reducible rfl)
  try simp only [Act.put, List.getElem_toArray, List.getElem_cons_zero, List.getElem_cons_succ, List.setIfInBounds_toArray, List.set_cons_zero, List.set_cons_succ]
  refine wpAnyH_take (i := 2) (oi := _) (v := ?_) rfl (by kernel_rfl) (by kernel_rfl) (by kernel_rfl) (fun _ _ _ h => h) (Or.inl ⟨by rfl, ?_⟩) (by assumption) ?_
  rotate_left
  · first | (intro w' hSw; (try dsimp only at hSw); go_simp; done) | (intro w' hSw; (try dsimp only at hSw); go_simp; with_reducible rfl)
  try simp only [Act.put, List.getElem_toArray, List.getElem_cons_zero, List.getElem_cons_succ, List.setIfInBounds_toArray, List.set_cons_zero, List.set_cons_succ]
  refine wpAnyH_take (i := 3) (oi := _) (v := ?_) rfl (by kernel_rfl) (by kernel_rfl) (by kernel_rfl) (fun _ _ _ h => h) (Or.inl ⟨by rfl, ?_⟩) (by assumption) ?_
  rotate_left
  · first | (intro w' hSw; (try dsimp only at hSw); go_simp; done) | (intro w' hSw; (try dsimp only at hSw); go_simp; with_reducible rfl)
  try simp only [Act.put, List.getElem_toArray, List.getElem_cons_zero, List.getElem_cons_succ, List.setIfInBounds_toArray, List.set_cons_zero, List.set_cons_succ]
  refine wpAnyH_take (i := 4) (oi := _) (v := ?_) rfl (by kernel_rfl) (by kernel_rfl) (by kernel_rfl) (fun _ _ _ h => h) (Or.inl ⟨by rfl, ?_⟩) (by assumption) ?_
  rotate_left
  · first | (intro w' hSw; (try dsimp only at hSw); go_simp; done) | (intro w' hSw; (try dsimp only at hSw); go_simp; with_reducible rfl)
  try simp only [Act.put, List.getElem_toArray, List.getElem_cons_zero, List.getElem_cons_succ, List.setIfInBounds_toArray, List.set_cons_zero, List.set_cons_succ]
  refine wpAnyH_take (i := 5) (oi := _) (v := ?_) rfl (by kernel_rfl) (by kernel_rfl) (by kernel_rfl) (fun _ _ _ h => h) (Or.inl ⟨by rfl, ?_⟩) (by assumption) ?_
  rotate_left
  · first | (intro w' hSw; (try dsimp only at hSw); go_simp; done) | (intro w' hSw; (try dsimp only at hSw); go_simp; with_reducible rfl)
  try simp only [Act.put, List.getElem_toArray, List.getElem_cons_zero, List.getElem_cons_succ, List.setIfInBounds_toArray, List.set_cons_zero, List.set_cons_succ]
  refine wpAnyH_take (i := 6) (oi := _) (v := ?_) rfl (by kernel_rfl) (by kernel_rfl) (by kernel_rfl) (fun _ _ _ h => h) (Or.inl ⟨by rfl, ?_⟩) (by assumption) ?_
  rotate_left
  · first | (intro w' hSw; (try dsimp only at hSw); go_simp; done) | (intro w' hSw; (try dsimp only at hSw); go_simp; with_reducible rfl)
  try simp only [Act.put, List.getElem_toArray, List.getElem_cons_zero, List.getElem_cons_succ, List.setIfInBounds_toArray, List.set_cons_zero, List.set_cons_succ]
  refine wpAnyH_take (i := 7) (oi := _) (v := ?_) rfl (by kernel_rfl) (by kernel_rfl) (by kernel_rfl) (fun _ _ _ h => h) (Or.inl ⟨by rfl, ?_⟩) (by assumption) ?_
  rotate_left
  · first | (intro w' hSw; (try dsimp only at hSw); go_simp; done) | (intro w' hSw; (try dsimp only at hSw); go_simp; with_reducible rfl)
  try simp only [Act.put, List.getElem_toArray, List.getElem_cons_zero, List.getElem_cons_succ, List.setIfInBounds_toArray, List.set_cons_zero, List.set_cons_succ]
  refine wpAnyH_take (i := 8) (oi := _) (v := ?_) rfl (by kernel_rfl) (by kernel_rfl) (by kernel_rfl) (fun _ _ _ h => h) (Or.inl ⟨by rfl, ?_⟩) (by assumption) ?_
  rotate_left
  · first | (intro w' hSw; (try dsimp only at hSw); go_simp; done) | (intro w' hSw; (try dsimp only at hSw); go_simp; with_reducible rfl)
  try simp only [Act.put, List.getElem_toArray, List.getElem_cons_zero, List.getElem_cons_succ, List.setIfInBounds_toArray, List.set_cons_zero, List.set_cons_succ]
  refine wpAnyH_done (by kernel_rfl) ?_ _
  clear s0 s1 m0 m1 hx hy ht7 ht8
  go_wp2
  go_loopw [13, 14, 15, 16, 17] (fun p q i _ _ wr => ∃ j : Nat, j ≤ ts.length ∧ i = .int .i64 j ∧ p = .int .i64 (placeM 0 ((sizesT m ts).take j) ((valTs m vals ts).take j)) ∧ q = .int .i64 ((k + 1 + (rowsOf (ts.take j)).length : Nat) : Int) ∧ Below W.heap.size W wr) (fun _ _ i _ _ _ => ts.length - (intOf i).toNat)
  case atStart => exact ⟨0, Nat.zero_le _, rfl, rfl, by simp [rowsOf], map_drew (Below.refl _ _)⟩
  case round =>
    obtain ⟨j, hj, rfl, rfl, rfl, hd⟩ := hrel
    have HBR := Lib.hid hd
    have f0 := cell_keep hd HC.out.1
    have f1 := cell_keep hd HC.out.2.1
    have f2 := cell_keep hd HC.out.2.2.1
    have f3 := cell_keep hd HC.out.2.2.2.1
    clear hd
    have hw3 : IntKind.i64.wrap ((j : Int) + 1) = (j : Int) + 1 := by rw [IntKind.wrap_i64]; omega
    by_cases hlt : j < ts.length
    · have hlt' : (j : Int) + 1 < (row.length : Int) := by omega
      have hjr : j < row.length := by omega
      have hjr' : (j : Int) < (row.length : Int) := by omega
      have hjr2 : (j : Int) < (ts.length : Int) + 1 := by omega
      obtain ⟨b9, o9, c9, e, hcr⟩ := (HRY.out.keep HBR.out).at_ hjr
      have HFM := Lib.hid e
      cases e
      have HSJ := HSO.out j hlt hjr
      have HDJ := Lib.hid (HD.out j hlt)
      have HIJ := Lib.hid (HIH.out j hlt)
      have HNX := Lib.hid (rows_take_len hlt)
      have HXK := Lib.hid (show (sizesT m ts)[j]'(by rw [sizesT_len]; exact hlt) = m.sizes.getD ts[j].sort.toNat 0 by simp [sizesT])
      have HYK := Lib.hid (show (valTs m vals ts)[j]'(by rw [valTs_len]; exact hlt) = valT m vals ts[j] by simp [valTs_map])
      obtain ⟨a, hp1, hp2⟩ := HWR.out j (by rw [sizesT_len]; exact hlt) (by rw [valTs_len]; exact hlt)
      rw [HXK.out] at hp1
      rw [HYK.out] at hp2
      clear HXK HYK
      generalize ts[j] = tj at HSJ HDJ HIJ HNX hp1 hp2
      obtain ⟨g1, g2, g3⟩ := HSJ
      obtain ⟨n, hn⟩ : ∃ n : Nat, tj.sort = (n : Int) := ⟨tj.sort.toNat, by omega⟩
      rw [hn] at g1 g2 g3 hp1
      rw [g1] at hcr
      have hnl : n < m.sizes.length := by omega
      have hnl' : (n : Int) < (m.sizes.length : Int) := by omega
      obtain ⟨b6, o6, c6, e6, hz6⟩ := (Hm.out.of.1.keep HBR.out).at_ hnl
      cases e6
      rw [Int.toNat_natCast, getD_at _ hnl] at hp1
      generalize m.sizes[n] = z at hz6 hp1
      generalize placeM 0 ((sizesT m ts).take j) ((valTs m vals ts).take j) = pp at hp1
      generalize hqq : placeM 0 ((sizesT m ts).take (j + 1)) ((valTs m vals ts).take (j + 1)) = qq at hp2
      have HQQ := Lib.hid hqq
      generalize hvv : valT m vals tj = vj at hp2
      have HVV := Lib.hid hvv
      have HEE := Lib.hid (show k + 1 + (rowsOf (ts.take j)).length + tj.row.length = k + 1 + (rowsOf (ts.take (j + 1))).length by have := HNX.out; omega)
      generalize k + 1 + (rowsOf (ts.take j)).length = e0 at HDJ HEE
      clear g1 g2 g3 hn hqq hvv
      go_wp2_with fail
      refine (HIJ.out e0 _ _ _ _ _ _ HDJ.out (Hs.out.keep HBR.out) (Hm.out.keep HBR.out) (H3.out.keep HBR.out) (H4.out.keep HBR.out)).mono ?_
      rw [HVV.out, HEE.out]
      rintro x w4 ⟨rfl, hb4⟩
      have HX4 := Lib.hid (sz_keep HBR.out hb4)
      replace f0 := cell_keep hb4 f0
      replace f1 := cell_keep hb4 f1
      replace f2 := cell_keep hb4 f2
      replace f3 := cell_keep hb4 f3
      replace hcr := cell_keep hb4 hcr
      replace hz6 := cell_keep hb4 hz6
      generalize hee1 : k + 1 + (rowsOf (ts.take (j + 1))).length = e1 at HEE
      have HE1 := Lib.hid hee1
      clear hb4 hee1
      go_wp2_with fail
      refine wp_region_held_drew (S := (fun w' => w'.cell? ⟨w.heap.size + 1, 0, none⟩ = some (.slice (some ⟨b6, o6, none⟩) m.sizes.length cma) ∧ w'.cell? ⟨b9, o9 + j, none⟩ = some (.int .i64 (n : Int)) ∧ w'.cell? ⟨b6, o6 + n, none⟩ = some (.int .i64 z))) (by kernel_rfl) ?_ (fun hHeld => ?_)
      · exact ⟨f2, hcr, hz6⟩
      refine wpAnyH_take (i := 0) (oi := _) (v := ?_) rfl (by kernel_rfl) (by kernel_rfl) (by kernel_rfl) (fun _ _ _ h => h) (Or.inl ⟨by rfl, ?_⟩) (by assumption) ?_
      rotate_left
      · first | (intro w' hSw; (try dsimp only at hSw); go_simp; done) | (intro w' hSw; (try dsimp only at hSw); go_simp; with_reducible rfl)
      try simp only [Act.put, List.getElem_toArray, List.getElem_cons_zero, List.getElem_cons_succ, List.setIfInBounds_toArray, List.set_cons_zero, List.set_cons_succ]
      refine wpAnyH_take (i := 1) (oi := _) (v := ?_) rfl (by kernel_rfl) (by kernel_rfl) (by kernel_rfl) (fun _ _ _ h => h) (Or.inl ⟨by rfl, ?_⟩) (by assumption) ?_
      rotate_left
      · first | (intro w' hSw; (try dsimp only at hSw); go_simp; done) | (intro w' hSw; (try dsimp only at hSw); go_simp; with_reducible rfl)
      try simp only [Act.put, List.getElem_toArray, List.getElem_cons_zero, List.getElem_cons_succ, List.setIfInBounds_toArray, List.set_cons_zero, List.set_cons_succ]
      refine wpAnyH_take (i := 2) (oi := _) (v := ?_) rfl (by kernel_rfl) (by kernel_rfl) (by kernel_rfl) (fun _ _ _ h => h) (Or.inl ⟨by rfl, ?_⟩) (by assumption) ?_
      rotate_left
      · first | (intro w' hSw; (try dsimp only at hSw); go_simp; done) | (intro w' hSw; (try dsimp only at hSw); go_simp; with_reducible rfl)
      try simp only [Act.put, List.getElem_toArray, List.getElem_cons_zero, List.getElem_cons_succ, List.setIfInBounds_toArray, List.set_cons_zero, List.set_cons_succ]
      refine wpAnyH_take (i := 3) (oi := _) (v := ?_) rfl (by kernel_rfl) (by kernel_rfl) (by kernel_rfl) (fun _ _ _ h => h) (Or.inl ⟨by rfl, ?_⟩) (by assumption) ?_
      rotate_left
      · first | (intro w' hSw; (try dsimp only at hSw); go_simp; done) | (intro w' hSw; (try dsimp only at hSw); go_simp; with_reducible rfl)
      try simp only [Act.put, List.getElem_toArray, List.getElem_cons_zero, List.getElem_cons_succ, List.setIfInBounds_toArray, List.set_cons_zero, List.set_cons_succ]
      refine wpAnyH_take (i := 4) (oi := _) (v := ?_) rfl (by kernel_rfl) (by kernel_rfl) (by kernel_rfl) (fun _ _ _ h => h) (Or.inl ⟨by rfl, ?_⟩) (by assumption) ?_
      rotate_left
      · first | (intro w' hSw; (try dsimp only at hSw); go_simp; done) | (intro w' hSw; (try dsimp only at hSw); go_simp; with_reducible rfl)
      try simp only [Act.put, List.getElem_toArray, List.getElem_cons_zero, List.getElem_cons_succ, List.setIfInBounds_toArray, List.set_cons_zero, List.set_cons_succ]
      refine wpAnyH_take (i := 5) (oi := _) (v := ?_) rfl (by kernel_rfl) (by kernel_rfl) (by kernel_rfl) (fun _ _ _ h => h) (Or.inl ⟨by rfl, ?_⟩) (by assumption) ?_
      rotate_left
      · first | (intro w' hSw; (try dsimp only at hSw); go_simp; done) | (intro w' hSw; (try dsimp only at hSw); go_simp; with_reducible rfl)
      try simp only [Act.put, List.getElem_toArray, List.getElem_cons_zero, List.getElem_cons_succ, List.setIfInBounds_toArray, List.set_cons_zero, List.set_cons_succ]
      refine wpAnyH_take (i := 6) (oi := _) (v := ?_) rfl (by kernel_rfl) (by kernel_rfl) (by kernel_rfl) (fun _ _ _ h => h) (Or.inl ⟨by rfl, ?_⟩) (by assumption) ?_
      rotate_left
      · first | (intro w' hSw; (try dsimp only at hSw); go_simp; done) | (intro w' hSw; (try dsimp only at hSw); go_simp; with_reducible rfl)
      try simp only [Act.put, List.getElem_toArray, List.getElem_cons_zero, List.getElem_cons_succ, List.setIfInBounds_toArray, List.set_cons_zero, List.set_cons_succ]
      refine wpAnyH_take (i := 7) (oi := _) (v := ?_) rfl (by kernel_rfl) (by kernel_rfl) (by kernel_rfl) (fun _ _ _ h => h) (Or.inl ⟨by rfl, ?_⟩) (by assumption) ?_
      rotate_left
      · first | (intro w' hSw; (try dsimp only at hSw); go_simp; done) | (intro w' hSw; (try dsimp only at hSw); go_simp; with_reducible rfl)
      try simp only [Act.put, List.getElem_toArray, List.getElem_cons_zero, List.getElem_cons_succ, List.setIfInBounds_toArray, List.set_cons_zero, List.set_cons_succ]
      refine wpAnyH_take (i := 8) (oi := _) (v := ?_) rfl (by kernel_rfl) (by kernel_rfl) (by kernel_rfl) (fun _ _ _ h => h) (Or.inl ⟨by rfl, ?_⟩) (by assumption) ?_
      rotate_left
      · first | (intro w' hSw; (try dsimp only at hSw); go_simp; done) | (intro w' hSw; (try dsimp only at hSw); go_simp; with_reducible rfl)
      try simp only [Act.put, List.getElem_toArray, List.getElem_cons_zero, List.getElem_cons_succ, List.setIfInBounds_toArray, List.set_cons_zero, List.set_cons_succ]
      refine wpAnyH_take (i := 9) (oi := _) (v := ?_) rfl (by kernel_rfl) (by kernel_rfl) (by kernel_rfl) (fun _ _ _ h => h) (Or.inl ⟨by rfl, ?_⟩) (by assumption) ?_
      rotate_left
      · first | (intro w' hSw; (try dsimp only at hSw); go_simp; done) | (intro w' hSw; (try dsimp only at hSw); go_simp; with_reducible rfl)
      try simp only [Act.put, List.getElem_toArray, List.getElem_cons_zero, List.getElem_cons_succ, List.setIfInBounds_toArray, List.set_cons_zero, List.set_cons_succ]
      refine wpAnyH_take (i := 10) (oi := _) (v := ?_) rfl (by kernel_rfl) (by kernel_rfl) (by kernel_rfl) (fun _ _ _ h => h) (Or.inl ⟨by rfl, ?_⟩) (by assumption) ?_
      rotate_left
      · first | (intro w' hSw; (try dsimp only at hSw); go_simp; done) | (intro w' hSw; (try dsimp only at hSw); go_simp; with_reducible rfl)
      try simp only [Act.put, List.getElem_toArray, List.getElem_cons_zero, List.getElem_cons_succ, List.setIfInBounds_toArray, List.set_cons_zero, List.set_cons_succ]
      refine wpAnyH_take (i := 11) (oi := _) (v := ?_) rfl (by kernel_rfl) (by kernel_rfl) (by kernel_rfl) (fun _ _ _ h => h) (Or.inl ⟨by rfl, ?_⟩) (by assumption) ?_
      rotate_left
      · first | (intro w' hSw; (try dsimp only at hSw); go_simp; done) | (intro w' hSw; (try dsimp only at hSw); go_simp; with_reducible rfl)
      try simp only [Act.put, List.getElem_toArray, List.getElem_cons_zero, List.getElem_cons_succ, List.setIfInBounds_toArray, List.set_cons_zero, List.set_cons_succ]
      refine wpAnyH_take (i := 12) (oi := _) (v := ?_) rfl (by kernel_rfl) (by kernel_rfl) (by kernel_rfl) (fun _ _ _ h => h) (Or.inl ⟨by rfl, ?_⟩) (by assumption) ?_
      rotate_left
      · first | (intro w' hSw; (try dsimp only at hSw); go_simp; done) | (intro w' hSw; (try dsimp only at hSw); go_simp; with_reducible rfl)
      try simp only [Act.put, List.getElem_toArray, List.getElem_cons_zero, List.getElem_cons_succ, List.setIfInBounds_toArray, List.set_cons_zero, List.set_cons_succ]
      refine wpAnyH_done (by kernel_rfl) ?_ _
      have HX5 := Lib.hid (map_drew HX4.out)
      clear f0 f1 f2 f3 hcr hz6
      go_wp2
      go_roundw
      case rel => exact ⟨j + 1, by omega, by go_num, by rw [HQQ.out], by rw [HE1.out], HX5.out⟩
      case measure => simp [intOf]; omega
    · have hjn : j = ts.length := by omega
      have hlt' : ¬ (j : Int) + 1 < (row.length : Int) := by omega
      have HT1 := Lib.hid (show ts.take j = ts from take_all (by omega))
      have HT2 := Lib.hid (show (sizesT m ts).take j = sizesT m ts from take_all (by rw [sizesT_len]; omega))
      have HT3 := Lib.hid (show (valTs m vals ts).take j = valTs m vals ts from take_all (by rw [valTs_len]; omega))
      have g0 := cell_keep HBR.out HC.out.2.2.2.2.1
      have g1 := cell_keep HBR.out HC.out.2.2.2.2.2.1
      have g2 := cell_keep HBR.out HC.out.2.2.2.2.2.2
      rw [HT1.out, HT2.out, HT3.out, HPL.out]
      generalize hee : k + 1 + (rowsOf ts).length = e1
      have HEE := Lib.hid hee
      clear f0 f1 f2 hee
      go_wp2_with fail
      refine wp_region_held_drew (S := (fun w' => w'.cell? ⟨w.heap.size + 1, 1, none⟩ = some (.slice (some ⟨b7, o7, none⟩) m.tables.length cmb) ∧ w'.cell? ⟨b3, o3 + k, none⟩ = some (.int .i64 (op : Int)) ∧ w'.cell? ⟨b7, o7 + op, none⟩ = some (.slice (some ⟨b8, o8, none⟩) tl c8) ∧ w'.cell? ⟨b8, o8 + pn, none⟩ = some (.int .i64 y))) (by kernel_rfl) ?_ (fun hHeld => ?_)
      · exact ⟨f3, g0, g1, g2⟩
      refine wpAnyH_take (i := 0) (oi := _) (v := ?_) rfl (by kernel_rfl) (by kernel_rfl) (by kernel_rfl) (fun _ _ _ h => h) (Or.inl ⟨by rfl, ?_⟩) (by assumption) ?_
      rotate_left
      · first | (intro w' hSw; (try dsimp only at hSw); go_simp; done) | (intro w' hSw; (try dsimp only at hSw); go_simp; with_reducible rfl)
      try simp only [Act.put, List.getElem_toArray, List.getElem_cons_zero, List.getElem_cons_succ, List.setIfInBounds_toArray, List.set_cons_zero, List.set_cons_succ]
      refine wpAnyH_take (i := 1) (oi := _) (v := ?_) rfl (by kernel_rfl) (by kernel_rfl) (by kernel_rfl) (fun _ _ _ h => h) (Or.inl ⟨by rfl, ?_⟩) (by assumption) ?_
      rotate_left
      · first | (intro w' hSw; (try dsimp only at hSw); go_simp; done) | (intro w' hSw; (try dsimp only at hSw); go_simp; with_reducible rfl)
      try simp only [Act.put, List.getElem_toArray, List.getElem_cons_zero, List.getElem_cons_succ, List.setIfInBounds_toArray, List.set_cons_zero, List.set_cons_succ]
      refine wpAnyH_take (i := 2) (oi := _) (v := ?_) rfl (by kernel_rfl) (by kernel_rfl) (by kernel_rfl) (fun _ _ _ h => h) (Or.inl ⟨by rfl, ?_⟩) (by assumption) ?_
      rotate_left
      · first | (intro w' hSw; (try dsimp only at hSw); go_simp; done) | (intro w' hSw; (try dsimp only at hSw); go_simp; with_reducible rfl)
      try simp only [Act.put, List.getElem_toArray, List.getElem_cons_zero, List.getElem_cons_succ, List.setIfInBounds_toArray, List.set_cons_zero, List.set_cons_succ]
      refine wpAnyH_take (i := 3) (oi := _) (v := ?_) rfl (by kernel_rfl) (by kernel_rfl) (by kernel_rfl) (fun _ _ _ h => h) (Or.inl ⟨by rfl, ?_⟩) (by assumption) ?_
      rotate_left
      · first | (intro w' hSw; (try dsimp only at hSw); go_simp; done) | (intro w' hSw; (try dsimp only at hSw); go_simp; with_reducible rfl)
      try simp only [Act.put, List.getElem_toArray, List.getElem_cons_zero, List.getElem_cons_succ, List.setIfInBounds_toArray, List.set_cons_zero, List.set_cons_succ]
      refine wpAnyH_take (i := 4) (oi := _) (v := ?_) rfl (by kernel_rfl) (by kernel_rfl) (by kernel_rfl) (fun _ _ _ h => h) (Or.inl ⟨by rfl, ?_⟩) (by assumption) ?_
      rotate_left
      · first | (intro w' hSw; (try dsimp only at hSw); go_simp; done) | (intro w' hSw; (try dsimp only at hSw); go_simp; with_reducible rfl)
      try simp only [Act.put, List.getElem_toArray, List.getElem_cons_zero, List.getElem_cons_succ, List.setIfInBounds_toArray, List.set_cons_zero, List.set_cons_succ]
      refine wpAnyH_take (i := 5) (oi := _) (v := ?_) rfl (by kernel_rfl) (by kernel_rfl) (by kernel_rfl) (fun _ _ _ h => h) (Or.inl ⟨by rfl, ?_⟩) (by assumption) ?_
      rotate_left
      · first | (intro w' hSw; (try dsimp only at hSw); go_simp; done) | (intro w' hSw; (try dsimp only at hSw); go_simp; with_reducible rfl)
      try simp only [Act.put, List.getElem_toArray, List.getElem_cons_zero, List.getElem_cons_succ, List.setIfInBounds_toArray, List.set_cons_zero, List.set_cons_succ]
      refine wpAnyH_take (i := 6) (oi := _) (v := ?_) rfl (by kernel_rfl) (by kernel_rfl) (by kernel_rfl) (fun _ _ _ h => h) (Or.inl ⟨by rfl, ?_⟩) (by assumption) ?_
      rotate_left
      · first | (intro w' hSw; (try dsimp only at hSw); go_simp; done) | (intro w' hSw; (try dsimp only at hSw); go_simp; with_reducible rfl)
      try simp only [Act.put, List.getElem_toArray, List.getElem_cons_zero, List.getElem_cons_succ, List.setIfInBounds_toArray, List.set_cons_zero, List.set_cons_succ]
      refine wpAnyH_take (i := 7) (oi := _) (v := ?_) rfl (by kernel_rfl) (by kernel_rfl) (by kernel_rfl) (fun _ _ _ h => h) (Or.inl ⟨by rfl, ?_⟩) (by assumption) ?_
      rotate_left
      · first | (intro w' hSw; (try dsimp only at hSw); go_simp; done) | (intro w' hSw; (try dsimp only at hSw); go_simp; with_reducible rfl)
      try simp only [Act.put, List.getElem_toArray, List.getElem_cons_zero, List.getElem_cons_succ, List.setIfInBounds_toArray, List.set_cons_zero, List.set_cons_succ]
      refine wpAnyH_take (i := 8) (oi := _) (v := ?_) rfl (by kernel_rfl) (by kernel_rfl) (by kernel_rfl) (fun _ _ _ h => h) (Or.inl ⟨by rfl, ?_⟩) (by assumption) ?_
      rotate_left
      · first | (intro w' hSw; (try dsimp only at hSw); go_simp; done) | (intro w' hSw; (try dsimp only at hSw); go_simp; with_reducible rfl)
      try simp only [Act.put, List.getElem_toArray, List.getElem_cons_zero, List.getElem_cons_succ, List.setIfInBounds_toArray, List.set_cons_zero, List.set_cons_succ]
      refine wpAnyH_take (i := 9) (oi := _) (v := ?_) rfl (by kernel_rfl) (by kernel_rfl) (by kernel_rfl) (fun _ _ _ h => h) (Or.inl ⟨by rfl, ?_⟩) (by assumption) ?_
      rotate_left
      · first | (intro w' hSw; (try dsimp only at hSw); go_simp; done) | (intro w' hSw; (try dsimp only at hSw); go_simp; with_reducible rfl)
      try simp only [Act.put, List.getElem_toArray, List.getElem_cons_zero, List.getElem_cons_succ, List.setIfInBounds_toArray, List.set_cons_zero, List.set_cons_succ]
      refine wpAnyH_take (i := 10) (oi := _) (v := ?_) rfl (by kernel_rfl) (by kernel_rfl) (by kernel_rfl) (fun _ _ _ h => h) (Or.inl ⟨by rfl, ?_⟩) (by assumption) ?_
      rotate_left
      · first | (intro w' hSw; (try dsimp only at hSw); go_simp; done) | (intro w' hSw; (try dsimp only at hSw); go_simp; with_reducible rfl)
      try simp only [Act.put, List.getElem_toArray, List.getElem_cons_zero, List.getElem_cons_succ, List.setIfInBounds_toArray, List.set_cons_zero, List.set_cons_succ]
      refine wpAnyH_take (i := 11) (oi := _) (v := ?_) rfl (by kernel_rfl) (by kernel_rfl) (by kernel_rfl) (fun _ _ _ h => h) (Or.inl ⟨by rfl, ?_⟩) (by assumption) ?_
      rotate_left
      · first | (intro w' hSw; (try dsimp only at hSw); go_simp; done) | (intro w' hSw; (try dsimp only at hSw); go_simp; with_reducible rfl)
      try simp only [Act.put, List.getElem_toArray, List.getElem_cons_zero, List.getElem_cons_succ, List.setIfInBounds_toArray, List.set_cons_zero, List.set_cons_succ]
      refine wpAnyH_take (i := 12) (oi := _) (v := ?_) rfl (by kernel_rfl) (by kernel_rfl) (by kernel_rfl) (fun _ _ _ h => h) (Or.inl ⟨by rfl, ?_⟩) (by assumption) ?_
      rotate_left
      · first | (intro w' hSw; (try dsimp only at hSw); go_simp; done) | (intro w' hSw; (try dsimp only at hSw); go_simp; with_reducible rfl)
      try simp only [Act.put, List.getElem_toArray, List.getElem_cons_zero, List.getElem_cons_succ, List.setIfInBounds_toArray, List.set_cons_zero, List.set_cons_succ]
      refine wpAnyH_take (i := 13) (oi := _) (v := ?_) rfl (by kernel_rfl) (by kernel_rfl) (by kernel_rfl) (fun _ _ _ h => h) (Or.inl ⟨by rfl, ?_⟩) (by assumption) ?_
      rotate_left
      · first | (intro w' hSw; (try dsimp only at hSw); go_simp; done) | (intro w' hSw; (try dsimp only at hSw); go_simp; with_reducible rfl)
      try simp only [Act.put, List.getElem_toArray, List.getElem_cons_zero, List.getElem_cons_succ, List.setIfInBounds_toArray, List.set_cons_zero, List.set_cons_succ]
      refine wpAnyH_done (by kernel_rfl) ?_ _
      clear f3 g0 g1 g2
      go_wp2
      refine bodyPost_ret (v := .tuple #[.int .i64 y, .int .i64 (e1 : Int)]) (by simp [results, Try.results69, go_sem]) rfl ?_
      rw [HVAL.out, ← HEE.out]
      refine ⟨?_, sz_keep HB.out (map_drew HBR.out)⟩
      simp only [Tm.row, List.length_cons]
      rw [show k + ((rowsOf ts).length + 1) = k + 1 + (rowsOf ts).length by omega]

mutual
theorem l5_any {s : MSig} {m : MModel} {vars t vals : List Int} (ht : t.length ≤ 30) (hf : ModFacts s m) (hv : ValsOk m vars vals) (h4 : vars.length ≤ 4) : ∀ tm : Tm, wfT s vars tm → L5At s m t vals tm
  | .leaf k of, hw => by
    unfold wfT at hw
    exact l5_leaf s m t vals ht k of (by rw [hv.1]; exact hw.1) (by rw [hv.1]; exact h4)
  | .node op lv ts, hw => l5_node s m vars t vals ht hf hv op lv ts hw (by
    have hw2 := hw
    unfold wfT at hw2
    exact l5_all ht hf hv h4 ts _ hw2.2.2)
theorem l5_all {s : MSig} {m : MModel} {vars t vals : List Int} (ht : t.length ≤ 30) (hf : ModFacts s m) (hv : ValsOk m vars vals) (h4 : vars.length ≤ 4) : ∀ (ts : List Tm) (ss : List Int), wfTs s vars ss ts → ∀ (k : Nat) (h : k < ts.length), L5At s m t vals ts[k]
  | [], ss, hw, k, h => by simp at h
  | t :: ts, ss, hw, 0, h => by
    unfold wfTs at hw
    obtain ⟨x, ss', rfl, rfl, h1, h2⟩ := hw
    exact l5_any ht hf hv h4 t h1
  | t :: ts, ss, hw, k + 1, h => by
    unfold wfTs at hw
    obtain ⟨x, ss', rfl, rfl, h1, h2⟩ := hw
    exact l5_all ht hf hv h4 ts _ h2 k (by simpa using h)
end
end

section
open Go.RowKit
set_option linter.unusedVariables false
set_option linter.unusedSimpArgs false

theorem value_none {s : MSig} {m : MModel} {vars t vals : List Int} (h : termM s vars t = none) : valueM s m vars t vals = -1 := by unfold valueM; rw [h]
theorem value_bad {s : MSig} {m : MModel} {vars t vals : List Int} (h : valsB s m vars vals = false) : valueM s m vars t vals = -1 := by unfold valueM; rw [h]; cases termM s vars t <;> rfl
theorem value_some {s : MSig} {m : MModel} {vars t vals : List Int} {tm : Tm} (h : termM s vars t = some tm) (h2 : valsB s m vars vals = true) : valueM s m vars t vals = valT m vals tm := by unfold valueM; rw [h, h2]; rfl

set_option maxHeartbeats 1600000 in
set_option maxRecDepth 100000 in
theorem valueOf_any (s : MSig) (m : MModel) (vars t vals : List Int) (w : World) (v v' v2 v3 v4 : Value) (hsm : Small t) (h1 : RSig w v s) (h2 : RModel w v' m) (h3 : RInts w v2 vars) (h4 : RInts w v3 t) (h5 : RInts w v4 vals) :
    Calls Try.prog 10 #[v, v', v2, v3, v4] w fun e w' => e = .returned (.int .i64 (valueM s m vars t vals)) ∧ Below w.heap.size w w' := by
  obtain ⟨Asa, csa, rfl⟩ := h1.form
  obtain ⟨Ama, cma, Amb, cmb, rfl⟩ := h2.form
  have hb : Below w.heap.size w ((w.alloc (.cells #[.int .i64 s.sorts, .slice Asa s.ops.length csa] 25)).alloc (.cells #[.slice Ama m.sizes.length cma, .slice Amb m.tables.length cmb] 28)) := (below_alloc _ _).alloc (by simp) _
  have HB := Lib.hid hb
  have hsz : ((w.alloc (.cells #[.int .i64 s.sorts, .slice Asa s.ops.length csa] 25)).alloc (.cells #[.slice Ama m.sizes.length cma, .slice Amb m.tables.length cmb] 28)).heap.size = w.heap.size + 2 := by simp
  have Hs := Lib.hid (h1.keep hb)
  have s0 := cell_keep (below_alloc (w.alloc (.cells #[.int .i64 s.sorts, .slice Asa s.ops.length csa] 25)) (.cells #[.slice Ama m.sizes.length cma, .slice Amb m.tables.length cmb] 28)) (bx_at (w) #[.int .i64 s.sorts, .slice Asa s.ops.length csa] 25 (k := 0) rfl)
  have s1 := cell_keep (below_alloc (w.alloc (.cells #[.int .i64 s.sorts, .slice Asa s.ops.length csa] 25)) (.cells #[.slice Ama m.sizes.length cma, .slice Amb m.tables.length cmb] 28)) (bx_at (w) #[.int .i64 s.sorts, .slice Asa s.ops.length csa] 25 (k := 1) rfl)
  have Hm := Lib.hid (h2.keep hb)
  have m0 := bx_at (w.alloc (.cells #[.int .i64 s.sorts, .slice Asa s.ops.length csa] 25)) #[.slice Ama m.sizes.length cma, .slice Amb m.tables.length cmb] 28 (k := 0) rfl
  have m1 := bx_at (w.alloc (.cells #[.int .i64 s.sorts, .slice Asa s.ops.length csa] 25)) #[.slice Ama m.sizes.length cma, .slice Amb m.tables.length cmb] 28 (k := 1) rfl
  simp only [World.size_alloc] at m0 m1
  generalize hW : (w.alloc (.cells #[.int .i64 s.sorts, .slice Asa s.ops.length csa] 25)).alloc (.cells #[.slice Ama m.sizes.length cma, .slice Amb m.tables.length cmb] 28) = W at HB hsz Hs s0 s1 Hm m0 m1
  clear hb h1 h2
  have H3 := Lib.hid (h3.keep HB.out)
  have H4 := Lib.hid (h4.keep HB.out)
  have H5 := Lib.hid (h5.keep HB.out)
  have HSM := Lib.hid hsm
  obtain ⟨A3, d3, rfl, -⟩ := h3.form
  obtain ⟨A4, d4, rfl, -⟩ := h4.form
  obtain ⟨A5, d5, rfl, -⟩ := h5.form
  clear h3 h4 h5 hsm
  go_enter Try.func10, Try.ntmps10
  go_wp2_with fail
  clear hW
  refine (termOf_any s vars t _ _ _ _ HSM.out Hs.out H3.out H4.out).mono ?_
  rintro e w1 ⟨hm, hb⟩
  replace HB := Lib.hid (sz_keep HB.out hb)
  replace s0 := cell_keep hb s0
  replace s1 := cell_keep hb s1
  replace m0 := cell_keep hb m0
  replace m1 := cell_keep hb m1
  replace Hs := Lib.hid (Hs.out.keep hb)
  replace Hm := Lib.hid (Hm.out.keep hb)
  replace H3 := Lib.hid (H3.out.keep hb)
  replace H5 := Lib.hid (H5.out.keep hb)
  clear hb
  cases ht : termM s vars t with
  | none =>
    rw [ht] at hm
    simp only at hm
    subst hm
    have HR := Lib.hid (value_none (m := m) (vals := vals) ht)
    clear ht
    go_wp2
    go_ret
    exact ⟨ret_int HR.out.symm, HB.out⟩
  | some tm =>
    rw [ht] at hm
    simp only at hm
    obtain ⟨u, rfl, hu⟩ := hm
    have HU := Lib.hid hu
    have HTT := Lib.hid ht
    obtain ⟨T, y, fid, rfl, -⟩ := hu.sorts
    clear ht hu
    cases hv : valsB s m vars vals with
    | false =>
      have HV := Lib.hid hv
      have HR := Lib.hid (value_bad (t := t) hv)
      clear hv
      go_wp2_with fail
      refine (valuesOk_any s m vars vals _ _ _ _ _ Hs.out Hm.out H3.out H5.out).mono ?_
      rw [HV.out]
      rintro e w2 ⟨rfl, hb⟩
      replace HB := Lib.hid (sz_keep HB.out hb)
      replace s0 := cell_keep hb s0
      replace s1 := cell_keep hb s1
      replace m0 := cell_keep hb m0
      replace m1 := cell_keep hb m1
      replace Hs := Lib.hid (Hs.out.keep hb)
      replace Hm := Lib.hid (Hm.out.keep hb)
      replace H3 := Lib.hid (H3.out.keep hb)
      replace H5 := Lib.hid (H5.out.keep hb)
      clear hb
      go_wp2
      go_ret
      exact ⟨ret_int HR.out.symm, HB.out⟩
    | true =>
      have HV := Lib.hid hv
      have HR := Lib.hid (value_some HTT.out hv)
      clear hv
      go_wp2_with fail
      refine (valuesOk_any s m vars vals _ _ _ _ _ Hs.out Hm.out H3.out H5.out).mono ?_
      rw [HV.out]
      rintro e w2 ⟨rfl, hb⟩
      replace HU := Lib.hid (HU.out.below hb)
      replace HB := Lib.hid (sz_keep HB.out hb)
      replace s0 := cell_keep hb s0
      replace s1 := cell_keep hb s1
      replace m0 := cell_keep hb m0
      replace m1 := cell_keep hb m1
      replace Hs := Lib.hid (Hs.out.keep hb)
      replace Hm := Lib.hid (Hm.out.keep hb)
      replace H3 := Lib.hid (H3.out.keep hb)
      replace H5 := Lib.hid (H5.out.keep hb)
      clear hb
      go_wp2_with fail
      refine (val_any (model_facts (vals_facts HV.out).2.1) (vals_facts HV.out).2.2 tm (termM_to HTT.out).2.2.1 _ _ _ _ _ Hm.out HU.out H5.out).mono ?_
      rintro e w3 ⟨rfl, hb⟩
      replace HB := Lib.hid (sz_keep HB.out hb)
      replace s0 := cell_keep hb s0
      replace s1 := cell_keep hb s1
      replace m0 := cell_keep hb m0
      replace m1 := cell_keep hb m1
      replace Hs := Lib.hid (Hs.out.keep hb)
      replace Hm := Lib.hid (Hm.out.keep hb)
      replace H3 := Lib.hid (H3.out.keep hb)
      replace H5 := Lib.hid (H5.out.keep hb)
      clear hb
      go_wp2
      go_ret
      exact ⟨ret_int HR.out.symm, HB.out⟩

set_option maxHeartbeats 1600000 in
set_option maxRecDepth 100000 in
theorem specValueOf_any (s : MSig) (m : MModel) (vars t vals : List Int) (w : World) (v v' v2 v3 v4 : Value) (h1 : RSig w v s) (h2 : RModel w v' m) (h3 : RInts w v2 vars) (h4 : RInts w v3 t) (h5 : RInts w v4 vals) :
    Calls Try.prog 11 #[v, v', v2, v3, v4] w fun e w' => e = .returned (.int .i64 (valueM s m vars t vals)) ∧ Below w.heap.size w w' := by
  obtain ⟨Asa, csa, rfl⟩ := h1.form
  obtain ⟨Ama, cma, Amb, cmb, rfl⟩ := h2.form
  have hb : Below w.heap.size w ((w.alloc (.cells #[.int .i64 s.sorts, .slice Asa s.ops.length csa] 25)).alloc (.cells #[.slice Ama m.sizes.length cma, .slice Amb m.tables.length cmb] 28)) := (below_alloc _ _).alloc (by simp) _
  have HB := Lib.hid hb
  have hsz : ((w.alloc (.cells #[.int .i64 s.sorts, .slice Asa s.ops.length csa] 25)).alloc (.cells #[.slice Ama m.sizes.length cma, .slice Amb m.tables.length cmb] 28)).heap.size = w.heap.size + 2 := by simp
  have Hs := Lib.hid (h1.keep hb)
  have s0 := cell_keep (below_alloc (w.alloc (.cells #[.int .i64 s.sorts, .slice Asa s.ops.length csa] 25)) (.cells #[.slice Ama m.sizes.length cma, .slice Amb m.tables.length cmb] 28)) (bx_at (w) #[.int .i64 s.sorts, .slice Asa s.ops.length csa] 25 (k := 0) rfl)
  have s1 := cell_keep (below_alloc (w.alloc (.cells #[.int .i64 s.sorts, .slice Asa s.ops.length csa] 25)) (.cells #[.slice Ama m.sizes.length cma, .slice Amb m.tables.length cmb] 28)) (bx_at (w) #[.int .i64 s.sorts, .slice Asa s.ops.length csa] 25 (k := 1) rfl)
  have Hm := Lib.hid (h2.keep hb)
  have m0 := bx_at (w.alloc (.cells #[.int .i64 s.sorts, .slice Asa s.ops.length csa] 25)) #[.slice Ama m.sizes.length cma, .slice Amb m.tables.length cmb] 28 (k := 0) rfl
  have m1 := bx_at (w.alloc (.cells #[.int .i64 s.sorts, .slice Asa s.ops.length csa] 25)) #[.slice Ama m.sizes.length cma, .slice Amb m.tables.length cmb] 28 (k := 1) rfl
  simp only [World.size_alloc] at m0 m1
  generalize hW : (w.alloc (.cells #[.int .i64 s.sorts, .slice Asa s.ops.length csa] 25)).alloc (.cells #[.slice Ama m.sizes.length cma, .slice Amb m.tables.length cmb] 28) = W at HB hsz Hs s0 s1 Hm m0 m1
  clear hb h1 h2
  have H3 := Lib.hid (h3.keep HB.out)
  have H4 := Lib.hid (h4.keep HB.out)
  have H5 := Lib.hid (h5.keep HB.out)
  obtain ⟨A3, d3, rfl, -⟩ := h3.form
  obtain ⟨A4, d4, rfl, -⟩ := h4.form
  obtain ⟨A5, d5, rfl, -⟩ := h5.form
  clear h3 h4 h5
  cases hv : valsB s m vars vals with
  | false =>
    have HV := Lib.hid hv
    have HR := Lib.hid (value_bad (t := t) hv)
    clear hv
    go_enter Try.func11, Try.ntmps11
    go_wp2_with fail
    clear hW
    refine (specValuesOk_any s m vars vals _ _ _ _ _ Hs.out Hm.out H3.out H5.out).mono ?_
    rw [HV.out]
    rintro e w1 ⟨rfl, hb⟩
    replace HB := Lib.hid (sz_keep HB.out hb)
    replace s0 := cell_keep hb s0
    replace s1 := cell_keep hb s1
    replace m0 := cell_keep hb m0
    replace m1 := cell_keep hb m1
    replace Hs := Lib.hid (Hs.out.keep hb)
    replace Hm := Lib.hid (Hm.out.keep hb)
    replace H3 := Lib.hid (H3.out.keep hb)
    replace H4 := Lib.hid (H4.out.keep hb)
    replace H5 := Lib.hid (H5.out.keep hb)
    clear hb
    go_wp2
    go_ret
    exact ⟨ret_int HR.out.symm, HB.out⟩
  | true =>
    have HV := Lib.hid hv
    clear hv
    go_enter Try.func11, Try.ntmps11
    go_wp2_with fail
    clear hW
    refine (specValuesOk_any s m vars vals _ _ _ _ _ Hs.out Hm.out H3.out H5.out).mono ?_
    rw [HV.out]
    rintro e w1 ⟨rfl, hb⟩
    replace HB := Lib.hid (sz_keep HB.out hb)
    replace s0 := cell_keep hb s0
    replace s1 := cell_keep hb s1
    replace m0 := cell_keep hb m0
    replace m1 := cell_keep hb m1
    replace Hs := Lib.hid (Hs.out.keep hb)
    replace Hm := Lib.hid (Hm.out.keep hb)
    replace H3 := Lib.hid (H3.out.keep hb)
    replace H4 := Lib.hid (H4.out.keep hb)
    replace H5 := Lib.hid (H5.out.keep hb)
    clear hb
    go_wp2_with fail
    refine (specTermSort_any s vars t _ _ _ _ Hs.out H3.out H4.out).mono ?_
    cases ht : termM s vars t with
    | none =>
      have hsn : sortM s vars t = -1 := by unfold sortM; rw [ht]
      rw [hsn]
      have HR := Lib.hid (value_none (m := m) (vals := vals) ht)
      rintro e w2 ⟨rfl, hb⟩
      replace HB := Lib.hid (sz_keep HB.out hb)
      replace s0 := cell_keep hb s0
      replace s1 := cell_keep hb s1
      replace m0 := cell_keep hb m0
      replace m1 := cell_keep hb m1
      replace Hs := Lib.hid (Hs.out.keep hb)
      replace Hm := Lib.hid (Hm.out.keep hb)
      replace H3 := Lib.hid (H3.out.keep hb)
      replace H4 := Lib.hid (H4.out.keep hb)
      replace H5 := Lib.hid (H5.out.keep hb)
      clear hb
      clear ht hsn
      go_wp2
      go_ret
      exact ⟨ret_int HR.out.symm, HB.out⟩
    | some tm =>
      have hsn : sortM s vars t = tm.sort := sortM_some ht
      rw [hsn]
      have HTT := Lib.hid ht
      have HR := Lib.hid (value_some ht HV.out)
      have hpos := (sort_ok (vals_facts HV.out).1 (termM_to ht).2.2.1).1
      rintro e w2 ⟨rfl, hb⟩
      replace HB := Lib.hid (sz_keep HB.out hb)
      replace s0 := cell_keep hb s0
      replace s1 := cell_keep hb s1
      replace m0 := cell_keep hb m0
      replace m1 := cell_keep hb m1
      replace Hs := Lib.hid (Hs.out.keep hb)
      replace Hm := Lib.hid (Hm.out.keep hb)
      replace H3 := Lib.hid (H3.out.keep hb)
      replace H4 := Lib.hid (H4.out.keep hb)
      replace H5 := Lib.hid (H5.out.keep hb)
      clear hb
      generalize tm.sort = q at hpos ⊢
      have hq : ¬ q < 0 := by omega
      clear ht hsn
      go_wp2_with fail
      refine (l5_any (termM_to HTT.out).2.1 (model_facts (vals_facts HV.out).2.1) (vals_facts HV.out).2.2 (vars_valid (vals_facts HV.out).1).2.1 tm (termM_to HTT.out).2.2.1 0 [] _ _ _ _ _ (by rw [(termM_to HTT.out).2.2.2]; simp) Hs.out Hm.out H4.out H5.out).mono ?_
      rintro e w3 ⟨rfl, hb⟩
      replace HB := Lib.hid (sz_keep HB.out hb)
      replace s0 := cell_keep hb s0
      replace s1 := cell_keep hb s1
      replace m0 := cell_keep hb m0
      replace m1 := cell_keep hb m1
      replace Hs := Lib.hid (Hs.out.keep hb)
      replace Hm := Lib.hid (Hm.out.keep hb)
      replace H3 := Lib.hid (H3.out.keep hb)
      replace H4 := Lib.hid (H4.out.keep hb)
      replace H5 := Lib.hid (H5.out.keep hb)
      clear hb
      go_wp2
      go_ret
      exact ⟨ret_int HR.out.symm, HB.out⟩
end

section
open Go.RowKit
set_option linter.unusedVariables false

/-- a row of numbers at the end of an own one -/
theorem app_own_run (w : World) (ty : TypeId) (B : Nat) (v x : Value) (xs ys : List Int) (hs : OInts w B v xs) (hx : RInts w x ys) (hl : xs.length + ys.length ≤ 10000000) (hB : B ≤ w.heap.size) :
    ∃ A c w', (Builtin.append_ #[26, 26] ty #[v, x]).run Try.prog w = .ok (.slice A (xs ++ ys).length c) w' ∧ OInts w' B (.slice A (xs ++ ys).length c) (xs ++ ys) ∧ w.grownBy w' v.ownBlock := by
  obtain ⟨i0, hi0, hz0, hz1, hz2⟩ := info_parts Try.tinfo_int
  obtain ⟨A2, c2, rfl, -⟩ := hx.form
  cases A2 with
  | none =>
    have h0 : ys = [] := by
      cases ys with
      | nil => rfl
      | cons y ys =>
        obtain ⟨b, o, c', e, -⟩ := hx.at_ (k := 0) (by simp)
        cases e
    subst h0
    obtain ⟨A, c, rfl, hc, -⟩ := own_reads hs
    refine ⟨A, c, w, ?_, by simpa using hs, ⟨rfl, rfl, rfl, Nat.le_refl _, fun _ _ _ => rfl⟩⟩
    have := run_append_nothing (P := Try.prog) w 26 26 ty 3 i0 Try.underlying26 hi0 A xs.length c hc (.slice none ([] : List Int).length c2) (Src.ofNil w Try.underlying26 c2)
    simpa using this
  | some ad =>
    obtain ⟨v', w', hr, ho, hg, -⟩ := run_append_own (P := Try.prog) w B 26 ty 3 i0 (.int .i64 0) 1 8 Try.underlying26 hi0 hz0 hz1 hz2 rfl (by decide) v xs.length (xs.map (Value.int .i64)) hs ad ys.length c2 (ys.map (Value.int .i64)) (by simp) (news_any hx) (ints_one _) (by rw [maxLen_eq]; omega) (by omega) hB
    have ho' := app_ints rfl ho
    obtain ⟨A, c, rfl, -⟩ := own_reads ho'
    exact ⟨A, c, w', hr, ho', hg⟩
end
end Go.Proofs.Yticldaddbljleaa
