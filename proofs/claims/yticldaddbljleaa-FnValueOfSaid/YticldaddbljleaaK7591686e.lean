/- l20Into: a signature to which one can be led, and a map. -/
import Derived.Test.YticldaddbljleaaK64c94896
import Derived.Deep.DeepCutAuto
namespace Go.Proofs.Yticldaddbljleaa
section
open Go.RowKit
set_option linter.unusedVariables false
set_option linter.unusedSimpArgs false

theorem step_append_own_at {P : Program} {ops : Array Oper} {o : Oper} {a : Act} {w : World} {K : Act → World → Prop} {Q : Exit → Act → World → Prop} {E : Prop} (hgd : o.guard = none) (s x : Operand) (t : TypeId)
    (ho : o.op = .call { callee := .builtin .append, args := #[s, x], argTypes := #[t, t] })
    (base : Nat) (e : TypeId) (i : TypeInfo) (z : Value) (size bytes : Nat) (ht : P.underlying t = some (.slice e)) (hi : P.info? e = some i) (hz : i.zero = some z)
    (hsize : i.size = size) (hby : i.bytes = bytes) (hzs : z.cells.size = size) (hsz : 0 < size)
    (v : Value) (n : Nat) (xs : List Value) (hs : a.eval s = v) (hown : w.ownsRow base e size v n xs)
    (ad : Addr) (m c : Nat) (news : List Value) (hx : a.eval x = .slice (some ad) m c) (hl : news.length = m * size) (hnews : ∀ j u, news[j]? = some u → w.cell? (ad.add j) = some u) (h1 : ∀ u ∈ news, u.oneCell' = true)
    (h63 : n + m ≤ maxLen) (hbytes : (n + m) * bytes ≤ 140737488355328) (hbase : base ≤ w.heap.size)
    (h : ∀ v' w', w'.ownsRow base e size v' (n + m) (xs ++ news) → w.grownBy w' v.ownBlock → (v'.ownBlock = v.ownBlock ∨ v'.ownBlock = some w.heap.size) → K (a.put o.dst v') w') :
    if Region.wanted o (yielded ops a.tmps) = true then Oper.wp P o a w K Q else E := by
  have hw : Region.wanted o (yielded ops a.tmps) = true := by simp [Region.wanted, hgd]
  rw [if_pos hw]
  obtain ⟨v', w', hr, h2, h3, h4, h5⟩ := run_append_own_at (P := P) w base t o.type e i z size bytes ht hi hz hsize hby hzs hsz v n xs hown ad m c news hl hnews h1 h63 hbytes hbase
  unfold Oper.wp execOp
  simp only [ho, resolve, invoke, builtin, Sem.run_bind, Sem.run_pure, Result.andThen_ok, List.map_toArray, List.map_cons, List.map_nil, hs, hx, hr]
  exact h v' w' h2 h3 h5
theorem InAt.drew {W w : World} {g lm lb : Nat} {sorts : Int} {u x0 x1 : Value} {us : List Value} {rows : List (List Int)} {ss os : List Int} {q : Nat} (h : InAt W w g lm lb sorts u x0 x1 us rows ss os q) : InAt W w.drew g lm lb sorts u x0 x1 us rows ss os q := h.keep (map_drew (Below.refl _ _))

theorem off_nil (x : Value) : Off x (.slice none 0 0) := by
  unfold Off
  cases h : x.ownBlock with
  | none => exact .inl rfl
  | some k => exact .inr (fun e => by simp [Value.ownBlock] at e)
/-- a map in memory, its rows apart from nothing -/
def OMapD (w : World) (B : Nat) (v : Value) (m : MMap) : Prop := ∃ a0 a1, v = .agg #[a0, a1] ∧ OInts w B a0 m.sorts ∧ OInts w B a1 m.ops
theorem OMapD.reads {w : World} {B : Nat} {v : Value} {m : MMap} (h : OMapD w B v m) : RMap w v m := by
  obtain ⟨a, b, rfl, h0, h1⟩ := h
  exact ⟨a, b, rfl, h0.reads, h1.reads⟩
theorem OMapD.past {w w' : World} {B g : Nat} {v : Value} {m : MMap} (h : OMapD w B v m) (hg : w.grownBy w' (some g)) (hB : g < B) : OMapD w' B v m := by
  obtain ⟨a, b, e, h0, h1⟩ := h
  exact ⟨a, b, e, own_past h0 hg hB, own_past h1 hg hB⟩
theorem OMapD.same {w w' : World} {B : Nat} {v : Value} {m : MMap} (h : OMapD w B v m) (hk : ∀ k, B ≤ k → k < w.heap.size → w'.heap[k]? = w.heap[k]?) : OMapD w' B v m := by
  obtain ⟨a, b, e, h0, h1⟩ := h
  exact ⟨a, b, e, h0.same hk, h1.same hk⟩
theorem OMapD.base {w : World} {B B' : Nat} {v : Value} {m : MMap} (h : OMapD w B v m) (hB : B' ≤ B) : OMapD w B' v m := by
  obtain ⟨a, b, e, h0, h1⟩ := h
  exact ⟨a, b, e, h0.base hB, h1.base hB⟩
/-- a signature and a map are written into their result boxes (blocks b, b + 1) -/
theorem sm_fin {wz w : World} {b g q : Nat} {sorts : Int} {u x y : Value} (hs : wz.heap[b]? = some (.cells #[.int .i64 0, .slice none 0 0] 25 (0, 0))) (he : wz.heap[b + 1]? = some (.cells #[.slice none 0 0, .slice none 0 0] 39 (0, 0)))
    (hg : w.grownBy wz (some g)) (hb : w.heap.size ≤ b) (hgb : g < b) (hr : RRd wz g q) :
    let w9 := (((wz.setCell ⟨b, 0, none⟩ (.int .i64 sorts)).setCell ⟨b, 1, none⟩ u).setCell ⟨b + 1, 0, none⟩ x).setCell ⟨b + 1, 1, none⟩ y
    w9.heap[b]? = some (.cells #[.int .i64 sorts, u] 25 (0, 0)) ∧ w9.heap[b + 1]? = some (.cells #[x, y] 39 (0, 0)) ∧ RRd w9 g q ∧ w.grownBy w9 (some g) ∧ (∀ k, k ≠ b → k ≠ b + 1 → w9.heap[k]? = wz.heap[k]?) := by
  intro w9
  have hlow : ∀ k, k ≠ b → k ≠ b + 1 → w9.heap[k]? = wz.heap[k]? := fun k h1 h2 =>
    (((Below.heap_setCell _ ⟨b + 1, 1, none⟩ y k h2).trans (Below.heap_setCell _ ⟨b + 1, 0, none⟩ x k h2)).trans (Below.heap_setCell _ ⟨b, 1, none⟩ u k h1)).trans (Below.heap_setCell _ ⟨b, 0, none⟩ _ k h1)
  have a1 := block_set (block_set hs 0 (.int .i64 sorts)) 1 u
  have a2 : ((wz.setCell ⟨b, 0, none⟩ (.int .i64 sorts)).setCell ⟨b, 1, none⟩ u).heap[b + 1]? = _ := (Below.heap_setCell _ ⟨b, 1, none⟩ u _ (by show b + 1 ≠ b; omega)).trans ((Below.heap_setCell _ ⟨b, 0, none⟩ _ _ (by show b + 1 ≠ b; omega)).trans he)
  refine ⟨(Below.heap_setCell _ ⟨b + 1, 1, none⟩ y _ (by show b ≠ b + 1; omega)).trans ((Below.heap_setCell _ ⟨b + 1, 0, none⟩ x _ (by show b ≠ b + 1; omega)).trans a1), block_set (block_set a2 0 x) 1 y, ?_, ?_, hlow⟩
  · exact (((hr.setCell (by omega) _).setCell (by omega) _).setCell (by omega) _).setCell (by omega) _
  · exact gr_setCell (gr_setCell (gr_setCell (gr_setCell hg (.inr hb) _) (.inr hb) _) (.inr (by show w.heap.size ≤ b + 1; omega)) _) (.inr (by show w.heap.size ≤ b + 1; omega)) _
theorem OMapD.drew {x : World} {b : Nat} {v : Value} {m : MMap} (h : OMapD x b v m) : OMapD x.drew b v m := h
theorem osig_ofm {w : World} {B : Nat} {a0 a1 : Value} {s : MSig} (h : OSig w B (.agg #[a0, a1]) s) : ORows w B a1 s.ops := by
  obtain ⟨u, e, h⟩ := h
  have e2 : a1 = u := by injection e with e; simp at e; exact e.2
  rw [e2]; exact h
/-- what l20Into answers; B: where the given signature's rows begin -/
def IntoPost (a : MSig) (B g p : Nat) (w : World) (e : Ending) (w' : World) : Prop :=
  ∃ (bv mv : Value) (b : MSig) (m : MMap) (q : Nat), e = .returned (.tuple #[bv, mv]) ∧ OSig w' B bv b ∧ (b = a ∨ (b.ops.length ≤ 6 ∧ 0 ≤ b.sorts ∧ b.sorts ≤ 3)) ∧ OMapD w' w.heap.size mv m ∧ m.sorts.length ≤ 3 ∧ m.ops.length ≤ 6 ∧ RRd w' g q ∧ q ≤ p + 20 ∧ w.grownBy w' (some g)

set_option maxHeartbeats 3200000 in
set_option maxRecDepth 100000 in
theorem into_any (a : MSig) (g p : Nat) (w : World) (v : Value) (B : Nat) (hos : OSig w B v a) (hgB : g < B) (hBw : B ≤ w.heap.size) (hr : RRd w g p) (hp : p ≤ 10000000) :
    Calls Try.prog 134 #[.pointer (some ⟨g, 0, none⟩), v] w (IntoPost a B g p w) := by
  obtain ⟨i0, hi0, hz0, hz1, hz2⟩ := info_parts Try.info_int
  obtain ⟨i1, hj, hy0, hy1, hy2⟩ := info_parts Try.info_ints
  have hgl := hr.lt
  have h1 := hos.reads
  obtain ⟨Aaa, caa, rfl⟩ := h1.form
  have hb : Below w.heap.size w (((w.alloc (.cells #[.int .i64 a.sorts, .slice Aaa a.ops.length caa] 25)).alloc (.cells #[.int .i64 0, .slice none 0 0] 25)).alloc (.cells #[.slice none 0 0, .slice none 0 0] 39)) := ((below_alloc _ _).alloc (by simp) _).alloc (by simp; omega) _
  have HB := Lib.hid hb
  have hsz : (((w.alloc (.cells #[.int .i64 a.sorts, .slice Aaa a.ops.length caa] 25)).alloc (.cells #[.int .i64 0, .slice none 0 0] 25)).alloc (.cells #[.slice none 0 0, .slice none 0 0] 39)).heap.size = w.heap.size + 3 := by simp
  have Ha := Lib.hid (h1.keep hb)
  have a0 := cell_keep (below_alloc ((w.alloc (.cells #[.int .i64 a.sorts, .slice Aaa a.ops.length caa] 25)).alloc (.cells #[.int .i64 0, .slice none 0 0] 25)) (.cells #[.slice none 0 0, .slice none 0 0] 39)) (cell_keep (below_alloc (w.alloc (.cells #[.int .i64 a.sorts, .slice Aaa a.ops.length caa] 25)) (.cells #[.int .i64 0, .slice none 0 0] 25)) (bx_at (w) #[.int .i64 a.sorts, .slice Aaa a.ops.length caa] 25 (k := 0) rfl))
  have a1 := cell_keep (below_alloc ((w.alloc (.cells #[.int .i64 a.sorts, .slice Aaa a.ops.length caa] 25)).alloc (.cells #[.int .i64 0, .slice none 0 0] 25)) (.cells #[.slice none 0 0, .slice none 0 0] 39)) (cell_keep (below_alloc (w.alloc (.cells #[.int .i64 a.sorts, .slice Aaa a.ops.length caa] 25)) (.cells #[.int .i64 0, .slice none 0 0] 25)) (bx_at (w) #[.int .i64 a.sorts, .slice Aaa a.ops.length caa] 25 (k := 1) rfl))
  have HZr := Lib.hid (show (((w.alloc (.cells #[.int .i64 a.sorts, .slice Aaa a.ops.length caa] 25)).alloc (.cells #[.int .i64 0, .slice none 0 0] 25)).alloc (.cells #[.slice none 0 0, .slice none 0 0] 39)).heap[w.heap.size + 1]? = some (.cells #[.int .i64 0, .slice none 0 0] 25 (0, 0)) from (heap_alloc_old ((w.alloc (.cells #[.int .i64 a.sorts, .slice Aaa a.ops.length caa] 25)).alloc (.cells #[.int .i64 0, .slice none 0 0] 25)) _ (by simp)).trans ((congrArg (fun i => ((w.alloc (.cells #[.int .i64 a.sorts, .slice Aaa a.ops.length caa] 25)).alloc (.cells #[.int .i64 0, .slice none 0 0] 25)).heap[i]?) (by simp)).trans (heap_alloc_new (w.alloc (.cells #[.int .i64 a.sorts, .slice Aaa a.ops.length caa] 25)) _)))
  have HZs := Lib.hid (show (((w.alloc (.cells #[.int .i64 a.sorts, .slice Aaa a.ops.length caa] 25)).alloc (.cells #[.int .i64 0, .slice none 0 0] 25)).alloc (.cells #[.slice none 0 0, .slice none 0 0] 39)).heap[w.heap.size + 1 + 1]? = some (.cells #[.slice none 0 0, .slice none 0 0] 39 (0, 0)) from (congrArg (fun i => (((w.alloc (.cells #[.int .i64 a.sorts, .slice Aaa a.ops.length caa] 25)).alloc (.cells #[.int .i64 0, .slice none 0 0] 25)).alloc (.cells #[.slice none 0 0, .slice none 0 0] 39)).heap[i]?) (by simp)).trans (heap_alloc_new ((w.alloc (.cells #[.int .i64 a.sorts, .slice Aaa a.ops.length caa] 25)).alloc (.cells #[.int .i64 0, .slice none 0 0] 25)) _))
  generalize hW : ((w.alloc (.cells #[.int .i64 a.sorts, .slice Aaa a.ops.length caa] 25)).alloc (.cells #[.int .i64 0, .slice none 0 0] 25)).alloc (.cells #[.slice none 0 0, .slice none 0 0] 39) = W at HB hsz Ha a0 a1 HZr HZs
  clear hb h1
  have HORW := Lib.hid hos
  clear hos
  have HRD := Lib.hid (hr.keep HB.out)
  have HWS := Lib.hid hsz
  clear hr hsz
  cases hv : validB a with
  | false =>
    have HV := Lib.hid hv
    clear hv
    go_enter Try.func134, Try.ntmps134
    go_wp2_with fail
    clear hW
    refine (specSigValid_any _ a _ Ha.out).mono ?_
    rw [HV.out]
    rintro e wz ⟨rfl, hb⟩
    replace HB := Lib.hid (sz_keep HB.out hb)
    replace a0 := cell_keep hb a0
    replace a1 := cell_keep hb a1
    replace Ha := Lib.hid (Ha.out.keep hb)
    replace HRD := Lib.hid (HRD.out.keep hb)
    replace HZr := Lib.hid (blk_keep HZr.out hb)
    replace HZs := Lib.hid (blk_keep HZs.out hb)
    clear hb
    have hrs := HZr.out
    have hre := HZs.out
    have hgz := gr_below (gr_refl w g) HB.out
    have HGZ := Lib.hid hgz
    have D := Lib.hid (sm_fin (sorts := a.sorts) (u := .slice Aaa a.ops.length caa) (x := .slice none 0 0) (y := .slice none 0 0) hrs hre hgz (by omega) (by omega) HRD.out)
    have r0 := block_cell hrs 0
    have r1 := block_cell hrs 1
    have r2 := block_cell hre 0
    have r3 := block_cell hre 1
    have rf0 := block_free hrs 0
    have rf1 := block_free hrs 1
    have rf2 := block_free hre 0
    have rf3 := block_free hre 1
    simp at r0 r1 r2 r3
    clear hrs hre hgz
    go_wp2
    obtain ⟨d1, d2, d3, d4, d5⟩ := D.out
    generalize (((wz.setCell ⟨w.heap.size + 1, 0, none⟩ (.int .i64 a.sorts)).setCell ⟨w.heap.size + 1, 1, none⟩ (.slice Aaa a.ops.length caa)).setCell ⟨w.heap.size + 1 + 1, 0, none⟩ (.slice none 0 0)).setCell ⟨w.heap.size + 1 + 1, 1, none⟩ (.slice none 0 0) = w9 at d1 d2 d3 d4 d5 ⊢
    have k0 := (block_cell d1 0)
    have k1 := (block_cell d1 1)
    have k2 := (block_cell d2 0)
    have k3 := (block_cell d2 1)
    simp at k0 k1 k2 k3
    clear r0 r1 r2 r3 rf0 rf1 rf2 rf3 a0 a1
    refine bodyPost_ret (v := .tuple #[.agg #[.int .i64 a.sorts, (.slice Aaa a.ops.length caa)], .agg #[(.slice none 0 0), (.slice none 0 0)]]) (by simp [results, Try.results134, go_sem, k0, k1, k2, k3]) rfl ?_
    exact ⟨_, _, a, ⟨[], []⟩, p, rfl, osig_past HORW.out d4 (by omega), .inl rfl, ⟨_, _, rfl, OInts.nil _ _, OInts.nil _ _⟩, by simp, by simp, d3, by omega, d4⟩
  | true =>
    have HV := Lib.hid hv
    have HVS := Lib.hid (valid_sorts hv)
    have HFW := Lib.hid (show a.ops.length ≤ 6 ∧ 0 ≤ a.sorts ∧ a.sorts ≤ 3 by have := HVS.out; omega)
    clear hv
    go_enter Try.func134, Try.ntmps134
    go_wp2_with fail
    clear hW
    refine (specSigValid_any _ a _ Ha.out).mono ?_
    rw [HV.out]
    rintro e wb ⟨rfl, hb⟩
    replace HB := Lib.hid (sz_keep HB.out hb)
    replace a0 := cell_keep hb a0
    replace a1 := cell_keep hb a1
    replace Ha := Lib.hid (Ha.out.keep hb)
    replace HRD := Lib.hid (HRD.out.keep hb)
    replace HZr := Lib.hid (blk_keep HZr.out hb)
    replace HZs := Lib.hid (blk_keep HZs.out hb)
    clear hb
    have HWB := Lib.hid (show w.heap.size + 3 ≤ wb.heap.size by have := HZs.out; have := (Array.getElem?_eq_some_iff.1 this).1; omega)
    have hb3 := below_alloc wb (.cells #[.slice none 0 0, .slice none 0 0] 39)
    have hl3 : (wb.alloc (.cells #[.slice none 0 0, .slice none 0 0] 39)).heap[wb.heap.size]? = some (.cells #[.slice none 0 0, .slice none 0 0] 39 (0, 0)) := heap_alloc_new wb _
    generalize hW3 : wb.alloc (.cells #[.slice none 0 0, .slice none 0 0] 39) = W3 at hb3 hl3
    have hl4 : ((W3.setCell ⟨wb.heap.size, 0, none⟩ (.slice none 0 0)).setCell ⟨wb.heap.size, 1, none⟩ (.slice none 0 0)).heap[wb.heap.size]? = some (.cells #[.slice none 0 0, .slice none 0 0] 39 (0, 0)) := blk_set (blk_set hl3 0 (.slice none 0 0)) 1 (.slice none 0 0)
    have hb4 : Below wb.heap.size wb ((W3.setCell ⟨wb.heap.size, 0, none⟩ (.slice none 0 0)).setCell ⟨wb.heap.size, 1, none⟩ (.slice none 0 0)) := (hb3.setCell (p := ⟨wb.heap.size, 0, none⟩) (Nat.le_refl _) _).setCell (p := ⟨wb.heap.size, 1, none⟩) (Nat.le_refl _) _
    have j0 := blk_cell hl3 0
    have j1 := blk_cell hl3 1
    have jf0 := blk_free hl3 0
    have jf1 := blk_free hl3 1
    simp at j0 j1
    generalize hW4 : (W3.setCell ⟨wb.heap.size, 0, none⟩ (.slice none 0 0)).setCell ⟨wb.heap.size, 1, none⟩ (.slice none 0 0) = W4 at hl4 hb4
    have HL4 := Lib.hid hl4
    have HB4 := Lib.hid hb4
    have HCA := Lib.hid (And.intro a0 a1)
    clear hb3 hl3 hl4 hb4
    go_wp2_with fail
    clear hW3 hW4 j0 j1 jf0 jf1
    refine (pick_any g p _ _ (HRD.out.keep HB4.out) (by omega)).mono ?_
    rintro e w3 ⟨x3, rfl, hx3, hr3, hg3⟩
    have hx3 := hx3.2 (by omega)
    have HR3 := Lib.hid hr3
    have HG3 := Lib.hid (gr_trans (gr_below (gr_refl wb g) HB4.out) hg3 (fun x e => by injection e with e; exact .inl e.symm))
    have HL3 := Lib.hid (gr_at hg3 (by have := HWB.out; omega) HL4.out)
    clear hr3 hg3 a0 a1
    go_wp2_with fail
    refine (sigOf_any g (p + 1) 2 _ _ HR3.out (by omega) (by omega)).mono ?_
    rintro e w5 ⟨sv, ⟨sorts, rows⟩, q5, rfl, ⟨u, rfl, ho⟩, hs1, hs2, hr5, hq5, hg5⟩
    simp only at hs1 hs2 ho
    obtain ⟨us, hu1, hu2, hu3, hu4⟩ := id ho
    obtain ⟨Au, cu, rfl, -⟩ := own_reads hu1
    have hz3 : wb.heap.size ≤ w3.heap.size := HG3.out.size
    have HIN := Lib.hid (show InAt wb (w5.alloc (.cells #[.int .i64 sorts, .slice Au rows.length cu] 25)) g wb.heap.size w5.heap.size sorts (.slice Au rows.length cu) (.slice none 0 0) (.slice none 0 0) us rows [] [] q5 from
      ⟨gr_at (gr_alloc hg5 _) (by have := HWB.out; omega) HL3.out, heap_alloc_new w5 _, (own_base hu1 hz3).alloc _, hu2, fun j v r a b => World.ownsRow.alloc (OInts.base (hu3 j v r a b) hz3) _, hu4, fun _ _ _ => off_nil _, fun _ _ _ => off_nil _, OInts.nil _ _, OInts.nil _ _, .inl rfl, hr5.keep (below_alloc w5 _), gr_trans HG3.out (gr_alloc hg5 _) (fun x e => by injection e with e; exact .inl e.symm), by have := HWB.out; omega, Nat.le_refl _, by have := hg5.size; omega⟩)
    have HSO := Lib.hid (show 0 ≤ sorts ∧ sorts ≤ 3 by rw [hs1]; omega)
    have HRL := Lib.hid hs2
    have HQ5 := Lib.hid (show q5 ≤ p + 10 by omega)
    clear ho hu1 hu2 hu3 hu4 hs1 hs2 hr5 hq5 hg5 hx3 HR3 HL3
    go_wp2
    go_loopw [8] (fun i wr => ∃ k : Nat, ∃ x0 ss q, (k : Int) ≤ a.sorts ∧ i = .int .i64 k ∧ InAt wb wr g wb.heap.size w5.heap.size sorts (.slice Au rows.length cu) x0 (.slice none 0 0) us rows ss [] q ∧ ss.length = k ∧ q ≤ p + 10 + k) (fun i _ => a.sorts.toNat - (intOf i).toNat)
    case atStart => exact ⟨0, _, [], q5, by have := HFW.out; omega, rfl, HIN.out, rfl, by have := HQ5.out; omega⟩
    case round =>
      obtain ⟨k, x0, ss, q, hk, rfl, hat, hsl, hq⟩ := hrel
      have HAT := Lib.hid hat
      have HSL := Lib.hid hsl
      have hk3 : k ≤ 3 := by have := HFW.out; omega
      have HLT := Lib.hid hk
      obtain ⟨A0, c0, rfl, -⟩ := own_reads hat.o0
      have a0 := hat.gr.cell HCA.out.1 (by show some w.heap.size ≠ some g; intro e; injection e with e; omega)
      have a1 := hat.gr.cell HCA.out.2 (by show some w.heap.size ≠ some g; intro e; injection e with e; omega)
      clear hat hsl
      by_cases hlt : (k : Int) < a.sorts
      · have HA0 := Lib.hid HAT.out.drew
        have HPP := Lib.hid (show ss.length + 1 ≤ maxLen ∧ (ss.length + 1) * 8 ≤ 140737488355328 by rw [maxLen_eq]; have := HSL.out; have := HFW.out; omega)
        go_wp2_with fail
        clear a0 a1
        have e0 := block_cell HA0.out.hm 0
        simp at e0
        have f0 := block_cell HA0.out.hs 0
        simp at f0
        refine wp_region_held_drew (S := (fun _ => True)) (by kernel_rfl) ?_ (fun hHeld => ?_)
        · exact trivial
        refine wpAnyH_take (i := 0) (oi := _) (v := ?_) rfl (by kernel_rfl) (by kernel_rfl) (by kernel_rfl) (fun _ _ _ h => h) (Or.inl ⟨by rfl, ?_⟩) (by assumption) ?_
        rotate_left
        · first | (intro w' hSw; (try dsimp only at hSw); go_simp; done) | (intro w' hSw; (try dsimp only at hSw); go_simp; with_reducible rfl)
        try simp only [Act.put, List.getElem_toArray, List.getElem_cons_zero, List.getElem_cons_succ, List.setIfInBounds_toArray, List.set_cons_zero, List.set_cons_succ]
        refine wpAnyH_take (i := 2) (oi := _) (v := ?_) rfl (by kernel_rfl) (by kernel_rfl) (by kernel_rfl) (fun _ _ _ h => h) (Or.inl ⟨by rfl, ?_⟩) (by assumption) ?_
        rotate_left
        · first | (intro w' hSw; (try dsimp only at hSw); go_simp; done) | (intro w' hSw; (try dsimp only at hSw); go_simp; with_reducible rfl)
        try simp only [Act.put, List.getElem_toArray, List.getElem_cons_zero, List.getElem_cons_succ, List.setIfInBounds_toArray, List.set_cons_zero, List.set_cons_succ]
        refine wpAnyH_take (i := 3) (oi := _) (v := ?_) rfl (by kernel_rfl) (by kernel_rfl) (by kernel_rfl) (fun _ _ _ h => h) (Or.inl ⟨by rfl, ?_⟩) (by assumption) ?_
        rotate_left
        · first | (intro w' hSw; (try dsimp only at hSw); go_simp; done) | (intro w' hSw; (try dsimp only at hSw); go_simp; with_reducible rfl)
        try simp only [Act.put, List.getElem_toArray, List.getElem_cons_zero, List.getElem_cons_succ, List.setIfInBounds_toArray, List.set_cons_zero, List.set_cons_succ]
        refine wpAnyH_ready (rs := [1, 4]) (by kernel_rfl) (by simp) ?_
        refine AllReadyH.cons (o := _) rfl (fun K hK => ?_) ?_
        · go_simp
          refine hK.out _ _ trivial (fun hHeld => ?_)
          clear hK K
          try simp only [Act.put, List.getElem_toArray, List.getElem_cons_zero, List.getElem_cons_succ, List.setIfInBounds_toArray, List.set_cons_zero, List.set_cons_succ]
          refine wpAnyH_ready (rs := [4]) (by kernel_rfl) (by simp) ?_
          refine AllReadyH.cons (o := _) rfl (fun K hK => ?_) ?_
          · go_simp
            refine hK.out _ _ trivial (fun hHeld => ?_)
            clear hK K
            try simp only [Act.put, List.getElem_toArray, List.getElem_cons_zero, List.getElem_cons_succ, List.setIfInBounds_toArray, List.set_cons_zero, List.set_cons_succ]
            refine wpAnyH_ready (rs := [5]) (by kernel_rfl) (by simp) ?_
            refine AllReadyH.cons (o := _) rfl (fun K hK => ?_) ?_
            · go_simp
              refine (pick_any g q _ _ HA0.out.rd (by omega)).mono ?_
              rintro e w2 ⟨y, rfl, hy, hr, hgp⟩
              have HA1 := Lib.hid (HA0.out.later hgp hr)
              clear hr hgp hy
              go_wp2_with fail
              refine hK.out _ _ trivial (fun hHeld => ?_)
              clear hK K
              try simp only [Act.put, List.getElem_toArray, List.getElem_cons_zero, List.getElem_cons_succ, List.setIfInBounds_toArray, List.set_cons_zero, List.set_cons_succ]
              refine wpAnyH_ready (rs := [6]) (by kernel_rfl) (by simp) ?_
              refine AllReadyH.cons (o := _) rfl (fun K hK => ?_) ?_
              · go_simp
                have HA2 := Lib.hid (HA1.out.keep (below_alloc w2 (.cells #[.int .i64 y] 3)))
                have HN1 := Lib.hid (led_new w2 y)
                refine hK.out _ _ trivial (fun hHeld => ?_)
                clear hK K
                try simp only [Act.put, List.getElem_toArray, List.getElem_cons_zero, List.getElem_cons_succ, List.setIfInBounds_toArray, List.set_cons_zero, List.set_cons_succ]
                refine wpAnyH_ready (rs := [7]) (by kernel_rfl) (by simp) ?_
                refine AllReadyH.cons (o := _) rfl (fun K hK => ?_) ?_
                · refine step_append_own_at rfl (.tmp 30) (.tmp 35) 26 rfl wb.heap.size 3 i0 (.int .i64 0) 1 8 Try.underlying26 hi0 hz0 hz1 hz2 rfl (by omega) _ ss.length (ss.map (Value.int .i64)) rfl HA2.out.o0 ⟨w2.heap.size, 0, none⟩ 1 1 ([y].map (Value.int .i64)) rfl (by simp) HN1.out (ints_one _) HPP.out.1 HPP.out.2 (by have := HA2.out.gr.size; exact this) ?_
                  intro v6 w6 hv6 hg6 hat6
                  have HO6 := Lib.hid (led_app (rs := [y]) rfl hv6)
                  obtain ⟨A6, c6, rfl, -⟩ := own_reads hv6
                  have HP := Lib.hid (HA1.out.grow0 hg6 HO6.out hat6)
                  have q0 := block_cell HP.out.2 0
                  have qf := block_free HP.out.2 0
                  simp at q0
                  clear hv6 hg6 hat6
                  refine hK.out _ _ trivial (fun hHeld => ?_)
                  clear hK K
                  try simp only [Act.put, List.getElem_toArray, List.getElem_cons_zero, List.getElem_cons_succ, List.setIfInBounds_toArray, List.set_cons_zero, List.set_cons_succ]
                  refine wpAnyH_ready (rs := [8]) (by kernel_rfl) (by simp) ?_
                  refine AllReadyH.cons (o := _) rfl (fun K hK => ?_) ?_
                  · go_simp
                    refine hK.out _ _ trivial (fun hHeld => ?_)
                    clear hK K
                    try simp only [Act.put, List.getElem_toArray, List.getElem_cons_zero, List.getElem_cons_succ, List.setIfInBounds_toArray, List.set_cons_zero, List.set_cons_succ]
                    refine wpAnyH_ready (rs := [9]) (by kernel_rfl) (by simp) ?_
                    refine AllReadyH.cons (o := _) rfl (fun K hK => ?_) ?_
                    · go_simp
                      refine hK.out _ _ trivial (fun hHeld => ?_)
                      clear hK K
                      try simp only [Act.put, List.getElem_toArray, List.getElem_cons_zero, List.getElem_cons_succ, List.setIfInBounds_toArray, List.set_cons_zero, List.set_cons_succ]
                      refine wpAnyH_done (by kernel_rfl) ?_ _
                      go_wp2
                      go_roundw
                      case rel => exact ⟨k + 1, _, ss ++ [y], q + 1, by omega, by go_num, HP.out.1, by have := HSL.out; simp; omega, by omega⟩
                      case measure => simp [intOf]; omega
                    exact AllReadyH.nil
                  exact AllReadyH.nil
                exact AllReadyH.nil
              exact AllReadyH.nil
            exact AllReadyH.nil
          exact AllReadyH.nil
        refine AllReadyH.cons (o := _) rfl (fun K hK => ?_) ?_
        · go_simp
          refine hK.out _ _ trivial (fun hHeld => ?_)
          clear hK K
          try simp only [Act.put, List.getElem_toArray, List.getElem_cons_zero, List.getElem_cons_succ, List.setIfInBounds_toArray, List.set_cons_zero, List.set_cons_succ]
          refine wpAnyH_ready (rs := [1, 5]) (by kernel_rfl) (by simp) ?_
          refine AllReadyH.cons (o := _) rfl (fun K hK => ?_) ?_
          · go_simp
            refine hK.out _ _ trivial (fun hHeld => ?_)
            clear hK K
            try simp only [Act.put, List.getElem_toArray, List.getElem_cons_zero, List.getElem_cons_succ, List.setIfInBounds_toArray, List.set_cons_zero, List.set_cons_succ]
            refine wpAnyH_ready (rs := [5]) (by kernel_rfl) (by simp) ?_
            refine AllReadyH.cons (o := _) rfl (fun K hK => ?_) ?_
            · go_simp
              refine (pick_any g q _ _ HA0.out.rd (by omega)).mono ?_
              rintro e w2 ⟨y, rfl, hy, hr, hgp⟩
              have HA1 := Lib.hid (HA0.out.later hgp hr)
              clear hr hgp hy
              go_wp2_with fail
              refine hK.out _ _ trivial (fun hHeld => ?_)
              clear hK K
              try simp only [Act.put, List.getElem_toArray, List.getElem_cons_zero, List.getElem_cons_succ, List.setIfInBounds_toArray, List.set_cons_zero, List.set_cons_succ]
              refine wpAnyH_ready (rs := [6]) (by kernel_rfl) (by simp) ?_
              refine AllReadyH.cons (o := _) rfl (fun K hK => ?_) ?_
              · go_simp
                have HA2 := Lib.hid (HA1.out.keep (below_alloc w2 (.cells #[.int .i64 y] 3)))
                have HN1 := Lib.hid (led_new w2 y)
                refine hK.out _ _ trivial (fun hHeld => ?_)
                clear hK K
                try simp only [Act.put, List.getElem_toArray, List.getElem_cons_zero, List.getElem_cons_succ, List.setIfInBounds_toArray, List.set_cons_zero, List.set_cons_succ]
                refine wpAnyH_ready (rs := [7]) (by kernel_rfl) (by simp) ?_
                refine AllReadyH.cons (o := _) rfl (fun K hK => ?_) ?_
                · refine step_append_own_at rfl (.tmp 30) (.tmp 35) 26 rfl wb.heap.size 3 i0 (.int .i64 0) 1 8 Try.underlying26 hi0 hz0 hz1 hz2 rfl (by omega) _ ss.length (ss.map (Value.int .i64)) rfl HA2.out.o0 ⟨w2.heap.size, 0, none⟩ 1 1 ([y].map (Value.int .i64)) rfl (by simp) HN1.out (ints_one _) HPP.out.1 HPP.out.2 (by have := HA2.out.gr.size; exact this) ?_
                  intro v6 w6 hv6 hg6 hat6
                  have HO6 := Lib.hid (led_app (rs := [y]) rfl hv6)
                  obtain ⟨A6, c6, rfl, -⟩ := own_reads hv6
                  have HP := Lib.hid (HA1.out.grow0 hg6 HO6.out hat6)
                  have q0 := block_cell HP.out.2 0
                  have qf := block_free HP.out.2 0
                  simp at q0
                  clear hv6 hg6 hat6
                  refine hK.out _ _ trivial (fun hHeld => ?_)
                  clear hK K
                  try simp only [Act.put, List.getElem_toArray, List.getElem_cons_zero, List.getElem_cons_succ, List.setIfInBounds_toArray, List.set_cons_zero, List.set_cons_succ]
                  refine wpAnyH_ready (rs := [8]) (by kernel_rfl) (by simp) ?_
                  refine AllReadyH.cons (o := _) rfl (fun K hK => ?_) ?_
                  · go_simp
                    refine hK.out _ _ trivial (fun hHeld => ?_)
                    clear hK K
                    try simp only [Act.put, List.getElem_toArray, List.getElem_cons_zero, List.getElem_cons_succ, List.setIfInBounds_toArray, List.set_cons_zero, List.set_cons_succ]
                    refine wpAnyH_ready (rs := [9]) (by kernel_rfl) (by simp) ?_
                    refine AllReadyH.cons (o := _) rfl (fun K hK => ?_) ?_
                    · go_simp
                      refine hK.out _ _ trivial (fun hHeld => ?_)
                      clear hK K
                      try simp only [Act.put, List.getElem_toArray, List.getElem_cons_zero, List.getElem_cons_succ, List.setIfInBounds_toArray, List.set_cons_zero, List.set_cons_succ]
                      refine wpAnyH_done (by kernel_rfl) ?_ _
                      go_wp2
                      go_roundw
                      case rel => exact ⟨k + 1, _, ss ++ [y], q + 1, by omega, by go_num, HP.out.1, by have := HSL.out; simp; omega, by omega⟩
                      case measure => simp [intOf]; omega
                    exact AllReadyH.nil
                  exact AllReadyH.nil
                exact AllReadyH.nil
              exact AllReadyH.nil
            exact AllReadyH.nil
          refine AllReadyH.cons (o := _) rfl (fun K hK => ?_) ?_
          · go_simp
            refine (pick_any g q _ _ HA0.out.rd (by omega)).mono ?_
            rintro e w2 ⟨y, rfl, hy, hr, hgp⟩
            have HA1 := Lib.hid (HA0.out.later hgp hr)
            have e1 := block_cell HA1.out.hm 0
            simp at e1
            clear hr hgp hy
            go_wp2_with fail
            refine hK.out _ _ trivial (fun hHeld => ?_)
            clear hK K
            try simp only [Act.put, List.getElem_toArray, List.getElem_cons_zero, List.getElem_cons_succ, List.setIfInBounds_toArray, List.set_cons_zero, List.set_cons_succ]
            refine wpAnyH_ready (rs := [1, 6]) (by kernel_rfl) (by simp) ?_
            refine AllReadyH.cons (o := _) rfl (fun K hK => ?_) ?_
            · go_simp
              refine hK.out _ _ trivial (fun hHeld => ?_)
              clear hK K
              try simp only [Act.put, List.getElem_toArray, List.getElem_cons_zero, List.getElem_cons_succ, List.setIfInBounds_toArray, List.set_cons_zero, List.set_cons_succ]
              refine wpAnyH_ready (rs := [6]) (by kernel_rfl) (by simp) ?_
              refine AllReadyH.cons (o := _) rfl (fun K hK => ?_) ?_
              · go_simp
                have HA2 := Lib.hid (HA1.out.keep (below_alloc w2 (.cells #[.int .i64 y] 3)))
                have HN1 := Lib.hid (led_new w2 y)
                refine hK.out _ _ trivial (fun hHeld => ?_)
                clear hK K
                try simp only [Act.put, List.getElem_toArray, List.getElem_cons_zero, List.getElem_cons_succ, List.setIfInBounds_toArray, List.set_cons_zero, List.set_cons_succ]
                refine wpAnyH_ready (rs := [7]) (by kernel_rfl) (by simp) ?_
                refine AllReadyH.cons (o := _) rfl (fun K hK => ?_) ?_
                · refine step_append_own_at rfl (.tmp 30) (.tmp 35) 26 rfl wb.heap.size 3 i0 (.int .i64 0) 1 8 Try.underlying26 hi0 hz0 hz1 hz2 rfl (by omega) _ ss.length (ss.map (Value.int .i64)) rfl HA2.out.o0 ⟨w2.heap.size, 0, none⟩ 1 1 ([y].map (Value.int .i64)) rfl (by simp) HN1.out (ints_one _) HPP.out.1 HPP.out.2 (by have := HA2.out.gr.size; exact this) ?_
                  intro v6 w6 hv6 hg6 hat6
                  have HO6 := Lib.hid (led_app (rs := [y]) rfl hv6)
                  obtain ⟨A6, c6, rfl, -⟩ := own_reads hv6
                  have HP := Lib.hid (HA1.out.grow0 hg6 HO6.out hat6)
                  have q0 := block_cell HP.out.2 0
                  have qf := block_free HP.out.2 0
                  simp at q0
                  clear hv6 hg6 hat6
                  refine hK.out _ _ trivial (fun hHeld => ?_)
                  clear hK K
                  try simp only [Act.put, List.getElem_toArray, List.getElem_cons_zero, List.getElem_cons_succ, List.setIfInBounds_toArray, List.set_cons_zero, List.set_cons_succ]
                  refine wpAnyH_ready (rs := [8]) (by kernel_rfl) (by simp) ?_
                  refine AllReadyH.cons (o := _) rfl (fun K hK => ?_) ?_
                  · go_simp
                    refine hK.out _ _ trivial (fun hHeld => ?_)
                    clear hK K
                    try simp only [Act.put, List.getElem_toArray, List.getElem_cons_zero, List.getElem_cons_succ, List.setIfInBounds_toArray, List.set_cons_zero, List.set_cons_succ]
                    refine wpAnyH_ready (rs := [9]) (by kernel_rfl) (by simp) ?_
                    refine AllReadyH.cons (o := _) rfl (fun K hK => ?_) ?_
                    · go_simp
                      refine hK.out _ _ trivial (fun hHeld => ?_)
                      clear hK K
                      try simp only [Act.put, List.getElem_toArray, List.getElem_cons_zero, List.getElem_cons_succ, List.setIfInBounds_toArray, List.set_cons_zero, List.set_cons_succ]
                      refine wpAnyH_done (by kernel_rfl) ?_ _
                      go_wp2
                      go_roundw
                      case rel => exact ⟨k + 1, _, ss ++ [y], q + 1, by omega, by go_num, HP.out.1, by have := HSL.out; simp; omega, by omega⟩
                      case measure => simp [intOf]; omega
                    exact AllReadyH.nil
                  exact AllReadyH.nil
                exact AllReadyH.nil
              exact AllReadyH.nil
            refine AllReadyH.cons (o := _) rfl (fun K hK => ?_) ?_
            · go_simp
              have HA2 := Lib.hid (HA1.out.keep (below_alloc w2 (.cells #[.int .i64 y] 3)))
              have HN1 := Lib.hid (led_new w2 y)
              have e2 := block_cell HA2.out.hm 0
              simp at e2
              refine hK.out _ _ trivial (fun hHeld => ?_)
              clear hK K
              try simp only [Act.put, List.getElem_toArray, List.getElem_cons_zero, List.getElem_cons_succ, List.setIfInBounds_toArray, List.set_cons_zero, List.set_cons_succ]
              refine wpAnyH_ready (rs := [1]) (by kernel_rfl) (by simp) ?_
              refine AllReadyH.cons (o := _) rfl (fun K hK => ?_) ?_
              · go_simp
                refine hK.out _ _ trivial (fun hHeld => ?_)
                clear hK K
                try simp only [Act.put, List.getElem_toArray, List.getElem_cons_zero, List.getElem_cons_succ, List.setIfInBounds_toArray, List.set_cons_zero, List.set_cons_succ]
                refine wpAnyH_ready (rs := [7]) (by kernel_rfl) (by simp) ?_
                refine AllReadyH.cons (o := _) rfl (fun K hK => ?_) ?_
                · refine step_append_own_at rfl (.tmp 30) (.tmp 35) 26 rfl wb.heap.size 3 i0 (.int .i64 0) 1 8 Try.underlying26 hi0 hz0 hz1 hz2 rfl (by omega) _ ss.length (ss.map (Value.int .i64)) rfl HA2.out.o0 ⟨w2.heap.size, 0, none⟩ 1 1 ([y].map (Value.int .i64)) rfl (by simp) HN1.out (ints_one _) HPP.out.1 HPP.out.2 (by have := HA2.out.gr.size; exact this) ?_
                  intro v6 w6 hv6 hg6 hat6
                  have HO6 := Lib.hid (led_app (rs := [y]) rfl hv6)
                  obtain ⟨A6, c6, rfl, -⟩ := own_reads hv6
                  have HP := Lib.hid (HA1.out.grow0 hg6 HO6.out hat6)
                  have q0 := block_cell HP.out.2 0
                  have qf := block_free HP.out.2 0
                  simp at q0
                  clear hv6 hg6 hat6
                  refine hK.out _ _ trivial (fun hHeld => ?_)
                  clear hK K
                  try simp only [Act.put, List.getElem_toArray, List.getElem_cons_zero, List.getElem_cons_succ, List.setIfInBounds_toArray, List.set_cons_zero, List.set_cons_succ]
                  refine wpAnyH_ready (rs := [8]) (by kernel_rfl) (by simp) ?_
                  refine AllReadyH.cons (o := _) rfl (fun K hK => ?_) ?_
                  · go_simp
                    refine hK.out _ _ trivial (fun hHeld => ?_)
                    clear hK K
                    try simp only [Act.put, List.getElem_toArray, List.getElem_cons_zero, List.getElem_cons_succ, List.setIfInBounds_toArray, List.set_cons_zero, List.set_cons_succ]
                    refine wpAnyH_ready (rs := [9]) (by kernel_rfl) (by simp) ?_
                    refine AllReadyH.cons (o := _) rfl (fun K hK => ?_) ?_
                    · go_simp
                      refine hK.out _ _ trivial (fun hHeld => ?_)
                      clear hK K
                      try simp only [Act.put, List.getElem_toArray, List.getElem_cons_zero, List.getElem_cons_succ, List.setIfInBounds_toArray, List.set_cons_zero, List.set_cons_succ]
                      refine wpAnyH_done (by kernel_rfl) ?_ _
                      go_wp2
                      go_roundw
                      case rel => exact ⟨k + 1, _, ss ++ [y], q + 1, by omega, by go_num, HP.out.1, by have := HSL.out; simp; omega, by omega⟩
                      case measure => simp [intOf]; omega
                    exact AllReadyH.nil
                  exact AllReadyH.nil
                exact AllReadyH.nil
              exact AllReadyH.nil
            exact AllReadyH.nil
          exact AllReadyH.nil
        exact AllReadyH.nil
  
      · obtain ⟨wl, hwl⟩ : ∃ x : World, x = wr := ⟨_, rfl⟩
        subst hwl
        have HSE := Lib.hid (show (ss.length : Int) = a.sorts by have := HSL.out; have := HFW.out; omega)
        have HQ := Lib.hid (show q ≤ p + 13 by have := HFW.out; omega)
        clear hq hk
        go_wp2
        clear a0 a1
        go_loopw [9, 10, 11] (fun i _ _ wr => ∃ k : Nat, ∃ (u x1 : Value) (us : List Value) (rows : List (List Int)) (os : List Int) (q2 : Nat), k ≤ a.ops.length ∧ i = .int .i64 k ∧ InAt wb wr g wb.heap.size w5.heap.size sorts u (.slice A0 ss.length c0) x1 us rows ss os q2 ∧ os.length = k ∧ rows.length ≤ 2 + k ∧ q2 ≤ p + 13) (fun i _ _ _ => a.ops.length - (intOf i).toNat)
        case atStart => exact ⟨0, _, _, us, rows, [], q, Nat.zero_le _, rfl, HAT.out, rfl, HRL.out, HQ.out⟩
        case round =>
          obtain ⟨k, u, x1, us, rows, os, q2, hk, rfl, hat, hol, hrl, hq2⟩ := hrel
          obtain ⟨wo, hwo⟩ : ∃ x : World, x = wr := ⟨_, rfl⟩
          subst hwo
          have HAT := Lib.hid hat
          have HOL := Lib.hid hol
          have HRL2 := Lib.hid hrl
          have HQ2 := Lib.hid hq2
          obtain ⟨A1, c1, rfl, -⟩ := own_reads hat.o1
          obtain ⟨Au, cu, rfl, -⟩ := own_reads hat.uo
          have a0 := hat.gr.cell HCA.out.1 (by show some w.heap.size ≠ some g; intro e; injection e with e; omega)
          have a1 := hat.gr.cell HCA.out.2 (by show some w.heap.size ≠ some g; intro e; injection e with e; omega)
          have HAW := Lib.hid (show RSig wo (.agg #[.int .i64 a.sorts, .slice Aaa a.ops.length caa]) a from (osig_past HORW.out (gr_trans (gr_below (gr_refl w g) HB.out) hat.gr (fun x e => by injection e with e; exact .inl e.symm)) (by omega)).reads)
          clear hat hol hrl hq2
          by_cases hks : k < a.ops.length
          · have hks' : (k : Int) < (a.ops.length : Int) := by omega
            have hk6 : k ≤ 6 := by have := HFW.out; omega
            obtain ⟨r1, r2, r3⟩ := valid_row HV.out hks
            have HR3 := Lib.hid (show ∀ x ∈ a.ops[k], 0 ≤ x ∧ x < (ss.length : Int) from fun x hx => by have := r3 x hx; have := HSE.out; omega)
            have HR2 := Lib.hid r2
            obtain ⟨br, orr, cr, uo, e, hx, hro⟩ := HAW.out.of.2.at_ hks
            cases e
            obtain ⟨Ao, co, rfl, -⟩ := hro.form
            have HRI := Lib.hid hro
            have m0 := block_cell HAT.out.hm 0
            have m1 := block_cell HAT.out.hm 1
            simp at m0 m1
            have HMR := Lib.hid (show RMap wo (.agg #[.slice A0 ss.length c0, .slice A1 os.length c1]) ⟨ss, os⟩ from ⟨_, _, rfl, HAT.out.o0.reads, HAT.out.o1.reads⟩)
            clear hro r1 r2 r3
            generalize a.ops[k] = row at hx HRI HR3 HR2
            have HSS := Lib.hid HSL.out
            go_wp2_with fail
            refine wp_region_held_drew (S := (fun w' => w'.cell? ⟨wb.heap.size, 0, none⟩ = some (.slice A0 ss.length c0) ∧ w'.cell? ⟨wb.heap.size, 1, none⟩ = some (.slice A1 os.length c1) ∧ w'.cell? ⟨w.heap.size, 1, none⟩ = some (.slice (some ⟨br, orr, none⟩) a.ops.length caa) ∧ w'.cell? ⟨br, orr + k, none⟩ = some (.slice Ao row.length co))) (by kernel_rfl) ?_ (fun hHeld => ?_)
            · exact ⟨m0, m1, a1, hx⟩
            refine wpAnyH_take (i := 0) (oi := _) (v := ?_) rfl (by kernel_rfl) (by kernel_rfl) (by kernel_rfl) (fun _ _ _ h => h) (Or.inl ⟨by rfl, ?_⟩) (by assumption) ?_
            rotate_left
            · first | (intro w' hSw; (try dsimp only at hSw); go_simp; done) | (intro w' hSw; (try dsimp only at hSw); go_simp; with_reducible rfl)
            try simp only [Act.put, List.getElem_toArray, List.getElem_cons_zero, List.getElem_cons_succ, List.setIfInBounds_toArray, List.set_cons_zero, List.set_cons_succ]
            refine wpAnyH_take (i := 1) (oi := _) (v := ?_) rfl (by kernel_rfl) (by kernel_rfl) (by kernel_rfl) (fun _ _ _ h => h) (Or.inl ⟨by rfl, ?_⟩) (by assumption) ?_
            rotate_left
            · first | (intro w' hSw; (try dsimp only at hSw); go_simp; done) | (intro w' hSw; (try dsimp only at hSw); go_simp; with_reducible rfl)
            try simp only [Act.put, List.getElem_toArray, List.getElem_cons_zero, List.getElem_cons_succ, List.setIfInBounds_toArray, List.set_cons_zero, List.set_cons_succ]
            refine wpAnyH_take (i := 2) (oi := _) (v := ?_) rfl (by kernel_rfl) (by kernel_rfl) (by kernel_rfl) (fun _ _ _ h => h) (Or.inl ⟨by rfl, ?_⟩) (by assumption) ?_
            rotate_left
            · first | (intro w' hSw; (try dsimp only at hSw); go_simp; done) | (intro w' hSw; (try dsimp only at hSw); go_simp; with_reducible rfl)
            try simp only [Act.put, List.getElem_toArray, List.getElem_cons_zero, List.getElem_cons_succ, List.setIfInBounds_toArray, List.set_cons_zero, List.set_cons_succ]
            refine wpAnyH_take (i := 3) (oi := _) (v := ?_) rfl (by kernel_rfl) (by kernel_rfl) (by kernel_rfl) (fun _ _ _ h => h) (Or.inl ⟨by rfl, ?_⟩) (by assumption) ?_
            rotate_left
            · first | (intro w' hSw; (try dsimp only at hSw); go_simp; done) | (intro w' hSw; (try dsimp only at hSw); go_simp; with_reducible rfl)
            try simp only [Act.put, List.getElem_toArray, List.getElem_cons_zero, List.getElem_cons_succ, List.setIfInBounds_toArray, List.set_cons_zero, List.set_cons_succ]
            refine wpAnyH_take (i := 4) (oi := _) (v := ?_) rfl (by kernel_rfl) (by kernel_rfl) (by kernel_rfl) (fun _ _ _ h => h) (Or.inl ⟨by rfl, ?_⟩) (by assumption) ?_
            rotate_left
            · first | (intro w' hSw; (try dsimp only at hSw); go_simp; done) | (intro w' hSw; (try dsimp only at hSw); go_simp; with_reducible rfl)
            try simp only [Act.put, List.getElem_toArray, List.getElem_cons_zero, List.getElem_cons_succ, List.setIfInBounds_toArray, List.set_cons_zero, List.set_cons_succ]
            refine wpAnyH_take (i := 5) (oi := _) (v := ?_) rfl (by kernel_rfl) (by kernel_rfl) (by kernel_rfl) (fun _ _ _ h => h) (Or.inl ⟨by rfl, ?_⟩) (by assumption) ?_
            rotate_left
            · first | (intro w' hSw; (try dsimp only at hSw); go_simp; done) | (intro w' hSw; (try dsimp only at hSw); go_simp; with_reducible rfl)
            try simp only [Act.put, List.getElem_toArray, List.getElem_cons_zero, List.getElem_cons_succ, List.setIfInBounds_toArray, List.set_cons_zero, List.set_cons_succ]
            refine wpAnyH_ready (rs := [6]) (by kernel_rfl) (by simp) ?_
            refine AllReadyH.cons (o := _) rfl (fun K hK => ?_) AllReadyH.nil
            go_simp
            refine (l4Row_any _ _ row ⟨ss, os⟩ wo.drew (HMR.out.keep (map_drew (Below.refl _ _))) (HRI.out.keep (map_drew (Below.refl _ _))) HR3.out (by have := HR2.out; omega)).mono ?_
            rintro e wj ⟨rv, rfl, hor, hbj⟩
            have hxj := map_undrew hbj
            have HBJ := Lib.hid hxj
            have HRV := Lib.hid hor
            obtain ⟨Ar, cr2, rfl, -⟩ := own_reads hor
            have n0 := cell_keep hxj m0
            have n1 := cell_keep hxj m1
            have n2 := cell_keep hxj a1
            have n3 := cell_keep hxj hx
            clear hor hbj hxj
            go_wp2_with fail
            refine hK.out _ _ ?_ (fun hHeld => ?_)
            · exact ⟨n0, n1, n2, n3⟩
            clear hK K
            try simp only [Act.put, List.getElem_toArray, List.getElem_cons_zero, List.getElem_cons_succ, List.setIfInBounds_toArray, List.set_cons_zero, List.set_cons_succ]
            refine wpAnyH_take (i := 7) (oi := _) (v := ?_) rfl (by kernel_rfl) (by kernel_rfl) (by kernel_rfl) (fun _ _ _ h => h) (Or.inl ⟨by rfl, ?_⟩) (by assumption) ?_
            rotate_left
            · first | (intro w' hSw; (try dsimp only at hSw); go_simp; done) | (intro w' hSw; (try dsimp only at hSw); go_simp; with_reducible rfl)
            try simp only [Act.put, List.getElem_toArray, List.getElem_cons_zero, List.getElem_cons_succ, List.setIfInBounds_toArray, List.set_cons_zero, List.set_cons_succ]
            refine wpAnyH_done (by kernel_rfl) ?_ _
            clear m0 m1 a0 a1 hx n0 n1 n2 n3
            have HAJ := Lib.hid (HAT.out.keep HBJ.out)
            have HFR := Lib.hid (HAT.out.fresh HBJ.out HRV.out)
            clear HRV HMR HRI
            generalize hlr : rowLed ss row = lr at HFR
            clear hlr
            go_wp2
            go_loopw [11] (fun i wk => ∃ j : Nat, j ≤ rows.length ∧ i = .int .i64 j ∧ Below wj.heap.size wj wk) (fun i _ => rows.length - (intOf i).toNat)
            case atStart => exact ⟨0, Nat.zero_le _, rfl, Below.refl _ _⟩
            case round =>
              obtain ⟨j, hjl, rfl, hd⟩ := hrel
              obtain ⟨wk, hwk⟩ : ∃ x : World, x = wr := ⟨_, rfl⟩
              subst hwk
              have HD := Lib.hid hd
              have HAK := Lib.hid (HAJ.out.keep hd)
              have HRK := Lib.hid (HFR.out.1.keep hd)
              have s1 := block_cell HAK.out.hs 1
              simp at s1
              have hr8 : rows.length ≤ 8 := by have := HRL2.out; omega
              clear hd
              by_cases hjr : j < rows.length
              · have hjr' : (j : Int) < (rows.length : Int) := by omega
                have hje : ((j : Int) == (rows.length : Int)) = false := by simp; omega
                have hju : us[j]? = some (us[j]'(by have := HAK.out.ul; omega)) := List.getElem?_eq_getElem _
                obtain ⟨A9, c9, e, -, -, hc⟩ := own_reads HAK.out.uo
                obtain ⟨bu, ou, e2, hcu⟩ := hc j _ hju
                injection e with e3 e4 e5
                rw [e2] at e3
                subst e3 e5
                have hoj := HAK.out.ui j _ _ hju (List.getElem?_eq_getElem hjr)
                obtain ⟨Aj, cj, ej, -⟩ := own_reads hoj
                rw [ej] at hcu hoj
                have HOJ := Lib.hid hoj.reads
                clear hc e2 e4 hoj ej hju
                obtain ⟨b, hb⟩ : ∃ b, decide (rows[j] = lr) = b := ⟨_, rfl⟩
                have HBE := Lib.hid hb
                clear hb
                generalize rows[j] = rj at hcu HOJ HBE
                go_wp2_with fail
                refine (l1Same_any _ _ rj lr _ HOJ.out HRK.out.reads).mono ?_
                rw [HBE.out]
                rintro e wm ⟨rfl, hd2⟩
                have hd2 := hd2.below
                cases b with
                | true =>
                  have HAM := Lib.hid (HAK.out.keep hd2)
                  have s2 := block_cell HAM.out.hs 1
                  simp at s2
                  clear hd2 s1 hcu
                  have l1 := block_cell HAM.out.hm 1
                  simp at l1
                  go_wp2_with (at_builtin; refine wpList_append_own_at _ rfl _ _ 26 rfl wb.heap.size 3 i0 (.int .i64 0) 1 8 Try.underlying26 hi0 hz0 hz1 hz2 rfl (by decide) _ os.length (os.map (Value.int .i64)) rfl (own_keep HAM.out.o1 (below_alloc wm _)) ⟨wm.heap.size, 0, none⟩ 1 1 ([(j : Int)].map (Value.int .i64)) rfl (by simp) (led_new wm (j : Int)) (ints_one _) (by rw [HOL.out, maxLen_eq]; omega) (by rw [HOL.out]; omega) (by have := HAM.out.gr.size; simp; omega) ?_)
                  intro v6 w6 hv6 hg6 _ hat6
                  have HO6 := Lib.hid (led_app (rs := [(j : Int)]) rfl hv6)
                  obtain ⟨A6, c6, rfl, -⟩ := own_reads hv6
                  obtain ⟨hp, hl6⟩ := HAM.out.grow1 hg6 HO6.out (by rw [World.size_alloc]; exact hat6)
                  have HP := Lib.hid hp
                  have q0 := block_cell hl6 1
                  have qf := block_free hl6 1
                  simp at q0
                  clear hv6 hg6 hat6 hp hl6 l1 s2
                  go_wp2
                  go_roundw
                  case rel => exact ⟨k + 1, _, _, us, rows, os ++ [(j : Int)], q2, by omega, by go_num, HP.out, by simp [HOL.out], by have := HRL2.out; omega, HQ2.out⟩
                  case measure => simp [intOf]; omega
                | false =>
                  have HD2 := Lib.hid (sz_keep HD.out hd2)
                  clear hd2 s1 hcu
                  go_wp2
                  go_roundw
                  case rel => exact ⟨j + 1, by omega, by go_num, HD2.out⟩
                  case measure => simp [intOf]; omega
              · have hjr' : ¬ (j : Int) < (rows.length : Int) := by omega
                obtain rfl : j = rows.length := by omega
                have hje : ((rows.length : Int) == (rows.length : Int)) = true := by simp
                go_wp2_with (at_builtin; refine wpList_append_own _ rfl _ _ 23 rfl wb.heap.size 26 i1 (.slice none 0 0) 1 24 Try.underlying23 hj hy0 hy1 hy2 rfl (by decide) _ _ _ rfl (HAK.out.uo.alloc (.cells #[.slice Ar lr.length cr2] 26)) ⟨wk.heap.size, 0, none⟩ 1 1 [.slice Ar lr.length cr2] rfl rfl (cell_one_new wk (.slice Ar lr.length cr2) 26) (by intro u hu; simp at hu; subst hu; rfl) (by unfold maxLen; omega) (by omega) (by have := HAK.out.gr.size; simp; omega) ?_)
                intro v7 w7 hv7 hg7 _
                obtain ⟨A7, c7, rfl, -⟩ := own_reads hv7
                obtain ⟨hp7, hl7⟩ := HAK.out.growR HRK.out HFR.out.2.1 HFR.out.2.2.1 HFR.out.2.2.2 hg7 hv7
                have HAM := Lib.hid hp7
                have q0 := block_cell hl7 1
                have qf := block_free hl7 1
                simp at q0
                clear hv7 hg7 hp7 hl7 s1
                generalize hwm : w7.setCell ⟨w5.heap.size, 1, none⟩ (.slice A7 (rows.length + 1) c7) = wm at HAM
                have l1 := block_cell HAM.out.hm 1
                simp at l1
                go_wp2_with (at_builtin; refine wpList_append_own_at _ rfl _ _ 26 rfl wb.heap.size 3 i0 (.int .i64 0) 1 8 Try.underlying26 hi0 hz0 hz1 hz2 rfl (by decide) _ os.length (os.map (Value.int .i64)) rfl (own_keep HAM.out.o1 (below_alloc wm _)) ⟨wm.heap.size, 0, none⟩ 1 1 ([(rows.length : Int)].map (Value.int .i64)) rfl (by simp) (led_new wm (rows.length : Int)) (ints_one _) (by rw [HOL.out, maxLen_eq]; omega) (by rw [HOL.out]; omega) (by have := HAM.out.gr.size; simp; omega) ?_)
                clear q0 qf hwm
                intro v6 w6 hv6 hg6 _ hat6
                have HO6 := Lib.hid (led_app (rs := [(rows.length : Int)]) rfl hv6)
                obtain ⟨A6, c6, rfl, -⟩ := own_reads hv6
                obtain ⟨hp, hl6⟩ := HAM.out.grow1 hg6 HO6.out (by rw [World.size_alloc]; exact hat6)
                have HP := Lib.hid hp
                have qq2 := block_cell hl6 1
                have qf2 := block_free hl6 1
                simp at qq2
                clear hv6 hg6 hat6 hp hl6 l1
                go_wp2
                go_roundw
                case rel => exact ⟨k + 1, _, _, _, _, os ++ [(rows.length : Int)], q2, by omega, by go_num, HP.out, by simp [HOL.out], by have := HRL2.out; simp; omega, HQ2.out⟩
                case measure => simp [intOf]; omega
          · have hks' : ¬ (k : Int) < (a.ops.length : Int) := by omega
            have hkn : k = a.ops.length := by omega
            by_cases hbig : 6 < rows.length
            · have hbig' : (6 : Int) < (rows.length : Int) := by omega
              have hrs := gr_at HAT.out.gr (by omega) HZr.out
              have hre := gr_at HAT.out.gr (by omega) HZs.out
              have hgw := gr_trans (gr_below (gr_refl w g) HB.out) HAT.out.gr (fun x e => by injection e with e; exact .inl e.symm)
              have HGW := Lib.hid hgw
              have HRSS := Lib.hid hrs
              have HGO := Lib.hid (show w.heap.size + 3 ≤ wo.heap.size by have := HAT.out.gr.size; have := HWB.out; omega)
              have HREE := Lib.hid hre
              have s1 := block_cell HAT.out.hs 1
              simp at s1
              have ho1 := (Array.getElem?_eq_some_iff.1 hre).1
              clear hgw hrs hre
              go_wp2_with fail
              clear s1
              refine wp_region_held_drew (S := (fun _ => True)) (by kernel_rfl) ?_ (fun hHeld => ?_)
              · exact trivial
              refine wpAnyH_ready (rs := [0, 1]) (by kernel_rfl) (by simp) ?_
              refine AllReadyH.cons (o := _) rfl (fun K hK => ?_) ?_
              · go_simp
                refine hK.out _ _ trivial (fun hHeld => ?_)
                clear hK K
                try simp only [Act.put, List.getElem_toArray, List.getElem_cons_zero, List.getElem_cons_succ, List.setIfInBounds_toArray, List.set_cons_zero, List.set_cons_succ]
                refine wpAnyH_ready (rs := [1]) (by kernel_rfl) (by simp) ?_
                refine AllReadyH.cons (o := _) rfl (fun K hK => ?_) ?_
                · go_simp
                  refine hK.out _ _ trivial (fun hHeld => ?_)
                  clear hK K
                  try simp only [Act.put, List.getElem_toArray, List.getElem_cons_zero, List.getElem_cons_succ, List.setIfInBounds_toArray, List.set_cons_zero, List.set_cons_succ]
                  refine wpAnyH_ready (rs := [2]) (by kernel_rfl) (by simp) ?_
                  refine AllReadyH.cons (o := _) rfl (fun K hK => ?_) ?_
                  · go_simp
                    refine (specMapSelf_any a wo.drew _ (HAW.out.keep (map_drew (Below.refl _ _)))).mono ?_
                    rintro e wy ⟨u9, rfl, om, hb9⟩
                    have hx := map_undrew hb9
                    obtain ⟨z0, z1, rfl, oz0, oz1, -⟩ := om
                    obtain ⟨B0, dz0, rfl, -⟩ := own_reads oz0
                    obtain ⟨B1, dz1, rfl, -⟩ := own_reads oz1
                    replace a0 := cell_keep hx a0
                    replace a1 := cell_keep hx a1
                    have HMD := Lib.hid (show OMapD wy (w.heap.size + 3) (.agg #[.slice B0 (selfM a).sorts.length dz0, .slice B1 (selfM a).ops.length dz1]) (selfM a) from ⟨_, _, rfl, OInts.base (B := wo.heap.size) oz0 HGO.out, OInts.base (B := wo.heap.size) oz1 HGO.out⟩)
                    have HRS2 := Lib.hid (blk_keep HRSS.out hx)
                    have HRE2 := Lib.hid (blk_keep HREE.out hx)
                    have HGY := Lib.hid (gr_below HGW.out hx)
                    have HRY := Lib.hid (HAT.out.rd.keep hx)
                    have r0 := block_cell HRS2.out 0
                    have r1 := block_cell HRS2.out 1
                    have r2 := block_cell HRE2.out 0
                    have r3 := block_cell HRE2.out 1
                    have rf0 := block_free HRS2.out 0
                    have rf1 := block_free HRS2.out 1
                    have rf2 := block_free HRE2.out 0
                    have rf3 := block_free HRE2.out 1
                    simp at r0 r1 r2 r3
                    clear hb9 hx oz0 oz1
                    go_wp2_with fail
                    refine hK.out _ _ trivial (fun hHeld => ?_)
                    clear hK K
                    try simp only [Act.put, List.getElem_toArray, List.getElem_cons_zero, List.getElem_cons_succ, List.setIfInBounds_toArray, List.set_cons_zero, List.set_cons_succ]
                    refine wpAnyH_ready (rs := [3]) (by kernel_rfl) (by simp) ?_
                    refine AllReadyH.cons (o := _) rfl (fun K hK => ?_) ?_
                    · go_simp
                      refine hK.out _ _ trivial (fun hHeld => ?_)
                      clear hK K
                      try simp only [Act.put, List.getElem_toArray, List.getElem_cons_zero, List.getElem_cons_succ, List.setIfInBounds_toArray, List.set_cons_zero, List.set_cons_succ]
                      refine wpAnyH_ready (rs := [4]) (by kernel_rfl) (by simp) ?_
                      refine AllReadyH.cons (o := _) rfl (fun K hK => ?_) ?_
                      · go_simp
                        refine hK.out _ _ trivial (fun hHeld => ?_)
                        clear hK K
                        try simp only [Act.put, List.getElem_toArray, List.getElem_cons_zero, List.getElem_cons_succ, List.setIfInBounds_toArray, List.set_cons_zero, List.set_cons_succ]
                        refine wpAnyH_done (by kernel_rfl) ?_ _
                        have D := Lib.hid (sm_fin (sorts := a.sorts) (u := .slice Aaa a.ops.length caa) (x := .slice B0 (selfM a).sorts.length dz0) (y := .slice B1 (selfM a).ops.length dz1) HRS2.out HRE2.out HGY.out (by omega) (by omega) HRY.out)
                        obtain ⟨d1, d2, d3, d4, d5⟩ := D.out
                        generalize (((wy.setCell ⟨w.heap.size + 1, 0, none⟩ (.int .i64 a.sorts)).setCell ⟨w.heap.size + 1, 1, none⟩ (.slice Aaa a.ops.length caa)).setCell ⟨w.heap.size + 1 + 1, 0, none⟩ (.slice B0 (selfM a).sorts.length dz0)).setCell ⟨w.heap.size + 1 + 1, 1, none⟩ (.slice B1 (selfM a).ops.length dz1) = w9 at d1 d2 d3 d4 d5 ⊢
                        have k0 := (block_cell d1 0)
                        have k1 := (block_cell d1 1)
                        have k2 := (block_cell d2 0)
                        have k3 := (block_cell d2 1)
                        simp at k0 k1 k2 k3
                        clear r0 r1 r2 r3 rf0 rf1 rf2 rf3 a0 a1
                        go_wp2
                        refine bodyPost_ret (v := .tuple #[.agg #[.int .i64 a.sorts, (.slice Aaa a.ops.length caa)], .agg #[(.slice B0 (selfM a).sorts.length dz0), (.slice B1 (selfM a).ops.length dz1)]]) (by simp [results, Try.results134, go_sem, k0, k1, k2, k3]) rfl ?_
                        exact ⟨_, _, a, selfM a, q2, rfl, osig_past HORW.out d4 (by omega), .inl rfl, OMapD.base (B := w.heap.size + 3) (HMD.out.same (fun i j1 j2 => d5 i (by omega) (by omega))) (by omega), by have := HFW.out; unfold selfM; rw [if_pos HV.out]; simp only [countM_len]; omega, by have := HFW.out; unfold selfM; rw [if_pos HV.out]; simp only [countM_len]; omega, d3, by have := HQ2.out; omega, d4⟩
                      exact AllReadyH.nil
                    exact AllReadyH.nil
                  exact AllReadyH.nil
                exact AllReadyH.nil
              refine AllReadyH.cons (o := _) rfl (fun K hK => ?_) ?_
              · go_simp
                refine hK.out _ _ trivial (fun hHeld => ?_)
                clear hK K
                try simp only [Act.put, List.getElem_toArray, List.getElem_cons_zero, List.getElem_cons_succ, List.setIfInBounds_toArray, List.set_cons_zero, List.set_cons_succ]
                refine wpAnyH_ready (rs := [0, 2]) (by kernel_rfl) (by simp) ?_
                refine AllReadyH.cons (o := _) rfl (fun K hK => ?_) ?_
                · go_simp
                  refine hK.out _ _ trivial (fun hHeld => ?_)
                  clear hK K
                  try simp only [Act.put, List.getElem_toArray, List.getElem_cons_zero, List.getElem_cons_succ, List.setIfInBounds_toArray, List.set_cons_zero, List.set_cons_succ]
                  refine wpAnyH_ready (rs := [2]) (by kernel_rfl) (by simp) ?_
                  refine AllReadyH.cons (o := _) rfl (fun K hK => ?_) ?_
                  · go_simp
                    refine (specMapSelf_any a wo.drew _ (HAW.out.keep (map_drew (Below.refl _ _)))).mono ?_
                    rintro e wy ⟨u9, rfl, om, hb9⟩
                    have hx := map_undrew hb9
                    obtain ⟨z0, z1, rfl, oz0, oz1, -⟩ := om
                    obtain ⟨B0, dz0, rfl, -⟩ := own_reads oz0
                    obtain ⟨B1, dz1, rfl, -⟩ := own_reads oz1
                    replace a0 := cell_keep hx a0
                    replace a1 := cell_keep hx a1
                    have HMD := Lib.hid (show OMapD wy (w.heap.size + 3) (.agg #[.slice B0 (selfM a).sorts.length dz0, .slice B1 (selfM a).ops.length dz1]) (selfM a) from ⟨_, _, rfl, OInts.base (B := wo.heap.size) oz0 HGO.out, OInts.base (B := wo.heap.size) oz1 HGO.out⟩)
                    have HRS2 := Lib.hid (blk_keep HRSS.out hx)
                    have HRE2 := Lib.hid (blk_keep HREE.out hx)
                    have HGY := Lib.hid (gr_below HGW.out hx)
                    have HRY := Lib.hid (HAT.out.rd.keep hx)
                    have r0 := block_cell HRS2.out 0
                    have r1 := block_cell HRS2.out 1
                    have r2 := block_cell HRE2.out 0
                    have r3 := block_cell HRE2.out 1
                    have rf0 := block_free HRS2.out 0
                    have rf1 := block_free HRS2.out 1
                    have rf2 := block_free HRE2.out 0
                    have rf3 := block_free HRE2.out 1
                    simp at r0 r1 r2 r3
                    clear hb9 hx oz0 oz1
                    go_wp2_with fail
                    refine hK.out _ _ trivial (fun hHeld => ?_)
                    clear hK K
                    try simp only [Act.put, List.getElem_toArray, List.getElem_cons_zero, List.getElem_cons_succ, List.setIfInBounds_toArray, List.set_cons_zero, List.set_cons_succ]
                    refine wpAnyH_ready (rs := [3]) (by kernel_rfl) (by simp) ?_
                    refine AllReadyH.cons (o := _) rfl (fun K hK => ?_) ?_
                    · go_simp
                      refine hK.out _ _ trivial (fun hHeld => ?_)
                      clear hK K
                      try simp only [Act.put, List.getElem_toArray, List.getElem_cons_zero, List.getElem_cons_succ, List.setIfInBounds_toArray, List.set_cons_zero, List.set_cons_succ]
                      refine wpAnyH_ready (rs := [4]) (by kernel_rfl) (by simp) ?_
                      refine AllReadyH.cons (o := _) rfl (fun K hK => ?_) ?_
                      · go_simp
                        refine hK.out _ _ trivial (fun hHeld => ?_)
                        clear hK K
                        try simp only [Act.put, List.getElem_toArray, List.getElem_cons_zero, List.getElem_cons_succ, List.setIfInBounds_toArray, List.set_cons_zero, List.set_cons_succ]
                        refine wpAnyH_done (by kernel_rfl) ?_ _
                        have D := Lib.hid (sm_fin (sorts := a.sorts) (u := .slice Aaa a.ops.length caa) (x := .slice B0 (selfM a).sorts.length dz0) (y := .slice B1 (selfM a).ops.length dz1) HRS2.out HRE2.out HGY.out (by omega) (by omega) HRY.out)
                        obtain ⟨d1, d2, d3, d4, d5⟩ := D.out
                        generalize (((wy.setCell ⟨w.heap.size + 1, 0, none⟩ (.int .i64 a.sorts)).setCell ⟨w.heap.size + 1, 1, none⟩ (.slice Aaa a.ops.length caa)).setCell ⟨w.heap.size + 1 + 1, 0, none⟩ (.slice B0 (selfM a).sorts.length dz0)).setCell ⟨w.heap.size + 1 + 1, 1, none⟩ (.slice B1 (selfM a).ops.length dz1) = w9 at d1 d2 d3 d4 d5 ⊢
                        have k0 := (block_cell d1 0)
                        have k1 := (block_cell d1 1)
                        have k2 := (block_cell d2 0)
                        have k3 := (block_cell d2 1)
                        simp at k0 k1 k2 k3
                        clear r0 r1 r2 r3 rf0 rf1 rf2 rf3 a0 a1
                        go_wp2
                        refine bodyPost_ret (v := .tuple #[.agg #[.int .i64 a.sorts, (.slice Aaa a.ops.length caa)], .agg #[(.slice B0 (selfM a).sorts.length dz0), (.slice B1 (selfM a).ops.length dz1)]]) (by simp [results, Try.results134, go_sem, k0, k1, k2, k3]) rfl ?_
                        exact ⟨_, _, a, selfM a, q2, rfl, osig_past HORW.out d4 (by omega), .inl rfl, OMapD.base (B := w.heap.size + 3) (HMD.out.same (fun i j1 j2 => d5 i (by omega) (by omega))) (by omega), by have := HFW.out; unfold selfM; rw [if_pos HV.out]; simp only [countM_len]; omega, by have := HFW.out; unfold selfM; rw [if_pos HV.out]; simp only [countM_len]; omega, d3, by have := HQ2.out; omega, d4⟩
                      exact AllReadyH.nil
                    exact AllReadyH.nil
                  exact AllReadyH.nil
                refine AllReadyH.cons (o := _) rfl (fun K hK => ?_) ?_
                · go_simp
                  refine (specMapSelf_any a wo.drew _ (HAW.out.keep (map_drew (Below.refl _ _)))).mono ?_
                  rintro e wy ⟨u9, rfl, om, hb9⟩
                  have hx := map_undrew hb9
                  obtain ⟨z0, z1, rfl, oz0, oz1, -⟩ := om
                  obtain ⟨B0, dz0, rfl, -⟩ := own_reads oz0
                  obtain ⟨B1, dz1, rfl, -⟩ := own_reads oz1
                  replace a0 := cell_keep hx a0
                  replace a1 := cell_keep hx a1
                  have HMD := Lib.hid (show OMapD wy (w.heap.size + 3) (.agg #[.slice B0 (selfM a).sorts.length dz0, .slice B1 (selfM a).ops.length dz1]) (selfM a) from ⟨_, _, rfl, OInts.base (B := wo.heap.size) oz0 HGO.out, OInts.base (B := wo.heap.size) oz1 HGO.out⟩)
                  have HRS2 := Lib.hid (blk_keep HRSS.out hx)
                  have HRE2 := Lib.hid (blk_keep HREE.out hx)
                  have HGY := Lib.hid (gr_below HGW.out hx)
                  have HRY := Lib.hid (HAT.out.rd.keep hx)
                  have r0 := block_cell HRS2.out 0
                  have r1 := block_cell HRS2.out 1
                  have r2 := block_cell HRE2.out 0
                  have r3 := block_cell HRE2.out 1
                  have rf0 := block_free HRS2.out 0
                  have rf1 := block_free HRS2.out 1
                  have rf2 := block_free HRE2.out 0
                  have rf3 := block_free HRE2.out 1
                  simp at r0 r1 r2 r3
                  clear hb9 hx oz0 oz1
                  go_wp2_with fail
                  refine hK.out _ _ trivial (fun hHeld => ?_)
                  clear hK K
                  try simp only [Act.put, List.getElem_toArray, List.getElem_cons_zero, List.getElem_cons_succ, List.setIfInBounds_toArray, List.set_cons_zero, List.set_cons_succ]
                  refine wpAnyH_ready (rs := [0]) (by kernel_rfl) (by simp) ?_
                  refine AllReadyH.cons (o := _) rfl (fun K hK => ?_) ?_
                  · go_simp
                    refine hK.out _ _ trivial (fun hHeld => ?_)
                    clear hK K
                    try simp only [Act.put, List.getElem_toArray, List.getElem_cons_zero, List.getElem_cons_succ, List.setIfInBounds_toArray, List.set_cons_zero, List.set_cons_succ]
                    refine wpAnyH_ready (rs := [3]) (by kernel_rfl) (by simp) ?_
                    refine AllReadyH.cons (o := _) rfl (fun K hK => ?_) ?_
                    · go_simp
                      refine hK.out _ _ trivial (fun hHeld => ?_)
                      clear hK K
                      try simp only [Act.put, List.getElem_toArray, List.getElem_cons_zero, List.getElem_cons_succ, List.setIfInBounds_toArray, List.set_cons_zero, List.set_cons_succ]
                      refine wpAnyH_ready (rs := [4]) (by kernel_rfl) (by simp) ?_
                      refine AllReadyH.cons (o := _) rfl (fun K hK => ?_) ?_
                      · go_simp
                        refine hK.out _ _ trivial (fun hHeld => ?_)
                        clear hK K
                        try simp only [Act.put, List.getElem_toArray, List.getElem_cons_zero, List.getElem_cons_succ, List.setIfInBounds_toArray, List.set_cons_zero, List.set_cons_succ]
                        refine wpAnyH_done (by kernel_rfl) ?_ _
                        have D := Lib.hid (sm_fin (sorts := a.sorts) (u := .slice Aaa a.ops.length caa) (x := .slice B0 (selfM a).sorts.length dz0) (y := .slice B1 (selfM a).ops.length dz1) HRS2.out HRE2.out HGY.out (by omega) (by omega) HRY.out)
                        obtain ⟨d1, d2, d3, d4, d5⟩ := D.out
                        generalize (((wy.setCell ⟨w.heap.size + 1, 0, none⟩ (.int .i64 a.sorts)).setCell ⟨w.heap.size + 1, 1, none⟩ (.slice Aaa a.ops.length caa)).setCell ⟨w.heap.size + 1 + 1, 0, none⟩ (.slice B0 (selfM a).sorts.length dz0)).setCell ⟨w.heap.size + 1 + 1, 1, none⟩ (.slice B1 (selfM a).ops.length dz1) = w9 at d1 d2 d3 d4 d5 ⊢
                        have k0 := (block_cell d1 0)
                        have k1 := (block_cell d1 1)
                        have k2 := (block_cell d2 0)
                        have k3 := (block_cell d2 1)
                        simp at k0 k1 k2 k3
                        clear r0 r1 r2 r3 rf0 rf1 rf2 rf3 a0 a1
                        go_wp2
                        refine bodyPost_ret (v := .tuple #[.agg #[.int .i64 a.sorts, (.slice Aaa a.ops.length caa)], .agg #[(.slice B0 (selfM a).sorts.length dz0), (.slice B1 (selfM a).ops.length dz1)]]) (by simp [results, Try.results134, go_sem, k0, k1, k2, k3]) rfl ?_
                        exact ⟨_, _, a, selfM a, q2, rfl, osig_past HORW.out d4 (by omega), .inl rfl, OMapD.base (B := w.heap.size + 3) (HMD.out.same (fun i j1 j2 => d5 i (by omega) (by omega))) (by omega), by have := HFW.out; unfold selfM; rw [if_pos HV.out]; simp only [countM_len]; omega, by have := HFW.out; unfold selfM; rw [if_pos HV.out]; simp only [countM_len]; omega, d3, by have := HQ2.out; omega, d4⟩
                      exact AllReadyH.nil
                    exact AllReadyH.nil
                  exact AllReadyH.nil
                exact AllReadyH.nil
              exact AllReadyH.nil
            · have hbig' : ¬ (6 : Int) < (rows.length : Int) := by omega
              have hrs := gr_at HAT.out.gr (by omega) HZr.out
              have hre := gr_at HAT.out.gr (by omega) HZs.out
              have HGW := Lib.hid (gr_trans (gr_below (gr_refl w g) HB.out) HAT.out.gr (fun x e => by injection e with e; exact .inl e.symm))
              have D := Lib.hid (sm_fin (sorts := sorts) (u := .slice Au rows.length cu) (x := .slice A0 ss.length c0) (y := .slice A1 os.length c1) hrs hre HGW.out (by omega) (by omega) HAT.out.rd)
              have m0 := block_cell HAT.out.hm 0
              have m1 := block_cell HAT.out.hm 1
              have s0 := block_cell HAT.out.hs 0
              have s1 := block_cell HAT.out.hs 1
              simp at m0 m1 s0 s1
              have hml := HAT.out.ml
              have hbl := HAT.out.bl
              have hwb := HWB.out
              have r0 := block_cell hrs 0
              have r1 := block_cell hrs 1
              have r2 := block_cell hre 0
              have r3 := block_cell hre 1
              have rf0 := block_free hrs 0
              have rf1 := block_free hrs 1
              have rf2 := block_free hre 0
              have rf3 := block_free hre 1
              simp at r0 r1 r2 r3
              clear hrs hre
              go_wp2_with fail
              clear a0 a1
              go_region_held3 (fun w' => w'.cell? ⟨w5.heap.size, 0, none⟩ = some (.int .i64 sorts) ∧ w'.cell? ⟨w5.heap.size, 1, none⟩ = some (.slice Au rows.length cu) ∧ w'.cell? ⟨wb.heap.size, 0, none⟩ = some (.slice A0 ss.length c0) ∧ w'.cell? ⟨wb.heap.size, 1, none⟩ = some (.slice A1 os.length c1)) (first | exact ⟨s0, s1, m0, m1⟩ | exact ⟨drew_cellm (keep2m s0 (by omega)), drew_cellm (keep2m s1 (by omega)), drew_cellm (keep2m m0 (by omega)), drew_cellm (keep2m m1 (by omega))⟩ | exact ⟨drew_cellm (keep2m (keep2m s0 (by omega)) (by omega)), drew_cellm (keep2m (keep2m s1 (by omega)) (by omega)), drew_cellm (keep2m (keep2m m0 (by omega)) (by omega)), drew_cellm (keep2m (keep2m m1 (by omega)) (by omega))⟩ | go_keep) (fail)
              obtain ⟨d1, d2, d3, d4, d5⟩ := D.out
              generalize (((wo.setCell ⟨w.heap.size + 1, 0, none⟩ (.int .i64 sorts)).setCell ⟨w.heap.size + 1, 1, none⟩ (.slice Au rows.length cu)).setCell ⟨w.heap.size + 1 + 1, 0, none⟩ (.slice A0 ss.length c0)).setCell ⟨w.heap.size + 1 + 1, 1, none⟩ (.slice A1 os.length c1) = w9 at d1 d2 d3 d4 d5 ⊢
              have k0 := drew_cellm (block_cell d1 0)
              have k1 := drew_cellm (block_cell d1 1)
              have k2 := drew_cellm (block_cell d2 0)
              have k3 := drew_cellm (block_cell d2 1)
              simp at k0 k1 k2 k3
              clear r0 r1 r2 r3 rf0 rf1 rf2 rf3 m0 m1 s0 s1
              go_wp2
              refine bodyPost_ret (v := .tuple #[.agg #[.int .i64 sorts, (.slice Au rows.length cu)], .agg #[(.slice A0 ss.length c0), (.slice A1 os.length c1)]]) (by simp [results, Try.results134, go_sem, k0, k1, k2, k3]) rfl ?_
              exact ⟨_, _, ⟨sorts, rows⟩, ⟨ss, os⟩, q2, rfl, osig_drewm (OSig.base (B := wb.heap.size) ⟨_, rfl, HAT.out.allRows.same (fun i j1 j2 => d5 i (by omega) (by omega))⟩ (by omega)), .inr ⟨by simp only; omega, HSO.out⟩, OMapD.drew (OMapD.base (B := wb.heap.size) ⟨_, _, rfl, HAT.out.o0.same (fun i j1 j2 => d5 i (by omega) (by omega)), HAT.out.o1.same (fun i j1 j2 => d5 i (by omega) (by omega))⟩ (by omega)), by have := HSL.out; simp only; omega, by have := HOL.out; have := HFW.out; simp only; omega, d3, by have := HQ2.out; omega, gr_todrewm d4⟩
end
end Go.Proofs.Yticldaddbljleaa
