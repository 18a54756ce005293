/- A local struct whose rows are filled, one after the other, by append. No walk. · slices.Clone of a row of numbers. · A local struct of which a list of rows is filled by append. No walk. · The exact laws' measure, copy and comparison of lists of equations: szEqS, toEqS, eqEqS. · The exact laws' measure, copy and comparison of a theory: szTheory, toTheory, eqTheory. · Models: how they read, how those that a call has made lie; the exact laws' measure, copy and comparison of one. · The plain functions of models: tables, values of terms, rows of values by their numbers. No walk. · What a model of a signature is (plain), the values of terms in it, where an equation fails, models along maps, pairs. No walk. · isValue, sizesOf, rowsOf of package impl. -/
import Derived.Test.YtbopcghbmbchkabK015b6730
import Derived.Deep.RegionHeld3
import Derived.Lib.SliceRun
namespace Go.Proofs.Ytbopcghbmbchkab
section
open Go.RowKit
set_option linter.unusedVariables false

/-- the struct's box lies at lb, ahead of wv; of it the row u is being filled -/
structure Loc (T : TypeId) (wv wr : World) (lb : Nat) (cs : Array Value) (u : Value) (xs : List Int) : Prop where
  loc : wr.heap[lb]? = some (.cells cs T (0, 0))
  own : OInts wr wv.heap.size u xs
  gr : wv.grownBy wr (some lb)
  lt : lb < wv.heap.size
theorem Loc.start {T : TypeId} {wv : World} {lb : Nat} {cs : Array Value} (h : wv.heap[lb]? = some (.cells cs T (0, 0))) : Loc T wv wv lb cs (.slice none 0 0) [] :=
  ⟨h, OInts.nil _ _, ⟨rfl, rfl, rfl, Nat.le_refl _, fun _ _ _ => rfl⟩, (Array.getElem?_eq_some_iff.1 h).1⟩
theorem Loc.push {T : TypeId} {wv wr w6 : World} {lb : Nat} {cs cs' : Array Value} {u v' : Value} {xs : List Int} {y : Int} {o : Obj} (h : Loc T wv wr lb cs u xs) (hg : (wr.alloc o).grownBy w6 u.ownBlock) (ho : OInts w6 wv.heap.size v' (xs ++ [y])) (i : Nat) (hc : cs.setIfInBounds i v' = cs') :
    Loc T wv (w6.setCell ⟨lb, i, none⟩ v') lb cs' v' (xs ++ [y]) := by
  have hlr : lb < wr.heap.size := (Array.getElem?_eq_some_iff.1 h.loc).1
  have hne : ∀ k, k < wv.heap.size → some k ≠ u.ownBlock := fun k hk e => by have := own_lt h.own k e.symm; omega
  have hl6 : w6.heap[lb]? = some (.cells cs T (0, 0)) := ((hg.block lb (by simp; omega) (hne lb h.lt)).trans (heap_alloc_old wr _ hlr)).trans h.loc
  refine ⟨by rw [← hc]; exact blk_set hl6 i v', ho.setLow h.lt i v', ⟨hg.os.trans h.gr.os, hg.tape.trans h.gr.tape, hg.output.trans h.gr.output, ?_, fun k hk hkl => ?_⟩, h.lt⟩
  · have e : (w6.setCell ⟨lb, i, none⟩ v').heap.size = w6.heap.size := by simp [World.setCell]
    have h2 := h.gr.size
    rw [e]
    have h3 := hg.size
    simp at h3
    omega
  · have hkr : k < wr.heap.size := Nat.lt_of_lt_of_le hk h.gr.size
    exact (((Below.heap_setCell w6 ⟨lb, i, none⟩ v' k (by show k ≠ lb; intro e; exact hkl (by rw [e]))).trans (hg.block k (by simp; omega) (hne k hk))).trans (heap_alloc_old wr _ hkr)).trans (h.gr.block k hk hkl)
theorem Loc.below {T : TypeId} {w2 wv wr : World} {lb : Nat} {cs : Array Value} {u : Value} {xs : List Int} (h : Loc T wv wr lb cs u xs) (hb : Below w2.heap.size w2 wv) (hl : w2.heap.size ≤ lb) : Below w2.heap.size w2 wr :=
  ⟨h.gr.os.trans hb.os, h.gr.tape.trans hb.tape, h.gr.output.trans hb.output, Nat.le_trans hb.size h.gr.size, fun k hk => (h.gr.block k (by have := hb.size; omega) (by intro e; injection e with e; omega)).trans (hb.block k hk)⟩
theorem Loc.grown {T : TypeId} {wv wr w6 : World} {lb : Nat} {cs : Array Value} {u : Value} {xs : List Int} {o : Obj} (h : Loc T wv wr lb cs u xs) (hg : (wr.alloc o).grownBy w6 u.ownBlock) : w6.heap[lb]? = some (.cells cs T (0, 0)) := by
  have hlr : lb < wr.heap.size := (Array.getElem?_eq_some_iff.1 h.loc).1
  exact ((hg.block lb (by simp; omega) (fun e => by have := own_lt h.own lb e.symm; have := h.lt; omega)).trans (heap_alloc_old wr _ hlr)).trans h.loc
theorem Loc.keep {T : TypeId} {wv wr w1 : World} {lb : Nat} {cs : Array Value} {u : Value} {xs : List Int} (h : Loc T wv wr lb cs u xs) (hb : Below wr.heap.size wr w1) : Loc T wv w1 lb cs u xs :=
  ⟨(hb.block _ (Array.getElem?_eq_some_iff.1 h.loc).1).trans h.loc, h.own.keep hb, ⟨hb.os.trans h.gr.os, hb.tape.trans h.gr.tape, hb.output.trans h.gr.output, Nat.le_trans h.gr.size hb.size, fun k hk hn => (hb.block k (Nat.lt_of_lt_of_le hk h.gr.size)).trans (h.gr.block k hk hn)⟩, h.lt⟩
theorem Loc.other {T : TypeId} {wv wr : World} {lb B : Nat} {cs : Array Value} {u v : Value} {xs ys : List Int} (h : Loc T wv wr lb cs u xs) (ho : OInts wv B v ys) (hB : lb < B) : OInts wr B v ys :=
  own_grown ho h.gr (by
    cases hv : v.ownBlock with
    | none => exact .inl rfl
    | some k => right; intro e; injection e with e; have := own_lt ho k hv; omega)
theorem Loc.apart {T : TypeId} {wv wr : World} {lb B : Nat} {cs : Array Value} {u v : Value} {xs ys : List Int} (h : Loc T wv wr lb cs u xs) (ho : OInts wv B v ys) : Apart v u := apart_later ho h.own
theorem grown_undrew {w w' : World} {r : Option Nat} (h : w.drew.grownBy w' r) : w.grownBy w' r := ⟨h.os, h.tape, h.output, h.size, h.block⟩
theorem grown_undrewA {w w' : World} {o : Obj} {r : Option Nat} (h : (w.drew.alloc o).grownBy w' r) : (w.alloc o).grownBy w' r := ⟨h.os, h.tape, h.output, h.size, h.block⟩
end

section
open Go.RowKit
set_option linter.unusedVariables false
set_option linter.unusedSimpArgs false

variable {w w' : World}
theorem own_cut {w w2 : World} {o : Obj} {A : Option Addr} {n c : Nat} (h : (w.alloc o).grownBy w2 (Value.slice A n c).ownBlock) (hr : ∀ k, (Value.slice A n c).ownBlock = some k → w.heap.size ≤ k) : Below w.heap.size w w2 :=
  (below_alloc w o).trans ⟨h.os, h.tape, h.output, h.size, fun k hk => h.block k (Nat.lt_of_lt_of_le hk (by show w.heap.size ≤ (w.alloc o).heap.size; simp)) (fun e => by have := hr k e.symm; omega)⟩

set_option maxRecDepth 100000 in
theorem clone_any (ad : Addr) (n c : Nat) (xs : List Int) (w : World) (h : RInts w (.slice (some ad) n c) xs) (hs : xs.length ≤ 1048576) :
    Calls Try.prog 55 #[.slice (some ad) n c] w fun e w' => ∃ u, e = .returned u ∧ OInts w' w.heap.size u xs ∧ Below w.heap.size w w' := by
  obtain ⟨i0, hi0, hz0, hz1, hz2⟩ := info_parts Try.tinfo_int
  have H := Lib.hid h
  obtain ⟨A, c', e, h1, h2, h3⟩ := h
  cases e
  have HNEWS := Lib.hid (news_any (H.out.keep (below_alloc w (.cells #[] 3))))
  clear h3
  have hcmp := Lib.run_eql_slice_nil (P := Try.prog) w 26 3 (some ad) xs.length c 0 0 Try.underlying26
  simp only [Option.isNone_some] at hcmp
  go_enter Try.func55, Try.ntmps55
  go_wp2_with (at_builtin; refine wpList_append_own _ rfl _ _ 26 rfl w.heap.size 3 i0 (.int .i64 0) 1 8 Try.underlying26 hi0 hz0 hz1 hz2 rfl (by decide) _ 0 [] rfl (own_empty w) ad xs.length c (xs.map (Value.int .i64)) rfl (by simp) HNEWS.out (ints_one _) (by rw [maxLen_eq]; omega) (by omega) (by simp) ?_)
  intro v' w4 hown4 hgrow4 _
  have HO := Lib.hid hown4
  have HG := Lib.hid (own_cut hgrow4 (fun k e => by injection e with e; exact Nat.le_of_eq e))
  clear hown4 hgrow4
  go_wp2
  go_ret
  refine ⟨_, rfl, ?_, HG.out⟩
  have h := HO.out
  unfold OInts
  simpa using h
end

section
open Go.RowKit
set_option linter.unusedVariables false

/-- one row more; w6: ahead of the append's one-place slice; rv: the new row, in a block of its own -/
theorem ORows.pushNew5 {wr w6 w7 : World} {B : Nat} {u v' rv : Value} {rows : List (List Int)} {row : List Int} {us : List Value} (hB : B ≤ wr.heap.size) (hb : Below wr.heap.size wr w6) (hr : OInts w6 wr.heap.size rv row)
    (h1 : wr.ownsRow B 26 1 u rows.length us) (h2 : us.length = rows.length)
    (h3 : ∀ (j : Nat) (u : Value) (row : List Int), us[j]? = some u → rows[j]? = some row → OInts wr B u row) (h4 : ∀ (i j : Nat) (u u' : Value), i < j → us[i]? = some u → us[j]? = some u' → u.ownBlock = none ∨ u.ownBlock ≠ u'.ownBlock)
    (hv' : w7.ownsRow B 26 1 v' (rows.length + 1) (us ++ [rv])) (hg : (w6.alloc (.cells #[rv] 26)).grownBy w7 u.ownBlock) : ORows w7 B v' (rows ++ [row]) := by
  refine ORows.push (w := w6.alloc (.cells #[rv] 26)) ((own_keep h1 hb).alloc _) h2 (fun j x r a b => World.ownsRow.alloc (own_keep (h3 j x r a b) hb) _) h4 (World.ownsRow.alloc (OInts.base hr hB) _) (fun i x hx => ?_) hg hv'
  have hi : i < us.length := (List.getElem?_eq_some_iff.1 hx).1
  have hxo := h3 i x rows[i] hx (List.getElem?_eq_getElem (by omega))
  cases hbx : x.ownBlock with
  | none => exact .inl rfl
  | some k =>
    right
    intro e
    have a := (own_lt hxo k hbx).2
    have b := (own_lt hr k e.symm).1
    omega
theorem news_one5 (w : World) (x : Value) (t : TypeId) : ∀ (j : Nat) (u : Value), [x][j]? = some u → (w.alloc (.cells #[x] t)).cell? ((⟨w.heap.size, 0, none⟩ : Addr).add j) = some u := by
  intro j u hj
  match j, hj with
  | 0, hj =>
    simp at hj
    subst hj
    rw [show (⟨w.heap.size, 0, none⟩ : Addr).add 0 = ⟨w.heap.size, 0, none⟩ from rfl, World.cell?_alloc_at _ _ _ _ rfl]
    rfl
theorem rows_one5 {A : Option Addr} {n c : Nat} (x : Value) (hx : x = .slice A n c := by rfl) : ∀ u ∈ [x], u.oneCell' = true := by
  intro u hu; simp at hu; subst hu; subst hx; rfl

theorem bel_grow5 {w w2 : World} {o : Obj} {A : Option Addr} {n c : Nat} (h : (w.alloc o).grownBy w2 (Value.slice A n c).ownBlock) (hr : ∀ k, (Value.slice A n c).ownBlock = some k → w.heap.size ≤ k) : Below w.heap.size w w2 :=
  (below_alloc w o).trans ⟨h.os, h.tape, h.output, h.size, fun k hk => h.block k (Nat.lt_of_lt_of_le hk (by simp)) (fun e => by have := hr k e.symm; omega)⟩

/-- the struct's box lies at lb, ahead of wv; of it the list of rows u is being filled -/
structure LocR (T : TypeId) (wv wr : World) (lb : Nat) (cs : Array Value) (u : Value) (rows : List (List Int)) : Prop where
  loc : wr.heap[lb]? = some (.cells cs T (0, 0))
  own : ORows wr wv.heap.size u rows
  gr : wv.grownBy wr (some lb)
  lt : lb < wv.heap.size
theorem LocR.start {T : TypeId} {wv : World} {lb : Nat} {cs : Array Value} (h : wv.heap[lb]? = some (.cells cs T (0, 0))) : LocR T wv wv lb cs (.slice none 0 0) [] :=
  ⟨h, ORows.nil _ _, ⟨rfl, rfl, rfl, Nat.le_refl _, fun _ _ _ => rfl⟩, (Array.getElem?_eq_some_iff.1 h).1⟩
theorem LocR.push {T : TypeId} {wv wr w6 w7 : World} {lb : Nat} {cs cs' : Array Value} {u v' rv : Value} {rows : List (List Int)} {row : List Int} {us : List Value} (h : LocR T wv wr lb cs u rows) (hb : Below wr.heap.size wr w6) (hr : OInts w6 wr.heap.size rv row)
    (h1 : wr.ownsRow wv.heap.size 26 1 u rows.length us) (h2 : us.length = rows.length)
    (h3 : ∀ (j : Nat) (u : Value) (row : List Int), us[j]? = some u → rows[j]? = some row → OInts wr wv.heap.size u row) (h4 : ∀ (i j : Nat) (u u' : Value), i < j → us[i]? = some u → us[j]? = some u' → u.ownBlock = none ∨ u.ownBlock ≠ u'.ownBlock)
    (hv' : w7.ownsRow wv.heap.size 26 1 v' (rows.length + 1) (us ++ [rv])) (hg : (w6.alloc (.cells #[rv] 26)).grownBy w7 u.ownBlock) (i : Nat) (hc : cs.setIfInBounds i v' = cs') :
    LocR T wv (w7.setCell ⟨lb, i, none⟩ v') lb cs' v' (rows ++ [row]) ∧ w7.heap[lb]? = some (.cells cs T (0, 0)) := by
  have hlr : lb < wr.heap.size := (Array.getElem?_eq_some_iff.1 h.loc).1
  have hs6 := hb.size
  have hsr := h.gr.size
  have hne : ∀ k, k < wv.heap.size → some k ≠ u.ownBlock := fun k hk e => by have := own_lt h1 k e.symm; omega
  have at7 : ∀ k, k < wv.heap.size → w7.heap[k]? = wr.heap[k]? := fun k hk =>
    ((hg.block k (by simp; omega) (hne k hk)).trans (heap_alloc_old w6 _ (by omega))).trans (hb.block k (by omega))
  have hl7 : w7.heap[lb]? = some (.cells cs T (0, 0)) := (at7 lb h.lt).trans h.loc
  have own7 := ORows.pushNew5 hsr hb hr h1 h2 h3 h4 hv' hg
  refine ⟨⟨by rw [← hc]; exact blk_set hl7 i v', own7.setLow' h.lt i v', ⟨hg.os.trans (hb.os.trans h.gr.os), hg.tape.trans (hb.tape.trans h.gr.tape), hg.output.trans (hb.output.trans h.gr.output), ?_, fun k hk hkl => ?_⟩, h.lt⟩, hl7⟩
  · have e : (w7.setCell ⟨lb, i, none⟩ v').heap.size = w7.heap.size := by simp [World.setCell]
    have h3 := hg.size
    rw [e]
    simp at h3
    omega
  · exact ((Below.heap_setCell w7 ⟨lb, i, none⟩ v' k (by show k ≠ lb; intro e; exact hkl (by rw [e]))).trans (at7 k hk)).trans (h.gr.block k hk hkl)
theorem LocR.below {T : TypeId} {w2 wv wr : World} {lb : Nat} {cs : Array Value} {u : Value} {xs : List (List Int)} (h : LocR T wv wr lb cs u xs) (hb : Below w2.heap.size w2 wv) (hl : w2.heap.size ≤ lb) : Below w2.heap.size w2 wr :=
  ⟨h.gr.os.trans hb.os, h.gr.tape.trans hb.tape, h.gr.output.trans hb.output, Nat.le_trans hb.size h.gr.size, fun k hk => (h.gr.block k (by have := hb.size; omega) (by intro e; injection e with e; omega)).trans (hb.block k hk)⟩
theorem LocR.other {T : TypeId} {wv wr : World} {lb B : Nat} {cs : Array Value} {u v : Value} {xs : List (List Int)} {ys : List Int} (h : LocR T wv wr lb cs u xs) (ho : OInts wv B v ys) (hne : v.ownBlock ≠ some lb) : OInts wr B v ys :=
  own_grown ho h.gr (.inr hne)
theorem LocR.at7 {T : TypeId} {wv wr w6 w7 : World} {lb b i : Nat} {cs : Array Value} {u x : Value} {rows : List (List Int)} {us : List Value} {o : Obj} (h : LocR T wv wr lb cs u rows) (hb : Below wr.heap.size wr w6)
    (h1 : wr.ownsRow wv.heap.size 26 1 u rows.length us) (hg : (w6.alloc o).grownBy w7 u.ownBlock) (hp : wr.cell? ⟨b, i, none⟩ = some x) (hk : b < wv.heap.size) : w7.cell? ⟨b, i, none⟩ = some x := by
  have hs6 := hb.size
  have hsr := h.gr.size
  exact (World.cell?_of_block (((hg.block b (by simp; omega) (fun e => by have := own_lt h1 b e.symm; omega)).trans (heap_alloc_old w6 _ (by omega))).trans (hb.block b (by omega)))).trans hp
theorem blk_held {wc wd : World} {bx : Nat} {o : Obj} (hz : wc.heap[bx]? = some o) (hb : Below wc.heap.size wc wd) : wd.heap[bx]? = some o := (hb.block _ (Array.getElem?_eq_some_iff.1 hz).1).trans hz

set_option maxRecDepth 100000 in
theorem cloneNil (c : Nat) (w : World) :
    Calls Try.prog 55 #[.slice none 0 c] w fun e w' => e = .returned (.slice none 0 0) ∧ Below w.heap.size w w' := by
  have hcmp := Lib.run_eql_slice_nil (P := Try.prog) w 26 3 none 0 c 0 0 Try.underlying26
  simp only [Option.isNone_none] at hcmp
  go_enter Try.func55, Try.ntmps55
  go_wp2
  go_ret
  exact ⟨rfl, Below.refl _ _⟩
theorem cloneAll (v : Value) (xs : List Int) (w : World) (h : RInts w v xs) (hs : xs.length ≤ 1048576) :
    Calls Try.prog 55 #[v] w fun e w' => ∃ u, e = .returned u ∧ OInts w' w.heap.size u xs ∧ Below w.heap.size w w' := by
  obtain ⟨A, c, rfl, h1, h2⟩ := h.form
  cases A with
  | some ad => exact clone_any ad _ c xs w h hs
  | none =>
    have hx : xs = [] := by
      cases xs with
      | nil => rfl
      | cons y ys =>
        obtain ⟨b, o, c', e, -⟩ := h.at_ (k := 0) (by simp)
        cases e
    subst hx
    refine (cloneNil c w).mono ?_
    rintro e w' ⟨rfl, hb⟩
    exact ⟨_, rfl, OInts.nil _ _, hb⟩
end

section
open Go.RowKit
set_option linter.unusedVariables false

/-- the rows of equations, three an equation -/
def rows3 : List MEq → List (List Int)
  | [] => []
  | e :: es => e.vars :: e.left :: e.right :: rows3 es
theorem rows3_len : ∀ es : List MEq, (rows3 es).length = es.length * 3
  | [] => rfl
  | e :: es => by simp only [rows3, List.length_cons, rows3_len es]; omega
theorem rows3_at : ∀ (es : List MEq) (k : Nat) (e : MEq), es[k]? = some e → (rows3 es)[k * 3]? = some e.vars ∧ (rows3 es)[k * 3 + 1]? = some e.left ∧ (rows3 es)[k * 3 + 2]? = some e.right
  | [], k, e, h => by simp at h
  | x :: es, 0, e, h => by simp at h; subst h; simp [rows3]
  | x :: es, k + 1, e, h => by
    have := rows3_at es k e (by simpa using h)
    rw [show (k + 1) * 3 = k * 3 + 3 by omega]
    simpa [rows3] using this
theorem run_make_wide (t e : TypeId) (z : Value) (size bytes : Nat) (ht : Try.prog.underlying t = some (.slice e)) (hinfo : (Try.prog.info? e).map (fun i => (i.zero, i.size, i.bytes)) = some (some z, size, bytes))
    (kl kc : IntKind) (n : Nat) (hbytes : bytes * n ≤ 281474976710656) (h63 : n ≤ 9223372036854775807) (w : World) :
    (Instr.makeSlice t (.int kl (n : Int)) (.int kc (n : Int))).run Try.prog w = .ok (.slice (some ⟨w.heap.size, 0, none⟩) n n) (w.alloc (.cells (madeCells z.cells (n * size)) e)) := by
  obtain ⟨i, hi, hzz⟩ := Option.map_eq_some_iff.1 hinfo
  simp only [Prod.mk.injEq] at hzz
  obtain ⟨hz, hs, hb⟩ := hzz
  have := run_make (P := Try.prog) w t e i z ht hi hz kl kc n n (by omega) (by omega) (by rw [hb]; omega) (by omega)
  simpa [hs] using this
theorem Try.tinfo_Eq : (Try.prog.info? 37).map (fun i => (i.zero, i.size, i.bytes)) = some (some (.agg #[.slice none 0 0, .slice none 0 0, .slice none 0 0]), 3, 72) := by kernel_rfl

/-- a block that is being filled with rows, cell by cell -/
def FillF (T : TypeId) (w wr : World) (rows : List (List Int)) (k : Nat) : Prop :=
  ∃ cur : Array Value, wr.heap[w.heap.size]? = some (.cells cur T (0, 0)) ∧ cur.size = rows.length ∧ (∀ (j : Nat) (row : List Int), j < k → rows[j]? = some row → ∃ u, cur[j]? = some u ∧ OInts wr (w.heap.size + 1) u row) ∧
    (∀ (i j : Nat) (u u' : Value), i < j → j < k → cur[i]? = some u → cur[j]? = some u' → Apart u u') ∧ Below w.heap.size w wr
section
variable {T : TypeId} {w wr w1 : World} {rows : List (List Int)} {k : Nat}
theorem FillF.start (T : TypeId) (w : World) (rows : List (List Int)) (cur : Array Value) (h : cur.size = rows.length) : FillF T w (w.alloc (.cells cur T)) rows 0 :=
  ⟨cur, heap_alloc_new w _, h, fun j row hj => by omega, fun i j u u' _ hj => by omega, below_alloc _ _⟩
theorem FillF.bel (h : FillF T w wr rows k) : Below w.heap.size w wr := by obtain ⟨_, _, _, _, _, hb⟩ := h; exact hb
theorem FillF.lt (h : FillF T w wr rows k) : w.heap.size < wr.heap.size := by obtain ⟨cur, h1, _⟩ := h; exact (Array.getElem?_eq_some_iff.1 h1).1
theorem FillF.keep (h : FillF T w wr rows k) (hb : Below wr.heap.size wr w1) : FillF T w w1 rows k := by
  have hl := h.lt
  obtain ⟨cur, h1, h2, h3, h4, h5⟩ := h
  exact ⟨cur, (hb.block _ hl).trans h1, h2, fun j row hj hr => by obtain ⟨u, a, b⟩ := h3 j row hj hr; exact ⟨u, a, b.keep hb⟩, h4, h5.trans (hb.mono (by omega))⟩
theorem FillF.cell (h : FillF T w wr rows k) {j : Nat} (hj : j < rows.length) : ∃ u, wr.cell? ⟨w.heap.size, j, none⟩ = some u ∧ wr.frozen? ⟨w.heap.size, j, none⟩ = false := by
  obtain ⟨cur, h1, h2, h3, h4, h5⟩ := h
  exact ⟨cur[j]'(by omega), (blk_cell h1 j).trans (Array.getElem?_eq_getElem (by omega)), blk_free h1 j⟩
/-- what stands there -/
theorem FillF.old (h : FillF T w wr rows k) {j : Nat} {x : Value} (hj : j < k) (hk : k ≤ rows.length) (hx : wr.cell? ⟨w.heap.size, j, none⟩ = some x) : ∀ b, x.ownBlock = some b → b < wr.heap.size := by
  obtain ⟨cur, h1, h2, h3, h4, h5⟩ := h
  obtain ⟨u, a, b⟩ := h3 j rows[j] hj (List.getElem?_eq_getElem (by omega))
  rw [blk_cell h1, a] at hx
  cases hx
  exact fun b' hb' => (own_lt b b' hb').2
theorem FillF.put (h : FillF T w wr rows k) (hk : k < rows.length) {u : Value} {row : List Int} (hr : rows[k]? = some row) (hu : OInts wr (w.heap.size + 1) u row) (ha : ∀ (i : Nat) (x : Value), i < k → wr.cell? ⟨w.heap.size, i, none⟩ = some x → Apart x u) :
    FillF T w (wr.setCell ⟨w.heap.size, k, none⟩ u) rows (k + 1) := by
  obtain ⟨cur, h1, h2, h3, h4, h5⟩ := h
  refine ⟨_, blk_set h1 k u, by simpa using h2, fun j row' hj hrow => ?_, fun i j x x' hij hjk hi hj => ?_, h5.setCell (Nat.le_refl _) _⟩
  · by_cases hjk : k = j
    · subst hjk
      rw [hr] at hrow
      cases hrow
      exact ⟨u, by rw [Array.getElem?_setIfInBounds, if_pos rfl, if_pos (by omega)], hu.setLow (by omega) _ _⟩
    · obtain ⟨x, hx, hxo⟩ := h3 j row' (by omega) hrow
      exact ⟨x, by rw [Array.getElem?_setIfInBounds, if_neg hjk]; exact hx, hxo.setLow (by omega) _ _⟩
  · rw [Array.getElem?_setIfInBounds, if_neg (by omega)] at hi
    by_cases hjk' : k = j
    · subst hjk'
      rw [Array.getElem?_setIfInBounds, if_pos rfl, if_pos (by omega)] at hj
      cases hj
      exact ha i x hij (by rw [blk_cell h1]; exact hi)
    · rw [Array.getElem?_setIfInBounds, if_neg hjk'] at hj
      exact h4 i j x x' hij (by omega) hi hj
theorem apart_old {w1 : World} {B : Nat} {x u : Value} {row : List Int} (hx : ∀ b, x.ownBlock = some b → b < B) (hu : OInts w1 B u row) : Apart x u := by
  unfold Apart
  cases hb : x.ownBlock with
  | none => exact .inl rfl
  | some b => right; intro e; have := hx b hb; have := (own_lt hu b e.symm).1; omega
theorem FillF.put3 (h : FillF T w wr rows (k * 3)) (hb : Below wr.heap.size wr w1) {a b c : Value} {e : MEq} (he : OEq w1 wr.heap.size (.agg #[a, b, c]) e) (hk : k * 3 + 3 ≤ rows.length)
    (r0 : rows[k * 3]? = some e.vars) (r1 : rows[k * 3 + 1]? = some e.left) (r2 : rows[k * 3 + 2]? = some e.right) :
    FillF T w (((w1.setCell ⟨w.heap.size, k * 3, none⟩ a).setCell ⟨w.heap.size, k * 3 + 1, none⟩ b).setCell ⟨w.heap.size, k * 3 + 2, none⟩ c) rows (k * 3 + 3) := by
  have hl := h.lt
  obtain ⟨a', b', c', e', h1, h2, h3, p1, p2, p3⟩ := he
  injection e' with e'
  simp at e'
  obtain ⟨rfl, rfl, rfl⟩ := e'
  have h0 := h.keep hb
  have old : ∀ (j : Nat) (x : Value), j < k * 3 → w1.cell? ⟨w.heap.size, j, none⟩ = some x → ∀ b, x.ownBlock = some b → b < wr.heap.size := fun j x hj hx => by
    refine h.old hj (by omega) ?_
    obtain ⟨cur, q1, _⟩ := h
    have q2 := (hb.block _ hl).trans q1
    rw [blk_cell q2] at hx
    rw [blk_cell q1]; exact hx
  have f1 := h0.put (by omega) r0 (h1.base (by omega)) (fun i x hi hx => apart_old (old i x hi hx) h1)
  have c1 : ∀ (i : Nat) (x u : Value), (w1.setCell ⟨w.heap.size, k * 3, none⟩ u).cell? ⟨w.heap.size, i, none⟩ = some x → i < k * 3 → w1.cell? ⟨w.heap.size, i, none⟩ = some x := fun i x u hx hi => by
    rwa [World.cell?_setCell_other _ _ _ _ (by intro e; injection e; omega)] at hx
  have f2 := f1.put (by omega) r1 ((h2.base (by omega)).setLow (by omega) _ _) (fun i x hi hx => by
    by_cases hi3 : i < k * 3
    · exact apart_old (old i x hi3 (c1 i x _ hx hi3)) h2
    · have : i = k * 3 := by omega
      subst this
      obtain ⟨cur, q1, q2, -⟩ := h0
      rw [blk_cell (blk_set q1 (k * 3) a), Array.getElem?_setIfInBounds, if_pos rfl, if_pos (by omega)] at hx
      cases hx
      exact p1)
  have f3 := f2.put (by omega) r2 (((h3.base (by omega)).setLow (by omega) _ _).setLow (by omega) _ _) (fun i x hi hx => by
    obtain ⟨cur, q1, q2, -⟩ := h0
    have s1 := blk_set q1 (k * 3) a
    have s2 := blk_set s1 (k * 3 + 1) b
    rw [blk_cell s2, Array.getElem?_setIfInBounds] at hx
    by_cases hi4 : k * 3 + 1 = i
    · subst hi4
      rw [if_pos rfl, if_pos (by simp; omega)] at hx
      cases hx
      exact p3
    · rw [if_neg hi4, Array.getElem?_setIfInBounds] at hx
      by_cases hi5 : k * 3 = i
      · subst hi5
        rw [if_pos rfl, if_pos (by omega)] at hx
        cases hx
        exact p2
      · rw [if_neg hi5] at hx
        exact apart_old (old i x (by omega) (by rw [blk_cell q1]; exact hx)) h3)
  exact f3
theorem FillF.done {n size : Nat} (h : FillF T w wr rows k) (hk : k = rows.length) (hn : n * size = rows.length) (hm : n ≤ 9223372036854775807) : ORowsT T size n wr w.heap.size (.slice (some ⟨w.heap.size, 0, none⟩) n n) rows ∧ Below w.heap.size w wr := by
  obtain ⟨cur, h1, h2, h3, h4, h5⟩ := h
  subst hk
  refine ⟨⟨cur.toList, ?_, by simpa using h2, fun j u row hu hrow => ?_, fun i j u u' hij hi hj => ?_⟩, h5⟩
  · refine ⟨by simp [h2, hn], .inr ⟨w.heap.size, _, cur, rfl, Nat.le_refl _, h1, Nat.le_refl _, by rw [maxLen_eq]; exact hm, by omega, List.take_of_length_le (by simp; omega)⟩⟩
  · obtain ⟨x, hx, hxo⟩ := h3 j row (List.getElem?_eq_some_iff.1 hrow).1 hrow
    rw [Array.getElem?_toList, hx] at hu
    cases hu
    exact hxo.base (by omega)
  · rw [Array.getElem?_toList] at hi hj
    exact h4 i j u u' hij (by have := (Array.getElem?_eq_some_iff.1 hj).1; omega) hi hj
end

def OEqs (w : World) (B : Nat) (v : Value) (es : List MEq) : Prop := ORowsT 37 3 es.length w B v (rows3 es)
section
variable {T : TypeId} {size n : Nat} {w w' : World} {B B' : Nat} {v : Value} {rows : List (List Int)} {es : List MEq}
theorem ORowsT.keep (h : ORowsT T size n w B v rows) (hb : Below w.heap.size w w') : ORowsT T size n w' B v rows := by
  obtain ⟨us, h1, h2, h3, h4⟩ := h
  exact ⟨us, own_keep h1 hb, h2, fun j u row a b => (h3 j u row a b).keep hb, h4⟩
theorem ORowsT.base (h : ORowsT T size n w B v rows) (hB : B' ≤ B) : ORowsT T size n w B' v rows := by
  obtain ⟨us, h1, h2, h3, h4⟩ := h
  exact ⟨us, own_base h1 hB, h2, fun j u row a b => (h3 j u row a b).base hB, h4⟩
theorem ORowsT.setLow {b : Nat} (h : ORowsT T size n w B v rows) (hb : b < B) (i : Nat) (x : Value) : ORowsT T size n (w.setCell ⟨b, i, none⟩ x) B v rows := by
  obtain ⟨us, h1, h2, h3, h4⟩ := h
  exact ⟨us, ownsRow_setCell_below h1 hb _, h2, fun j u row a b' => (h3 j u row a b').setLow hb _ _, h4⟩
theorem wide_reads {e : TypeId} {zs : List Value} (h : w.ownsRow B e size v n zs) : ∃ A c, v = .slice A n c ∧ n ≤ c ∧ c ≤ maxLen ∧ ∀ j x, zs[j]? = some x → ∃ b, A = some ⟨b, 0, none⟩ ∧ w.cell? ⟨b, j, none⟩ = some x := by
  obtain ⟨hl, h⟩ := h
  rcases h with ⟨rfl, rfl⟩ | ⟨g, cap, cur, rfl, hg, hh, h1, h2, h3, h4⟩
  · refine ⟨none, 0, rfl, Nat.le_refl _, Nat.zero_le _, fun j x hj => ?_⟩
    have : zs = [] := List.eq_nil_of_length_eq_zero (by simpa using hl)
    subst this
    simp at hj
  · refine ⟨_, cap, rfl, h1, h2, fun j x hj => ⟨g, rfl, ?_⟩⟩
    subst h4
    rw [List.getElem?_take] at hj
    split at hj
    · simpa [World.cell?, hh] using hj
    · cases hj
theorem OEqs.reads (h : OEqs w B v es) : REqs w v es := by
  obtain ⟨us, h1, h2, h3, -⟩ := h
  obtain ⟨A, c, e, k1, k2, k3⟩ := wide_reads h1
  refine ⟨A, c, e, k1, k2, fun j q hj => ?_⟩
  obtain ⟨r0, r1, r2⟩ := rows3_at es j q hj
  have hjl := (List.getElem?_eq_some_iff.1 hj).1
  have hl := rows3_len es
  have get : ∀ i, i < es.length * 3 → ∃ u, us[i]? = some u := fun i hi => ⟨us[i]'(by omega), List.getElem?_eq_getElem _⟩
  obtain ⟨x, hx⟩ := get (j * 3) (by omega)
  obtain ⟨y, hy⟩ := get (j * 3 + 1) (by omega)
  obtain ⟨z, hz⟩ := get (j * 3 + 2) (by omega)
  obtain ⟨b, ea, c0⟩ := k3 _ x hx
  obtain ⟨b1, ea1, c1⟩ := k3 _ y hy
  obtain ⟨b2, ea2, c2⟩ := k3 _ z hz
  rw [ea] at ea1 ea2
  cases ea1
  cases ea2
  exact ⟨b, 0, x, y, z, ea, by simpa using c0, by simpa using c1, by simpa using c2, (h3 _ _ _ hx r0).reads, (h3 _ _ _ hy r1).reads, (h3 _ _ _ hz r2).reads⟩
end

theorem eq_drew (w : World) : Below w.heap.size w w.drew := ⟨rfl, rfl, rfl, Nat.le_refl _, fun _ _ => rfl⟩
theorem eq_undrew {w w' : World} (h : Below w.drew.heap.size w.drew w') : Below w.heap.size w w' := ⟨h.os, h.tape, h.output, h.size, h.block⟩
theorem takeE_bad {xs ys : List MEq} {k : Nat} (hx : k < xs.length) (hy : k < ys.length) (he : sameE xs[k] ys[k] = false) : sameEs xs ys = false := by
  cases h : sameEs xs ys with
  | false => rfl
  | true =>
    have := sameEs_eq.1 h
    subst this
    rw [sameE_self] at he
    cases he
end

section
open Go.RowKit
set_option linter.unusedVariables false

/-- a theory that a call has made: the rows of its operations lie apart from those of its axioms -/
def OThy (w : World) (B : Nat) (v : Value) (t : MThy) : Prop := ∃ u x, v = .agg #[.int .i64 t.over.sorts, u, x] ∧ ∃ (wc : World) (B0 : Nat), B ≤ B0 ∧ B0 ≤ wc.heap.size ∧ wc.heap.size ≤ w.heap.size ∧ ORows wc B0 u t.over.ops ∧ (∀ k, B0 ≤ k → k < wc.heap.size → w.heap[k]? = wc.heap[k]?) ∧ OEqs w wc.heap.size x t.eqs
theorem orows_same {w w' : World} {B : Nat} {v : Value} {rows : List (List Int)} (h : ORows w B v rows) (hk : ∀ k, B ≤ k → k < w.heap.size → w'.heap[k]? = w.heap[k]?) : ORows w' B v rows := by
  obtain ⟨us, h1, h2, h3, h4⟩ := h
  have same : ∀ {B2 : Nat} {e : TypeId} {size n : Nat} {v : Value} {zs : List Value}, B ≤ B2 → w.ownsRow B2 e size v n zs → w'.ownsRow B2 e size v n zs := fun hB h => by
    refine ⟨h.1, ?_⟩
    rcases h.2 with h2 | ⟨g, cap, cur, rfl, hg, hh, r⟩
    · exact .inl h2
    · exact .inr ⟨g, cap, cur, rfl, hg, (hk g (by omega) (Array.getElem?_eq_some_iff.1 hh).1).trans hh, r⟩
  exact ⟨us, same (Nat.le_refl _) h1, h2, fun j u row a b => same (Nat.le_refl _) (h3 j u row a b), h4⟩
theorem orowsT_same {T : TypeId} {size n : Nat} {w w' : World} {B : Nat} {v : Value} {rows : List (List Int)} (h : ORowsT T size n w B v rows) (hk : ∀ k, B ≤ k → k < w.heap.size → w'.heap[k]? = w.heap[k]?) : ORowsT T size n w' B v rows := by
  obtain ⟨us, h1, h2, h3, h4⟩ := h
  have same : ∀ {B2 : Nat} {e : TypeId} {size n : Nat} {v : Value} {zs : List Value}, B ≤ B2 → w.ownsRow B2 e size v n zs → w'.ownsRow B2 e size v n zs := fun hB h => by
    refine ⟨h.1, ?_⟩
    rcases h.2 with h2 | ⟨g, cap, cur, rfl, hg, hh, r⟩
    · exact .inl h2
    · exact .inr ⟨g, cap, cur, rfl, hg, (hk g (by omega) (Array.getElem?_eq_some_iff.1 hh).1).trans hh, r⟩
  exact ⟨us, same (Nat.le_refl _) h1, h2, fun j u row a b => same (Nat.le_refl _) (h3 j u row a b), h4⟩
section
variable {w w' : World} {B B' : Nat} {v : Value} {t : MThy}
theorem OThy.same (h : OThy w B v t) (hs : w.heap.size ≤ w'.heap.size) (hk : ∀ k, B ≤ k → k < w.heap.size → w'.heap[k]? = w.heap[k]?) : OThy w' B v t := by
  obtain ⟨u, x, rfl, wc, B0, z, a, b, c, d, e⟩ := h
  exact ⟨u, x, rfl, wc, B0, z, a, by omega, c, fun k h1 h2 => (hk k (by omega) (by omega)).trans (d k h1 h2), orowsT_same e fun k h1 h2 => hk k (by omega) h2⟩
theorem OThy.keep (h : OThy w B v t) (hb : Below w.heap.size w w') : OThy w' B v t := h.same hb.size fun k _ hk => hb.block k hk
theorem OThy.base (h : OThy w B v t) (hB : B' ≤ B) : OThy w B' v t := by
  obtain ⟨u, x, rfl, wc, B0, z, r⟩ := h
  exact ⟨u, x, rfl, wc, B0, by omega, r⟩
theorem OThy.rows (h : OThy w B v t) : ∃ u x, v = .agg #[.int .i64 t.over.sorts, u, x] ∧ ORows w B u t.over.ops ∧ OEqs w B x t.eqs := by
  obtain ⟨u, x, rfl, wc, B0, z, a, b, c, d, e⟩ := h
  exact ⟨u, x, rfl, (orows_same c d).base z, e.base (by omega)⟩
theorem OThy.reads (h : OThy w B v t) : RThy w v t := by
  obtain ⟨u, x, rfl, h1, h2⟩ := h.rows
  exact ⟨u, x, rfl, h1.reads, h2.reads⟩
end
def FitsT (t : MThy) : Prop := Fits t.over.ops ∧ FitsEs t.eqs
def sameT (a b : MThy) : Bool := sameS a.over b.over && sameEs a.eqs b.eqs
theorem sameT_self (a : MThy) : sameT a a = true := by unfold sameT; rw [sameS_self, sameEs_self]; rfl

theorem ORows.setLowT {w : World} {B b : Nat} {v : Value} {rows : List (List Int)} (h : ORows w B v rows) (hb : b < B) (i : Nat) (x : Value) : ORows (w.setCell ⟨b, i, none⟩ x) B v rows := h.setLow' hb i x
end

section
open Go.RowKit
set_option linter.unusedVariables false
set_option linter.unusedSimpArgs false

structure MModel where
  sizes : List Int
  tables : List (List Int)
def RModel (w : World) (v : Value) (m : MModel) : Prop := ∃ a0 a1, v = .agg #[a0, a1] ∧ RInts w a0 m.sizes ∧ RRows w a1 m.tables
/-- the row of the sizes lies below a block number, the tables from there on -/
def OModel (w : World) (B : Nat) (v : Value) (m : MModel) : Prop := ∃ a0 a1, v = .agg #[a0, a1] ∧ OInts w B a0 m.sizes ∧ ∃ C, B ≤ C ∧ (∀ k, a0.ownBlock = some k → k < C) ∧ ORows w C a1 m.tables
section
variable {w w' : World} {v : Value} {m : MModel} {B B' : Nat}
theorem RModel.keep (h : RModel w v m) (hb : Below w.heap.size w w') : RModel w' v m := by
  obtain ⟨a0, a1, rfl, h0, h1⟩ := h; exact ⟨a0, a1, rfl, h0.keep hb, h1.keep hb⟩
theorem OModel.keep (h : OModel w B v m) (hb : Below w.heap.size w w') : OModel w' B v m := by
  obtain ⟨a0, a1, rfl, h0, C, hC, hl, h1⟩ := h; exact ⟨a0, a1, rfl, h0.keep hb, C, hC, hl, h1.keep hb⟩
theorem OModel.base (h : OModel w B v m) (hB : B' ≤ B) : OModel w B' v m := by
  obtain ⟨a0, a1, rfl, h0, C, hC, hl, h1⟩ := h; exact ⟨a0, a1, rfl, h0.base hB, C, by omega, hl, h1⟩
theorem OModel.same (h : OModel w B v m) (hk : ∀ k, B ≤ k → k < w.heap.size → w'.heap[k]? = w.heap[k]?) : OModel w' B v m := by
  obtain ⟨a0, a1, rfl, h0, C, hC, hl, h1⟩ := h; exact ⟨a0, a1, rfl, h0.same hk, C, hC, hl, h1.same fun k q1 q2 => hk k (by omega) q2⟩
theorem OModel.reads (h : OModel w B v m) : RModel w v m := by
  obtain ⟨a0, a1, rfl, h0, C, hC, hl, h1⟩ := h; exact ⟨a0, a1, rfl, h0.reads, h1.reads⟩
theorem RModel.form (h : RModel w v m) : ∃ A0 c0 A1 c1, v = .agg #[.slice A0 m.sizes.length c0, .slice A1 m.tables.length c1] := by
  obtain ⟨a0, a1, rfl, h0, h1⟩ := h
  obtain ⟨A0, c0, rfl, -⟩ := h0.form
  obtain ⟨A1, c1, rfl, -⟩ := h1.form
  exact ⟨_, _, _, _, rfl⟩
theorem RModel.of {a0 a1 : Value} (h : RModel w (.agg #[a0, a1]) m) : RInts w a0 m.sizes ∧ RRows w a1 m.tables := by
  obtain ⟨a0', a1', he, h0, h1⟩ := h
  injection he with he
  simp at he
  obtain ⟨rfl, rfl⟩ := he
  exact ⟨h0, h1⟩
theorem RModel.mk {a0 a1 : Value} (h0 : RInts w a0 m.sizes) (h1 : RRows w a1 m.tables) : RModel w (.agg #[a0, a1]) m := ⟨a0, a1, rfl, h0, h1⟩
end
def FitsMd (m : MModel) : Prop := m.sizes.length ≤ 1048576 ∧ Fits m.tables
def sameMd (a b : MModel) : Bool := (sameI a.sizes b.sizes) && sameR a.tables b.tables
theorem sameMd_self (a : MModel) : sameMd a a = true := by unfold sameMd sameI sameR; simp
theorem sameMd_eq {a b : MModel} : sameMd a b = true ↔ a = b := by
  obtain ⟨x0, x1⟩ := a
  obtain ⟨y0, y1⟩ := b
  unfold sameMd sameI sameR
  simp [and_assoc]
theorem szModel_any (v : Value) (m : MModel) (left : Int) (w : World) (h : RModel w v m) (h0 : 0 ≤ left) (h1 : left ≤ 1048576) :
    Calls Try.prog 31 #[v, .int .i64 left] w fun e' w' => ∃ r : Int, e' = .returned (.int .i64 r) ∧ (r < 0 ∨ (0 ≤ r ∧ r ≤ left ∧ FitsMd m)) ∧ Below w.heap.size w w' := by
  obtain ⟨a0, a1, rfl, k0, k1⟩ := h
  obtain ⟨xs0, xs1⟩ := m
  simp only at k0 k1
  have hb := below_alloc w (.cells #[a0, a1] 60)
  have HB := Lib.hid hb
  have K0 := Lib.hid (k0.keep hb)
  have K1 := Lib.hid (k1.keep hb)
  obtain ⟨A0, c0, rfl, -⟩ := k0.form
  obtain ⟨A1, c1, rfl, -⟩ := k1.form
  clear k0 k1 hb
  go_enter Try.func31, Try.ntmps31
  go_wp2_with fail
  refine (szIntS_any _ xs0 _ _ K0.out h0 h1).mono ?_
  rintro e w1 ⟨r0, rfl, hr, rfl⟩
  by_cases hneg0 : r0 < 0
  · clear hr
    go_wp2
    go_ret
    exact ⟨-1, rfl, .inl (by omega), HB.out⟩
  have hr1 := hr.resolve_left hneg0
  clear hr
  obtain ⟨p0, hr3⟩ := hr1
  have Q0 := Lib.hid hr3
  have s0 : r0 ≤ 1048576 := by omega
  clear hr3
  go_wp2_with fail
  refine (szIntSS_any _ xs1 _ _ K1.out p0 s0).mono ?_
  rintro e w1 ⟨r1, rfl, hr, rfl⟩
  by_cases hneg1 : r1 < 0
  · clear hr
    go_wp2
    go_ret
    exact ⟨-1, rfl, .inl (by omega), HB.out⟩
  have hr1 := hr.resolve_left hneg1
  clear hr
  obtain ⟨p1, hr3, hr4⟩ := hr1
  have Q1 := Lib.hid hr4
  clear hr4
  go_wp2
  go_ret
  have q0 := Q0.out
  exact ⟨r1, rfl, .inr ⟨p1, by omega, ⟨by simp only; omega, Q1.out⟩⟩, HB.out⟩
set_option maxRecDepth 100000 in
theorem toModel_any (v : Value) (m : MModel) (w : World) (h : RModel w v m) (hs : FitsMd m) :
    Calls Try.prog 33 #[v] w fun e' w' => ∃ u, e' = .returned u ∧ OModel w' w.heap.size u m ∧ Below w.heap.size w w' := by
  obtain ⟨x0, x1, rfl, h0, h1⟩ := h
  obtain ⟨xs0, xs1⟩ := m
  obtain ⟨hs0, hs1⟩ := hs
  simp only at h0 h1 hs0 hs1
  obtain ⟨A0, c0, rfl, -⟩ := h0.form
  obtain ⟨A1, c1, rfl, -⟩ := h1.form
  have hm := Mk.start w 60 30 #[.slice A0 xs0.length c0, .slice A1 xs1.length c1] #[.slice none 0 0, .slice none 0 0] #[.slice none 0 0, .slice none 0 0]
  generalize hW : ((w.alloc (.cells #[.slice A0 xs0.length c0, .slice A1 xs1.length c1] 60)).alloc (.cells #[.slice none 0 0, .slice none 0 0] 30)).alloc (.cells #[.slice none 0 0, .slice none 0 0] 30) = W at hm
  have H0 := Lib.hid (h0.keep hm.b)
  have H1 := Lib.hid h1
  have p0 : W.cell? ⟨w.heap.size, 0, none⟩ = some (.slice A0 xs0.length c0) := hm.ca 0
  have HM := Lib.hid hm
  clear h0 h1 hm
  go_enter Try.func33, Try.ntmps33
  go_wp2_with fail
  clear hW
  refine (toIntS_any _ xs0 _ H0.out hs0).mono ?_
  rintro e y0 ⟨u0, rfl, ho, hb⟩
  have hz0 := HM.out.z
  have hm := HM.out.below hb
  obtain ⟨B0, d0, rfl, -⟩ := ho.reads.form
  have q0 : y0.cell? ⟨w.heap.size + 2, 0, none⟩ = some (.slice none 0 0) := hm.co 0
  have q1 := hm.fo 0
  have hmn := hm.setO 0 (.slice B0 xs0.length d0)
  have n0 := ho.setLow (b := w.heap.size + 2) (by omega) 0 (.slice B0 xs0.length d0)
  generalize hW0 : y0.setCell ⟨w.heap.size + 2, 0, none⟩ (.slice B0 xs0.length d0) = Y0 at hmn n0
  have p1 : Y0.cell? ⟨w.heap.size, 1, none⟩ = some (.slice A1 xs1.length c1) := hmn.ca 1
  have O0 := Lib.hid n0
  have H1 := Lib.hid (H1.out.keep hmn.b)
  replace HM := Lib.hid hmn
  clear ho hb hm p0 hmn n0 H0
  go_wp2_with fail
  clear hW0 q0 q1
  refine (toIntSS_any _ xs1 _ H1.out hs1).mono ?_
  rintro e y1 ⟨u1, rfl, ho, hb⟩
  have hz1 := HM.out.z
  have hm := HM.out.below hb
  obtain ⟨B1, d1, rfl, -⟩ := ho.reads.form
  have hlt0 := Lib.hid (fun k e => (own_lt O0.out k e).2)
  have HZ1 := Lib.hid HM.out.z
  have hmn := (((hm.setO 1 (.slice B1 xs1.length d1)).setR 0 (.slice B0 xs0.length d0)).setR 1 (.slice B1 xs1.length d1))
  have n0 := ((((O0.out.keep hb).setLow (b := w.heap.size + 2) (by omega) 1 (.slice B1 xs1.length d1)).setLow (b := w.heap.size + 1) (by omega) 0 (.slice B0 xs0.length d0)).setLow (b := w.heap.size + 1) (by omega) 1 (.slice B1 xs1.length d1))
  have n1 := (((ho.setLowT (b := w.heap.size + 2) (by omega) 1 (.slice B1 xs1.length d1)).setLowT (b := w.heap.size + 1) (by omega) 0 (.slice B0 xs0.length d0)).setLowT (b := w.heap.size + 1) (by omega) 1 (.slice B1 xs1.length d1))
  have HF := Lib.hid (And.intro n0 (And.intro n1 hmn))
  have g0 : y1.cell? ⟨w.heap.size + 2, 0, none⟩ = some (.slice B0 xs0.length d0) := hm.co 0
  have g1 : y1.cell? ⟨w.heap.size + 2, 1, none⟩ = some (.slice none 0 0) := hm.co 1
  have gf := hm.fo 1
  have r0 : y1.cell? ⟨w.heap.size + 1, 0, none⟩ = some (.slice none 0 0) := hm.cr 0
  have f0 := hm.fr 0
  have r1 : y1.cell? ⟨w.heap.size + 1, 1, none⟩ = some (.slice none 0 0) := hm.cr 1
  have f1 := hm.fr 1
  clear ho hb hm hmn n0 n1 O0 H1 p1 HM
  go_wp2
  obtain ⟨n0, n1, hmn⟩ := HF.out
  generalize ((y1.setCell ⟨w.heap.size + 2, 1, none⟩ (.slice B1 xs1.length d1)).setCell ⟨w.heap.size + 1, 0, none⟩ (.slice B0 xs0.length d0)).setCell ⟨w.heap.size + 1, 1, none⟩ (.slice B1 xs1.length d1) = wz at n0 n1 hmn ⊢
  have k0 : wz.cell? ⟨w.heap.size + 1, 0, none⟩ = some (.slice B0 xs0.length d0) := hmn.cr 0
  have k1 : wz.cell? ⟨w.heap.size + 1, 1, none⟩ = some (.slice B1 xs1.length d1) := hmn.cr 1
  clear g0 g1 gf r0 f0 r1 f1
  refine bodyPost_ret (v := .agg #[.slice B0 xs0.length d0, .slice B1 xs1.length d1]) (by simp [results, Try.results33, go_sem, k0, k1]) rfl ?_
  exact ⟨_, rfl, ⟨_, _, rfl, n0.base (by omega), _, by have := HZ1.out; omega, hlt0.out, n1⟩, hmn.b⟩
theorem eqModel_any (v v' : Value) (a b : MModel) (w : World) (h : RModel w v a) (h' : RModel w v' b) :
    Calls Try.prog 34 #[v, v'] w fun e w' => e = .returned (.bool (sameMd a b)) ∧ Below w.heap.size w w' := by
  obtain ⟨x0, x1, rfl, h0, h1⟩ := h
  obtain ⟨y0, y1, rfl, k0, k1⟩ := h'
  have hb2 : Below w.heap.size w ((w.alloc (.cells #[x0, x1] 30)).alloc (.cells #[y0, y1] 30)) := (below_alloc _ _).alloc (by simp) _
  have HB := Lib.hid hb2
  have H0 := Lib.hid (h0.keep hb2)
  have K0 := Lib.hid (k0.keep hb2)
  have H1 := Lib.hid (h1.keep hb2)
  have K1 := Lib.hid (k1.keep hb2)
  obtain ⟨a0, a1⟩ := a
  obtain ⟨b0, b1⟩ := b
  simp only at h0 h1 k0 k1 H0 H1 K0 K1
  obtain ⟨A0, c0, rfl, -⟩ := h0.form
  obtain ⟨D0, d0, rfl, -⟩ := k0.form
  obtain ⟨A1, c1, rfl, -⟩ := h1.form
  obtain ⟨D1, d1, rfl, -⟩ := k1.form
  clear h0 h1 k0 k1 hb2
  have f0 := cell_keep (below_alloc (w.alloc (.cells #[.slice A0 a0.length c0, .slice A1 a1.length c1] 30)) (.cells #[.slice D0 b0.length d0, .slice D1 b1.length d1] 30)) (bx_at w #[.slice A0 a0.length c0, .slice A1 a1.length c1] 30 (k := 0) rfl)
  have f1 := cell_keep (below_alloc (w.alloc (.cells #[.slice A0 a0.length c0, .slice A1 a1.length c1] 30)) (.cells #[.slice D0 b0.length d0, .slice D1 b1.length d1] 30)) (bx_at w #[.slice A0 a0.length c0, .slice A1 a1.length c1] 30 (k := 1) rfl)
  have g0 := bx_at (w.alloc (.cells #[.slice A0 a0.length c0, .slice A1 a1.length c1] 30)) #[.slice D0 b0.length d0, .slice D1 b1.length d1] 30 (k := 0) rfl
  have g1 := bx_at (w.alloc (.cells #[.slice A0 a0.length c0, .slice A1 a1.length c1] 30)) #[.slice D0 b0.length d0, .slice D1 b1.length d1] 30 (k := 1) rfl
  simp only [World.size_alloc] at g0 g1
  generalize hW : (w.alloc (.cells #[.slice A0 a0.length c0, .slice A1 a1.length c1] 30)).alloc (.cells #[.slice D0 b0.length d0, .slice D1 b1.length d1] 30) = W at HB H0 H1 K0 K1 f0 f1 g0 g1
  have HE : Hid (sameMd ⟨a0, a1⟩ ⟨b0, b1⟩ = ((sameI a0 b0) && sameR a1 b1)) := rfl
  cases x0 : sameI a0 b0 with
  | false =>
    rw [x0] at HE
    have X0 := Lib.hid x0
    clear x0
    go_enter Try.func34, Try.ntmps34
    go_wp2_with fail
    clear hW
    refine (eqIntS_is _ _ _ _ _ _ X0.out H0.out K0.out).mono ?_
    rintro e z0 ⟨rfl, hd⟩
    have hb := hd.below
    replace HB := Lib.hid (sz_keep HB.out hb)
    replace f1 := cell_keep hb f1
    replace g1 := cell_keep hb g1
    replace H1 := Lib.hid (H1.out.keep hb)
    replace K1 := Lib.hid (K1.out.keep hb)
    clear hd hb f0 g0 H0 K0
    go_wp2
    go_ret
    exact ⟨ret_bool HE.out.symm, HB.out⟩
  | true =>
    rw [x0] at HE
    have X0 := Lib.hid x0
    clear x0
    cases x1 : sameR a1 b1 with
    | false =>
      rw [x1] at HE
      have X1 := Lib.hid x1
      clear x1
      go_enter Try.func34, Try.ntmps34
      go_wp2_with fail
      clear hW
      refine (eqIntS_is _ _ _ _ _ _ X0.out H0.out K0.out).mono ?_
      rintro e z0 ⟨rfl, hd⟩
      have hb := hd.below
      replace HB := Lib.hid (sz_keep HB.out hb)
      replace f1 := cell_keep hb f1
      replace g1 := cell_keep hb g1
      replace H1 := Lib.hid (H1.out.keep hb)
      replace K1 := Lib.hid (K1.out.keep hb)
      clear hd hb f0 g0 H0 K0
      go_wp2_with fail
      refine (eqIntSS_is _ _ _ _ _ _ X1.out H1.out K1.out).mono ?_
      rintro e z1 ⟨rfl, hd⟩
      have hb := hd.below
      replace HB := Lib.hid (sz_keep HB.out hb)
      clear hd hb f1 g1 H1 K1
      go_wp2
      go_ret
      exact ⟨ret_bool HE.out.symm, HB.out⟩
    | true =>
      rw [x1] at HE
      have X1 := Lib.hid x1
      clear x1
      go_enter Try.func34, Try.ntmps34
      go_wp2_with fail
      clear hW
      refine (eqIntS_is _ _ _ _ _ _ X0.out H0.out K0.out).mono ?_
      rintro e z0 ⟨rfl, hd⟩
      have hb := hd.below
      replace HB := Lib.hid (sz_keep HB.out hb)
      replace f1 := cell_keep hb f1
      replace g1 := cell_keep hb g1
      replace H1 := Lib.hid (H1.out.keep hb)
      replace K1 := Lib.hid (K1.out.keep hb)
      clear hd hb f0 g0 H0 K0
      go_wp2_with fail
      refine (eqIntSS_is _ _ _ _ _ _ X1.out H1.out K1.out).mono ?_
      rintro e z1 ⟨rfl, hd⟩
      have hb := hd.below
      replace HB := Lib.hid (sz_keep HB.out hb)
      clear hd hb f1 g1 H1 K1
      go_wp2
      go_ret
      exact ⟨ret_bool HE.out.symm, HB.out⟩
theorem eqModel_is (v v' : Value) (a b : MModel) (w : World) (r : Bool) (hr : sameMd a b = r) (h : RModel w v a) (h' : RModel w v' b) :
    Calls Try.prog 34 #[v, v'] w fun e w' => e = .returned (.bool r) ∧ Below w.heap.size w w' := by
  subst hr; exact eqModel_any v v' a b w h h'
end

section
open Go.RowKit
set_option linter.unusedVariables false
set_option linter.unusedSimpArgs false

/-- how many rows of values -/
def waysM : List Int → Int
  | [] => 1
  | z :: zs => z * waysM zs
theorem waysM_append (xs ys : List Int) : waysM (xs ++ ys) = waysM xs * waysM ys := by
  induction xs with
  | nil => simp [waysM]
  | cons x xs ih => simp only [List.cons_append, waysM, ih, Int.mul_assoc]
theorem waysM_take {xs : List Int} {k : Nat} (hk : k < xs.length) : waysM (xs.take (k + 1)) = waysM (xs.take k) * xs[k] := by
  rw [List.take_succ_eq_append_getElem hk, waysM_append]; simp [waysM]
/-- sizes of sorts -/
def Sizes (zs : List Int) : Prop := ∀ z ∈ zs, 1 ≤ z ∧ z ≤ 3
theorem Sizes.take {zs : List Int} (h : Sizes zs) (k : Nat) : Sizes (zs.take k) := fun z hz => h z (List.mem_of_mem_take hz)
theorem Sizes.tail {z : Int} {zs : List Int} (h : Sizes (z :: zs)) : Sizes zs := fun x hx => h x (List.mem_cons_of_mem _ hx)
theorem ways_pos {zs : List Int} (h : Sizes zs) : 1 ≤ waysM zs := by
  induction zs with
  | nil => simp [waysM]
  | cons z zs ih =>
    have h1 := h z (List.mem_cons_self ..)
    have h2 := ih h.tail
    simp only [waysM]
    have := Int.mul_le_mul h1.1 h2 (by omega) (by omega)
    omega
theorem ways_le {zs : List Int} (h : Sizes zs) : waysM zs ≤ 3 ^ zs.length := by
  induction zs with
  | nil => simp [waysM]
  | cons z zs ih =>
    have h1 := h z (List.mem_cons_self ..)
    have h2 := ih h.tail
    have h3 := ways_pos h.tail
    simp only [waysM, List.length_cons]
    rw [Int.pow_succ, Int.mul_comm (3 ^ zs.length) 3]
    exact Int.mul_le_mul h1.2 h2 (by omega) (by omega)
theorem ways_few {zs : List Int} (h : Sizes zs) (hl : zs.length ≤ 4) : waysM zs ≤ 81 := by
  have h1 := ways_le h
  have : ∀ n : Nat, n ≤ 4 → (3 : Int) ^ n ≤ 81 := by
    intro n hn
    match n, hn with
    | 0, _ => decide
    | 1, _ => decide
    | 2, _ => decide
    | 3, _ => decide
    | 4, _ => decide
  exact Int.le_trans h1 (this _ hl)

/-- the number that a row of values has -/
def placeM : Int → List Int → List Int → Int
  | p, z :: zs, v :: vs => placeM (p * z + v) zs vs
  | p, _, _ => p
def InAll (zs vs : List Int) : Prop := vs.length = zs.length ∧ ∀ (j : Nat) (h : j < zs.length) (h' : j < vs.length), 0 ≤ vs[j] ∧ vs[j] < zs[j]
theorem InAll.tail {z v : Int} {zs vs : List Int} (h : InAll (z :: zs) (v :: vs)) : (0 ≤ v ∧ v < z) ∧ InAll zs vs := by
  obtain ⟨h1, h2⟩ := h
  refine ⟨h2 0 (by simp) (by simp), by simpa using h1, fun j a b => ?_⟩
  exact h2 (j + 1) (by simpa using a) (by simpa using b)
theorem InAll.cons {z v : Int} {zs vs : List Int} (h : 0 ≤ v ∧ v < z) (h2 : InAll zs vs) : InAll (z :: zs) (v :: vs) := by
  refine ⟨by simp [h2.1], fun j a b => ?_⟩
  cases j with
  | zero => exact h
  | succ j => exact h2.2 j (by simpa using a) (by simpa using b)
theorem InAll.nil : InAll [] [] := ⟨rfl, fun j h => by simp at h⟩
theorem InAll.take {zs vs : List Int} (h : InAll zs vs) (k : Nat) : InAll (zs.take k) (vs.take k) := by
  refine ⟨by simp [h.1], fun j a b => ?_⟩
  simp only [List.length_take] at a b
  simp only [List.getElem_take]
  exact h.2 j (by omega) (by omega)
theorem place_bound {zs vs : List Int} (hz : Sizes zs) (h : InAll zs vs) : ∀ p : Int, 0 ≤ p → p * waysM zs ≤ placeM p zs vs ∧ placeM p zs vs < (p + 1) * waysM zs := by
  induction zs generalizing vs with
  | nil =>
    intro p hp
    cases vs with
    | nil => simp [placeM, waysM]; omega
    | cons v vs => have := h.1; simp at this
  | cons z zs ih =>
    intro p hp
    cases vs with
    | nil => have := h.1; simp at this
    | cons v vs =>
      obtain ⟨⟨h1, h2⟩, h3⟩ := h.tail
      have hz1 := hz z (List.mem_cons_self ..)
      have hw := ways_pos hz.tail
      have hp0 : 0 ≤ p * z := Int.mul_nonneg hp (by omega)
      obtain ⟨i1, i2⟩ := ih hz.tail h3 (p * z + v) (by omega)
      simp only [placeM, waysM]
      refine ⟨Int.le_trans ?_ i1, Int.lt_of_lt_of_le i2 ?_⟩
      · rw [← Int.mul_assoc]
        exact Int.mul_le_mul_of_nonneg_right (by omega) (by omega)
      · rw [← Int.mul_assoc]
        refine Int.mul_le_mul_of_nonneg_right ?_ (by omega)
        rw [Int.add_mul]; omega
theorem place_in {zs vs : List Int} (hz : Sizes zs) (h : InAll zs vs) : 0 ≤ placeM 0 zs vs ∧ placeM 0 zs vs < waysM zs := by
  have := place_bound hz h 0 (Int.le_refl _)
  simpa using this
theorem placeM_snoc : ∀ (zs vs : List Int) (z v p : Int), zs.length = vs.length → placeM p (zs ++ [z]) (vs ++ [v]) = placeM p zs vs * z + v
  | [], [], z, v, p, _ => by simp [placeM]
  | a :: zs, b :: vs, z, v, p, h => by
    simp only [List.cons_append, placeM]
    exact placeM_snoc zs vs z v _ (by simpa using h)
  | [], b :: vs, z, v, p, h => by simp at h
  | a :: zs, [], z, v, p, h => by simp at h
theorem placeM_take {zs vs : List Int} {k : Nat} (hz : k < zs.length) (hv : k < vs.length) : placeM 0 (zs.take (k + 1)) (vs.take (k + 1)) = placeM 0 (zs.take k) (vs.take k) * zs[k] + vs[k] := by
  rw [List.take_succ_eq_append_getElem hz, List.take_succ_eq_append_getElem hv, placeM_snoc _ _ _ _ _ (by simp; omega)]

/-- the row of values with a number -/
def digM : List Int → Int → List Int
  | [], _ => []
  | z :: zs, n => (n / waysM zs) % z :: digM zs n
theorem digM_len (zs : List Int) (n : Int) : (digM zs n).length = zs.length := by
  induction zs with
  | nil => rfl
  | cons z zs ih => simp [digM, ih]
theorem digM_at : ∀ {zs : List Int} {n : Int} {k : Nat} (h : k < zs.length), (digM zs n)[k]? = some ((n / waysM (zs.drop (k + 1))) % zs[k])
  | z :: zs, n, 0, h => by simp [digM]
  | z :: zs, n, k + 1, h => by
    simp only [digM, List.getElem?_cons_succ, List.drop_succ_cons, List.getElem_cons_succ]
    exact digM_at (by simpa using h)
theorem dig_in {zs : List Int} (hz : Sizes zs) (n : Int) : InAll zs (digM zs n) := by
  induction zs with
  | nil => exact InAll.nil
  | cons z zs ih =>
    have := hz z (List.mem_cons_self ..)
    exact InAll.cons ⟨Int.emod_nonneg _ (by omega), Int.emod_lt_of_pos _ (by omega)⟩ (ih hz.tail)
/-- behind the last place that is told: what is left of the number -/
theorem dig_left {zs : List Int} (hz : Sizes zs) {n : Int} {k : Nat} (h : k < zs.length) : (n / waysM (zs.drop (k + 1))) / zs[k] = n / waysM (zs.drop k) := by
  have hw := ways_pos (zs := zs.drop (k + 1)) (fun z hz' => hz z (List.mem_of_mem_drop hz'))
  rw [List.drop_eq_getElem_cons h]
  simp only [waysM]
  rw [Int.mul_comm, Int.ediv_ediv, if_neg (by omega), Int.sub_zero]

/-- the next row of values -/
def nextM : List Int → List Int → List Int × Bool
  | z :: zs, x :: xs => if (nextM zs xs).2 then (x :: (nextM zs xs).1, true) else if x + 1 < z then ((x + 1) :: (nextM zs xs).1, true) else (0 :: (nextM zs xs).1, false)
  | _, _ => ([], false)
theorem nextM_len : ∀ {zs xs : List Int}, xs.length = zs.length → (nextM zs xs).1.length = xs.length
  | [], [], _ => rfl
  | z :: zs, x :: xs, h => by
    have ih := nextM_len (zs := zs) (xs := xs) (by simpa using h)
    simp only [nextM]
    split
    · simp [ih]
    · split <;> simp [ih]
  | [], x :: xs, h => by simp at h
  | z :: zs, [], h => by simp at h
theorem next_dig {zs : List Int} (hz : Sizes zs) (n : Int) (hn : 0 ≤ n) : nextM zs (digM zs n) = (digM zs (n + 1), !((n + 1) % waysM zs == 0)) := by
  induction zs with
  | nil => simp [nextM, digM, waysM, Int.emod_one]
  | cons z zs ih =>
    have hz1 := hz z (List.mem_cons_self ..)
    have hw := ways_pos hz.tail
    have ih := ih hz.tail
    simp only [digM, nextM, ih, waysM]
    clear ih
    generalize waysM zs = W at *
    have hd := Int.emod_add_mul_ediv n W
    have hd1 := Int.emod_add_mul_ediv (n + 1) W
    have b1 := Int.emod_nonneg n (show W ≠ 0 by omega)
    have b2 := Int.emod_lt_of_pos n (show 0 < W by omega)
    have b3 := Int.emod_nonneg (n + 1) (show W ≠ 0 by omega)
    have b4 := Int.emod_lt_of_pos (n + 1) (show 0 < W by omega)
    have hq0 : 0 ≤ n / W := Int.ediv_nonneg hn (by omega)
    have key : (n + 1) % (z * W) = W * ((n + 1) / W % z) + (n + 1) % W := by
      generalize (n + 1) / W = q at *
      have c1 := Int.emod_nonneg q (show z ≠ 0 by omega)
      have c2 := Int.emod_lt_of_pos q (show 0 < z by omega)
      have c3 := Int.emod_add_mul_ediv q z
      have c4 : W * (q % z) ≤ W * (z - 1) := Int.mul_le_mul_of_nonneg_left (by omega) (by omega)
      have c5 : 0 ≤ W * (q % z) := Int.mul_nonneg (by omega) c1
      rw [Int.mul_sub] at c4
      have e : n + 1 = (W * (q % z) + (n + 1) % W) + z * W * (q / z) := by
        have : W * q = W * (q % z) + z * W * (q / z) := by
          conv => lhs; rw [← c3]
          rw [Int.mul_add, Int.mul_comm z W, Int.mul_assoc]
        omega
      conv => lhs; rw [e]
      rw [Int.add_mul_emod_self_left, Int.emod_eq_of_lt (by omega) (by rw [Int.mul_comm z W]; omega)]
    by_cases hm : (n + 1) % W = 0
    · have h1 : n % W + 1 = W := by
        rcases Int.lt_trichotomy (n % W + 1) W with hh | hh | hh
        · exfalso
          have : (n + 1) % W = n % W + 1 := by
            have e : n + 1 = (n % W + 1) + W * (n / W) := by omega
            rw [e, Int.add_mul_emod_self_left, Int.emod_eq_of_lt (by omega) hh]
          omega
        · exact hh
        · omega
      have h2 : n + 1 = W * (n / W + 1) := by rw [Int.mul_add]; omega
      have hq : (n + 1) / W = n / W + 1 := by rw [h2, Int.mul_ediv_cancel_left _ (by omega)]
      rw [hm, hq] at key
      rw [hm, hq, key]
      clear key hd1 b3 b4 h2
      have c1 := Int.emod_nonneg (n / W) (show z ≠ 0 by omega)
      have c2 := Int.emod_lt_of_pos (n / W) (show 0 < z by omega)
      have c3 := Int.emod_add_mul_ediv (n / W) z
      generalize n / W = q at *
      by_cases hc : q % z + 1 < z
      · have e1 : (q + 1) % z = q % z + 1 := by
          have e : q + 1 = (q % z + 1) + z * (q / z) := by omega
          rw [e, Int.add_mul_emod_self_left, Int.emod_eq_of_lt (by omega) hc]
        have hpos : 0 < W * (q % z + 1) := Int.mul_pos (by omega) (by omega)
        rw [e1]
        have hne : ¬ W * (q % z + 1) + 0 = 0 := by omega
        simp [hc, hne]
        omega
      · have e1 : (q + 1) % z = 0 := by
          have e : q + 1 = z * (q / z + 1) := by rw [Int.mul_add]; omega
          rw [e, Int.mul_emod_right]
        rw [e1]
        simp [hc]
    · have h1 : ¬ n % W + 1 = W := by
        intro h1
        apply hm
        have : n + 1 = W * (n / W + 1) := by rw [Int.mul_add]; omega
        rw [this, Int.mul_emod_right]
      have hq : (n + 1) / W = n / W := by
        have h2 : n + 1 = (n % W + 1) + W * (n / W) := by omega
        rw [h2, Int.add_mul_ediv_left _ _ (by omega), Int.ediv_eq_zero_of_lt (by omega) (by omega)]
        omega
      have c1 := Int.emod_nonneg ((n + 1) / W) (show z ≠ 0 by omega)
      have hnn : 0 ≤ W * ((n + 1) / W % z) := Int.mul_nonneg (by omega) c1
      have hm2 : ¬ (n + 1) % (z * W) = 0 := by rw [key]; omega
      simp [hm, hm2, hq]
end

section
open Go.RowKit
theorem List.mem_of_mem_dropLast' {x : Int} {l : List Int} (h : x ∈ l.dropLast) : x ∈ l := List.dropLast_subset l h
set_option linter.unusedVariables false
set_option linter.unusedSimpArgs false

theorem sizes_led {sizes row : List Int} (hz : Sizes sizes) (hin : ∀ x ∈ row, 0 ≤ x ∧ x < 100 ∧ x < (sizes.length : Int)) : Sizes (ledM sizes row) := by
  intro z hzm
  unfold ledM at hzm
  obtain ⟨x, hx, rfl⟩ := List.mem_map.1 hzm
  obtain ⟨h0, h1, h2⟩ := hin x hx
  rw [if_pos h1, getD_at _ (show x.toNat < sizes.length by omega)]
  exact hz _ (List.getElem_mem _)
def tableB (sizes row table : List Int) : Bool := decide ((table.length : Int) = waysM (ledM sizes row.dropLast)) && belowB table (sizes.getD (row.getLastD (-1)).toNat 0)
def tabB (s : MSig) (m : MModel) (k : Nat) : Bool := tableB m.sizes (s.ops.getD k []) (m.tables.getD k [])
def allTab (s : MSig) (m : MModel) (n : Nat) : Bool := (List.range n).all (tabB s m)
theorem allTab_zero (s : MSig) (m : MModel) : allTab s m 0 = true := rfl
theorem allTab_succ (s : MSig) (m : MModel) (n : Nat) : allTab s m (n + 1) = (allTab s m n && tabB s m n) := by
  unfold allTab; rw [List.range_succ, List.all_append]; simp
theorem allTab_bad {s : MSig} {m : MModel} {k n : Nat} (hk : k < n) (h : tabB s m k = false) : allTab s m n = false := by
  unfold allTab; rw [List.all_eq_false]; exact ⟨k, List.mem_range.2 hk, by simp [h]⟩
def sizesB (zs : List Int) : Bool := zs.all fun z => inB z 1 3
theorem sizesB_iff {zs : List Int} : sizesB zs = true ↔ Sizes zs := by unfold sizesB Sizes inB; simp
theorem sizesB_bad {zs : List Int} {k : Nat} (hk : k < zs.length) (h : inB zs[k] 1 3 = false) : sizesB zs = false := all_bad hk h
def modelB (s : MSig) (m : MModel) : Bool := (((validB s && decide ((m.sizes.length : Int) = s.sorts)) && decide (m.tables.length = s.ops.length)) && sizesB m.sizes) && allTab s m m.tables.length
theorem model_no1 {s : MSig} {m : MModel} (h : validB s = false) : modelB s m = false := by unfold modelB; simp [h]
theorem model_no2 {s : MSig} {m : MModel} (h : ¬ (m.sizes.length : Int) = s.sorts) : modelB s m = false := by unfold modelB; simp [h]
theorem model_no3 {s : MSig} {m : MModel} (h : ¬ m.tables.length = s.ops.length) : modelB s m = false := by unfold modelB; simp [h]
theorem model_no4 {s : MSig} {m : MModel} (h : sizesB m.sizes = false) : modelB s m = false := by unfold modelB; simp [h]
theorem model_no5 {s : MSig} {m : MModel} {k : Nat} (hk : k < m.tables.length) (h : tabB s m k = false) : modelB s m = false := by unfold modelB; simp [allTab_bad hk h]
theorem model_yes {s : MSig} {m : MModel} (h1 : validB s = true) (h2 : (m.sizes.length : Int) = s.sorts) (h3 : m.tables.length = s.ops.length) (h4 : sizesB m.sizes = true) (h5 : allTab s m m.tables.length = true) : modelB s m = true := by
  unfold modelB; simp only [h1, h2, h3, h4, decide_true, Bool.true_and]; rw [← h3]; exact h5
structure ModFacts (s : MSig) (m : MModel) : Prop where
  va : validB s = true
  sl : (m.sizes.length : Int) = s.sorts
  tl : m.tables.length = s.ops.length
  sz : Sizes m.sizes
  tb : ∀ k, k < s.ops.length → tableB m.sizes (opRow s k) (m.tables.getD k []) = true
theorem model_facts {s : MSig} {m : MModel} (h : modelB s m = true) : ModFacts s m := by
  unfold modelB at h
  simp only [Bool.and_eq_true, decide_eq_true_eq] at h
  obtain ⟨⟨⟨⟨h1, h2⟩, h3⟩, h4⟩, h5⟩ := h
  refine ⟨h1, h2, h3, sizesB_iff.1 h4, fun k hk => ?_⟩
  unfold allTab at h5
  rw [List.all_eq_true] at h5
  exact h5 k (List.mem_range.2 (by omega))
theorem facts_model {s : MSig} {m : MModel} (h : ModFacts s m) : modelB s m = true :=
  model_yes h.va h.sl h.tl (sizesB_iff.2 h.sz) (by
    unfold allTab
    rw [List.all_eq_true]
    exact fun k hk => h.tb k (by have := List.mem_range.1 hk; have := h.tl; omega))
/-- the sizes of what an operation takes -/
def takenM (s : MSig) (m : MModel) (k : Nat) : List Int := ledM m.sizes (opRow s k).dropLast
section
variable {s : MSig} {m : MModel}
theorem ModFacts.sorts (h : ModFacts s m) : m.sizes.length ≤ 3 ∧ 1 ≤ m.sizes.length := by have := valid_sorts h.va; have := h.sl; omega
theorem ModFacts.size (h : ModFacts s m) {x : Int} (h0 : 0 ≤ x) (h1 : x < s.sorts) : ∃ hx : x.toNat < m.sizes.length, m.sizes.getD x.toNat 0 = m.sizes[x.toNat] ∧ 1 ≤ m.sizes[x.toNat] ∧ m.sizes[x.toNat] ≤ 3 := by
  have := h.sl
  have hx : x.toNat < m.sizes.length := by omega
  exact ⟨hx, getD_at _ hx, h.sz _ (List.getElem_mem _)⟩
theorem ModFacts.led (h : ModFacts s m) {row : List Int} (hr : ∀ x ∈ row, 0 ≤ x ∧ x < s.sorts) : Sizes (ledM m.sizes row) := by
  have h1 := valid_sorts h.va
  have h2 := h.sl
  exact sizes_led h.sz fun x hx => by have := hr x hx; omega
theorem ModFacts.into (h : ModFacts s m) {row : List Int} (hr : ∀ x ∈ row, 0 ≤ x ∧ x < s.sorts) : InTo m.sizes row := fun x hx _ => by have := hr x hx; have := h.sl; omega
theorem ModFacts.taken (h : ModFacts s m) {k : Nat} (hk : k < s.ops.length) : Sizes (takenM s m k) ∧ (takenM s m k).length ≤ 2 := by
  obtain ⟨h1, h2, h3⟩ := opRow_valid h.va hk
  refine ⟨h.led fun x hx => h3 x (List.mem_of_mem_dropLast' hx), ?_⟩
  unfold takenM; rw [ledM_len, List.length_dropLast]; omega
theorem ModFacts.table (h : ModFacts s m) {k : Nat} (hk : k < s.ops.length) : ∃ hk' : k < m.tables.length, m.tables.getD k [] = m.tables[k] ∧ (m.tables[k].length : Int) = waysM (takenM s m k) ∧ ∀ x ∈ m.tables[k], 0 ≤ x ∧ x < m.sizes.getD ((opRow s k).getLastD (-1)).toNat 0 := by
  have hk' : k < m.tables.length := by rw [h.tl]; exact hk
  have := h.tb k hk
  rw [getD_at _ hk'] at this
  unfold tableB belowB at this
  simp only [Bool.and_eq_true, decide_eq_true_eq, List.all_eq_true] at this
  exact ⟨hk', getD_at _ hk', this.1, this.2⟩
end

/-! values of terms -/
def sizesT (m : MModel) (ts : List Tm) : List Int := ts.map fun t => m.sizes.getD t.sort.toNat 0
mutual
def valT (m : MModel) (vals : List Int) : Tm → Int
  | .leaf k _ => vals.getD k 0
  | .node op _ ts => (m.tables.getD op []).getD (placeM 0 (sizesT m ts) (valTs m vals ts)).toNat 0
def valTs (m : MModel) (vals : List Int) : List Tm → List Int
  | [] => []
  | t :: ts => valT m vals t :: valTs m vals ts
end
theorem valTs_map (m : MModel) (vals : List Int) : ∀ ts, valTs m vals ts = ts.map (valT m vals)
  | [] => by simp [valTs]
  | t :: ts => by simp [valTs, valTs_map m vals ts]
theorem valTs_len (m : MModel) (vals : List Int) (ts : List Tm) : (valTs m vals ts).length = ts.length := by rw [valTs_map]; simp
theorem sizesT_len (m : MModel) (ts : List Tm) : (sizesT m ts).length = ts.length := by simp [sizesT]
theorem valT_node (m : MModel) (vals : List Int) (op : Nat) (lv : Int) (ts : List Tm) : valT m vals (.node op lv ts) = (m.tables.getD op []).getD (placeM 0 (sizesT m ts) (valTs m vals ts)).toNat 0 := by simp [valT]
theorem wfTs_sorts {s : MSig} {vars : List Int} : ∀ {ss : List Int} {ts : List Tm}, wfTs s vars ss ts → ss = ts.map Tm.sort
  | ss, [], h => by unfold wfTs at h; simp [h]
  | ss, t :: ts, h => by
    unfold wfTs at h
    obtain ⟨x, ss', rfl, rfl, -, h2⟩ := h
    simp [wfTs_sorts h2]
/-- the sizes of the terms that an operation takes are those of its row -/
theorem sizesT_taken {s : MSig} {m : MModel} {vars : List Int} (h : ModFacts s m) {op : Nat} {lv : Int} {ts : List Tm} (hw : wfT s vars (.node op lv ts)) : sizesT m ts = takenM s m op := by
  unfold wfT at hw
  obtain ⟨hk, -, hts⟩ := hw
  have hs := wfTs_sorts hts
  unfold takenM ledM
  rw [hs, List.map_map]
  unfold sizesT
  refine List.map_congr_left fun t ht => ?_
  have hm : t.sort ∈ (opRow s op).dropLast := by rw [hs]; exact List.mem_map_of_mem ht
  have := (opRow_valid h.va hk).2.2 _ (List.mem_of_mem_dropLast' hm)
  have h3 := valid_sorts h.va
  show m.sizes.getD t.sort.toNat 0 = if t.sort < 100 then m.sizes.getD t.sort.toNat 0 else t.sort
  rw [if_pos (by omega)]
/-- values of letters -/
def ValsOk (m : MModel) (vars vals : List Int) : Prop := vals.length = vars.length ∧ ∀ (k : Nat) (h : k < vars.length) (h' : k < vals.length), 0 ≤ vals[k] ∧ vals[k] < m.sizes.getD (vars[k]).toNat 0
mutual
theorem valT_in {s : MSig} {m : MModel} {vars vals : List Int} (h : ModFacts s m) (hv : ValsOk m vars vals) : ∀ tm : Tm, wfT s vars tm → 0 ≤ valT m vals tm ∧ valT m vals tm < m.sizes.getD tm.sort.toNat 0
  | .leaf k of, hw => by
    unfold wfT at hw
    obtain ⟨hk, rfl⟩ := hw
    have hk' : k < vals.length := by rw [hv.1]; exact hk
    simp only [valT, Tm.sort]
    rw [getD_at _ hk', getD_at _ hk]
    exact hv.2 k hk hk'
  | .node op lv ts, hw => by
    have hw0 := hw
    unfold wfT at hw
    obtain ⟨hk, rfl, hts⟩ := hw
    have hin := valTs_in h hv ts _ hts
    rw [valT_node]
    obtain ⟨hk', e, hl, hx⟩ := h.table hk
    obtain ⟨p0, p1⟩ := place_in (zs := sizesT m ts) (by rw [sizesT_taken h hw0]; exact (h.taken hk).1) hin
    rw [sizesT_taken h hw0, ← hl] at p1
    rw [sizesT_taken h hw0] at p0
    rw [sizesT_taken h hw0]
    rw [e, getD_at _ (show (placeM 0 (takenM s m op) (valTs m vals ts)).toNat < m.tables[op].length by omega)]
    exact hx _ (List.getElem_mem _)
theorem valTs_in {s : MSig} {m : MModel} {vars vals : List Int} (h : ModFacts s m) (hv : ValsOk m vars vals) : ∀ (ts : List Tm) (ss : List Int), wfTs s vars ss ts → InAll (sizesT m ts) (valTs m vals ts)
  | [], ss, hw => by unfold sizesT valTs; exact InAll.nil
  | t :: ts, ss, hw => by
    unfold wfTs at hw
    obtain ⟨x, ss', rfl, rfl, h1, h2⟩ := hw
    have := valTs_in h hv ts _ h2
    unfold valTs
    exact InAll.cons (valT_in h hv t h1) this
end
theorem place_table {s : MSig} {m : MModel} {vars vals : List Int} (h : ModFacts s m) (hv : ValsOk m vars vals) {op : Nat} {lv : Int} {ts : List Tm} (hw : wfT s vars (.node op lv ts)) :
    ∃ (n : Nat) (hk : op < m.tables.length) (hn : n < m.tables[op].length), placeM 0 (sizesT m ts) (valTs m vals ts) = (n : Int) ∧ valT m vals (.node op lv ts) = m.tables[op][n] := by
  have hw0 := hw
  unfold wfT at hw
  obtain ⟨hk, rfl, hts⟩ := hw
  have hin := valTs_in h hv ts _ hts
  obtain ⟨hk', e, hl, hx⟩ := h.table hk
  obtain ⟨p0, p1⟩ := place_in (zs := sizesT m ts) (by rw [sizesT_taken h hw0]; exact (h.taken hk).1) hin
  rw [sizesT_taken h hw0, ← hl] at p1
  rw [sizesT_taken h hw0] at p0
  rw [valT_node, e]
  rw [sizesT_taken h hw0]
  exact ⟨(placeM 0 (takenM s m op) (valTs m vals ts)).toNat, hk', by omega, by omega, getD_at _ _⟩
def valsB (s : MSig) (m : MModel) (vars vals : List Int) : Bool := ((varsB s vars && modelB s m) && decide (vals.length = vars.length)) && (List.range vals.length).all fun k => decide (0 ≤ vals.getD k 0) && decide (vals.getD k 0 < m.sizes.getD (vars.getD k 0).toNat 0)
def valOkAt (m : MModel) (vars vals : List Int) (k : Nat) : Bool := decide (0 ≤ vals.getD k 0) && decide (vals.getD k 0 < m.sizes.getD (vars.getD k 0).toNat 0)
def allVal (m : MModel) (vars vals : List Int) (n : Nat) : Bool := (List.range n).all (valOkAt m vars vals)
theorem allVal_zero (m : MModel) (vars vals : List Int) : allVal m vars vals 0 = true := rfl
theorem allVal_succ (m : MModel) (vars vals : List Int) (n : Nat) : allVal m vars vals (n + 1) = (allVal m vars vals n && valOkAt m vars vals n) := by
  unfold allVal; rw [List.range_succ, List.all_append]; simp
theorem allVal_bad {m : MModel} {vars vals : List Int} {k n : Nat} (hk : k < n) (h : valOkAt m vars vals k = false) : allVal m vars vals n = false := by
  unfold allVal; rw [List.all_eq_false]; exact ⟨k, List.mem_range.2 hk, by simp [h]⟩
theorem valsB_eq (s : MSig) (m : MModel) (vars vals : List Int) : valsB s m vars vals = (((varsB s vars && modelB s m) && decide (vals.length = vars.length)) && allVal m vars vals vals.length) := rfl
theorem vals_no1 {s : MSig} {m : MModel} {vars vals : List Int} (h : varsB s vars = false) : valsB s m vars vals = false := by rw [valsB_eq]; simp [h]
theorem vals_no2 {s : MSig} {m : MModel} {vars vals : List Int} (h : modelB s m = false) : valsB s m vars vals = false := by rw [valsB_eq]; simp [h]
theorem vals_no3 {s : MSig} {m : MModel} {vars vals : List Int} (h : ¬ vals.length = vars.length) : valsB s m vars vals = false := by rw [valsB_eq]; simp [h]
theorem vals_no4 {s : MSig} {m : MModel} {vars vals : List Int} {k : Nat} (hk : k < vals.length) (h : valOkAt m vars vals k = false) : valsB s m vars vals = false := by rw [valsB_eq]; simp [allVal_bad hk h]
theorem vals_yes {s : MSig} {m : MModel} {vars vals : List Int} (h1 : varsB s vars = true) (h2 : modelB s m = true) (h3 : vals.length = vars.length) (h4 : allVal m vars vals vals.length = true) : valsB s m vars vals = true := by
  rw [valsB_eq]; simp only [h1, h2, h3, decide_true, Bool.true_and]; rw [← h3]; exact h4
theorem vals_facts {s : MSig} {m : MModel} {vars vals : List Int} (h : valsB s m vars vals = true) : varsB s vars = true ∧ modelB s m = true ∧ ValsOk m vars vals := by
  rw [valsB_eq] at h
  simp only [Bool.and_eq_true, decide_eq_true_eq] at h
  obtain ⟨⟨⟨h1, h2⟩, h3⟩, h4⟩ := h
  refine ⟨h1, h2, h3, fun k hk hk' => ?_⟩
  unfold allVal at h4
  rw [List.all_eq_true] at h4
  have := h4 k (List.mem_range.2 hk')
  unfold valOkAt at this
  rw [getD_at _ hk', getD_at _ hk] at this
  simpa using this
def valueM (s : MSig) (m : MModel) (vars t vals : List Int) : Int :=
  match termM s vars t with
  | some tm => if valsB s m vars vals then valT m vals tm else -1
  | none => -1
/-- the numbers of the row of values are those of the letters -/
theorem dig_vals {s : MSig} {m : MModel} {vars : List Int} (h : ModFacts s m) (hv : varsB s vars = true) (n : Int) : ValsOk m vars (digM (ledM m.sizes vars) n) := by
  obtain ⟨-, -, h3⟩ := vars_valid hv
  have hz : Sizes (ledM m.sizes vars) := h.led fun x hx => by obtain ⟨k, hk, rfl⟩ := List.getElem_of_mem hx; exact h3 k hk
  obtain ⟨h1, h2⟩ := dig_in hz n
  rw [ledM_len] at h1
  refine ⟨h1, fun k hk hk' => ?_⟩
  have hl : k < (ledM m.sizes vars).length := by rw [ledM_len]; exact hk
  have := h2 k hl hk'
  have e := ledM_at (tq := m.sizes) hk
  rw [List.getElem?_eq_getElem hl] at e
  have hx := h3 k hk
  have hvs := valid_sorts h.va
  rw [if_pos (by omega)] at e
  injection e with e
  rw [e] at this
  exact this

/-! where an equation fails -/
def failAt (m : MModel) (zs : List Int) (l r : Tm) (n : Nat) : Bool := valT m (digM zs n) l != valT m (digM zs n) r
/-- from the number n on -/
def failFrom (m : MModel) (zs : List Int) (l r : Tm) : Nat → Nat → Option (List Int)
  | 0, _ => none
  | f + 1, n => if failAt m zs l r n then some (digM zs n) else failFrom m zs l r f (n + 1)
def failRow (m : MModel) (zs : List Int) (l r : Tm) : Option (List Int) := failFrom m zs l r (waysM zs).toNat 0
theorem failFrom_step {m : MModel} {zs : List Int} {l r : Tm} {f n : Nat} (h : failAt m zs l r n = false) : failFrom m zs l r (f + 1) n = failFrom m zs l r f (n + 1) := by
  simp [failFrom, h]
theorem failFrom_hit {m : MModel} {zs : List Int} {l r : Tm} {f n : Nat} (h : failAt m zs l r n = true) : failFrom m zs l r (f + 1) n = some (digM zs n) := by
  simp [failFrom, h]
def failsM (s : MSig) (m : MModel) (e : MEq) : List Int × Bool :=
  if eqOkB s e && modelB s m then
    match termM s e.vars e.left, termM s e.vars e.right with
    | some l, some r =>
      match failRow m (ledM m.sizes e.vars) l r with
      | some row => (row, true)
      | none => ([], false)
    | _, _ => ([], false)
  else ([], false)
def holdsB (s : MSig) (m : MModel) (e : MEq) : Bool := (eqOkB s e && modelB s m) && !(failsM s m e).2
def isModelB (t : MThy) (m : MModel) : Bool := (thyB t && modelB t.over m) && t.eqs.all (holdsB t.over m)

/-! along a map; pairs -/
def modBackM (a b : MSig) (f : MMap) (m : MModel) : MModel :=
  if mapOkB a b f && modelB b m then ⟨ledM m.sizes f.sorts, f.ops.map fun o => m.tables.getD o.toNat []⟩ else ⟨[], []⟩
def timesM (xs ys : List Int) : List Int := List.zipWith (· * ·) xs ys
end

section
open Go.RowKit
set_option linter.unusedVariables false
set_option linter.unusedSimpArgs false

def inSize (z v : Int) : Bool := decide (0 ≤ v) && decide (v < z)
theorem inSize_neg {z v : Int} (h : v < 0) : inSize z v = false := by unfold inSize; simp; omega
theorem inSize_pos {z v : Int} (h : 0 ≤ v) : inSize z v = decide (v < z) := by unfold inSize; simp [h]
theorem inSize_inB {z v q : Int} (hq : q = z - 1) : inB v 0 q = inSize z v := by unfold inB inSize; rw [← Bool.decide_and, ← Bool.decide_and, decide_eq_decide]; omega
theorem belowB_step {xs : List Int} {z : Int} {k : Nat} (hk : k < xs.length) : belowB (xs.take (k+1)) z = (belowB (xs.take k) z && inSize z xs[k]) := belowB_take hk
theorem belowB_no {xs : List Int} {z : Int} {k : Nat} (hk : k < xs.length) (h : inSize z xs[k] = false) : belowB xs z = false := belowB_bad hk (by unfold inSize at h; simpa using h)

set_option maxRecDepth 100000 in
theorem isValue_any (m : MModel) (sort value : Int) (w : World) (v : Value) (h : RModel w v m) (hs : 0 ≤ sort) (hl : sort < (m.sizes.length : Int)) :
    Calls Try.prog 92 #[v, .int .i64 sort, .int .i64 value] w fun e w' => e = .returned (.bool (inSize (m.sizes.getD sort.toNat 0) value)) ∧ Below w.heap.size w w' := by
  obtain ⟨n, rfl⟩ : ∃ n : Nat, sort = (n : Int) := ⟨sort.toNat, by omega⟩
  have hn : n < m.sizes.length := by omega
  have hml := h.form
  obtain ⟨Ama, cma, Amb, cmb, rfl⟩ := h.form
  have hb : Below w.heap.size w (w.alloc (.cells #[.slice Ama m.sizes.length cma, .slice Amb m.tables.length cmb] 30)) := below_alloc _ _
  have HB := Lib.hid hb
  have hsz : (w.alloc (.cells #[.slice Ama m.sizes.length cma, .slice Amb m.tables.length cmb] 30)).heap.size = w.heap.size + 1 := by simp
  have Hm := Lib.hid (h.keep hb)
  have m0 := bx_at (w) #[.slice Ama m.sizes.length cma, .slice Amb m.tables.length cmb] 30 (k := 0) rfl
  have m1 := bx_at (w) #[.slice Ama m.sizes.length cma, .slice Amb m.tables.length cmb] 30 (k := 1) rfl
  generalize hW : w.alloc (.cells #[.slice Ama m.sizes.length cma, .slice Amb m.tables.length cmb] 30) = W at HB hsz Hm m0 m1
  clear hb h
  have hml1 := Hm.out.of.1.len
  obtain ⟨b, o, c, e, hx⟩ := Hm.out.of.1.at_ hn
  cases e
  rw [Int.toNat_natCast, getD_at _ hn]
  generalize m.sizes[n] = z at hx ⊢
  by_cases hv : value < 0
  · have HE := Lib.hid (inSize_neg (z := z) hv)
    have hv' : ¬ 0 ≤ value := by omega
    go_enter Try.func92, Try.ntmps92
    go_wp2
    go_ret
    exact ⟨ret_bool HE.out.symm, HB.out⟩
  · have hv' : 0 ≤ value := by omega
    have HE := Lib.hid (inSize_pos (z := z) hv')
    go_enter Try.func92, Try.ntmps92
    go_wp2
    go_ret
    exact ⟨ret_bool HE.out.symm, HB.out⟩

set_option maxRecDepth 100000 in
theorem sizesOf_any (m : MModel) (row : List Int) (w : World) (v v' : Value) (h : RModel w v m) (h' : RInts w v' row) (hin : InTo m.sizes row) (hs : row.length ≤ 1048576) :
    Calls Try.prog 54 #[v, v'] w fun e w' => ∃ u, e = .returned u ∧ OInts w' w.heap.size u (ledM m.sizes row) ∧ Below w.heap.size w w' := by
  obtain ⟨Ama, cma, Amb, cmb, rfl⟩ := h.form
  have hb : Below w.heap.size w (w.alloc (.cells #[.slice Ama m.sizes.length cma, .slice Amb m.tables.length cmb] 30)) := below_alloc _ _
  have HB := Lib.hid hb
  have hsz : (w.alloc (.cells #[.slice Ama m.sizes.length cma, .slice Amb m.tables.length cmb] 30)).heap.size = w.heap.size + 1 := by simp
  have Hm := Lib.hid (h.keep hb)
  have m0 := bx_at (w) #[.slice Ama m.sizes.length cma, .slice Amb m.tables.length cmb] 30 (k := 0) rfl
  have m1 := bx_at (w) #[.slice Ama m.sizes.length cma, .slice Amb m.tables.length cmb] 30 (k := 1) rfl
  generalize hW : w.alloc (.cells #[.slice Ama m.sizes.length cma, .slice Amb m.tables.length cmb] 30) = W at HB hsz Hm m0 m1
  clear hb h
  have H1 := Lib.hid (h'.keep HB.out)
  have HI := Lib.hid hin
  obtain ⟨A', c', rfl, -⟩ := h'.form
  clear h' hin
  go_enter Try.func54, Try.ntmps54
  go_wp2_with fail
  clear hW
  refine (ledRow_any _ _ row m.sizes _ H1.out Hm.out.of.1 HI.out hs).mono ?_
  rintro e w1 ⟨u, rfl, ho, hb⟩
  have HO := Lib.hid ho
  have HX := Lib.hid hb
  clear ho hb m0 m1
  go_wp2
  go_ret
  exact ⟨u, rfl, HO.out.base HB.out.size, sz_keep HB.out HX.out⟩

theorem ways_wrap {zs : List Int} (hz : Sizes zs) (hl : zs.length ≤ 4) {k : Nat} (hk : k < zs.length) : IntKind.i64.wrap (waysM (zs.take k) * zs[k]) = waysM (zs.take (k + 1)) := by
  have h1 := ways_few (hz.take (k + 1)) (by simp; omega)
  have h2 := ways_pos (hz.take (k + 1))
  rw [← waysM_take hk, IntKind.wrap_i64]; omega
set_option maxRecDepth 100000 in
theorem rowsOf_any (zs : List Int) (w : World) (v : Value) (h : RInts w v zs) (hz : Sizes zs) (hl : zs.length ≤ 4) :
    Calls Try.prog 115 #[v] w fun e w' => e = .returned (.int .i64 (waysM zs)) ∧ w = w' := by
  have H := Lib.hid h
  obtain ⟨A, c, rfl, -⟩ := h.form
  have HW := Lib.hid (fun (k : Nat) (hk : k < zs.length) => ways_wrap hz hl hk)
  clear h hz
  go_enter Try.func115, Try.ntmps115
  go_wp2
  go_loopw [3, 5, 8] (fun p _ i wr => ∃ k : Nat, k ≤ zs.length ∧ i = .int .i64 k ∧ p = .int .i64 (waysM (zs.take k)) ∧ w = wr) (fun _ _ i _ => zs.length - (intOf i).toNat)
  case atStart => exact ⟨0, Nat.zero_le _, rfl, rfl, rfl⟩
  case round =>
    obtain ⟨k, hk, rfl, rfl, rfl⟩ := hrel
    by_cases hlt : k < zs.length
    · obtain ⟨b, o, c', e, hx⟩ := H.out.at_ hlt
      cases e
      have hlt' : (k : Int) < (zs.length : Int) := by omega
      have hw := HW.out k hlt
      generalize zs[k] = z at hx hw
      generalize hq : waysM (zs.take (k + 1)) = q at hw
      have HQ := Lib.hid hq
      clear hq
      go_wp2
      go_roundw
      case rel => exact ⟨k + 1, by omega, by go_num, by rw [HQ.out], by first | trivial | rfl⟩
      case measure => simp [intOf]; omega
    · have hkn : k = zs.length := by omega
      have hlt' : ¬ (k : Int) < (zs.length : Int) := by omega
      have HT := Lib.hid (show zs.take k = zs from take_all (by omega))
      go_wp2
      go_ret
      exact ⟨rfl, rfl⟩
end
end Go.Proofs.Ytbopcghbmbchkab
