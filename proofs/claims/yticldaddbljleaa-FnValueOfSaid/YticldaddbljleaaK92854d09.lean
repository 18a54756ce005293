/- A local struct whose rows are filled, one after the other, by append. No walk. · slices.Clone of a row of numbers. · A local struct of which a list of rows is filled by append. No walk. · The exact laws' measure, copy and comparison of lists of equations: szEqS, toEqS, eqEqS. · The exact laws' measure, copy and comparison of a theory: szTheory, toTheory, eqTheory. · Models: how they read, how those that a call has made lie; the exact laws' measure, copy and comparison of one. · The plain functions of models: tables, values of terms, rows of values by their numbers. No walk. -/
import Derived.Test.YticldaddbljleaaKc7d60e7e
import Derived.Deep.RegionHeld3
import Derived.Lib.SliceRun
namespace Go.Proofs.Yticldaddbljleaa
section
open Go.RowKit
set_option linter.unusedVariables false

/-- the struct's box lies at lb, ahead of wv; of it the row u is being filled -/
structure Loc (T : TypeId) (wv wr : World) (lb : Nat) (cs : Array Value) (u : Value) (xs : List Int) : Prop where
  loc : wr.heap[lb]? = some (.cells cs T (0, 0))
  own : OInts wr wv.heap.size u xs
  gr : wv.grownBy wr (some lb)
  lt : lb < wv.heap.size
theorem Loc.start {T : TypeId} {wv : World} {lb : Nat} {cs : Array Value} (h : wv.heap[lb]? = some (.cells cs T (0, 0))) : Loc T wv wv lb cs (.slice none 0 0) [] :=
  ⟨h, OInts.nil _ _, ⟨rfl, rfl, rfl, Nat.le_refl _, fun _ _ _ => rfl⟩, (Array.getElem?_eq_some_iff.1 h).1⟩
theorem Loc.push {T : TypeId} {wv wr w6 : World} {lb : Nat} {cs cs' : Array Value} {u v' : Value} {xs : List Int} {y : Int} {o : Obj} (h : Loc T wv wr lb cs u xs) (hg : (wr.alloc o).grownBy w6 u.ownBlock) (ho : OInts w6 wv.heap.size v' (xs ++ [y])) (i : Nat) (hc : cs.setIfInBounds i v' = cs') :
    Loc T wv (w6.setCell ⟨lb, i, none⟩ v') lb cs' v' (xs ++ [y]) := by
  have hlr : lb < wr.heap.size := (Array.getElem?_eq_some_iff.1 h.loc).1
  have hne : ∀ k, k < wv.heap.size → some k ≠ u.ownBlock := fun k hk e => by have := own_lt h.own k e.symm; omega
  have hl6 : w6.heap[lb]? = some (.cells cs T (0, 0)) := ((hg.block lb (by simp; omega) (hne lb h.lt)).trans (heap_alloc_old wr _ hlr)).trans h.loc
  refine ⟨by rw [← hc]; exact blk_set hl6 i v', ho.setLow h.lt i v', ⟨hg.os.trans h.gr.os, hg.tape.trans h.gr.tape, hg.output.trans h.gr.output, ?_, fun k hk hkl => ?_⟩, h.lt⟩
  · have e : (w6.setCell ⟨lb, i, none⟩ v').heap.size = w6.heap.size := by simp [World.setCell]
    have h2 := h.gr.size
    rw [e]
    have h3 := hg.size
    simp at h3
    omega
  · have hkr : k < wr.heap.size := Nat.lt_of_lt_of_le hk h.gr.size
    exact (((Below.heap_setCell w6 ⟨lb, i, none⟩ v' k (by show k ≠ lb; intro e; exact hkl (by rw [e]))).trans (hg.block k (by simp; omega) (hne k hk))).trans (heap_alloc_old wr _ hkr)).trans (h.gr.block k hk hkl)
theorem Loc.below {T : TypeId} {w2 wv wr : World} {lb : Nat} {cs : Array Value} {u : Value} {xs : List Int} (h : Loc T wv wr lb cs u xs) (hb : Below w2.heap.size w2 wv) (hl : w2.heap.size ≤ lb) : Below w2.heap.size w2 wr :=
  ⟨h.gr.os.trans hb.os, h.gr.tape.trans hb.tape, h.gr.output.trans hb.output, Nat.le_trans hb.size h.gr.size, fun k hk => (h.gr.block k (by have := hb.size; omega) (by intro e; injection e with e; omega)).trans (hb.block k hk)⟩
theorem Loc.grown {T : TypeId} {wv wr w6 : World} {lb : Nat} {cs : Array Value} {u : Value} {xs : List Int} {o : Obj} (h : Loc T wv wr lb cs u xs) (hg : (wr.alloc o).grownBy w6 u.ownBlock) : w6.heap[lb]? = some (.cells cs T (0, 0)) := by
  have hlr : lb < wr.heap.size := (Array.getElem?_eq_some_iff.1 h.loc).1
  exact ((hg.block lb (by simp; omega) (fun e => by have := own_lt h.own lb e.symm; have := h.lt; omega)).trans (heap_alloc_old wr _ hlr)).trans h.loc
theorem Loc.keep {T : TypeId} {wv wr w1 : World} {lb : Nat} {cs : Array Value} {u : Value} {xs : List Int} (h : Loc T wv wr lb cs u xs) (hb : Below wr.heap.size wr w1) : Loc T wv w1 lb cs u xs :=
  ⟨(hb.block _ (Array.getElem?_eq_some_iff.1 h.loc).1).trans h.loc, h.own.keep hb, ⟨hb.os.trans h.gr.os, hb.tape.trans h.gr.tape, hb.output.trans h.gr.output, Nat.le_trans h.gr.size hb.size, fun k hk hn => (hb.block k (Nat.lt_of_lt_of_le hk h.gr.size)).trans (h.gr.block k hk hn)⟩, h.lt⟩
theorem Loc.other {T : TypeId} {wv wr : World} {lb B : Nat} {cs : Array Value} {u v : Value} {xs ys : List Int} (h : Loc T wv wr lb cs u xs) (ho : OInts wv B v ys) (hB : lb < B) : OInts wr B v ys :=
  own_grown ho h.gr (by
    cases hv : v.ownBlock with
    | none => exact .inl rfl
    | some k => right; intro e; injection e with e; have := own_lt ho k hv; omega)
theorem Loc.apart {T : TypeId} {wv wr : World} {lb B : Nat} {cs : Array Value} {u v : Value} {xs ys : List Int} (h : Loc T wv wr lb cs u xs) (ho : OInts wv B v ys) : Apart v u := apart_later ho h.own
theorem grown_undrew {w w' : World} {r : Option Nat} (h : w.drew.grownBy w' r) : w.grownBy w' r := ⟨h.os, h.tape, h.output, h.size, h.block⟩
theorem grown_undrewA {w w' : World} {o : Obj} {r : Option Nat} (h : (w.drew.alloc o).grownBy w' r) : (w.alloc o).grownBy w' r := ⟨h.os, h.tape, h.output, h.size, h.block⟩
end

section
open Go.RowKit
set_option linter.unusedVariables false
set_option linter.unusedSimpArgs false

variable {w w' : World}
theorem own_cut {w w2 : World} {o : Obj} {A : Option Addr} {n c : Nat} (h : (w.alloc o).grownBy w2 (Value.slice A n c).ownBlock) (hr : ∀ k, (Value.slice A n c).ownBlock = some k → w.heap.size ≤ k) : Below w.heap.size w w2 :=
  (below_alloc w o).trans ⟨h.os, h.tape, h.output, h.size, fun k hk => h.block k (Nat.lt_of_lt_of_le hk (by show w.heap.size ≤ (w.alloc o).heap.size; simp)) (fun e => by have := hr k e.symm; omega)⟩

set_option maxRecDepth 100000 in
theorem clone_any (ad : Addr) (n c : Nat) (xs : List Int) (w : World) (h : RInts w (.slice (some ad) n c) xs) (hs : xs.length ≤ 1048576) :
    Calls Try.prog 74 #[.slice (some ad) n c] w fun e w' => ∃ u, e = .returned u ∧ OInts w' w.heap.size u xs ∧ Below w.heap.size w w' := by
  obtain ⟨i0, hi0, hz0, hz1, hz2⟩ := info_parts Try.tinfo_int
  have H := Lib.hid h
  obtain ⟨A, c', e, h1, h2, h3⟩ := h
  cases e
  have HNEWS := Lib.hid (news_any (H.out.keep (below_alloc w (.cells #[] 3))))
  clear h3
  have hcmp := Lib.run_eql_slice_nil (P := Try.prog) w 26 3 (some ad) xs.length c 0 0 Try.underlying26
  simp only [Option.isNone_some] at hcmp
  go_enter Try.func74, Try.ntmps74
  go_wp2_with (at_builtin; refine wpList_append_own _ rfl _ _ 26 rfl w.heap.size 3 i0 (.int .i64 0) 1 8 Try.underlying26 hi0 hz0 hz1 hz2 rfl (by decide) _ 0 [] rfl (own_empty w) ad xs.length c (xs.map (Value.int .i64)) rfl (by simp) HNEWS.out (ints_one _) (by rw [maxLen_eq]; omega) (by omega) (by simp) ?_)
  intro v' w4 hown4 hgrow4 _
  have HO := Lib.hid hown4
  have HG := Lib.hid (own_cut hgrow4 (fun k e => by injection e with e; exact Nat.le_of_eq e))
  clear hown4 hgrow4
  go_wp2
  go_ret
  refine ⟨_, rfl, ?_, HG.out⟩
  have h := HO.out
  unfold OInts
  simpa using h
end

section
open Go.RowKit
set_option linter.unusedVariables false

/-- one row more; w6: ahead of the append's one-place slice; rv: the new row, in a block of its own -/
theorem ORows.pushNew5 {wr w6 w7 : World} {B : Nat} {u v' rv : Value} {rows : List (List Int)} {row : List Int} {us : List Value} (hB : B ≤ wr.heap.size) (hb : Below wr.heap.size wr w6) (hr : OInts w6 wr.heap.size rv row)
    (h1 : wr.ownsRow B 26 1 u rows.length us) (h2 : us.length = rows.length)
    (h3 : ∀ (j : Nat) (u : Value) (row : List Int), us[j]? = some u → rows[j]? = some row → OInts wr B u row) (h4 : ∀ (i j : Nat) (u u' : Value), i < j → us[i]? = some u → us[j]? = some u' → u.ownBlock = none ∨ u.ownBlock ≠ u'.ownBlock)
    (hv' : w7.ownsRow B 26 1 v' (rows.length + 1) (us ++ [rv])) (hg : (w6.alloc (.cells #[rv] 26)).grownBy w7 u.ownBlock) : ORows w7 B v' (rows ++ [row]) := by
  refine ORows.push (w := w6.alloc (.cells #[rv] 26)) ((own_keep h1 hb).alloc _) h2 (fun j x r a b => World.ownsRow.alloc (own_keep (h3 j x r a b) hb) _) h4 (World.ownsRow.alloc (OInts.base hr hB) _) (fun i x hx => ?_) hg hv'
  have hi : i < us.length := (List.getElem?_eq_some_iff.1 hx).1
  have hxo := h3 i x rows[i] hx (List.getElem?_eq_getElem (by omega))
  cases hbx : x.ownBlock with
  | none => exact .inl rfl
  | some k =>
    right
    intro e
    have a := (own_lt hxo k hbx).2
    have b := (own_lt hr k e.symm).1
    omega
theorem news_one5 (w : World) (x : Value) (t : TypeId) : ∀ (j : Nat) (u : Value), [x][j]? = some u → (w.alloc (.cells #[x] t)).cell? ((⟨w.heap.size, 0, none⟩ : Addr).add j) = some u := by
  intro j u hj
  match j, hj with
  | 0, hj =>
    simp at hj
    subst hj
    rw [show (⟨w.heap.size, 0, none⟩ : Addr).add 0 = ⟨w.heap.size, 0, none⟩ from rfl, World.cell?_alloc_at _ _ _ _ rfl]
    rfl
theorem rows_one5 {A : Option Addr} {n c : Nat} (x : Value) (hx : x = .slice A n c := by rfl) : ∀ u ∈ [x], u.oneCell' = true := by
  intro u hu; simp at hu; subst hu; subst hx; rfl

theorem bel_grow5 {w w2 : World} {o : Obj} {A : Option Addr} {n c : Nat} (h : (w.alloc o).grownBy w2 (Value.slice A n c).ownBlock) (hr : ∀ k, (Value.slice A n c).ownBlock = some k → w.heap.size ≤ k) : Below w.heap.size w w2 :=
  (below_alloc w o).trans ⟨h.os, h.tape, h.output, h.size, fun k hk => h.block k (Nat.lt_of_lt_of_le hk (by simp)) (fun e => by have := hr k e.symm; omega)⟩

/-- the struct's box lies at lb, ahead of wv; of it the list of rows u is being filled -/
structure LocR (T : TypeId) (wv wr : World) (lb : Nat) (cs : Array Value) (u : Value) (rows : List (List Int)) : Prop where
  loc : wr.heap[lb]? = some (.cells cs T (0, 0))
  own : ORows wr wv.heap.size u rows
  gr : wv.grownBy wr (some lb)
  lt : lb < wv.heap.size
theorem LocR.start {T : TypeId} {wv : World} {lb : Nat} {cs : Array Value} (h : wv.heap[lb]? = some (.cells cs T (0, 0))) : LocR T wv wv lb cs (.slice none 0 0) [] :=
  ⟨h, ORows.nil _ _, ⟨rfl, rfl, rfl, Nat.le_refl _, fun _ _ _ => rfl⟩, (Array.getElem?_eq_some_iff.1 h).1⟩
theorem LocR.push {T : TypeId} {wv wr w6 w7 : World} {lb : Nat} {cs cs' : Array Value} {u v' rv : Value} {rows : List (List Int)} {row : List Int} {us : List Value} (h : LocR T wv wr lb cs u rows) (hb : Below wr.heap.size wr w6) (hr : OInts w6 wr.heap.size rv row)
    (h1 : wr.ownsRow wv.heap.size 26 1 u rows.length us) (h2 : us.length = rows.length)
    (h3 : ∀ (j : Nat) (u : Value) (row : List Int), us[j]? = some u → rows[j]? = some row → OInts wr wv.heap.size u row) (h4 : ∀ (i j : Nat) (u u' : Value), i < j → us[i]? = some u → us[j]? = some u' → u.ownBlock = none ∨ u.ownBlock ≠ u'.ownBlock)
    (hv' : w7.ownsRow wv.heap.size 26 1 v' (rows.length + 1) (us ++ [rv])) (hg : (w6.alloc (.cells #[rv] 26)).grownBy w7 u.ownBlock) (i : Nat) (hc : cs.setIfInBounds i v' = cs') :
    LocR T wv (w7.setCell ⟨lb, i, none⟩ v') lb cs' v' (rows ++ [row]) ∧ w7.heap[lb]? = some (.cells cs T (0, 0)) := by
  have hlr : lb < wr.heap.size := (Array.getElem?_eq_some_iff.1 h.loc).1
  have hs6 := hb.size
  have hsr := h.gr.size
  have hne : ∀ k, k < wv.heap.size → some k ≠ u.ownBlock := fun k hk e => by have := own_lt h1 k e.symm; omega
  have at7 : ∀ k, k < wv.heap.size → w7.heap[k]? = wr.heap[k]? := fun k hk =>
    ((hg.block k (by simp; omega) (hne k hk)).trans (heap_alloc_old w6 _ (by omega))).trans (hb.block k (by omega))
  have hl7 : w7.heap[lb]? = some (.cells cs T (0, 0)) := (at7 lb h.lt).trans h.loc
  have own7 := ORows.pushNew5 hsr hb hr h1 h2 h3 h4 hv' hg
  refine ⟨⟨by rw [← hc]; exact blk_set hl7 i v', own7.setLow' h.lt i v', ⟨hg.os.trans (hb.os.trans h.gr.os), hg.tape.trans (hb.tape.trans h.gr.tape), hg.output.trans (hb.output.trans h.gr.output), ?_, fun k hk hkl => ?_⟩, h.lt⟩, hl7⟩
  · have e : (w7.setCell ⟨lb, i, none⟩ v').heap.size = w7.heap.size := by simp [World.setCell]
    have h3 := hg.size
    rw [e]
    simp at h3
    omega
  · exact ((Below.heap_setCell w7 ⟨lb, i, none⟩ v' k (by show k ≠ lb; intro e; exact hkl (by rw [e]))).trans (at7 k hk)).trans (h.gr.block k hk hkl)
theorem LocR.below {T : TypeId} {w2 wv wr : World} {lb : Nat} {cs : Array Value} {u : Value} {xs : List (List Int)} (h : LocR T wv wr lb cs u xs) (hb : Below w2.heap.size w2 wv) (hl : w2.heap.size ≤ lb) : Below w2.heap.size w2 wr :=
  ⟨h.gr.os.trans hb.os, h.gr.tape.trans hb.tape, h.gr.output.trans hb.output, Nat.le_trans hb.size h.gr.size, fun k hk => (h.gr.block k (by have := hb.size; omega) (by intro e; injection e with e; omega)).trans (hb.block k hk)⟩
theorem LocR.other {T : TypeId} {wv wr : World} {lb B : Nat} {cs : Array Value} {u v : Value} {xs : List (List Int)} {ys : List Int} (h : LocR T wv wr lb cs u xs) (ho : OInts wv B v ys) (hne : v.ownBlock ≠ some lb) : OInts wr B v ys :=
  own_grown ho h.gr (.inr hne)
theorem LocR.at7 {T : TypeId} {wv wr w6 w7 : World} {lb b i : Nat} {cs : Array Value} {u x : Value} {rows : List (List Int)} {us : List Value} {o : Obj} (h : LocR T wv wr lb cs u rows) (hb : Below wr.heap.size wr w6)
    (h1 : wr.ownsRow wv.heap.size 26 1 u rows.length us) (hg : (w6.alloc o).grownBy w7 u.ownBlock) (hp : wr.cell? ⟨b, i, none⟩ = some x) (hk : b < wv.heap.size) : w7.cell? ⟨b, i, none⟩ = some x := by
  have hs6 := hb.size
  have hsr := h.gr.size
  exact (World.cell?_of_block (((hg.block b (by simp; omega) (fun e => by have := own_lt h1 b e.symm; omega)).trans (heap_alloc_old w6 _ (by omega))).trans (hb.block b (by omega)))).trans hp
theorem blk_held {wc wd : World} {bx : Nat} {o : Obj} (hz : wc.heap[bx]? = some o) (hb : Below wc.heap.size wc wd) : wd.heap[bx]? = some o := (hb.block _ (Array.getElem?_eq_some_iff.1 hz).1).trans hz

set_option maxRecDepth 100000 in
theorem cloneNil (c : Nat) (w : World) :
    Calls Try.prog 74 #[.slice none 0 c] w fun e w' => e = .returned (.slice none 0 0) ∧ Below w.heap.size w w' := by
  have hcmp := Lib.run_eql_slice_nil (P := Try.prog) w 26 3 none 0 c 0 0 Try.underlying26
  simp only [Option.isNone_none] at hcmp
  go_enter Try.func74, Try.ntmps74
  go_wp2
  go_ret
  exact ⟨rfl, Below.refl _ _⟩
theorem cloneAll (v : Value) (xs : List Int) (w : World) (h : RInts w v xs) (hs : xs.length ≤ 1048576) :
    Calls Try.prog 74 #[v] w fun e w' => ∃ u, e = .returned u ∧ OInts w' w.heap.size u xs ∧ Below w.heap.size w w' := by
  obtain ⟨A, c, rfl, h1, h2⟩ := h.form
  cases A with
  | some ad => exact clone_any ad _ c xs w h hs
  | none =>
    have hx : xs = [] := by
      cases xs with
      | nil => rfl
      | cons y ys =>
        obtain ⟨b, o, c', e, -⟩ := h.at_ (k := 0) (by simp)
        cases e
    subst hx
    refine (cloneNil c w).mono ?_
    rintro e w' ⟨rfl, hb⟩
    exact ⟨_, rfl, OInts.nil _ _, hb⟩
end

section
open Go.RowKit
set_option linter.unusedVariables false

/-- the rows of equations, three an equation -/
def rows3 : List MEq → List (List Int)
  | [] => []
  | e :: es => e.vars :: e.left :: e.right :: rows3 es
theorem rows3_len : ∀ es : List MEq, (rows3 es).length = es.length * 3
  | [] => rfl
  | e :: es => by simp only [rows3, List.length_cons, rows3_len es]; omega
theorem rows3_at : ∀ (es : List MEq) (k : Nat) (e : MEq), es[k]? = some e → (rows3 es)[k * 3]? = some e.vars ∧ (rows3 es)[k * 3 + 1]? = some e.left ∧ (rows3 es)[k * 3 + 2]? = some e.right
  | [], k, e, h => by simp at h
  | x :: es, 0, e, h => by simp at h; subst h; simp [rows3]
  | x :: es, k + 1, e, h => by
    have := rows3_at es k e (by simpa using h)
    rw [show (k + 1) * 3 = k * 3 + 3 by omega]
    simpa [rows3] using this
theorem run_make_wide (t e : TypeId) (z : Value) (size bytes : Nat) (ht : Try.prog.underlying t = some (.slice e)) (hinfo : (Try.prog.info? e).map (fun i => (i.zero, i.size, i.bytes)) = some (some z, size, bytes))
    (kl kc : IntKind) (n : Nat) (hbytes : bytes * n ≤ 281474976710656) (h63 : n ≤ 9223372036854775807) (w : World) :
    (Instr.makeSlice t (.int kl (n : Int)) (.int kc (n : Int))).run Try.prog w = .ok (.slice (some ⟨w.heap.size, 0, none⟩) n n) (w.alloc (.cells (madeCells z.cells (n * size)) e)) := by
  obtain ⟨i, hi, hzz⟩ := Option.map_eq_some_iff.1 hinfo
  simp only [Prod.mk.injEq] at hzz
  obtain ⟨hz, hs, hb⟩ := hzz
  have := run_make (P := Try.prog) w t e i z ht hi hz kl kc n n (by omega) (by omega) (by rw [hb]; omega) (by omega)
  simpa [hs] using this
theorem Try.tinfo_Eq : (Try.prog.info? 41).map (fun i => (i.zero, i.size, i.bytes)) = some (some (.agg #[.slice none 0 0, .slice none 0 0, .slice none 0 0]), 3, 72) := by kernel_rfl

/-- a block that is being filled with rows, cell by cell -/
def FillF (T : TypeId) (w wr : World) (rows : List (List Int)) (k : Nat) : Prop :=
  ∃ cur : Array Value, wr.heap[w.heap.size]? = some (.cells cur T (0, 0)) ∧ cur.size = rows.length ∧ (∀ (j : Nat) (row : List Int), j < k → rows[j]? = some row → ∃ u, cur[j]? = some u ∧ OInts wr (w.heap.size + 1) u row) ∧
    (∀ (i j : Nat) (u u' : Value), i < j → j < k → cur[i]? = some u → cur[j]? = some u' → Apart u u') ∧ Below w.heap.size w wr
section
variable {T : TypeId} {w wr w1 : World} {rows : List (List Int)} {k : Nat}
theorem FillF.start (T : TypeId) (w : World) (rows : List (List Int)) (cur : Array Value) (h : cur.size = rows.length) : FillF T w (w.alloc (.cells cur T)) rows 0 :=
  ⟨cur, heap_alloc_new w _, h, fun j row hj => by omega, fun i j u u' _ hj => by omega, below_alloc _ _⟩
theorem FillF.bel (h : FillF T w wr rows k) : Below w.heap.size w wr := by obtain ⟨_, _, _, _, _, hb⟩ := h; exact hb
theorem FillF.lt (h : FillF T w wr rows k) : w.heap.size < wr.heap.size := by obtain ⟨cur, h1, _⟩ := h; exact (Array.getElem?_eq_some_iff.1 h1).1
theorem FillF.keep (h : FillF T w wr rows k) (hb : Below wr.heap.size wr w1) : FillF T w w1 rows k := by
  have hl := h.lt
  obtain ⟨cur, h1, h2, h3, h4, h5⟩ := h
  exact ⟨cur, (hb.block _ hl).trans h1, h2, fun j row hj hr => by obtain ⟨u, a, b⟩ := h3 j row hj hr; exact ⟨u, a, b.keep hb⟩, h4, h5.trans (hb.mono (by omega))⟩
theorem FillF.cell (h : FillF T w wr rows k) {j : Nat} (hj : j < rows.length) : ∃ u, wr.cell? ⟨w.heap.size, j, none⟩ = some u ∧ wr.frozen? ⟨w.heap.size, j, none⟩ = false := by
  obtain ⟨cur, h1, h2, h3, h4, h5⟩ := h
  exact ⟨cur[j]'(by omega), (blk_cell h1 j).trans (Array.getElem?_eq_getElem (by omega)), blk_free h1 j⟩
/-- what stands there -/
theorem FillF.old (h : FillF T w wr rows k) {j : Nat} {x : Value} (hj : j < k) (hk : k ≤ rows.length) (hx : wr.cell? ⟨w.heap.size, j, none⟩ = some x) : ∀ b, x.ownBlock = some b → b < wr.heap.size := by
  obtain ⟨cur, h1, h2, h3, h4, h5⟩ := h
  obtain ⟨u, a, b⟩ := h3 j rows[j] hj (List.getElem?_eq_getElem (by omega))
  rw [blk_cell h1, a] at hx
  cases hx
  exact fun b' hb' => (own_lt b b' hb').2
theorem FillF.put (h : FillF T w wr rows k) (hk : k < rows.length) {u : Value} {row : List Int} (hr : rows[k]? = some row) (hu : OInts wr (w.heap.size + 1) u row) (ha : ∀ (i : Nat) (x : Value), i < k → wr.cell? ⟨w.heap.size, i, none⟩ = some x → Apart x u) :
    FillF T w (wr.setCell ⟨w.heap.size, k, none⟩ u) rows (k + 1) := by
  obtain ⟨cur, h1, h2, h3, h4, h5⟩ := h
  refine ⟨_, blk_set h1 k u, by simpa using h2, fun j row' hj hrow => ?_, fun i j x x' hij hjk hi hj => ?_, h5.setCell (Nat.le_refl _) _⟩
  · by_cases hjk : k = j
    · subst hjk
      rw [hr] at hrow
      cases hrow
      exact ⟨u, by rw [Array.getElem?_setIfInBounds, if_pos rfl, if_pos (by omega)], hu.setLow (by omega) _ _⟩
    · obtain ⟨x, hx, hxo⟩ := h3 j row' (by omega) hrow
      exact ⟨x, by rw [Array.getElem?_setIfInBounds, if_neg hjk]; exact hx, hxo.setLow (by omega) _ _⟩
  · rw [Array.getElem?_setIfInBounds, if_neg (by omega)] at hi
    by_cases hjk' : k = j
    · subst hjk'
      rw [Array.getElem?_setIfInBounds, if_pos rfl, if_pos (by omega)] at hj
      cases hj
      exact ha i x hij (by rw [blk_cell h1]; exact hi)
    · rw [Array.getElem?_setIfInBounds, if_neg hjk'] at hj
      exact h4 i j x x' hij (by omega) hi hj
theorem apart_old {w1 : World} {B : Nat} {x u : Value} {row : List Int} (hx : ∀ b, x.ownBlock = some b → b < B) (hu : OInts w1 B u row) : Apart x u := by
  unfold Apart
  cases hb : x.ownBlock with
  | none => exact .inl rfl
  | some b => right; intro e; have := hx b hb; have := (own_lt hu b e.symm).1; omega
theorem FillF.put3 (h : FillF T w wr rows (k * 3)) (hb : Below wr.heap.size wr w1) {a b c : Value} {e : MEq} (he : OEq w1 wr.heap.size (.agg #[a, b, c]) e) (hk : k * 3 + 3 ≤ rows.length)
    (r0 : rows[k * 3]? = some e.vars) (r1 : rows[k * 3 + 1]? = some e.left) (r2 : rows[k * 3 + 2]? = some e.right) :
    FillF T w (((w1.setCell ⟨w.heap.size, k * 3, none⟩ a).setCell ⟨w.heap.size, k * 3 + 1, none⟩ b).setCell ⟨w.heap.size, k * 3 + 2, none⟩ c) rows (k * 3 + 3) := by
  have hl := h.lt
  obtain ⟨a', b', c', e', h1, h2, h3, p1, p2, p3⟩ := he
  injection e' with e'
  simp at e'
  obtain ⟨rfl, rfl, rfl⟩ := e'
  have h0 := h.keep hb
  have old : ∀ (j : Nat) (x : Value), j < k * 3 → w1.cell? ⟨w.heap.size, j, none⟩ = some x → ∀ b, x.ownBlock = some b → b < wr.heap.size := fun j x hj hx => by
    refine h.old hj (by omega) ?_
    obtain ⟨cur, q1, _⟩ := h
    have q2 := (hb.block _ hl).trans q1
    rw [blk_cell q2] at hx
    rw [blk_cell q1]; exact hx
  have f1 := h0.put (by omega) r0 (h1.base (by omega)) (fun i x hi hx => apart_old (old i x hi hx) h1)
  have c1 : ∀ (i : Nat) (x u : Value), (w1.setCell ⟨w.heap.size, k * 3, none⟩ u).cell? ⟨w.heap.size, i, none⟩ = some x → i < k * 3 → w1.cell? ⟨w.heap.size, i, none⟩ = some x := fun i x u hx hi => by
    rwa [World.cell?_setCell_other _ _ _ _ (by intro e; injection e; omega)] at hx
  have f2 := f1.put (by omega) r1 ((h2.base (by omega)).setLow (by omega) _ _) (fun i x hi hx => by
    by_cases hi3 : i < k * 3
    · exact apart_old (old i x hi3 (c1 i x _ hx hi3)) h2
    · have : i = k * 3 := by omega
      subst this
      obtain ⟨cur, q1, q2, -⟩ := h0
      rw [blk_cell (blk_set q1 (k * 3) a), Array.getElem?_setIfInBounds, if_pos rfl, if_pos (by omega)] at hx
      cases hx
      exact p1)
  have f3 := f2.put (by omega) r2 (((h3.base (by omega)).setLow (by omega) _ _).setLow (by omega) _ _) (fun i x hi hx => by
    obtain ⟨cur, q1, q2, -⟩ := h0
    have s1 := blk_set q1 (k * 3) a
    have s2 := blk_set s1 (k * 3 + 1) b
    rw [blk_cell s2, Array.getElem?_setIfInBounds] at hx
    by_cases hi4 : k * 3 + 1 = i
    · subst hi4
      rw [if_pos rfl, if_pos (by simp; omega)] at hx
      cases hx
      exact p3
    · rw [if_neg hi4, Array.getElem?_setIfInBounds] at hx
      by_cases hi5 : k * 3 = i
      · subst hi5
        rw [if_pos rfl, if_pos (by omega)] at hx
        cases hx
        exact p2
      · rw [if_neg hi5] at hx
        exact apart_old (old i x (by omega) (by rw [blk_cell q1]; exact hx)) h3)
  exact f3
theorem FillF.done {n size : Nat} (h : FillF T w wr rows k) (hk : k = rows.length) (hn : n * size = rows.length) (hm : n ≤ 9223372036854775807) : ORowsT T size n wr w.heap.size (.slice (some ⟨w.heap.size, 0, none⟩) n n) rows ∧ Below w.heap.size w wr := by
  obtain ⟨cur, h1, h2, h3, h4, h5⟩ := h
  subst hk
  refine ⟨⟨cur.toList, ?_, by simpa using h2, fun j u row hu hrow => ?_, fun i j u u' hij hi hj => ?_⟩, h5⟩
  · refine ⟨by simp [h2, hn], .inr ⟨w.heap.size, _, cur, rfl, Nat.le_refl _, h1, Nat.le_refl _, by rw [maxLen_eq]; exact hm, by omega, List.take_of_length_le (by simp; omega)⟩⟩
  · obtain ⟨x, hx, hxo⟩ := h3 j row (List.getElem?_eq_some_iff.1 hrow).1 hrow
    rw [Array.getElem?_toList, hx] at hu
    cases hu
    exact hxo.base (by omega)
  · rw [Array.getElem?_toList] at hi hj
    exact h4 i j u u' hij (by have := (Array.getElem?_eq_some_iff.1 hj).1; omega) hi hj
end

def OEqs (w : World) (B : Nat) (v : Value) (es : List MEq) : Prop := ORowsT 41 3 es.length w B v (rows3 es)
section
variable {T : TypeId} {size n : Nat} {w w' : World} {B B' : Nat} {v : Value} {rows : List (List Int)} {es : List MEq}
theorem ORowsT.keep (h : ORowsT T size n w B v rows) (hb : Below w.heap.size w w') : ORowsT T size n w' B v rows := by
  obtain ⟨us, h1, h2, h3, h4⟩ := h
  exact ⟨us, own_keep h1 hb, h2, fun j u row a b => (h3 j u row a b).keep hb, h4⟩
theorem ORowsT.base (h : ORowsT T size n w B v rows) (hB : B' ≤ B) : ORowsT T size n w B' v rows := by
  obtain ⟨us, h1, h2, h3, h4⟩ := h
  exact ⟨us, own_base h1 hB, h2, fun j u row a b => (h3 j u row a b).base hB, h4⟩
theorem ORowsT.setLow {b : Nat} (h : ORowsT T size n w B v rows) (hb : b < B) (i : Nat) (x : Value) : ORowsT T size n (w.setCell ⟨b, i, none⟩ x) B v rows := by
  obtain ⟨us, h1, h2, h3, h4⟩ := h
  exact ⟨us, ownsRow_setCell_below h1 hb _, h2, fun j u row a b' => (h3 j u row a b').setLow hb _ _, h4⟩
theorem wide_reads {e : TypeId} {zs : List Value} (h : w.ownsRow B e size v n zs) : ∃ A c, v = .slice A n c ∧ n ≤ c ∧ c ≤ maxLen ∧ ∀ j x, zs[j]? = some x → ∃ b, A = some ⟨b, 0, none⟩ ∧ w.cell? ⟨b, j, none⟩ = some x := by
  obtain ⟨hl, h⟩ := h
  rcases h with ⟨rfl, rfl⟩ | ⟨g, cap, cur, rfl, hg, hh, h1, h2, h3, h4⟩
  · refine ⟨none, 0, rfl, Nat.le_refl _, Nat.zero_le _, fun j x hj => ?_⟩
    have : zs = [] := List.eq_nil_of_length_eq_zero (by simpa using hl)
    subst this
    simp at hj
  · refine ⟨_, cap, rfl, h1, h2, fun j x hj => ⟨g, rfl, ?_⟩⟩
    subst h4
    rw [List.getElem?_take] at hj
    split at hj
    · simpa [World.cell?, hh] using hj
    · cases hj
theorem OEqs.reads (h : OEqs w B v es) : REqs w v es := by
  obtain ⟨us, h1, h2, h3, -⟩ := h
  obtain ⟨A, c, e, k1, k2, k3⟩ := wide_reads h1
  refine ⟨A, c, e, k1, k2, fun j q hj => ?_⟩
  obtain ⟨r0, r1, r2⟩ := rows3_at es j q hj
  have hjl := (List.getElem?_eq_some_iff.1 hj).1
  have hl := rows3_len es
  have get : ∀ i, i < es.length * 3 → ∃ u, us[i]? = some u := fun i hi => ⟨us[i]'(by omega), List.getElem?_eq_getElem _⟩
  obtain ⟨x, hx⟩ := get (j * 3) (by omega)
  obtain ⟨y, hy⟩ := get (j * 3 + 1) (by omega)
  obtain ⟨z, hz⟩ := get (j * 3 + 2) (by omega)
  obtain ⟨b, ea, c0⟩ := k3 _ x hx
  obtain ⟨b1, ea1, c1⟩ := k3 _ y hy
  obtain ⟨b2, ea2, c2⟩ := k3 _ z hz
  rw [ea] at ea1 ea2
  cases ea1
  cases ea2
  exact ⟨b, 0, x, y, z, ea, by simpa using c0, by simpa using c1, by simpa using c2, (h3 _ _ _ hx r0).reads, (h3 _ _ _ hy r1).reads, (h3 _ _ _ hz r2).reads⟩
end

theorem szEqS_any (v : Value) (es : List MEq) (left : Int) (w : World) (h : REqs w v es) (h0 : 0 ≤ left) (h1 : left ≤ 1048576) :
    Calls Try.prog 101 #[v, .int .i64 left] w fun e w' => ∃ r : Int, e = .returned (.int .i64 r) ∧ (r < 0 ∨ (0 ≤ r ∧ r ≤ left ∧ FitsEs es)) ∧ Below w.heap.size w w' := by
  have H := Lib.hid h
  have hn := h.len
  obtain ⟨A, c, rfl, -⟩ := h.form
  clear h
  by_cases hl : left - (es.length : Int) < 0
  · go_enter Try.func101, Try.ntmps101
    go_wp2
    go_ret
    exact ⟨-1, rfl, .inl (by omega), Below.refl _ _⟩
  · go_enter Try.func101, Try.ntmps101
    go_wp2
    go_loopw [1, 5] (fun l i wr => ∃ k : Nat, ∃ r : Int, k ≤ es.length ∧ i = .int .i64 k ∧ l = .int .i64 r ∧ 0 ≤ r ∧ r ≤ left ∧ (∀ e ∈ es.take k, FitsE e) ∧ Below w.heap.size w wr) (fun _ i _ => es.length - (intOf i).toNat)
    case atStart => exact ⟨0, _, Nat.zero_le _, rfl, rfl, by omega, by omega, by simp, Below.refl _ _⟩
    case round =>
      obtain ⟨k, r, hk, rfl, rfl, hr0, hr1, hb0, hbw⟩ := hrel
      have hb := Lib.hid hb0
      have HBW := Lib.hid hbw
      clear hb0 hbw
      by_cases hlt : k < es.length
      · obtain ⟨b, o, c', x, y, z, e, c0, c1, c2, q0, q1, q2⟩ := (H.out.keep HBW.out).at_ hlt
        cases e
        have HT := Lib.hid (List.take_succ_eq_append_getElem hlt)
        generalize es[k] = e at q0 q1 q2 HT
        have HI := Lib.hid (show REq wr (.agg #[x, y, z]) e from ⟨x, y, z, rfl, q0, q1, q2⟩)
        obtain ⟨A0, d0, rfl, -⟩ := q0.form
        obtain ⟨A1, d1, rfl, -⟩ := q1.form
        obtain ⟨A2, d2, rfl, -⟩ := q2.form
        clear q0 q1 q2
        go_wp2_with fail
        refine (szEq_any _ e _ _ HI.out hr0 (by omega)).mono ?_
        rintro e' w1 ⟨r', rfl, hr', hb1⟩
        have HB1 := Lib.hid (sz_keep HBW.out hb1)
        clear hb1 c0 c1 c2
        by_cases hneg : r' < 0
        · clear hr'
          go_wp2
          go_ret
          exact ⟨-1, rfl, .inl (by omega), HB1.out⟩
        · obtain ⟨h2, h3, h4⟩ := hr'.resolve_left hneg
          have HR := Lib.hid (And.intro h3 h4)
          clear h3 h4 hr'
          go_wp2
          go_roundw
          case rel =>
            refine ⟨k + 1, r', by omega, by go_num, rfl, h2, by have := HR.out.1; omega, ?_, HB1.out⟩
            rw [HT.out]
            intro x hx
            rcases List.mem_append.1 hx with hx | hx
            · exact hb.out x hx
            · simp at hx; subst hx; exact HR.out.2
          case measure => simp [intOf]; omega
      · go_wp2
        go_ret
        have h := hb.out
        rw [take_all (by omega)] at h
        exact ⟨r, rfl, .inr ⟨hr0, hr1, by omega, h⟩, HBW.out⟩

set_option maxRecDepth 100000 in
theorem toEqS_any (v : Value) (es : List MEq) (w : World) (h : REqs w v es) (hs : FitsEs es) :
    Calls Try.prog 109 #[v] w fun e w' => ∃ u, e = .returned u ∧ OEqs w' w.heap.size u es ∧ Below w.heap.size w w' := by
  have H := Lib.hid h
  have HS := Lib.hid hs
  obtain ⟨A, c, rfl, -⟩ := h.form
  have hlen := hs.1
  have HL := Lib.hid (rows3_len es)
  clear h hs
  have hmk := run_make_wide 78 41 _ 3 72 Try.underlying78 Try.tinfo_Eq .i64 .i64 es.length (by omega) (by omega)
  go_enter Try.func109, Try.ntmps109
  go_wp2
  go_loopw [4] (fun i wr => ∃ k : Nat, k ≤ es.length ∧ i = .int .i64 k ∧ FillF 41 w wr (rows3 es) (k * 3)) (fun i _ => es.length - (intOf i).toNat)
  case atStart => exact ⟨0, Nat.zero_le _, rfl, FillF.start _ w _ _ (by rw [HL.out]; simp [madeCells])⟩
  case round =>
    obtain ⟨k, hk, rfl, hf⟩ := hrel
    have HF := Lib.hid hf
    clear hf hmk
    by_cases hlt : k < es.length
    · obtain ⟨b, o, c', x, y, z, e, c0, c1, c2, q0, q1, q2⟩ := (H.out.keep HF.out.bel).at_ hlt
      cases e
      have hfe := HS.out.2 _ (List.getElem_mem hlt)
      have HR3 := Lib.hid (rows3_at es k _ (List.getElem?_eq_getElem hlt))
      generalize es[k] = e at q0 q1 q2 hfe HR3
      have HI := Lib.hid (show REq wr (.agg #[x, y, z]) e from ⟨x, y, z, rfl, q0, q1, q2⟩)
      have HFE := Lib.hid hfe
      obtain ⟨A0, d0, rfl, -⟩ := q0.form
      obtain ⟨A1, d1, rfl, -⟩ := q1.form
      obtain ⟨A2, d2, rfl, -⟩ := q2.form
      clear q0 q1 q2 hfe
      go_wp2_with fail
      refine (toEq_any _ e _ HI.out HFE.out).mono ?_
      rintro e' w1 ⟨u, rfl, ho, hb⟩
      obtain ⟨B0, g0, B1, g1, B2, g2, rfl⟩ := ho.reads.form
      have hkp := HF.out.keep hb
      obtain ⟨z0, m0, n0⟩ := hkp.cell (j := k * 3) (by have := HL.out; omega)
      obtain ⟨z1, m1, n1⟩ := hkp.cell (j := k * 3 + 1) (by have := HL.out; omega)
      obtain ⟨z2, m2, n2⟩ := hkp.cell (j := k * 3 + 2) (by have := HL.out; omega)
      have HN := Lib.hid (HF.out.put3 hb ho (by have := HL.out; omega) HR3.out.1 HR3.out.2.1 HR3.out.2.2)
      clear ho hb hkp c0 c1 c2
      go_wp2
      go_roundw
      case rel => exact ⟨k + 1, by omega, by go_num, by rw [show (k + 1) * 3 = k * 3 + 3 by omega]; exact HN.out⟩
      case measure => simp [intOf]; omega
    · have hkn : k = es.length := by omega
      go_wp2
      go_ret
      obtain ⟨r1, r2⟩ := HF.out.done (n := es.length) (size := 3) (by rw [HL.out]; omega) (by rw [HL.out]) (by omega)
      exact ⟨_, rfl, r1, r2⟩

theorem eq_drew (w : World) : Below w.heap.size w w.drew := ⟨rfl, rfl, rfl, Nat.le_refl _, fun _ _ => rfl⟩
theorem eq_undrew {w w' : World} (h : Below w.drew.heap.size w.drew w') : Below w.heap.size w w' := ⟨h.os, h.tape, h.output, h.size, h.block⟩
theorem takeE_bad {xs ys : List MEq} {k : Nat} (hx : k < xs.length) (hy : k < ys.length) (he : sameE xs[k] ys[k] = false) : sameEs xs ys = false := by
  cases h : sameEs xs ys with
  | false => rfl
  | true =>
    have := sameEs_eq.1 h
    subst this
    rw [sameE_self] at he
    cases he
theorem eqEqS_any (v v' : Value) (xs ys : List MEq) (w : World) (h : REqs w v xs) (h' : REqs w v' ys) :
    Calls Try.prog 117 #[v, v'] w fun e w' => e = .returned (.bool (sameEs xs ys)) ∧ Below w.heap.size w w' := by
  have H := Lib.hid h
  have H' := Lib.hid h'
  have hn := h.len
  have hn' := h'.len
  obtain ⟨A, c, rfl, -⟩ := h.form
  obtain ⟨A', c', rfl, -⟩ := h'.form
  clear h h'
  by_cases hl : xs.length = ys.length
  · have hl' : ((xs.length : Int) != (ys.length : Int)) = false := by simp [hl]
    have HL := Lib.hid hl
    have hle : xs.length ≤ ys.length := by omega
    have hge : ys.length ≤ xs.length := by omega
    clear hl
    go_enter Try.func117, Try.ntmps117
    go_wp2
    go_loopw [5] (fun i wr => ∃ k : Nat, k ≤ xs.length ∧ i = .int .i64 k ∧ xs.take k = ys.take k ∧ Below w.heap.size w wr) (fun i _ => xs.length - (intOf i).toNat)
    case atStart => exact ⟨0, Nat.zero_le _, rfl, rfl, Below.refl _ _⟩
    case round =>
      obtain ⟨k, hk, rfl, hb0, hd⟩ := hrel
      have hb := Lib.hid hb0
      have HD := Lib.hid hd
      clear hb0 hd
      by_cases hlt : k < xs.length
      · obtain ⟨b, o, c3, x0, x1, x2, e, c00, c01, c02, q0, q1, q2⟩ := (H.out.keep HD.out).at_ hlt
        cases e
        obtain ⟨b', o', c4, y0, y1, y2, e, d00, d01, d02, p0, p1, p2⟩ := (H'.out.keep HD.out).at_ (show k < ys.length by omega)
        cases e
        have hs1 : (k : Int) < (xs.length : Int) := by omega
        have hs2 : (k : Int) < (ys.length : Int) := by omega
        have HT := Lib.hid (take_succ_eq hlt (show k < ys.length by omega) hb.out)
        have HN := Lib.hid (takeE_bad hlt (show k < ys.length by omega))
        generalize xs[k] = x at q0 q1 q2 HT HN
        generalize ys[k]'(by omega) = y at p0 p1 p2 HT HN
        have HX := Lib.hid (show REq wr (.agg #[x0, x1, x2]) x from ⟨x0, x1, x2, rfl, q0, q1, q2⟩)
        have HY := Lib.hid (show REq wr (.agg #[y0, y1, y2]) y from ⟨y0, y1, y2, rfl, p0, p1, p2⟩)
        obtain ⟨A0, g0, rfl, -⟩ := q0.form
        obtain ⟨A1, g1, rfl, -⟩ := q1.form
        obtain ⟨A2, g2, rfl, -⟩ := q2.form
        obtain ⟨B0, h0, rfl, -⟩ := p0.form
        obtain ⟨B1, h1, rfl, -⟩ := p1.form
        obtain ⟨B2, h2, rfl, -⟩ := p2.form
        clear q0 q1 q2 p0 p1 p2
        have ea := World.new_ne wr _ c00
        have eb := World.new_ne wr _ d00
        cases hxy : sameE x y with
        | true =>
          have HXY := Lib.hid hxy
          clear hxy
          go_wp2_with fail
          go_region_held3 (fun w' => w'.cell? ⟨b, o + k * 3, none⟩ = some (.slice A0 x.vars.length g0) ∧ w'.cell? ⟨b, o + k * 3 + 1, none⟩ = some (.slice A1 x.left.length g1) ∧ w'.cell? ⟨b, o + k * 3 + 2, none⟩ = some (.slice A2 x.right.length g2) ∧ w'.cell? ⟨b', o' + k * 3, none⟩ = some (.slice B0 y.vars.length h0) ∧ w'.cell? ⟨b', o' + k * 3 + 1, none⟩ = some (.slice B1 y.left.length h1) ∧ w'.cell? ⟨b', o' + k * 3 + 2, none⟩ = some (.slice B2 y.right.length h2)) (first | go_keep)
            (first
              | (go_at_call 50; refine (eqEq_is _ _ _ _ wr.drew _ HXY.out (HX.out.keep (eq_drew _)) (HY.out.keep (eq_drew _))).mono ?_; rintro e w2 ⟨rfl, hb2⟩; have HB2 := Lib.hid (eq_undrew hb2); have j0 := cell_keep HB2.out c00; have j1 := cell_keep HB2.out c01; have j2 := cell_keep HB2.out c02; have j3 := cell_keep HB2.out d00; have j4 := cell_keep HB2.out d01; have j5 := cell_keep HB2.out d02; clear hb2))
          have HBN := Lib.hid (sz_keep HD.out HB2.out)
          clear c00 c01 c02 d00 d01 d02 j0 j1 j2 j3 j4 j5 ea eb
          go_wp2
          go_roundw
          case rel => exact ⟨k + 1, by omega, by go_num, HT.out (sameE_eq.1 HXY.out), HBN.out⟩
          case measure => simp [intOf]; omega
        | false =>
          have HXY := Lib.hid hxy
          clear hxy
          go_wp2_with fail
          go_region_held3 (fun w' => w'.cell? ⟨b, o + k * 3, none⟩ = some (.slice A0 x.vars.length g0) ∧ w'.cell? ⟨b, o + k * 3 + 1, none⟩ = some (.slice A1 x.left.length g1) ∧ w'.cell? ⟨b, o + k * 3 + 2, none⟩ = some (.slice A2 x.right.length g2) ∧ w'.cell? ⟨b', o' + k * 3, none⟩ = some (.slice B0 y.vars.length h0) ∧ w'.cell? ⟨b', o' + k * 3 + 1, none⟩ = some (.slice B1 y.left.length h1) ∧ w'.cell? ⟨b', o' + k * 3 + 2, none⟩ = some (.slice B2 y.right.length h2)) (first | go_keep)
            (first
              | (go_at_call 50; refine (eqEq_is _ _ _ _ wr.drew _ HXY.out (HX.out.keep (eq_drew _)) (HY.out.keep (eq_drew _))).mono ?_; rintro e w2 ⟨rfl, hb2⟩; have HB2 := Lib.hid (eq_undrew hb2); have j0 := cell_keep HB2.out c00; have j1 := cell_keep HB2.out c01; have j2 := cell_keep HB2.out c02; have j3 := cell_keep HB2.out d00; have j4 := cell_keep HB2.out d01; have j5 := cell_keep HB2.out d02; clear hb2))
          have HBN := Lib.hid (sz_keep HD.out HB2.out)
          clear c00 c01 c02 d00 d01 d02 j0 j1 j2 j3 j4 j5 ea eb
          go_wp2
          go_ret
          exact ⟨ret_bool (HN.out HXY.out).symm, HBN.out⟩
      · go_wp2
        go_ret
        have h := hb.out
        rw [take_all (by omega), take_all (by omega)] at h
        exact ⟨ret_bool (by rw [h, sameEs_self]), HD.out⟩
  · have hl' : ((xs.length : Int) != (ys.length : Int)) = true := by simp; omega
    have HL := Lib.hid hl
    clear hl
    go_enter Try.func117, Try.ntmps117
    go_wp2
    go_ret
    refine ⟨ret_bool ?_, Below.refl _ _⟩
    cases h : sameEs xs ys with
    | false => rfl
    | true => have := sameEs_eq.1 h; subst this; exact absurd rfl HL.out
end

section
open Go.RowKit
set_option linter.unusedVariables false

/-- a theory that a call has made: the rows of its operations lie apart from those of its axioms -/
def OThy (w : World) (B : Nat) (v : Value) (t : MThy) : Prop := ∃ u x, v = .agg #[.int .i64 t.over.sorts, u, x] ∧ ∃ (wc : World) (B0 : Nat), B ≤ B0 ∧ B0 ≤ wc.heap.size ∧ wc.heap.size ≤ w.heap.size ∧ ORows wc B0 u t.over.ops ∧ (∀ k, B0 ≤ k → k < wc.heap.size → w.heap[k]? = wc.heap[k]?) ∧ OEqs w wc.heap.size x t.eqs
theorem orows_same {w w' : World} {B : Nat} {v : Value} {rows : List (List Int)} (h : ORows w B v rows) (hk : ∀ k, B ≤ k → k < w.heap.size → w'.heap[k]? = w.heap[k]?) : ORows w' B v rows := by
  obtain ⟨us, h1, h2, h3, h4⟩ := h
  have same : ∀ {B2 : Nat} {e : TypeId} {size n : Nat} {v : Value} {zs : List Value}, B ≤ B2 → w.ownsRow B2 e size v n zs → w'.ownsRow B2 e size v n zs := fun hB h => by
    refine ⟨h.1, ?_⟩
    rcases h.2 with h2 | ⟨g, cap, cur, rfl, hg, hh, r⟩
    · exact .inl h2
    · exact .inr ⟨g, cap, cur, rfl, hg, (hk g (by omega) (Array.getElem?_eq_some_iff.1 hh).1).trans hh, r⟩
  exact ⟨us, same (Nat.le_refl _) h1, h2, fun j u row a b => same (Nat.le_refl _) (h3 j u row a b), h4⟩
theorem orowsT_same {T : TypeId} {size n : Nat} {w w' : World} {B : Nat} {v : Value} {rows : List (List Int)} (h : ORowsT T size n w B v rows) (hk : ∀ k, B ≤ k → k < w.heap.size → w'.heap[k]? = w.heap[k]?) : ORowsT T size n w' B v rows := by
  obtain ⟨us, h1, h2, h3, h4⟩ := h
  have same : ∀ {B2 : Nat} {e : TypeId} {size n : Nat} {v : Value} {zs : List Value}, B ≤ B2 → w.ownsRow B2 e size v n zs → w'.ownsRow B2 e size v n zs := fun hB h => by
    refine ⟨h.1, ?_⟩
    rcases h.2 with h2 | ⟨g, cap, cur, rfl, hg, hh, r⟩
    · exact .inl h2
    · exact .inr ⟨g, cap, cur, rfl, hg, (hk g (by omega) (Array.getElem?_eq_some_iff.1 hh).1).trans hh, r⟩
  exact ⟨us, same (Nat.le_refl _) h1, h2, fun j u row a b => same (Nat.le_refl _) (h3 j u row a b), h4⟩
section
variable {w w' : World} {B B' : Nat} {v : Value} {t : MThy}
theorem OThy.same (h : OThy w B v t) (hs : w.heap.size ≤ w'.heap.size) (hk : ∀ k, B ≤ k → k < w.heap.size → w'.heap[k]? = w.heap[k]?) : OThy w' B v t := by
  obtain ⟨u, x, rfl, wc, B0, z, a, b, c, d, e⟩ := h
  exact ⟨u, x, rfl, wc, B0, z, a, by omega, c, fun k h1 h2 => (hk k (by omega) (by omega)).trans (d k h1 h2), orowsT_same e fun k h1 h2 => hk k (by omega) h2⟩
theorem OThy.keep (h : OThy w B v t) (hb : Below w.heap.size w w') : OThy w' B v t := h.same hb.size fun k _ hk => hb.block k hk
theorem OThy.base (h : OThy w B v t) (hB : B' ≤ B) : OThy w B' v t := by
  obtain ⟨u, x, rfl, wc, B0, z, r⟩ := h
  exact ⟨u, x, rfl, wc, B0, by omega, r⟩
theorem OThy.rows (h : OThy w B v t) : ∃ u x, v = .agg #[.int .i64 t.over.sorts, u, x] ∧ ORows w B u t.over.ops ∧ OEqs w B x t.eqs := by
  obtain ⟨u, x, rfl, wc, B0, z, a, b, c, d, e⟩ := h
  exact ⟨u, x, rfl, (orows_same c d).base z, e.base (by omega)⟩
theorem OThy.reads (h : OThy w B v t) : RThy w v t := by
  obtain ⟨u, x, rfl, h1, h2⟩ := h.rows
  exact ⟨u, x, rfl, h1.reads, h2.reads⟩
end
def FitsT (t : MThy) : Prop := Fits t.over.ops ∧ FitsEs t.eqs
def sameT (a b : MThy) : Bool := sameS a.over b.over && sameEs a.eqs b.eqs
theorem sameT_self (a : MThy) : sameT a a = true := by unfold sameT; rw [sameS_self, sameEs_self]; rfl

set_option maxRecDepth 100000 in
theorem szTheory_any (v : Value) (t : MThy) (left : Int) (w : World) (h : RThy w v t) (h0 : 0 ≤ left) (h1 : left ≤ 1048576) :
    Calls Try.prog 37 #[v, .int .i64 left] w fun e w' => ∃ r : Int, e = .returned (.int .i64 r) ∧ (r < 0 ∨ (0 ≤ r ∧ r ≤ left ∧ FitsT t)) ∧ Below w.heap.size w w' := by
  obtain ⟨Ata, cta, Atb, ctb, rfl⟩ := h.form
  have hb : Below w.heap.size w (w.alloc (.cells #[.int .i64 t.over.sorts, .slice Ata t.over.ops.length cta, .slice Atb t.eqs.length ctb] 69)) := below_alloc _ _
  have HB := Lib.hid hb
  have hsz : (w.alloc (.cells #[.int .i64 t.over.sorts, .slice Ata t.over.ops.length cta, .slice Atb t.eqs.length ctb] 69)).heap.size = w.heap.size + 1 := by simp
  have Ht := Lib.hid (h.keep hb)
  have t0 := bx_at (w) #[.int .i64 t.over.sorts, .slice Ata t.over.ops.length cta, .slice Atb t.eqs.length ctb] 69 (k := 0) rfl
  have t1 := bx_at (w) #[.int .i64 t.over.sorts, .slice Ata t.over.ops.length cta, .slice Atb t.eqs.length ctb] 69 (k := 1) rfl
  have t2 := bx_at (w) #[.int .i64 t.over.sorts, .slice Ata t.over.ops.length cta, .slice Atb t.eqs.length ctb] 69 (k := 2) rfl
  generalize hW : w.alloc (.cells #[.int .i64 t.over.sorts, .slice Ata t.over.ops.length cta, .slice Atb t.eqs.length ctb] 69) = W at HB hsz Ht t0 t1 t2
  clear hb h
  obtain ⟨-, r1, r2⟩ := Ht.out.of
  have R1 := Lib.hid (show RSig W (.agg #[.int .i64 t.over.sorts, .slice Ata t.over.ops.length cta]) t.over from ⟨_, rfl, r1⟩)
  have R2 := Lib.hid r2
  clear r1 r2
  go_enter Try.func37, Try.ntmps37
  go_wp2_with fail
  clear hW
  refine (szSig_any _ t.over _ _ R1.out h0 h1).mono ?_
  rintro e w1 ⟨r, rfl, hr, hb⟩
  have HB1 := Lib.hid (sz_keep HB.out hb)
  have R21 := Lib.hid (R2.out.keep hb)
  have m1 := cell_keep hb t2
  clear hb t0 t1 t2
  by_cases hneg : r < 0
  · clear hr
    go_wp2
    go_ret
    exact ⟨-1, rfl, .inl (by omega), HB1.out⟩
  obtain ⟨hr2, hr3, hr4⟩ := hr.resolve_left hneg
  have HR := Lib.hid hr4
  have hr5 : r ≤ 1048576 := by omega
  clear hr hr4
  go_wp2_with fail
  refine (szEqS_any _ t.eqs _ _ R21.out hr2 hr5).mono ?_
  rintro e w2 ⟨q, rfl, hr, hb⟩
  have HB2 := Lib.hid (sz_keep HB1.out hb)
  clear hb m1
  by_cases hneg2 : q < 0
  · clear hr
    go_wp2
    go_ret
    exact ⟨-1, rfl, .inl (by omega), HB2.out⟩
  obtain ⟨hr6, hr7, hr8⟩ := hr.resolve_left hneg2
  have HQ := Lib.hid hr8
  clear hr hr8
  go_wp2
  go_ret
  exact ⟨q, rfl, .inr ⟨hr6, by omega, HR.out, HQ.out⟩, HB2.out⟩

theorem ORows.setLowT {w : World} {B b : Nat} {v : Value} {rows : List (List Int)} (h : ORows w B v rows) (hb : b < B) (i : Nat) (x : Value) : ORows (w.setCell ⟨b, i, none⟩ x) B v rows := h.setLow' hb i x

set_option maxRecDepth 100000 in
theorem toTheory_any (v : Value) (t : MThy) (w : World) (h : RThy w v t) (hs : FitsT t) :
    Calls Try.prog 42 #[v] w fun e' w' => ∃ u, e' = .returned u ∧ OThy w' w.heap.size u t ∧ Below w.heap.size w w' := by
  obtain ⟨At, ct, Bt, dt, rfl⟩ := h.form
  obtain ⟨-, h1, h2⟩ := h.of
  obtain ⟨hs1, hs2⟩ := hs
  have hm := Mk.start w 69 80 #[.int .i64 t.over.sorts, .slice At t.over.ops.length ct, .slice Bt t.eqs.length dt] #[.int .i64 0, .slice none 0 0, .slice none 0 0] #[.int .i64 0, .slice none 0 0, .slice none 0 0]
  generalize hW : ((w.alloc (.cells #[.int .i64 t.over.sorts, .slice At t.over.ops.length ct, .slice Bt t.eqs.length dt] 69)).alloc (.cells #[.int .i64 0, .slice none 0 0, .slice none 0 0] 80)).alloc (.cells #[.int .i64 0, .slice none 0 0, .slice none 0 0] 80) = W at hm
  have H1 := Lib.hid (show RSig W (.agg #[.int .i64 t.over.sorts, .slice At t.over.ops.length ct]) t.over from ⟨_, rfl, h1.keep hm.b⟩)
  have H2 := Lib.hid h2
  have HS1 := Lib.hid hs1
  have HS2 := Lib.hid hs2
  have p0 : W.cell? ⟨w.heap.size, 0, none⟩ = some (.int .i64 t.over.sorts) := hm.ca 0
  have p1 : W.cell? ⟨w.heap.size, 1, none⟩ = some (.slice At t.over.ops.length ct) := hm.ca 1
  have HM := Lib.hid hm
  clear h h1 h2 hm hs1 hs2
  go_enter Try.func42, Try.ntmps42
  go_wp2_with fail
  clear hW
  refine (toSig_any _ t.over _ H1.out HS1.out).mono ?_
  rintro e w4 ⟨u0, rfl, ho, hb⟩
  have hz := HM.out.z
  have hm := HM.out.below hb
  obtain ⟨B0, d0, rfl⟩ := ho.reads.form
  obtain ⟨u', eu, ho'⟩ := ho
  injection eu with eu
  simp at eu
  subst eu
  have q0 : w4.cell? ⟨w.heap.size + 2, 0, none⟩ = some (.int .i64 0) := hm.co 0
  have q1 : w4.cell? ⟨w.heap.size + 2, 1, none⟩ = some (.slice none 0 0) := hm.co 1
  have q2 := hm.fo 0
  have q3 := hm.fo 1
  have hm5 := (hm.setO 0 (.int .i64 t.over.sorts)).setO 1 (.slice B0 t.over.ops.length d0)
  have ho5 := (ho'.setLow' (b := w.heap.size + 2) (by omega) 0 (.int .i64 t.over.sorts)).setLow' (b := w.heap.size + 2) (by omega) 1 (.slice B0 t.over.ops.length d0)
  generalize hW5 : (w4.setCell ⟨w.heap.size + 2, 0, none⟩ (.int .i64 t.over.sorts)).setCell ⟨w.heap.size + 2, 1, none⟩ (.slice B0 t.over.ops.length d0) = w5 at hm5 ho5
  have p2 : w5.cell? ⟨w.heap.size, 2, none⟩ = some (.slice Bt t.eqs.length dt) := hm5.ca 2
  have HO5 := Lib.hid ho5
  have HM5 := Lib.hid hm5
  have HM5sz := Lib.hid (show W.heap.size ≤ w5.heap.size by have := hb.size; rw [← hW5]; simpa [World.setCell] using this)
  have H2 := Lib.hid (H2.out.keep hm5.b)
  clear ho' hb hm p0 p1 hm5 ho5 H1
  go_wp2_with fail
  clear hW5 q0 q1 q2 q3
  refine (toEqS_any _ t.eqs _ H2.out HS2.out).mono ?_
  rintro e w8 ⟨u2, rfl, ho, hb⟩
  have hz7 := HM5.out.z
  have hm := HM5.out.below hb
  obtain ⟨B2, d2, rfl, -⟩ := ho.reads.form
  have hm9 := (((hm.setO 2 (.slice B2 t.eqs.length d2)).setR 0 (.int .i64 t.over.sorts)).setR 1 (.slice B0 t.over.ops.length d0)).setR 2 (.slice B2 t.eqs.length d2)
  have o2 := (((ho.setLow (b := w.heap.size + 2) (by omega) 2 (.slice B2 t.eqs.length d2)).setLow (b := w.heap.size + 1) (by omega) 0 (.int .i64 t.over.sorts)).setLow (b := w.heap.size + 1) (by omega) 1 (.slice B0 t.over.ops.length d0)).setLow (b := w.heap.size + 1) (by omega) 2 (.slice B2 t.eqs.length d2)
  have hkk : ∀ k, w.heap.size + 3 ≤ k → k < w5.heap.size → ((((w8.setCell ⟨w.heap.size + 2, 2, none⟩ (.slice B2 t.eqs.length d2)).setCell ⟨w.heap.size + 1, 0, none⟩ (.int .i64 t.over.sorts)).setCell ⟨w.heap.size + 1, 1, none⟩ (.slice B0 t.over.ops.length d0)).setCell ⟨w.heap.size + 1, 2, none⟩ (.slice B2 t.eqs.length d2)).heap[k]? = w5.heap[k]? := fun k h1 h2 => by
    rw [Below.heap_setCell _ ⟨w.heap.size + 1, 2, none⟩ _ k (by show k ≠ w.heap.size + 1; omega), Below.heap_setCell _ ⟨w.heap.size + 1, 1, none⟩ _ k (by show k ≠ w.heap.size + 1; omega), Below.heap_setCell _ ⟨w.heap.size + 1, 0, none⟩ _ k (by show k ≠ w.heap.size + 1; omega), Below.heap_setCell _ ⟨w.heap.size + 2, 2, none⟩ _ k (by show k ≠ w.heap.size + 2; omega)]
    exact hb.block k h2
  have hsz9 : w5.heap.size ≤ ((((w8.setCell ⟨w.heap.size + 2, 2, none⟩ (.slice B2 t.eqs.length d2)).setCell ⟨w.heap.size + 1, 0, none⟩ (.int .i64 t.over.sorts)).setCell ⟨w.heap.size + 1, 1, none⟩ (.slice B0 t.over.ops.length d0)).setCell ⟨w.heap.size + 1, 2, none⟩ (.slice B2 t.eqs.length d2)).heap.size := by have := hb.size; simpa [World.setCell] using this
  have HF := Lib.hid (And.intro o2 (And.intro hkk hsz9))
  have HM9 := Lib.hid hm9
  have q0 : w8.cell? ⟨w.heap.size + 2, 0, none⟩ = some (.int .i64 t.over.sorts) := hm.co 0
  have q1 : w8.cell? ⟨w.heap.size + 2, 1, none⟩ = some (.slice B0 t.over.ops.length d0) := hm.co 1
  have q2 : w8.cell? ⟨w.heap.size + 2, 2, none⟩ = some (.slice none 0 0) := hm.co 2
  have q3 := hm.fo 2
  have q4 : w8.cell? ⟨w.heap.size + 1, 0, none⟩ = some (.int .i64 0) := hm.cr 0
  have q5 : w8.cell? ⟨w.heap.size + 1, 1, none⟩ = some (.slice none 0 0) := hm.cr 1
  have q6 : w8.cell? ⟨w.heap.size + 1, 2, none⟩ = some (.slice none 0 0) := hm.cr 2
  have q7 := hm.fr 0
  have q8 := hm.fr 1
  have q9 := hm.fr 2
  clear ho hb hm hm9 o2 hkk hsz9 H2 p2
  go_wp2
  obtain ⟨o2, hkk, hsz9⟩ := HF.out
  have hm9 := HM9.out
  generalize (((w8.setCell ⟨w.heap.size + 2, 2, none⟩ (.slice B2 t.eqs.length d2)).setCell ⟨w.heap.size + 1, 0, none⟩ (.int .i64 t.over.sorts)).setCell ⟨w.heap.size + 1, 1, none⟩ (.slice B0 t.over.ops.length d0)).setCell ⟨w.heap.size + 1, 2, none⟩ (.slice B2 t.eqs.length d2) = w9 at o2 hkk hsz9 hm9 ⊢
  have k0 : w9.cell? ⟨w.heap.size + 1, 0, none⟩ = some (.int .i64 t.over.sorts) := hm9.cr 0
  have k1 : w9.cell? ⟨w.heap.size + 1, 1, none⟩ = some (.slice B0 t.over.ops.length d0) := hm9.cr 1
  have k2 : w9.cell? ⟨w.heap.size + 1, 2, none⟩ = some (.slice B2 t.eqs.length d2) := hm9.cr 2
  clear q0 q1 q2 q3 q4 q5 q6 q7 q8 q9
  refine bodyPost_ret (v := .agg #[.int .i64 t.over.sorts, .slice B0 t.over.ops.length d0, .slice B2 t.eqs.length d2]) (by simp [results, Try.results42, go_sem, k0, k1, k2]) rfl ?_
  exact ⟨_, rfl, ⟨_, _, rfl, w5, W.heap.size, by omega, HM5sz.out, hsz9, HO5.out, fun k h1 h2 => hkk k (by omega) h2, o2⟩, hm9.b⟩

theorem eqTheory_is (v v' : Value) (a b : MThy) (w : World) (r : Bool) (hr : sameT a b = r) (h : RThy w v a) (h' : RThy w v' b) :
    Calls Try.prog 49 #[v, v'] w fun e w' => e = .returned (.bool r) ∧ Below w.heap.size w w' := by
  subst hr
  obtain ⟨Aaa, caa, Aab, cab, rfl⟩ := h.form
  obtain ⟨Aba, cba, Abb, cbb, rfl⟩ := h'.form
  have hb : Below w.heap.size w ((w.alloc (.cells #[.int .i64 a.over.sorts, .slice Aaa a.over.ops.length caa, .slice Aab a.eqs.length cab] 80)).alloc (.cells #[.int .i64 b.over.sorts, .slice Aba b.over.ops.length cba, .slice Abb b.eqs.length cbb] 80)) := (below_alloc _ _).alloc (by simp) _
  have HB := Lib.hid hb
  have hsz : ((w.alloc (.cells #[.int .i64 a.over.sorts, .slice Aaa a.over.ops.length caa, .slice Aab a.eqs.length cab] 80)).alloc (.cells #[.int .i64 b.over.sorts, .slice Aba b.over.ops.length cba, .slice Abb b.eqs.length cbb] 80)).heap.size = w.heap.size + 2 := by simp
  have Ha := Lib.hid (h.keep hb)
  have a0 := cell_keep (below_alloc (w.alloc (.cells #[.int .i64 a.over.sorts, .slice Aaa a.over.ops.length caa, .slice Aab a.eqs.length cab] 80)) (.cells #[.int .i64 b.over.sorts, .slice Aba b.over.ops.length cba, .slice Abb b.eqs.length cbb] 80)) (bx_at (w) #[.int .i64 a.over.sorts, .slice Aaa a.over.ops.length caa, .slice Aab a.eqs.length cab] 80 (k := 0) rfl)
  have a1 := cell_keep (below_alloc (w.alloc (.cells #[.int .i64 a.over.sorts, .slice Aaa a.over.ops.length caa, .slice Aab a.eqs.length cab] 80)) (.cells #[.int .i64 b.over.sorts, .slice Aba b.over.ops.length cba, .slice Abb b.eqs.length cbb] 80)) (bx_at (w) #[.int .i64 a.over.sorts, .slice Aaa a.over.ops.length caa, .slice Aab a.eqs.length cab] 80 (k := 1) rfl)
  have a2 := cell_keep (below_alloc (w.alloc (.cells #[.int .i64 a.over.sorts, .slice Aaa a.over.ops.length caa, .slice Aab a.eqs.length cab] 80)) (.cells #[.int .i64 b.over.sorts, .slice Aba b.over.ops.length cba, .slice Abb b.eqs.length cbb] 80)) (bx_at (w) #[.int .i64 a.over.sorts, .slice Aaa a.over.ops.length caa, .slice Aab a.eqs.length cab] 80 (k := 2) rfl)
  have Hb := Lib.hid (h'.keep hb)
  have b0 := bx_at (w.alloc (.cells #[.int .i64 a.over.sorts, .slice Aaa a.over.ops.length caa, .slice Aab a.eqs.length cab] 80)) #[.int .i64 b.over.sorts, .slice Aba b.over.ops.length cba, .slice Abb b.eqs.length cbb] 80 (k := 0) rfl
  have b1 := bx_at (w.alloc (.cells #[.int .i64 a.over.sorts, .slice Aaa a.over.ops.length caa, .slice Aab a.eqs.length cab] 80)) #[.int .i64 b.over.sorts, .slice Aba b.over.ops.length cba, .slice Abb b.eqs.length cbb] 80 (k := 1) rfl
  have b2 := bx_at (w.alloc (.cells #[.int .i64 a.over.sorts, .slice Aaa a.over.ops.length caa, .slice Aab a.eqs.length cab] 80)) #[.int .i64 b.over.sorts, .slice Aba b.over.ops.length cba, .slice Abb b.eqs.length cbb] 80 (k := 2) rfl
  simp only [World.size_alloc] at b0 b1 b2
  generalize hW : (w.alloc (.cells #[.int .i64 a.over.sorts, .slice Aaa a.over.ops.length caa, .slice Aab a.eqs.length cab] 80)).alloc (.cells #[.int .i64 b.over.sorts, .slice Aba b.over.ops.length cba, .slice Abb b.eqs.length cbb] 80) = W at HB hsz Ha a0 a1 a2 Hb b0 b1 b2
  clear hb h h'
  obtain ⟨-, r1, r2⟩ := Ha.out.of
  obtain ⟨-, k1, k2⟩ := Hb.out.of
  have R1 := Lib.hid (show RSig W (.agg #[.int .i64 a.over.sorts, .slice Aaa a.over.ops.length caa]) a.over from ⟨_, rfl, r1⟩)
  have K1 := Lib.hid (show RSig W (.agg #[.int .i64 b.over.sorts, .slice Aba b.over.ops.length cba]) b.over from ⟨_, rfl, k1⟩)
  have R2 := Lib.hid r2
  have K2 := Lib.hid k2
  clear r1 r2 k1 k2
  cases x0 : sameS a.over b.over with
  | false =>
    have X0 := Lib.hid x0
    clear x0
    go_enter Try.func49, Try.ntmps49
    go_wp2_with fail
    clear hW
    refine (eqSig_is _ _ _ _ _ _ X0.out R1.out K1.out).mono ?_
    rintro e w1 ⟨rfl, hd⟩
    go_wp2
    go_ret
    exact ⟨ret_bool (by unfold sameT; rw [X0.out]; rfl), sz_keep HB.out hd⟩
  | true =>
    have X0 := Lib.hid x0
    clear x0
    obtain ⟨r, hr⟩ : ∃ r, sameEs a.eqs b.eqs = r := ⟨_, rfl⟩
    have HR := Lib.hid hr
    clear hr
    go_enter Try.func49, Try.ntmps49
    go_wp2_with fail
    clear hW
    refine (eqSig_is _ _ _ _ _ _ X0.out R1.out K1.out).mono ?_
    rintro e w1 ⟨rfl, hb⟩
    have HB1 := Lib.hid (sz_keep HB.out hb)
    have m1 := cell_keep hb a2
    have m2 := cell_keep hb b2
    have R2' := Lib.hid (R2.out.keep hb)
    have K2' := Lib.hid (K2.out.keep hb)
    clear hb a0 a1 a2 b0 b1 b2
    go_wp2_with fail
    refine (eqEqS_any _ _ _ _ _ R2'.out K2'.out).mono ?_
    rw [HR.out]
    rintro e w2 ⟨rfl, hb⟩
    have HB2 := Lib.hid (sz_keep HB1.out hb)
    clear hb m1 m2
    cases r with
    | false =>
      go_wp2
      go_ret
      exact ⟨ret_bool (by unfold sameT; rw [X0.out, HR.out]; rfl), HB2.out⟩
    | true =>
      go_wp2
      go_ret
      exact ⟨ret_bool (by unfold sameT; rw [X0.out, HR.out]; rfl), HB2.out⟩
end

section
open Go.RowKit
set_option linter.unusedVariables false
set_option linter.unusedSimpArgs false

structure MModel where
  sizes : List Int
  tables : List (List Int)
def RModel (w : World) (v : Value) (m : MModel) : Prop := ∃ a0 a1, v = .agg #[a0, a1] ∧ RInts w a0 m.sizes ∧ RRows w a1 m.tables
/-- the row of the sizes lies below a block number, the tables from there on -/
def OModel (w : World) (B : Nat) (v : Value) (m : MModel) : Prop := ∃ a0 a1, v = .agg #[a0, a1] ∧ OInts w B a0 m.sizes ∧ ∃ C, B ≤ C ∧ (∀ k, a0.ownBlock = some k → k < C) ∧ ORows w C a1 m.tables
section
variable {w w' : World} {v : Value} {m : MModel} {B B' : Nat}
theorem RModel.keep (h : RModel w v m) (hb : Below w.heap.size w w') : RModel w' v m := by
  obtain ⟨a0, a1, rfl, h0, h1⟩ := h; exact ⟨a0, a1, rfl, h0.keep hb, h1.keep hb⟩
theorem OModel.keep (h : OModel w B v m) (hb : Below w.heap.size w w') : OModel w' B v m := by
  obtain ⟨a0, a1, rfl, h0, C, hC, hl, h1⟩ := h; exact ⟨a0, a1, rfl, h0.keep hb, C, hC, hl, h1.keep hb⟩
theorem OModel.base (h : OModel w B v m) (hB : B' ≤ B) : OModel w B' v m := by
  obtain ⟨a0, a1, rfl, h0, C, hC, hl, h1⟩ := h; exact ⟨a0, a1, rfl, h0.base hB, C, by omega, hl, h1⟩
theorem OModel.same (h : OModel w B v m) (hk : ∀ k, B ≤ k → k < w.heap.size → w'.heap[k]? = w.heap[k]?) : OModel w' B v m := by
  obtain ⟨a0, a1, rfl, h0, C, hC, hl, h1⟩ := h; exact ⟨a0, a1, rfl, h0.same hk, C, hC, hl, h1.same fun k q1 q2 => hk k (by omega) q2⟩
theorem OModel.reads (h : OModel w B v m) : RModel w v m := by
  obtain ⟨a0, a1, rfl, h0, C, hC, hl, h1⟩ := h; exact ⟨a0, a1, rfl, h0.reads, h1.reads⟩
theorem RModel.form (h : RModel w v m) : ∃ A0 c0 A1 c1, v = .agg #[.slice A0 m.sizes.length c0, .slice A1 m.tables.length c1] := by
  obtain ⟨a0, a1, rfl, h0, h1⟩ := h
  obtain ⟨A0, c0, rfl, -⟩ := h0.form
  obtain ⟨A1, c1, rfl, -⟩ := h1.form
  exact ⟨_, _, _, _, rfl⟩
theorem RModel.of {a0 a1 : Value} (h : RModel w (.agg #[a0, a1]) m) : RInts w a0 m.sizes ∧ RRows w a1 m.tables := by
  obtain ⟨a0', a1', he, h0, h1⟩ := h
  injection he with he
  simp at he
  obtain ⟨rfl, rfl⟩ := he
  exact ⟨h0, h1⟩
theorem RModel.mk {a0 a1 : Value} (h0 : RInts w a0 m.sizes) (h1 : RRows w a1 m.tables) : RModel w (.agg #[a0, a1]) m := ⟨a0, a1, rfl, h0, h1⟩
end
def FitsMd (m : MModel) : Prop := m.sizes.length ≤ 1048576 ∧ Fits m.tables
def sameMd (a b : MModel) : Bool := (sameI a.sizes b.sizes) && sameR a.tables b.tables
theorem sameMd_self (a : MModel) : sameMd a a = true := by unfold sameMd sameI sameR; simp
theorem sameMd_eq {a b : MModel} : sameMd a b = true ↔ a = b := by
  obtain ⟨x0, x1⟩ := a
  obtain ⟨y0, y1⟩ := b
  unfold sameMd sameI sameR
  simp [and_assoc]
theorem szModel_any (v : Value) (m : MModel) (left : Int) (w : World) (h : RModel w v m) (h0 : 0 ≤ left) (h1 : left ≤ 1048576) :
    Calls Try.prog 25 #[v, .int .i64 left] w fun e' w' => ∃ r : Int, e' = .returned (.int .i64 r) ∧ (r < 0 ∨ (0 ≤ r ∧ r ≤ left ∧ FitsMd m)) ∧ Below w.heap.size w w' := by
  obtain ⟨a0, a1, rfl, k0, k1⟩ := h
  obtain ⟨xs0, xs1⟩ := m
  simp only at k0 k1
  have hb := below_alloc w (.cells #[a0, a1] 54)
  have HB := Lib.hid hb
  have K0 := Lib.hid (k0.keep hb)
  have K1 := Lib.hid (k1.keep hb)
  obtain ⟨A0, c0, rfl, -⟩ := k0.form
  obtain ⟨A1, c1, rfl, -⟩ := k1.form
  clear k0 k1 hb
  go_enter Try.func25, Try.ntmps25
  go_wp2_with fail
  refine (szIntS_any _ xs0 _ _ K0.out h0 h1).mono ?_
  rintro e w1 ⟨r0, rfl, hr, rfl⟩
  by_cases hneg0 : r0 < 0
  · clear hr
    go_wp2
    go_ret
    exact ⟨-1, rfl, .inl (by omega), HB.out⟩
  have hr1 := hr.resolve_left hneg0
  clear hr
  obtain ⟨p0, hr3⟩ := hr1
  have Q0 := Lib.hid hr3
  have s0 : r0 ≤ 1048576 := by omega
  clear hr3
  go_wp2_with fail
  refine (szIntSS_any _ xs1 _ _ K1.out p0 s0).mono ?_
  rintro e w1 ⟨r1, rfl, hr, rfl⟩
  by_cases hneg1 : r1 < 0
  · clear hr
    go_wp2
    go_ret
    exact ⟨-1, rfl, .inl (by omega), HB.out⟩
  have hr1 := hr.resolve_left hneg1
  clear hr
  obtain ⟨p1, hr3, hr4⟩ := hr1
  have Q1 := Lib.hid hr4
  clear hr4
  go_wp2
  go_ret
  have q0 := Q0.out
  exact ⟨r1, rfl, .inr ⟨p1, by omega, ⟨by simp only; omega, Q1.out⟩⟩, HB.out⟩
set_option maxRecDepth 100000 in
theorem toModel_any (v : Value) (m : MModel) (w : World) (h : RModel w v m) (hs : FitsMd m) :
    Calls Try.prog 28 #[v] w fun e' w' => ∃ u, e' = .returned u ∧ OModel w' w.heap.size u m ∧ Below w.heap.size w w' := by
  obtain ⟨x0, x1, rfl, h0, h1⟩ := h
  obtain ⟨xs0, xs1⟩ := m
  obtain ⟨hs0, hs1⟩ := hs
  simp only at h0 h1 hs0 hs1
  obtain ⟨A0, c0, rfl, -⟩ := h0.form
  obtain ⟨A1, c1, rfl, -⟩ := h1.form
  have hm := Mk.start w 54 28 #[.slice A0 xs0.length c0, .slice A1 xs1.length c1] #[.slice none 0 0, .slice none 0 0] #[.slice none 0 0, .slice none 0 0]
  generalize hW : ((w.alloc (.cells #[.slice A0 xs0.length c0, .slice A1 xs1.length c1] 54)).alloc (.cells #[.slice none 0 0, .slice none 0 0] 28)).alloc (.cells #[.slice none 0 0, .slice none 0 0] 28) = W at hm
  have H0 := Lib.hid (h0.keep hm.b)
  have H1 := Lib.hid h1
  have p0 : W.cell? ⟨w.heap.size, 0, none⟩ = some (.slice A0 xs0.length c0) := hm.ca 0
  have HM := Lib.hid hm
  clear h0 h1 hm
  go_enter Try.func28, Try.ntmps28
  go_wp2_with fail
  clear hW
  refine (toIntS_any _ xs0 _ H0.out hs0).mono ?_
  rintro e y0 ⟨u0, rfl, ho, hb⟩
  have hz0 := HM.out.z
  have hm := HM.out.below hb
  obtain ⟨B0, d0, rfl, -⟩ := ho.reads.form
  have q0 : y0.cell? ⟨w.heap.size + 2, 0, none⟩ = some (.slice none 0 0) := hm.co 0
  have q1 := hm.fo 0
  have hmn := hm.setO 0 (.slice B0 xs0.length d0)
  have n0 := ho.setLow (b := w.heap.size + 2) (by omega) 0 (.slice B0 xs0.length d0)
  generalize hW0 : y0.setCell ⟨w.heap.size + 2, 0, none⟩ (.slice B0 xs0.length d0) = Y0 at hmn n0
  have p1 : Y0.cell? ⟨w.heap.size, 1, none⟩ = some (.slice A1 xs1.length c1) := hmn.ca 1
  have O0 := Lib.hid n0
  have H1 := Lib.hid (H1.out.keep hmn.b)
  replace HM := Lib.hid hmn
  clear ho hb hm p0 hmn n0 H0
  go_wp2_with fail
  clear hW0 q0 q1
  refine (toIntSS_any _ xs1 _ H1.out hs1).mono ?_
  rintro e y1 ⟨u1, rfl, ho, hb⟩
  have hz1 := HM.out.z
  have hm := HM.out.below hb
  obtain ⟨B1, d1, rfl, -⟩ := ho.reads.form
  have hlt0 := Lib.hid (fun k e => (own_lt O0.out k e).2)
  have HZ1 := Lib.hid HM.out.z
  have hmn := (((hm.setO 1 (.slice B1 xs1.length d1)).setR 0 (.slice B0 xs0.length d0)).setR 1 (.slice B1 xs1.length d1))
  have n0 := ((((O0.out.keep hb).setLow (b := w.heap.size + 2) (by omega) 1 (.slice B1 xs1.length d1)).setLow (b := w.heap.size + 1) (by omega) 0 (.slice B0 xs0.length d0)).setLow (b := w.heap.size + 1) (by omega) 1 (.slice B1 xs1.length d1))
  have n1 := (((ho.setLowT (b := w.heap.size + 2) (by omega) 1 (.slice B1 xs1.length d1)).setLowT (b := w.heap.size + 1) (by omega) 0 (.slice B0 xs0.length d0)).setLowT (b := w.heap.size + 1) (by omega) 1 (.slice B1 xs1.length d1))
  have HF := Lib.hid (And.intro n0 (And.intro n1 hmn))
  have g0 : y1.cell? ⟨w.heap.size + 2, 0, none⟩ = some (.slice B0 xs0.length d0) := hm.co 0
  have g1 : y1.cell? ⟨w.heap.size + 2, 1, none⟩ = some (.slice none 0 0) := hm.co 1
  have gf := hm.fo 1
  have r0 : y1.cell? ⟨w.heap.size + 1, 0, none⟩ = some (.slice none 0 0) := hm.cr 0
  have f0 := hm.fr 0
  have r1 : y1.cell? ⟨w.heap.size + 1, 1, none⟩ = some (.slice none 0 0) := hm.cr 1
  have f1 := hm.fr 1
  clear ho hb hm hmn n0 n1 O0 H1 p1 HM
  go_wp2
  obtain ⟨n0, n1, hmn⟩ := HF.out
  generalize ((y1.setCell ⟨w.heap.size + 2, 1, none⟩ (.slice B1 xs1.length d1)).setCell ⟨w.heap.size + 1, 0, none⟩ (.slice B0 xs0.length d0)).setCell ⟨w.heap.size + 1, 1, none⟩ (.slice B1 xs1.length d1) = wz at n0 n1 hmn ⊢
  have k0 : wz.cell? ⟨w.heap.size + 1, 0, none⟩ = some (.slice B0 xs0.length d0) := hmn.cr 0
  have k1 : wz.cell? ⟨w.heap.size + 1, 1, none⟩ = some (.slice B1 xs1.length d1) := hmn.cr 1
  clear g0 g1 gf r0 f0 r1 f1
  refine bodyPost_ret (v := .agg #[.slice B0 xs0.length d0, .slice B1 xs1.length d1]) (by simp [results, Try.results28, go_sem, k0, k1]) rfl ?_
  exact ⟨_, rfl, ⟨_, _, rfl, n0.base (by omega), _, by have := HZ1.out; omega, hlt0.out, n1⟩, hmn.b⟩
theorem eqModel_any (v v' : Value) (a b : MModel) (w : World) (h : RModel w v a) (h' : RModel w v' b) :
    Calls Try.prog 32 #[v, v'] w fun e w' => e = .returned (.bool (sameMd a b)) ∧ Below w.heap.size w w' := by
  obtain ⟨x0, x1, rfl, h0, h1⟩ := h
  obtain ⟨y0, y1, rfl, k0, k1⟩ := h'
  have hb2 : Below w.heap.size w ((w.alloc (.cells #[x0, x1] 28)).alloc (.cells #[y0, y1] 28)) := (below_alloc _ _).alloc (by simp) _
  have HB := Lib.hid hb2
  have H0 := Lib.hid (h0.keep hb2)
  have K0 := Lib.hid (k0.keep hb2)
  have H1 := Lib.hid (h1.keep hb2)
  have K1 := Lib.hid (k1.keep hb2)
  obtain ⟨a0, a1⟩ := a
  obtain ⟨b0, b1⟩ := b
  simp only at h0 h1 k0 k1 H0 H1 K0 K1
  obtain ⟨A0, c0, rfl, -⟩ := h0.form
  obtain ⟨D0, d0, rfl, -⟩ := k0.form
  obtain ⟨A1, c1, rfl, -⟩ := h1.form
  obtain ⟨D1, d1, rfl, -⟩ := k1.form
  clear h0 h1 k0 k1 hb2
  have f0 := cell_keep (below_alloc (w.alloc (.cells #[.slice A0 a0.length c0, .slice A1 a1.length c1] 28)) (.cells #[.slice D0 b0.length d0, .slice D1 b1.length d1] 28)) (bx_at w #[.slice A0 a0.length c0, .slice A1 a1.length c1] 28 (k := 0) rfl)
  have f1 := cell_keep (below_alloc (w.alloc (.cells #[.slice A0 a0.length c0, .slice A1 a1.length c1] 28)) (.cells #[.slice D0 b0.length d0, .slice D1 b1.length d1] 28)) (bx_at w #[.slice A0 a0.length c0, .slice A1 a1.length c1] 28 (k := 1) rfl)
  have g0 := bx_at (w.alloc (.cells #[.slice A0 a0.length c0, .slice A1 a1.length c1] 28)) #[.slice D0 b0.length d0, .slice D1 b1.length d1] 28 (k := 0) rfl
  have g1 := bx_at (w.alloc (.cells #[.slice A0 a0.length c0, .slice A1 a1.length c1] 28)) #[.slice D0 b0.length d0, .slice D1 b1.length d1] 28 (k := 1) rfl
  simp only [World.size_alloc] at g0 g1
  generalize hW : (w.alloc (.cells #[.slice A0 a0.length c0, .slice A1 a1.length c1] 28)).alloc (.cells #[.slice D0 b0.length d0, .slice D1 b1.length d1] 28) = W at HB H0 H1 K0 K1 f0 f1 g0 g1
  have HE : Hid (sameMd ⟨a0, a1⟩ ⟨b0, b1⟩ = ((sameI a0 b0) && sameR a1 b1)) := rfl
  cases x0 : sameI a0 b0 with
  | false =>
    rw [x0] at HE
    have X0 := Lib.hid x0
    clear x0
    go_enter Try.func32, Try.ntmps32
    go_wp2_with fail
    clear hW
    refine (eqIntS_is _ _ _ _ _ _ X0.out H0.out K0.out).mono ?_
    rintro e z0 ⟨rfl, hd⟩
    have hb := hd.below
    replace HB := Lib.hid (sz_keep HB.out hb)
    replace f1 := cell_keep hb f1
    replace g1 := cell_keep hb g1
    replace H1 := Lib.hid (H1.out.keep hb)
    replace K1 := Lib.hid (K1.out.keep hb)
    clear hd hb f0 g0 H0 K0
    go_wp2
    go_ret
    exact ⟨ret_bool HE.out.symm, HB.out⟩
  | true =>
    rw [x0] at HE
    have X0 := Lib.hid x0
    clear x0
    cases x1 : sameR a1 b1 with
    | false =>
      rw [x1] at HE
      have X1 := Lib.hid x1
      clear x1
      go_enter Try.func32, Try.ntmps32
      go_wp2_with fail
      clear hW
      refine (eqIntS_is _ _ _ _ _ _ X0.out H0.out K0.out).mono ?_
      rintro e z0 ⟨rfl, hd⟩
      have hb := hd.below
      replace HB := Lib.hid (sz_keep HB.out hb)
      replace f1 := cell_keep hb f1
      replace g1 := cell_keep hb g1
      replace H1 := Lib.hid (H1.out.keep hb)
      replace K1 := Lib.hid (K1.out.keep hb)
      clear hd hb f0 g0 H0 K0
      go_wp2_with fail
      refine (eqIntSS_is _ _ _ _ _ _ X1.out H1.out K1.out).mono ?_
      rintro e z1 ⟨rfl, hd⟩
      have hb := hd.below
      replace HB := Lib.hid (sz_keep HB.out hb)
      clear hd hb f1 g1 H1 K1
      go_wp2
      go_ret
      exact ⟨ret_bool HE.out.symm, HB.out⟩
    | true =>
      rw [x1] at HE
      have X1 := Lib.hid x1
      clear x1
      go_enter Try.func32, Try.ntmps32
      go_wp2_with fail
      clear hW
      refine (eqIntS_is _ _ _ _ _ _ X0.out H0.out K0.out).mono ?_
      rintro e z0 ⟨rfl, hd⟩
      have hb := hd.below
      replace HB := Lib.hid (sz_keep HB.out hb)
      replace f1 := cell_keep hb f1
      replace g1 := cell_keep hb g1
      replace H1 := Lib.hid (H1.out.keep hb)
      replace K1 := Lib.hid (K1.out.keep hb)
      clear hd hb f0 g0 H0 K0
      go_wp2_with fail
      refine (eqIntSS_is _ _ _ _ _ _ X1.out H1.out K1.out).mono ?_
      rintro e z1 ⟨rfl, hd⟩
      have hb := hd.below
      replace HB := Lib.hid (sz_keep HB.out hb)
      clear hd hb f1 g1 H1 K1
      go_wp2
      go_ret
      exact ⟨ret_bool HE.out.symm, HB.out⟩
theorem eqModel_is (v v' : Value) (a b : MModel) (w : World) (r : Bool) (hr : sameMd a b = r) (h : RModel w v a) (h' : RModel w v' b) :
    Calls Try.prog 32 #[v, v'] w fun e w' => e = .returned (.bool r) ∧ Below w.heap.size w w' := by
  subst hr; exact eqModel_any v v' a b w h h'
end

section
open Go.RowKit
set_option linter.unusedVariables false
set_option linter.unusedSimpArgs false

/-- how many rows of values -/
def waysM : List Int → Int
  | [] => 1
  | z :: zs => z * waysM zs
theorem waysM_append (xs ys : List Int) : waysM (xs ++ ys) = waysM xs * waysM ys := by
  induction xs with
  | nil => simp [waysM]
  | cons x xs ih => simp only [List.cons_append, waysM, ih, Int.mul_assoc]
theorem waysM_take {xs : List Int} {k : Nat} (hk : k < xs.length) : waysM (xs.take (k + 1)) = waysM (xs.take k) * xs[k] := by
  rw [List.take_succ_eq_append_getElem hk, waysM_append]; simp [waysM]
/-- sizes of sorts -/
def Sizes (zs : List Int) : Prop := ∀ z ∈ zs, 1 ≤ z ∧ z ≤ 3
theorem Sizes.take {zs : List Int} (h : Sizes zs) (k : Nat) : Sizes (zs.take k) := fun z hz => h z (List.mem_of_mem_take hz)
theorem Sizes.tail {z : Int} {zs : List Int} (h : Sizes (z :: zs)) : Sizes zs := fun x hx => h x (List.mem_cons_of_mem _ hx)
theorem ways_pos {zs : List Int} (h : Sizes zs) : 1 ≤ waysM zs := by
  induction zs with
  | nil => simp [waysM]
  | cons z zs ih =>
    have h1 := h z (List.mem_cons_self ..)
    have h2 := ih h.tail
    simp only [waysM]
    have := Int.mul_le_mul h1.1 h2 (by omega) (by omega)
    omega
theorem ways_le {zs : List Int} (h : Sizes zs) : waysM zs ≤ 3 ^ zs.length := by
  induction zs with
  | nil => simp [waysM]
  | cons z zs ih =>
    have h1 := h z (List.mem_cons_self ..)
    have h2 := ih h.tail
    have h3 := ways_pos h.tail
    simp only [waysM, List.length_cons]
    rw [Int.pow_succ, Int.mul_comm (3 ^ zs.length) 3]
    exact Int.mul_le_mul h1.2 h2 (by omega) (by omega)
theorem ways_few {zs : List Int} (h : Sizes zs) (hl : zs.length ≤ 4) : waysM zs ≤ 81 := by
  have h1 := ways_le h
  have : ∀ n : Nat, n ≤ 4 → (3 : Int) ^ n ≤ 81 := by
    intro n hn
    match n, hn with
    | 0, _ => decide
    | 1, _ => decide
    | 2, _ => decide
    | 3, _ => decide
    | 4, _ => decide
  exact Int.le_trans h1 (this _ hl)

/-- the number that a row of values has -/
def placeM : Int → List Int → List Int → Int
  | p, z :: zs, v :: vs => placeM (p * z + v) zs vs
  | p, _, _ => p
def InAll (zs vs : List Int) : Prop := vs.length = zs.length ∧ ∀ (j : Nat) (h : j < zs.length) (h' : j < vs.length), 0 ≤ vs[j] ∧ vs[j] < zs[j]
theorem InAll.tail {z v : Int} {zs vs : List Int} (h : InAll (z :: zs) (v :: vs)) : (0 ≤ v ∧ v < z) ∧ InAll zs vs := by
  obtain ⟨h1, h2⟩ := h
  refine ⟨h2 0 (by simp) (by simp), by simpa using h1, fun j a b => ?_⟩
  exact h2 (j + 1) (by simpa using a) (by simpa using b)
theorem InAll.cons {z v : Int} {zs vs : List Int} (h : 0 ≤ v ∧ v < z) (h2 : InAll zs vs) : InAll (z :: zs) (v :: vs) := by
  refine ⟨by simp [h2.1], fun j a b => ?_⟩
  cases j with
  | zero => exact h
  | succ j => exact h2.2 j (by simpa using a) (by simpa using b)
theorem InAll.nil : InAll [] [] := ⟨rfl, fun j h => by simp at h⟩
theorem InAll.take {zs vs : List Int} (h : InAll zs vs) (k : Nat) : InAll (zs.take k) (vs.take k) := by
  refine ⟨by simp [h.1], fun j a b => ?_⟩
  simp only [List.length_take] at a b
  simp only [List.getElem_take]
  exact h.2 j (by omega) (by omega)
theorem place_bound {zs vs : List Int} (hz : Sizes zs) (h : InAll zs vs) : ∀ p : Int, 0 ≤ p → p * waysM zs ≤ placeM p zs vs ∧ placeM p zs vs < (p + 1) * waysM zs := by
  induction zs generalizing vs with
  | nil =>
    intro p hp
    cases vs with
    | nil => simp [placeM, waysM]; omega
    | cons v vs => have := h.1; simp at this
  | cons z zs ih =>
    intro p hp
    cases vs with
    | nil => have := h.1; simp at this
    | cons v vs =>
      obtain ⟨⟨h1, h2⟩, h3⟩ := h.tail
      have hz1 := hz z (List.mem_cons_self ..)
      have hw := ways_pos hz.tail
      have hp0 : 0 ≤ p * z := Int.mul_nonneg hp (by omega)
      obtain ⟨i1, i2⟩ := ih hz.tail h3 (p * z + v) (by omega)
      simp only [placeM, waysM]
      refine ⟨Int.le_trans ?_ i1, Int.lt_of_lt_of_le i2 ?_⟩
      · rw [← Int.mul_assoc]
        exact Int.mul_le_mul_of_nonneg_right (by omega) (by omega)
      · rw [← Int.mul_assoc]
        refine Int.mul_le_mul_of_nonneg_right ?_ (by omega)
        rw [Int.add_mul]; omega
theorem place_in {zs vs : List Int} (hz : Sizes zs) (h : InAll zs vs) : 0 ≤ placeM 0 zs vs ∧ placeM 0 zs vs < waysM zs := by
  have := place_bound hz h 0 (Int.le_refl _)
  simpa using this
theorem placeM_snoc : ∀ (zs vs : List Int) (z v p : Int), zs.length = vs.length → placeM p (zs ++ [z]) (vs ++ [v]) = placeM p zs vs * z + v
  | [], [], z, v, p, _ => by simp [placeM]
  | a :: zs, b :: vs, z, v, p, h => by
    simp only [List.cons_append, placeM]
    exact placeM_snoc zs vs z v _ (by simpa using h)
  | [], b :: vs, z, v, p, h => by simp at h
  | a :: zs, [], z, v, p, h => by simp at h
theorem placeM_take {zs vs : List Int} {k : Nat} (hz : k < zs.length) (hv : k < vs.length) : placeM 0 (zs.take (k + 1)) (vs.take (k + 1)) = placeM 0 (zs.take k) (vs.take k) * zs[k] + vs[k] := by
  rw [List.take_succ_eq_append_getElem hz, List.take_succ_eq_append_getElem hv, placeM_snoc _ _ _ _ _ (by simp; omega)]

/-- the row of values with a number -/
def digM : List Int → Int → List Int
  | [], _ => []
  | z :: zs, n => (n / waysM zs) % z :: digM zs n
theorem digM_len (zs : List Int) (n : Int) : (digM zs n).length = zs.length := by
  induction zs with
  | nil => rfl
  | cons z zs ih => simp [digM, ih]
theorem digM_at : ∀ {zs : List Int} {n : Int} {k : Nat} (h : k < zs.length), (digM zs n)[k]? = some ((n / waysM (zs.drop (k + 1))) % zs[k])
  | z :: zs, n, 0, h => by simp [digM]
  | z :: zs, n, k + 1, h => by
    simp only [digM, List.getElem?_cons_succ, List.drop_succ_cons, List.getElem_cons_succ]
    exact digM_at (by simpa using h)
theorem dig_in {zs : List Int} (hz : Sizes zs) (n : Int) : InAll zs (digM zs n) := by
  induction zs with
  | nil => exact InAll.nil
  | cons z zs ih =>
    have := hz z (List.mem_cons_self ..)
    exact InAll.cons ⟨Int.emod_nonneg _ (by omega), Int.emod_lt_of_pos _ (by omega)⟩ (ih hz.tail)
/-- behind the last place that is told: what is left of the number -/
theorem dig_left {zs : List Int} (hz : Sizes zs) {n : Int} {k : Nat} (h : k < zs.length) : (n / waysM (zs.drop (k + 1))) / zs[k] = n / waysM (zs.drop k) := by
  have hw := ways_pos (zs := zs.drop (k + 1)) (fun z hz' => hz z (List.mem_of_mem_drop hz'))
  rw [List.drop_eq_getElem_cons h]
  simp only [waysM]
  rw [Int.mul_comm, Int.ediv_ediv, if_neg (by omega), Int.sub_zero]

/-- the next row of values -/
def nextM : List Int → List Int → List Int × Bool
  | z :: zs, x :: xs => if (nextM zs xs).2 then (x :: (nextM zs xs).1, true) else if x + 1 < z then ((x + 1) :: (nextM zs xs).1, true) else (0 :: (nextM zs xs).1, false)
  | _, _ => ([], false)
theorem nextM_len : ∀ {zs xs : List Int}, xs.length = zs.length → (nextM zs xs).1.length = xs.length
  | [], [], _ => rfl
  | z :: zs, x :: xs, h => by
    have ih := nextM_len (zs := zs) (xs := xs) (by simpa using h)
    simp only [nextM]
    split
    · simp [ih]
    · split <;> simp [ih]
  | [], x :: xs, h => by simp at h
  | z :: zs, [], h => by simp at h
theorem next_dig {zs : List Int} (hz : Sizes zs) (n : Int) (hn : 0 ≤ n) : nextM zs (digM zs n) = (digM zs (n + 1), !((n + 1) % waysM zs == 0)) := by
  induction zs with
  | nil => simp [nextM, digM, waysM, Int.emod_one]
  | cons z zs ih =>
    have hz1 := hz z (List.mem_cons_self ..)
    have hw := ways_pos hz.tail
    have ih := ih hz.tail
    simp only [digM, nextM, ih, waysM]
    clear ih
    generalize waysM zs = W at *
    have hd := Int.emod_add_mul_ediv n W
    have hd1 := Int.emod_add_mul_ediv (n + 1) W
    have b1 := Int.emod_nonneg n (show W ≠ 0 by omega)
    have b2 := Int.emod_lt_of_pos n (show 0 < W by omega)
    have b3 := Int.emod_nonneg (n + 1) (show W ≠ 0 by omega)
    have b4 := Int.emod_lt_of_pos (n + 1) (show 0 < W by omega)
    have hq0 : 0 ≤ n / W := Int.ediv_nonneg hn (by omega)
    have key : (n + 1) % (z * W) = W * ((n + 1) / W % z) + (n + 1) % W := by
      generalize (n + 1) / W = q at *
      have c1 := Int.emod_nonneg q (show z ≠ 0 by omega)
      have c2 := Int.emod_lt_of_pos q (show 0 < z by omega)
      have c3 := Int.emod_add_mul_ediv q z
      have c4 : W * (q % z) ≤ W * (z - 1) := Int.mul_le_mul_of_nonneg_left (by omega) (by omega)
      have c5 : 0 ≤ W * (q % z) := Int.mul_nonneg (by omega) c1
      rw [Int.mul_sub] at c4
      have e : n + 1 = (W * (q % z) + (n + 1) % W) + z * W * (q / z) := by
        have : W * q = W * (q % z) + z * W * (q / z) := by
          conv => lhs; rw [← c3]
          rw [Int.mul_add, Int.mul_comm z W, Int.mul_assoc]
        omega
      conv => lhs; rw [e]
      rw [Int.add_mul_emod_self_left, Int.emod_eq_of_lt (by omega) (by rw [Int.mul_comm z W]; omega)]
    by_cases hm : (n + 1) % W = 0
    · have h1 : n % W + 1 = W := by
        rcases Int.lt_trichotomy (n % W + 1) W with hh | hh | hh
        · exfalso
          have : (n + 1) % W = n % W + 1 := by
            have e : n + 1 = (n % W + 1) + W * (n / W) := by omega
            rw [e, Int.add_mul_emod_self_left, Int.emod_eq_of_lt (by omega) hh]
          omega
        · exact hh
        · omega
      have h2 : n + 1 = W * (n / W + 1) := by rw [Int.mul_add]; omega
      have hq : (n + 1) / W = n / W + 1 := by rw [h2, Int.mul_ediv_cancel_left _ (by omega)]
      rw [hm, hq] at key
      rw [hm, hq, key]
      clear key hd1 b3 b4 h2
      have c1 := Int.emod_nonneg (n / W) (show z ≠ 0 by omega)
      have c2 := Int.emod_lt_of_pos (n / W) (show 0 < z by omega)
      have c3 := Int.emod_add_mul_ediv (n / W) z
      generalize n / W = q at *
      by_cases hc : q % z + 1 < z
      · have e1 : (q + 1) % z = q % z + 1 := by
          have e : q + 1 = (q % z + 1) + z * (q / z) := by omega
          rw [e, Int.add_mul_emod_self_left, Int.emod_eq_of_lt (by omega) hc]
        have hpos : 0 < W * (q % z + 1) := Int.mul_pos (by omega) (by omega)
        rw [e1]
        have hne : ¬ W * (q % z + 1) + 0 = 0 := by omega
        simp [hc, hne]
        omega
      · have e1 : (q + 1) % z = 0 := by
          have e : q + 1 = z * (q / z + 1) := by rw [Int.mul_add]; omega
          rw [e, Int.mul_emod_right]
        rw [e1]
        simp [hc]
    · have h1 : ¬ n % W + 1 = W := by
        intro h1
        apply hm
        have : n + 1 = W * (n / W + 1) := by rw [Int.mul_add]; omega
        rw [this, Int.mul_emod_right]
      have hq : (n + 1) / W = n / W := by
        have h2 : n + 1 = (n % W + 1) + W * (n / W) := by omega
        rw [h2, Int.add_mul_ediv_left _ _ (by omega), Int.ediv_eq_zero_of_lt (by omega) (by omega)]
        omega
      have c1 := Int.emod_nonneg ((n + 1) / W) (show z ≠ 0 by omega)
      have hnn : 0 ≤ W * ((n + 1) / W % z) := Int.mul_nonneg (by omega) c1
      have hm2 : ¬ (n + 1) % (z * W) = 0 := by rw [key]; omega
      simp [hm, hm2, hq]
end
end Go.Proofs.Yticldaddbljleaa
