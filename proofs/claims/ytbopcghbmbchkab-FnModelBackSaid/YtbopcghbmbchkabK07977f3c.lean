/- A local struct whose rows are filled, one after the other, by append. No walk. · slices.Clone of a row of numbers. · A local struct of which a list of rows is filled by append. No walk. · What is kept while l20Into fills a local map and a local signature. No walk. · Boxes of two or three cells that are written. No walk. · How a term that was read lies in memory: a letter, or an operation with a slice of terms. No walk. · firstTerm and opWithTerms: a row is read as a term. By induction on a number that bounds the row's length. · firstTerm, by induction; termOf. · The spec's l2End: where a term ends that begins at a place, and its sort. By induction. -/
import Derived.Test.YtbopcghbmbchkabKabcca9b8
import Derived.Deep.RegionHeld3
import Derived.Lib.SliceRun
import Derived.Maps.AppendAt
import Derived.Deep.AppendLies
namespace Go.Proofs.Ytbopcghbmbchkab
section
open Go.RowKit
set_option linter.unusedVariables false

/-- the struct's box lies at lb, ahead of wv; of it the row u is being filled -/
structure Loc (T : TypeId) (wv wr : World) (lb : Nat) (cs : Array Value) (u : Value) (xs : List Int) : Prop where
  loc : wr.heap[lb]? = some (.cells cs T (0, 0))
  own : OInts wr wv.heap.size u xs
  gr : wv.grownBy wr (some lb)
  lt : lb < wv.heap.size
theorem Loc.start {T : TypeId} {wv : World} {lb : Nat} {cs : Array Value} (h : wv.heap[lb]? = some (.cells cs T (0, 0))) : Loc T wv wv lb cs (.slice none 0 0) [] :=
  ⟨h, OInts.nil _ _, ⟨rfl, rfl, rfl, Nat.le_refl _, fun _ _ _ => rfl⟩, (Array.getElem?_eq_some_iff.1 h).1⟩
theorem Loc.push {T : TypeId} {wv wr w6 : World} {lb : Nat} {cs cs' : Array Value} {u v' : Value} {xs : List Int} {y : Int} {o : Obj} (h : Loc T wv wr lb cs u xs) (hg : (wr.alloc o).grownBy w6 u.ownBlock) (ho : OInts w6 wv.heap.size v' (xs ++ [y])) (i : Nat) (hc : cs.setIfInBounds i v' = cs') :
    Loc T wv (w6.setCell ⟨lb, i, none⟩ v') lb cs' v' (xs ++ [y]) := by
  have hlr : lb < wr.heap.size := (Array.getElem?_eq_some_iff.1 h.loc).1
  have hne : ∀ k, k < wv.heap.size → some k ≠ u.ownBlock := fun k hk e => by have := own_lt h.own k e.symm; omega
  have hl6 : w6.heap[lb]? = some (.cells cs T (0, 0)) := ((hg.block lb (by simp; omega) (hne lb h.lt)).trans (heap_alloc_old wr _ hlr)).trans h.loc
  refine ⟨by rw [← hc]; exact blk_set hl6 i v', ho.setLow h.lt i v', ⟨hg.os.trans h.gr.os, hg.tape.trans h.gr.tape, hg.output.trans h.gr.output, ?_, fun k hk hkl => ?_⟩, h.lt⟩
  · have e : (w6.setCell ⟨lb, i, none⟩ v').heap.size = w6.heap.size := by simp [World.setCell]
    have h2 := h.gr.size
    rw [e]
    have h3 := hg.size
    simp at h3
    omega
  · have hkr : k < wr.heap.size := Nat.lt_of_lt_of_le hk h.gr.size
    exact (((Below.heap_setCell w6 ⟨lb, i, none⟩ v' k (by show k ≠ lb; intro e; exact hkl (by rw [e]))).trans (hg.block k (by simp; omega) (hne k hk))).trans (heap_alloc_old wr _ hkr)).trans (h.gr.block k hk hkl)
theorem Loc.below {T : TypeId} {w2 wv wr : World} {lb : Nat} {cs : Array Value} {u : Value} {xs : List Int} (h : Loc T wv wr lb cs u xs) (hb : Below w2.heap.size w2 wv) (hl : w2.heap.size ≤ lb) : Below w2.heap.size w2 wr :=
  ⟨h.gr.os.trans hb.os, h.gr.tape.trans hb.tape, h.gr.output.trans hb.output, Nat.le_trans hb.size h.gr.size, fun k hk => (h.gr.block k (by have := hb.size; omega) (by intro e; injection e with e; omega)).trans (hb.block k hk)⟩
theorem Loc.grown {T : TypeId} {wv wr w6 : World} {lb : Nat} {cs : Array Value} {u : Value} {xs : List Int} {o : Obj} (h : Loc T wv wr lb cs u xs) (hg : (wr.alloc o).grownBy w6 u.ownBlock) : w6.heap[lb]? = some (.cells cs T (0, 0)) := by
  have hlr : lb < wr.heap.size := (Array.getElem?_eq_some_iff.1 h.loc).1
  exact ((hg.block lb (by simp; omega) (fun e => by have := own_lt h.own lb e.symm; have := h.lt; omega)).trans (heap_alloc_old wr _ hlr)).trans h.loc
theorem Loc.keep {T : TypeId} {wv wr w1 : World} {lb : Nat} {cs : Array Value} {u : Value} {xs : List Int} (h : Loc T wv wr lb cs u xs) (hb : Below wr.heap.size wr w1) : Loc T wv w1 lb cs u xs :=
  ⟨(hb.block _ (Array.getElem?_eq_some_iff.1 h.loc).1).trans h.loc, h.own.keep hb, ⟨hb.os.trans h.gr.os, hb.tape.trans h.gr.tape, hb.output.trans h.gr.output, Nat.le_trans h.gr.size hb.size, fun k hk hn => (hb.block k (Nat.lt_of_lt_of_le hk h.gr.size)).trans (h.gr.block k hk hn)⟩, h.lt⟩
theorem Loc.other {T : TypeId} {wv wr : World} {lb B : Nat} {cs : Array Value} {u v : Value} {xs ys : List Int} (h : Loc T wv wr lb cs u xs) (ho : OInts wv B v ys) (hB : lb < B) : OInts wr B v ys :=
  own_grown ho h.gr (by
    cases hv : v.ownBlock with
    | none => exact .inl rfl
    | some k => right; intro e; injection e with e; have := own_lt ho k hv; omega)
theorem Loc.apart {T : TypeId} {wv wr : World} {lb B : Nat} {cs : Array Value} {u v : Value} {xs ys : List Int} (h : Loc T wv wr lb cs u xs) (ho : OInts wv B v ys) : Apart v u := apart_later ho h.own
theorem grown_undrew {w w' : World} {r : Option Nat} (h : w.drew.grownBy w' r) : w.grownBy w' r := ⟨h.os, h.tape, h.output, h.size, h.block⟩
end

section
open Go.RowKit
set_option linter.unusedVariables false
set_option linter.unusedSimpArgs false

variable {w w' : World}
theorem own_cut {w w2 : World} {o : Obj} {A : Option Addr} {n c : Nat} (h : (w.alloc o).grownBy w2 (Value.slice A n c).ownBlock) (hr : ∀ k, (Value.slice A n c).ownBlock = some k → w.heap.size ≤ k) : Below w.heap.size w w2 :=
  (below_alloc w o).trans ⟨h.os, h.tape, h.output, h.size, fun k hk => h.block k (Nat.lt_of_lt_of_le hk (by show w.heap.size ≤ (w.alloc o).heap.size; simp)) (fun e => by have := hr k e.symm; omega)⟩

set_option maxRecDepth 100000 in
theorem clone_any (ad : Addr) (n c : Nat) (xs : List Int) (w : World) (h : RInts w (.slice (some ad) n c) xs) (hs : xs.length ≤ 1048576) :
    Calls Try.prog 55 #[.slice (some ad) n c] w fun e w' => ∃ u, e = .returned u ∧ OInts w' w.heap.size u xs ∧ Below w.heap.size w w' := by
  obtain ⟨i0, hi0, hz0, hz1, hz2⟩ := info_parts Try.tinfo_int
  have H := Lib.hid h
  obtain ⟨A, c', e, h1, h2, h3⟩ := h
  cases e
  have HNEWS := Lib.hid (news_any (H.out.keep (below_alloc w (.cells #[] 3))))
  clear h3
  have hcmp := Lib.run_eql_slice_nil (P := Try.prog) w 26 3 (some ad) xs.length c 0 0 Try.underlying26
  simp only [Option.isNone_some] at hcmp
  go_enter Try.func55, Try.ntmps55
  go_wp2_with (at_builtin; refine wpList_append_own _ rfl _ _ 26 rfl w.heap.size 3 i0 (.int .i64 0) 1 8 Try.underlying26 hi0 hz0 hz1 hz2 rfl (by decide) _ 0 [] rfl (own_empty w) ad xs.length c (xs.map (Value.int .i64)) rfl (by simp) HNEWS.out (ints_one _) (by rw [maxLen_eq]; omega) (by omega) (by simp) ?_)
  intro v' w4 hown4 hgrow4 _
  have HO := Lib.hid hown4
  have HG := Lib.hid (own_cut hgrow4 (fun k e => by injection e with e; exact Nat.le_of_eq e))
  clear hown4 hgrow4
  go_wp2
  go_ret
  refine ⟨_, rfl, ?_, HG.out⟩
  have h := HO.out
  unfold OInts
  simpa using h
end

section
open Go.RowKit
set_option linter.unusedVariables false

/-- one row more; w6: ahead of the append's one-place slice; rv: the new row, in a block of its own -/
theorem ORows.pushNew5 {wr w6 w7 : World} {B : Nat} {u v' rv : Value} {rows : List (List Int)} {row : List Int} {us : List Value} (hB : B ≤ wr.heap.size) (hb : Below wr.heap.size wr w6) (hr : OInts w6 wr.heap.size rv row)
    (h1 : wr.ownsRow B 26 1 u rows.length us) (h2 : us.length = rows.length)
    (h3 : ∀ (j : Nat) (u : Value) (row : List Int), us[j]? = some u → rows[j]? = some row → OInts wr B u row) (h4 : ∀ (i j : Nat) (u u' : Value), i < j → us[i]? = some u → us[j]? = some u' → u.ownBlock = none ∨ u.ownBlock ≠ u'.ownBlock)
    (hv' : w7.ownsRow B 26 1 v' (rows.length + 1) (us ++ [rv])) (hg : (w6.alloc (.cells #[rv] 26)).grownBy w7 u.ownBlock) : ORows w7 B v' (rows ++ [row]) := by
  refine ORows.push (w := w6.alloc (.cells #[rv] 26)) ((own_keep h1 hb).alloc _) h2 (fun j x r a b => World.ownsRow.alloc (own_keep (h3 j x r a b) hb) _) h4 (World.ownsRow.alloc (OInts.base hr hB) _) (fun i x hx => ?_) hg hv'
  have hi : i < us.length := (List.getElem?_eq_some_iff.1 hx).1
  have hxo := h3 i x rows[i] hx (List.getElem?_eq_getElem (by omega))
  cases hbx : x.ownBlock with
  | none => exact .inl rfl
  | some k =>
    right
    intro e
    have a := (own_lt hxo k hbx).2
    have b := (own_lt hr k e.symm).1
    omega
theorem news_one5 (w : World) (x : Value) (t : TypeId) : ∀ (j : Nat) (u : Value), [x][j]? = some u → (w.alloc (.cells #[x] t)).cell? ((⟨w.heap.size, 0, none⟩ : Addr).add j) = some u := by
  intro j u hj
  match j, hj with
  | 0, hj =>
    simp at hj
    subst hj
    rw [show (⟨w.heap.size, 0, none⟩ : Addr).add 0 = ⟨w.heap.size, 0, none⟩ from rfl, World.cell?_alloc_at _ _ _ _ rfl]
    rfl
theorem rows_one5 {A : Option Addr} {n c : Nat} (x : Value) (hx : x = .slice A n c := by rfl) : ∀ u ∈ [x], u.oneCell' = true := by
  intro u hu; simp at hu; subst hu; subst hx; rfl

theorem bel_grow5 {w w2 : World} {o : Obj} {A : Option Addr} {n c : Nat} (h : (w.alloc o).grownBy w2 (Value.slice A n c).ownBlock) (hr : ∀ k, (Value.slice A n c).ownBlock = some k → w.heap.size ≤ k) : Below w.heap.size w w2 :=
  (below_alloc w o).trans ⟨h.os, h.tape, h.output, h.size, fun k hk => h.block k (Nat.lt_of_lt_of_le hk (by simp)) (fun e => by have := hr k e.symm; omega)⟩

/-- the struct's box lies at lb, ahead of wv; of it the list of rows u is being filled -/
structure LocR (T : TypeId) (wv wr : World) (lb : Nat) (cs : Array Value) (u : Value) (rows : List (List Int)) : Prop where
  loc : wr.heap[lb]? = some (.cells cs T (0, 0))
  own : ORows wr wv.heap.size u rows
  gr : wv.grownBy wr (some lb)
  lt : lb < wv.heap.size
theorem LocR.start {T : TypeId} {wv : World} {lb : Nat} {cs : Array Value} (h : wv.heap[lb]? = some (.cells cs T (0, 0))) : LocR T wv wv lb cs (.slice none 0 0) [] :=
  ⟨h, ORows.nil _ _, ⟨rfl, rfl, rfl, Nat.le_refl _, fun _ _ _ => rfl⟩, (Array.getElem?_eq_some_iff.1 h).1⟩
theorem LocR.push {T : TypeId} {wv wr w6 w7 : World} {lb : Nat} {cs cs' : Array Value} {u v' rv : Value} {rows : List (List Int)} {row : List Int} {us : List Value} (h : LocR T wv wr lb cs u rows) (hb : Below wr.heap.size wr w6) (hr : OInts w6 wr.heap.size rv row)
    (h1 : wr.ownsRow wv.heap.size 26 1 u rows.length us) (h2 : us.length = rows.length)
    (h3 : ∀ (j : Nat) (u : Value) (row : List Int), us[j]? = some u → rows[j]? = some row → OInts wr wv.heap.size u row) (h4 : ∀ (i j : Nat) (u u' : Value), i < j → us[i]? = some u → us[j]? = some u' → u.ownBlock = none ∨ u.ownBlock ≠ u'.ownBlock)
    (hv' : w7.ownsRow wv.heap.size 26 1 v' (rows.length + 1) (us ++ [rv])) (hg : (w6.alloc (.cells #[rv] 26)).grownBy w7 u.ownBlock) (i : Nat) (hc : cs.setIfInBounds i v' = cs') :
    LocR T wv (w7.setCell ⟨lb, i, none⟩ v') lb cs' v' (rows ++ [row]) ∧ w7.heap[lb]? = some (.cells cs T (0, 0)) := by
  have hlr : lb < wr.heap.size := (Array.getElem?_eq_some_iff.1 h.loc).1
  have hs6 := hb.size
  have hsr := h.gr.size
  have hne : ∀ k, k < wv.heap.size → some k ≠ u.ownBlock := fun k hk e => by have := own_lt h1 k e.symm; omega
  have at7 : ∀ k, k < wv.heap.size → w7.heap[k]? = wr.heap[k]? := fun k hk =>
    ((hg.block k (by simp; omega) (hne k hk)).trans (heap_alloc_old w6 _ (by omega))).trans (hb.block k (by omega))
  have hl7 : w7.heap[lb]? = some (.cells cs T (0, 0)) := (at7 lb h.lt).trans h.loc
  have own7 := ORows.pushNew5 hsr hb hr h1 h2 h3 h4 hv' hg
  refine ⟨⟨by rw [← hc]; exact blk_set hl7 i v', own7.setLow' h.lt i v', ⟨hg.os.trans (hb.os.trans h.gr.os), hg.tape.trans (hb.tape.trans h.gr.tape), hg.output.trans (hb.output.trans h.gr.output), ?_, fun k hk hkl => ?_⟩, h.lt⟩, hl7⟩
  · have e : (w7.setCell ⟨lb, i, none⟩ v').heap.size = w7.heap.size := by simp [World.setCell]
    have h3 := hg.size
    rw [e]
    simp at h3
    omega
  · exact ((Below.heap_setCell w7 ⟨lb, i, none⟩ v' k (by show k ≠ lb; intro e; exact hkl (by rw [e]))).trans (at7 k hk)).trans (h.gr.block k hk hkl)
theorem LocR.below {T : TypeId} {w2 wv wr : World} {lb : Nat} {cs : Array Value} {u : Value} {xs : List (List Int)} (h : LocR T wv wr lb cs u xs) (hb : Below w2.heap.size w2 wv) (hl : w2.heap.size ≤ lb) : Below w2.heap.size w2 wr :=
  ⟨h.gr.os.trans hb.os, h.gr.tape.trans hb.tape, h.gr.output.trans hb.output, Nat.le_trans hb.size h.gr.size, fun k hk => (h.gr.block k (by have := hb.size; omega) (by intro e; injection e with e; omega)).trans (hb.block k hk)⟩
theorem LocR.other {T : TypeId} {wv wr : World} {lb B : Nat} {cs : Array Value} {u v : Value} {xs : List (List Int)} {ys : List Int} (h : LocR T wv wr lb cs u xs) (ho : OInts wv B v ys) (hne : v.ownBlock ≠ some lb) : OInts wr B v ys :=
  own_grown ho h.gr (.inr hne)
theorem LocR.at7 {T : TypeId} {wv wr w6 w7 : World} {lb b i : Nat} {cs : Array Value} {u x : Value} {rows : List (List Int)} {us : List Value} {o : Obj} (h : LocR T wv wr lb cs u rows) (hb : Below wr.heap.size wr w6)
    (h1 : wr.ownsRow wv.heap.size 26 1 u rows.length us) (hg : (w6.alloc o).grownBy w7 u.ownBlock) (hp : wr.cell? ⟨b, i, none⟩ = some x) (hk : b < wv.heap.size) : w7.cell? ⟨b, i, none⟩ = some x := by
  have hs6 := hb.size
  have hsr := h.gr.size
  exact (World.cell?_of_block (((hg.block b (by simp; omega) (fun e => by have := own_lt h1 b e.symm; omega)).trans (heap_alloc_old w6 _ (by omega))).trans (hb.block b (by omega)))).trans hp
theorem blk_held {wc wd : World} {bx : Nat} {o : Obj} (hz : wc.heap[bx]? = some o) (hb : Below wc.heap.size wc wd) : wd.heap[bx]? = some o := (hb.block _ (Array.getElem?_eq_some_iff.1 hz).1).trans hz

set_option maxRecDepth 100000 in
theorem cloneNil (c : Nat) (w : World) :
    Calls Try.prog 55 #[.slice none 0 c] w fun e w' => e = .returned (.slice none 0 0) ∧ Below w.heap.size w w' := by
  have hcmp := Lib.run_eql_slice_nil (P := Try.prog) w 26 3 none 0 c 0 0 Try.underlying26
  simp only [Option.isNone_none] at hcmp
  go_enter Try.func55, Try.ntmps55
  go_wp2
  go_ret
  exact ⟨rfl, Below.refl _ _⟩
theorem cloneAll (v : Value) (xs : List Int) (w : World) (h : RInts w v xs) (hs : xs.length ≤ 1048576) :
    Calls Try.prog 55 #[v] w fun e w' => ∃ u, e = .returned u ∧ OInts w' w.heap.size u xs ∧ Below w.heap.size w w' := by
  obtain ⟨A, c, rfl, h1, h2⟩ := h.form
  cases A with
  | some ad => exact clone_any ad _ c xs w h hs
  | none =>
    have hx : xs = [] := by
      cases xs with
      | nil => rfl
      | cons y ys =>
        obtain ⟨b, o, c', e, -⟩ := h.at_ (k := 0) (by simp)
        cases e
    subst hx
    refine (cloneNil c w).mono ?_
    rintro e w' ⟨rfl, hb⟩
    exact ⟨_, rfl, OInts.nil _ _, hb⟩
end

section
open Go.RowKit
set_option linter.unusedVariables false
set_option linter.unusedSimpArgs false

def Off (a b : Value) : Prop := a.ownBlock = none ∨ a.ownBlock ≠ b.ownBlock
theorem Off.symm {a b : Value} (h : Off a b) : Off b a := by
  unfold Off at *
  cases hb : b.ownBlock with
  | none => exact .inl rfl
  | some k =>
    right
    rcases h with h | h
    · rw [h]; exact fun e => by cases e
    · rw [hb] at h; exact fun e => h e.symm
/-- a row that was there is not the one that append hands back -/
theorem off_new {x v v' : Value} {N M : Nat} (h : Off x v) (hx : ∀ k, x.ownBlock = some k → k < M) (hM : M ≤ N) (hv : v'.ownBlock = v.ownBlock ∨ v'.ownBlock = some N) : Off x v' := by
  unfold Off at *
  rcases hv with e | e
  · rw [e]; exact h
  · rw [e]
    cases hx' : x.ownBlock with
    | none => exact .inl rfl
    | some k => right; intro e2; injection e2 with e2; have := hx k hx'; omega
theorem off_low {x v : Value} {M : Nat} (hx : ∀ k, x.ownBlock = some k → k < M) (hv : ∀ k, v.ownBlock = some k → M ≤ k) : Off x v := by
  unfold Off
  cases hx' : x.ownBlock with
  | none => exact .inl rfl
  | some k => right; intro e2; have := hx k hx'; have := hv k e2.symm; omega
theorem own_pokeI {w : World} {B b i : Nat} {e t : TypeId} {size n : Nat} {v x : Value} {zs : List Value} {cs : Array Value} (h : w.ownsRow B e size v n zs) (hb : w.heap[b]? = some (.cells cs t (0, 0))) (hne : e ≠ t) : (w.setCell ⟨b, i, none⟩ x).ownsRow B e size v n zs :=
  own_grown h (row := some b) ⟨rfl, rfl, rfl, by simp [World.setCell], fun k _ hk => Below.heap_setCell w ⟨b, i, none⟩ x k (by rintro rfl; exact hk rfl)⟩ (.inr (own_not h hb hne))

/-- W: the world ahead of the local map (block lm) and the local signature (block lb); g: the reader's block -/
structure InAt (W w : World) (g lm lb : Nat) (sorts : Int) (u x0 x1 : Value) (us : List Value) (rows : List (List Int)) (ss os : List Int) (q : Nat) : Prop where
  hm : w.heap[lm]? = some (.cells #[x0, x1] 28 (0, 0))
  hs : w.heap[lb]? = some (.cells #[.int .i64 sorts, u] 25 (0, 0))
  uo : w.ownsRow W.heap.size 26 1 u rows.length us
  ul : us.length = rows.length
  ui : ∀ (j : Nat) (u : Value) (row : List Int), us[j]? = some u → rows[j]? = some row → OInts w W.heap.size u row
  ua : ∀ (i j : Nat) (u u' : Value), i < j → us[i]? = some u → us[j]? = some u' → u.ownBlock = none ∨ u.ownBlock ≠ u'.ownBlock
  u0 : ∀ (j : Nat) (u : Value), us[j]? = some u → Off u x0
  u1 : ∀ (j : Nat) (u : Value), us[j]? = some u → Off u x1
  o0 : OInts w W.heap.size x0 ss
  o1 : OInts w W.heap.size x1 os
  ap : Off x0 x1
  rd : RRd w g q
  gr : W.grownBy w (some g)
  gl : g < W.heap.size
  ml : W.heap.size ≤ lm
  bl : W.heap.size ≤ lb
section
variable {W w : World} {g lm lb : Nat} {sorts : Int} {u x0 x1 : Value} {us : List Value} {rows : List (List Int)} {ss os : List Int} {q : Nat}
theorem InAt.row (h : InAt W w g lm lb sorts u x0 x1 us rows ss os q) {j : Nat} {v : Value} (hj : us[j]? = some v) : ∃ row, rows[j]? = some row ∧ OInts w W.heap.size v row := by
  have hl : j < rows.length := by have := (List.getElem?_eq_some_iff.1 hj).1; have := h.ul; omega
  exact ⟨_, List.getElem?_eq_getElem hl, h.ui j v _ hj (List.getElem?_eq_getElem hl)⟩
theorem InAt.allRows (h : InAt W w g lm lb sorts u x0 x1 us rows ss os q) : ORows w W.heap.size u rows := ⟨us, h.uo, h.ul, h.ui, h.ua⟩
/-- only the reader, and what is new, has turned -/
theorem InAt.later {w' : World} {q' : Nat} (h : InAt W w g lm lb sorts u x0 x1 us rows ss os q) (hg : w.grownBy w' (some g)) (hr : RRd w' g q') : InAt W w' g lm lb sorts u x0 x1 us rows ss os q' := by
  have h1 := h.gl
  have h2 := h.ml
  have h3 := h.bl
  exact ⟨gr_at hg (by omega) h.hm, gr_at hg (by omega) h.hs, own_past h.uo hg h1, h.ul, fun j v r a b => own_past (h.ui j v r a b) hg h1, h.ua, h.u0, h.u1, own_past h.o0 hg h1, own_past h.o1 hg h1, h.ap, hr, gr_trans h.gr hg (fun x e => by injection e with e; exact .inl e.symm), h1, h2, h3⟩
theorem InAt.keep {w' : World} (h : InAt W w g lm lb sorts u x0 x1 us rows ss os q) (hb : Below w.heap.size w w') : InAt W w' g lm lb sorts u x0 x1 us rows ss os q :=
  h.later (gr_below (gr_refl w g) hb) (h.rd.keep hb)
/-- an own row of numbers v (one of the two of the map) grows: all else stays -/
theorem InAt.grow0 {w6 : World} {v' : Value} {y : Int} {o : Obj} (h : InAt W w g lm lb sorts u x0 x1 us rows ss os q) (hg : (w.alloc o).grownBy w6 x0.ownBlock) (ho : OInts w6 W.heap.size v' (ss ++ [y])) (hat : v'.ownBlock = x0.ownBlock ∨ v'.ownBlock = some (w.alloc o).heap.size) :
    InAt W (w6.setCell ⟨lm, 0, none⟩ v') g lm lb sorts u v' x1 us rows (ss ++ [y]) os q ∧ w6.heap[lm]? = some (.cells #[x0, x1] 28 (0, 0)) := by
  have h1 := h.gl
  have h2 := h.ml
  have h3 := h.bl
  have k := h.keep (below_alloc w o)
  have hx : ∀ k, x0.ownBlock = some k → W.heap.size ≤ k := fun k e => (own_lt h.o0 k e).1
  have hM := (hg.block lm (Array.getElem?_eq_some_iff.1 k.hm).1 (fun e => own_not k.o0 k.hm (by decide) e.symm)).trans k.hm
  have hB := (hg.block lb (Array.getElem?_eq_some_iff.1 k.hs).1 (fun e => own_not k.o0 k.hs (by decide) e.symm)).trans k.hs
  have e1 : w6.ownsRow W.heap.size 26 1 u rows.length us := own_grown k.uo hg (own_ne k.uo k.o0 (by decide))
  have e2 : ∀ (j : Nat) (u : Value) (row : List Int), us[j]? = some u → rows[j]? = some row → OInts w6 W.heap.size u row := fun j v r a b => own_grown (k.ui j v r a b) hg (h.u0 j v a)
  have e3 : OInts w6 W.heap.size x1 os := own_grown k.o1 hg h.ap.symm
  have hbn : lm ≠ lb := fun e => by have a := hM; rw [e, hB] at a; injection a with a; injection a with _ a; exact absurd a (by decide)
  refine ⟨⟨block_set hM 0 v', (Below.heap_setCell w6 ⟨lm, 0, none⟩ v' lb (fun e => hbn e.symm)).trans hB, own_pokeI e1 hM (by decide), h.ul, fun j v r a b => own_pokeI (e2 j v r a b) hM (by decide), h.ua, fun j v a => ?_, h.u1, own_pokeI ho hM (by decide), own_pokeI e3 hM (by decide), ?_, (RRd.grown k.rd hg (fun k e => by have := hx k e; omega)).setCell (by omega) _, gr_setCell (gr_trans k.gr hg (fun k e => .inr (hx k e))) (.inr h2) v', h1, h2, h3⟩, hM⟩
  · obtain ⟨r, -, hr⟩ := k.row a
    exact off_new (h.u0 j v a) (fun k e => (own_lt hr k e).2) (Nat.le_refl _) hat
  · exact (off_new h.ap.symm (fun k e => (own_lt (InAt.o1 ‹InAt W (w.alloc o) g lm lb sorts u x0 x1 us rows ss os q›) k e).2) (Nat.le_refl _) hat).symm
theorem InAt.grow1 {w6 : World} {v' : Value} {y : Int} {o : Obj} (h : InAt W w g lm lb sorts u x0 x1 us rows ss os q) (hg : (w.alloc o).grownBy w6 x1.ownBlock) (ho : OInts w6 W.heap.size v' (os ++ [y])) (hat : v'.ownBlock = x1.ownBlock ∨ v'.ownBlock = some (w.alloc o).heap.size) :
    InAt W (w6.setCell ⟨lm, 1, none⟩ v') g lm lb sorts u x0 v' us rows ss (os ++ [y]) q ∧ w6.heap[lm]? = some (.cells #[x0, x1] 28 (0, 0)) := by
  have h1 := h.gl
  have h2 := h.ml
  have h3 := h.bl
  have k := h.keep (below_alloc w o)
  have hx : ∀ k, x1.ownBlock = some k → W.heap.size ≤ k := fun k e => (own_lt h.o1 k e).1
  have hM := (hg.block lm (Array.getElem?_eq_some_iff.1 k.hm).1 (fun e => own_not k.o1 k.hm (by decide) e.symm)).trans k.hm
  have hB := (hg.block lb (Array.getElem?_eq_some_iff.1 k.hs).1 (fun e => own_not k.o1 k.hs (by decide) e.symm)).trans k.hs
  have e1 : w6.ownsRow W.heap.size 26 1 u rows.length us := own_grown k.uo hg (own_ne k.uo k.o1 (by decide))
  have e2 : ∀ (j : Nat) (u : Value) (row : List Int), us[j]? = some u → rows[j]? = some row → OInts w6 W.heap.size u row := fun j v r a b => own_grown (k.ui j v r a b) hg (h.u1 j v a)
  have e3 : OInts w6 W.heap.size x0 ss := own_grown k.o0 hg h.ap
  have hbn : lm ≠ lb := fun e => by have a := hM; rw [e, hB] at a; injection a with a; injection a with _ a; exact absurd a (by decide)
  refine ⟨⟨block_set hM 1 v', (Below.heap_setCell w6 ⟨lm, 1, none⟩ v' lb (fun e => hbn e.symm)).trans hB, own_pokeI e1 hM (by decide), h.ul, fun j v r a b => own_pokeI (e2 j v r a b) hM (by decide), h.ua, h.u0, fun j v a => ?_, own_pokeI e3 hM (by decide), own_pokeI ho hM (by decide), ?_, (RRd.grown k.rd hg (fun k e => by have := hx k e; omega)).setCell (by omega) _, gr_setCell (gr_trans k.gr hg (fun k e => .inr (hx k e))) (.inr h2) v', h1, h2, h3⟩, hM⟩
  · obtain ⟨r, -, hr⟩ := k.row a
    exact off_new (h.u1 j v a) (fun k e => (own_lt hr k e).2) (Nat.le_refl _) hat
  · exact off_new h.ap (fun k e => (own_lt (InAt.o0 ‹InAt W (w.alloc o) g lm lb sorts u x0 x1 us rows ss os q›) k e).2) (Nat.le_refl _) hat
/-- a new row rv (apart from all that is there) goes to the end of the signature's rows -/
theorem InAt.growR {w7 : World} {rv v' : Value} {row : List Int} {t2 : TypeId} (h : InAt W w g lm lb sorts u x0 x1 us rows ss os q) (hr : OInts w W.heap.size rv row) (r0 : Off rv x0) (r1 : Off rv x1) (ru : ∀ (j : Nat) (x : Value), us[j]? = some x → Off x rv)
    (hg : (w.alloc (.cells #[rv] t2)).grownBy w7 u.ownBlock) (hv : w7.ownsRow W.heap.size 26 1 v' (rows.length + 1) (us ++ [rv])) :
    InAt W (w7.setCell ⟨lb, 1, none⟩ v') g lm lb sorts v' x0 x1 (us ++ [rv]) (rows ++ [row]) ss os q ∧ w7.heap[lb]? = some (.cells #[.int .i64 sorts, u] 25 (0, 0)) := by
  have h1 := h.gl
  have h2 := h.ml
  have h3 := h.bl
  have k := h.keep (below_alloc w (.cells #[rv] t2))
  have hx : ∀ k, u.ownBlock = some k → W.heap.size ≤ k := fun k e => (own_lt h.uo k e).1
  have hM := (hg.block lm (Array.getElem?_eq_some_iff.1 k.hm).1 (fun e => own_not k.uo k.hm (by decide) e.symm)).trans k.hm
  have hB := (hg.block lb (Array.getElem?_eq_some_iff.1 k.hs).1 (fun e => own_not k.uo k.hs (by decide) e.symm)).trans k.hs
  have hbn : lm ≠ lb := fun e => by have a := hM; rw [e, hB] at a; injection a with a; injection a with _ a; exact absurd a (by decide)
  have at_ : ∀ {B : Nat} {v : Value} {xs : List Int}, OInts (w.alloc (.cells #[rv] t2)) B v xs → OInts (w7.setCell ⟨lb, 1, none⟩ v') B v xs := fun {B v xs} ho => own_pokeI (own_grown ho hg (own_ne ho k.uo (by decide))) hB (by decide)
  refine ⟨⟨(Below.heap_setCell w7 ⟨lb, 1, none⟩ v' lm hbn).trans hM, block_set hB 1 v', ?_, by simp [h.ul], fun j v r a b => ?_, fun i j v v2 hij a b => ?_, fun j v a => ?_, fun j v a => ?_, at_ k.o0, at_ k.o1, h.ap, (RRd.grown k.rd hg (fun k e => by have := hx k e; omega)).setCell (by omega) _, gr_setCell (gr_trans k.gr hg (fun k e => .inr (hx k e))) (.inr h3) v', h1, h2, h3⟩, hB⟩
  · rw [List.length_append]; exact own_pokeI hv hB (by decide)
  · rcases Nat.lt_or_ge j us.length with hj | hj
    · rw [List.getElem?_append_left hj] at a
      rw [List.getElem?_append_left (by have := h.ul; omega)] at b
      exact at_ (k.ui j v r a b)
    · have ej : j = us.length := by have := (List.getElem?_eq_some_iff.1 a).1; simp at this; omega
      subst ej
      rw [List.getElem?_append_right (Nat.le_refl _)] at a
      rw [h.ul, List.getElem?_append_right (Nat.le_refl _)] at b
      simp at a b
      subst a b
      exact at_ (hr.keep (below_alloc w _))
  · rcases Nat.lt_or_ge j us.length with hj | hj
    · rw [List.getElem?_append_left hj] at b
      rw [List.getElem?_append_left (by omega)] at a
      exact h.ua i j v v2 hij a b
    · have ej : j = us.length := by have := (List.getElem?_eq_some_iff.1 b).1; simp at this; omega
      subst ej
      rw [List.getElem?_append_right (Nat.le_refl _)] at b
      rw [List.getElem?_append_left hij] at a
      simp at b
      subst b
      exact ru i v a
  · rcases Nat.lt_or_ge j us.length with hj | hj
    · rw [List.getElem?_append_left hj] at a; exact h.u0 j v a
    · have ej : j = us.length := by have := (List.getElem?_eq_some_iff.1 a).1; simp at this; omega
      subst ej
      rw [List.getElem?_append_right (Nat.le_refl _)] at a
      simp at a
      subst a
      exact r0
  · rcases Nat.lt_or_ge j us.length with hj | hj
    · rw [List.getElem?_append_left hj] at a; exact h.u1 j v a
    · have ej : j = us.length := by have := (List.getElem?_eq_some_iff.1 a).1; simp at this; omega
      subst ej
      rw [List.getElem?_append_right (Nat.le_refl _)] at a
      simp at a
      subst a
      exact r1
/-- a row that a callee has made behind w is apart from all that is there -/
theorem InAt.fresh {w' : World} {rv : Value} {row : List Int} (h : InAt W w g lm lb sorts u x0 x1 us rows ss os q) (hb : Below w.heap.size w w') (hr : OInts w' w.heap.size rv row) :
    OInts w' W.heap.size rv row ∧ Off rv x0 ∧ Off rv x1 ∧ (∀ (j : Nat) (x : Value), us[j]? = some x → Off x rv) := by
  have hl : ∀ k, rv.ownBlock = some k → w.heap.size ≤ k := fun k e => (own_lt hr k e).1
  refine ⟨hr.base h.gr.size, (off_low (fun k e => (own_lt h.o0 k e).2) hl).symm, (off_low (fun k e => (own_lt h.o1 k e).2) hl).symm, fun j x a => ?_⟩
  obtain ⟨r, -, ho⟩ := h.row a
  exact off_low (fun k e => (own_lt ho k e).2) hl
end
end

section
open Go.RowKit
set_option linter.unusedVariables false
set_option linter.unusedSimpArgs false

theorem put2_at {wz : World} {b : Nat} {t : TypeId} {c0 c1 x y : Value} (h : wz.heap[b]? = some (.cells #[c0, c1] t (0, 0))) : ((wz.setCell ⟨b, 0, none⟩ x).setCell ⟨b, 1, none⟩ y).heap[b]? = some (.cells #[x, y] t (0, 0)) := blk_set (blk_set h 0 x) 1 y
theorem put2_other {wz : World} {b k : Nat} {x y : Value} (hk : k ≠ b) : ((wz.setCell ⟨b, 0, none⟩ x).setCell ⟨b, 1, none⟩ y).heap[k]? = wz.heap[k]? :=
  (Below.heap_setCell _ ⟨b, 1, none⟩ y k hk).trans (Below.heap_setCell _ ⟨b, 0, none⟩ x k hk)
theorem put2_rd {wz : World} {b g q : Nat} {x y : Value} (h : RRd wz g q) (hg : g < b) : RRd ((wz.setCell ⟨b, 0, none⟩ x).setCell ⟨b, 1, none⟩ y) g q := (h.setCell hg x).setCell hg y
theorem put2_gr {w wz : World} {b g : Nat} {x y : Value} (h : w.grownBy wz (some g)) (hb : w.heap.size ≤ b) : w.grownBy ((wz.setCell ⟨b, 0, none⟩ x).setCell ⟨b, 1, none⟩ y) (some g) := gr_setCell (gr_setCell h (.inr hb) x) (.inr hb) y
theorem put2_bel {w wz : World} {b B : Nat} {x y : Value} (h : Below B w wz) (hb : B ≤ b) : Below B w ((wz.setCell ⟨b, 0, none⟩ x).setCell ⟨b, 1, none⟩ y) := (h.setCell (p := ⟨b, 0, none⟩) hb x).setCell (p := ⟨b, 1, none⟩) hb y
theorem keep2m {w : World} {b c i : Nat} {x y u : Value} (h : w.cell? ⟨c, i, none⟩ = some u) (hne : c ≠ b) : ((w.setCell ⟨b, 0, none⟩ x).setCell ⟨b, 1, none⟩ y).cell? ⟨c, i, none⟩ = some u := (World.cell?_of_block (put2_other hne)).trans h
theorem drew_cellm {w : World} {p : Addr} {v : Value} (h : w.cell? p = some v) : w.drew.cell? p = some v := h
theorem gr_todrewm {x w : World} {r : Option Nat} (h : w.grownBy x r) : w.grownBy x.drew r := ⟨h.os, h.tape, h.output, h.size, h.block⟩
theorem osig_drewm {x : World} {b : Nat} {v : Value} {s : MSig} (h : OSig x b v s) : OSig x.drew b v s := h
theorem osig_past {w w' : World} {B g : Nat} {v : Value} {s : MSig} (h : OSig w B v s) (hg : w.grownBy w' (some g)) (hB : g < B) : OSig w' B v s := by
  obtain ⟨u, e, h⟩ := h
  exact ⟨u, e, h.grown hg (fun k e => by injection e with e; omega)⟩
end

section
open Go.RowKit
set_option linter.unusedVariables false

theorem blk_set' {w : World} {b : Nat} {cs : Array Value} {t : TypeId} (h : w.heap[b]? = some (.cells cs t (0, 0))) (i : Nat) (u : Value) : (w.setCell ⟨b, i, none⟩ u).heap[b]? = some (.cells (cs.setIfInBounds i u) t (0, 0)) := by
  simp [World.setCell, Array.getElem?_modify, h]

-- M: the blocks in which it lies
mutual
def RTerm (w : World) (M : Nat → Prop) : Value → Tm → Prop
  | v, .leaf k of => v = .iface 140 (.agg #[.int .i64 (k : Int), .int .i64 of])
  | v, .node op lv ts => ∃ (A : Option Addr) (c : Nat) (us : List Value), v = .iface 143 (.agg #[.int .i64 (op : Int), .int .i64 lv, .slice A ts.length c]) ∧ ts.length ≤ c ∧ c ≤ maxLen ∧ us.length = ts.length ∧
      (∀ (j : Nat) (u : Value), us[j]? = some u → ∃ b o, A = some ⟨b, o, none⟩ ∧ M b ∧ w.cell? ⟨b, o + j, none⟩ = some u) ∧ RTerms w M us ts
def RTerms (w : World) (M : Nat → Prop) : List Value → List Tm → Prop
  | us, [] => us = []
  | us, t :: ts => ∃ u us', us = u :: us' ∧ RTerm w M u t ∧ RTerms w M us' ts
end

mutual
theorem RTerm.keep {w w' : World} {M M' : Nat → Prop} (hb : ∀ b, M b → b < w.heap.size → M' b ∧ w'.heap[b]? = w.heap[b]?) : ∀ {v : Value} {t : Tm}, RTerm w M v t → RTerm w' M' v t
  | v, .leaf k of, h => by unfold RTerm at h ⊢; exact h
  | v, .node op lv ts, h => by
    unfold RTerm at h ⊢
    obtain ⟨A, c, us, e, h1, h2, h3, h4, h5⟩ := h
    refine ⟨A, c, us, e, h1, h2, h3, fun j u hj => ?_, RTerms.keep hb h5⟩
    obtain ⟨b, o, ea, hm, hc⟩ := h4 j u hj
    obtain ⟨k1, k2⟩ := hb b hm (World.block_lt_of_cell? w ⟨b, o + j, none⟩ hc)
    exact ⟨b, o, ea, k1, by rw [← hc]; exact World.cell?_of_block k2⟩
theorem RTerms.keep {w w' : World} {M M' : Nat → Prop} (hb : ∀ b, M b → b < w.heap.size → M' b ∧ w'.heap[b]? = w.heap[b]?) : ∀ {us : List Value} {ts : List Tm}, RTerms w M us ts → RTerms w' M' us ts
  | us, [], h => by unfold RTerms at h ⊢; exact h
  | us, t :: ts, h => by
    unfold RTerms at h ⊢
    obtain ⟨u, us', e, h1, h2⟩ := h
    exact ⟨u, us', e, RTerm.keep hb h1, RTerms.keep hb h2⟩
end
theorem RTerm.below {w w' : World} {M : Nat → Prop} {v : Value} {t : Tm} (h : RTerm w M v t) (hb : Below w.heap.size w w') : RTerm w' M v t := h.keep fun b hm hl => ⟨hm, hb.block b hl⟩
theorem RTerms.below {w w' : World} {M : Nat → Prop} {us : List Value} {ts : List Tm} (h : RTerms w M us ts) (hb : Below w.heap.size w w') : RTerms w' M us ts := h.keep fun b hm hl => ⟨hm, hb.block b hl⟩
theorem RTerms.length {w : World} {M : Nat → Prop} : ∀ {us : List Value} {ts : List Tm}, RTerms w M us ts → us.length = ts.length
  | us, [], h => by unfold RTerms at h; subst h; rfl
  | us, t :: ts, h => by
    unfold RTerms at h
    obtain ⟨u, us', rfl, h1, h2⟩ := h
    simp [RTerms.length h2]
theorem RTerms.snoc {w : World} {M : Nat → Prop} {u : Value} {t : Tm} (hu : RTerm w M u t) : ∀ {us : List Value} {ts : List Tm}, RTerms w M us ts → RTerms w M (us ++ [u]) (ts ++ [t])
  | us, [], h => by
    unfold RTerms at h
    subst h
    simp only [List.nil_append]
    unfold RTerms
    exact ⟨u, [], rfl, hu, by unfold RTerms; rfl⟩
  | us, x :: ts, h => by
    unfold RTerms at h
    obtain ⟨u', us', rfl, h1, h2⟩ := h
    simp only [List.cons_append]
    unfold RTerms
    exact ⟨u', us' ++ [u], rfl, h1, RTerms.snoc hu h2⟩
theorem RTerms.at_ {w : World} {M : Nat → Prop} : ∀ {us : List Value} {ts : List Tm} {j : Nat}, RTerms w M us ts → (hj : j < ts.length) → ∃ u, us[j]? = some u ∧ RTerm w M u ts[j]
  | us, [], j, h, hj => by simp at hj
  | us, x :: ts, 0, h, hj => by
    unfold RTerms at h
    obtain ⟨u', us', rfl, h1, h2⟩ := h
    exact ⟨u', rfl, h1⟩
  | us, x :: ts, j + 1, h, hj => by
    unfold RTerms at h
    obtain ⟨u', us', rfl, h1, h2⟩ := h
    obtain ⟨u, a, b⟩ := RTerms.at_ (j := j) h2 (by simpa using hj)
    exact ⟨u, by simpa using a, by simpa using b⟩
/-- a term's value: which kind, and what it says of its sort -/
theorem RTerm.form {w : World} {M : Nat → Prop} {v : Value} {t : Tm} (h : RTerm w M v t) :
    (∃ k of : Int, v = .iface 140 (.agg #[.int .i64 k, .int .i64 of]) ∧ t.sort = of) ∨ (∃ (op lv : Int) (A : Option Addr) (n c : Nat), v = .iface 143 (.agg #[.int .i64 op, .int .i64 lv, .slice A n c]) ∧ t.sort = lv) := by
  cases t with
  | leaf k of => unfold RTerm at h; exact .inl ⟨k, of, h, rfl⟩
  | node op lv ts => unfold RTerm at h; obtain ⟨A, c, us, e, -⟩ := h; exact .inr ⟨op, lv, A, ts.length, c, e, rfl⟩

/-- inside opWithTerms: block b: the operation under way; the terms so far -/
structure TakesAt (w wr : World) (b : Nat) (op : Nat) (lv : Int) (tv : Value) (ts : List Tm) : Prop where
  box : wr.heap[b]? = some (.cells #[.int .i64 (op : Int), .int .i64 lv, tv] 143 (0, 0))
  own : ∃ us, wr.ownsRow (b + 1) 94 1 tv ts.length us ∧ RTerms wr (fun x => b < x ∧ some x ≠ tv.ownBlock) us ts
  bel : Below w.heap.size w wr
  ge : w.heap.size ≤ b

theorem TakesAt.start {w wr : World} {b : Nat} {op : Nat} {lv : Int} (h1 : wr.heap[b]? = some (.cells #[.int .i64 (op : Int), .int .i64 lv, .slice none 0 0] 143 (0, 0))) (h2 : Below w.heap.size w wr) (h3 : w.heap.size ≤ b) : TakesAt w wr b op lv (.slice none 0 0) [] :=
  ⟨h1, ⟨[], World.ownsRow_nil _ _ _ _, by unfold RTerms; rfl⟩, h2, h3⟩
theorem TakesAt.below {w wr w2 : World} {b op : Nat} {lv : Int} {tv : Value} {ts : List Tm} (h : TakesAt w wr b op lv tv ts) (hb : Below wr.heap.size wr w2) : TakesAt w w2 b op lv tv ts := by
  obtain ⟨us, h1, h2⟩ := h.own
  exact ⟨(hb.block b (Array.getElem?_eq_some_iff.1 h.box).1).trans h.box, ⟨us, own_keep h1 hb, h2.below hb⟩, h.bel.trans (hb.mono h.bel.size), h.ge⟩
/-- behind 'whole.takes = append(whole.takes, taken)'; w2: behind the call that read the term, w3: behind the box of one cell -/
theorem TakesAt.push {w wr w2 w4 : World} {b op g cap : Nat} {lv : Int} {tv u : Value} {ts : List Tm} {t : Tm} {us : List Value} {o : Obj} (h : TakesAt w wr b op lv tv ts) (hb : Below wr.heap.size wr w2) (ht : RTerm w2 (fun x => wr.heap.size ≤ x) u t)
    (h1 : wr.ownsRow (b + 1) 94 1 tv ts.length us) (h2 : RTerms wr (fun x => b < x ∧ some x ≠ tv.ownBlock) us ts)
    (ho : w4.ownsRow (b + 1) 94 1 (.slice (some ⟨g, 0, none⟩) (ts.length + 1) cap) (ts.length + 1) (us ++ [u])) (hg : (w2.alloc o).grownBy w4 tv.ownBlock) (hlies : tv.ownBlock = some g ∨ g = (w2.alloc o).heap.size) :
    w4.heap[b]? = some (.cells #[.int .i64 (op : Int), .int .i64 lv, tv] 143 (0, 0)) ∧
    TakesAt w (w4.setCell ⟨b, 2, none⟩ (.slice (some ⟨g, 0, none⟩) (ts.length + 1) cap)) b op lv (.slice (some ⟨g, 0, none⟩) (ts.length + 1) cap) (ts ++ [t]) := by
  have hbl := (Array.getElem?_eq_some_iff.1 h.box).1
  have hs2 := hb.size
  have hsa : (w2.alloc o).heap.size = w2.heap.size + 1 := by simp
  have htv : ∀ k, tv.ownBlock = some k → b + 1 ≤ k ∧ k < wr.heap.size := own_lt h1
  have hgb : b < g := by
    rcases hlies with e | e
    · have := htv g e; omega
    · omega
  have at_ : ∀ x, x < w2.heap.size → some x ≠ tv.ownBlock → w4.heap[x]? = w2.heap[x]? := fun x hx hne =>
    (hg.block x (by omega) hne).trans (heap_alloc_old _ _ hx)
  have hbox4 : w4.heap[b]? = some (.cells #[.int .i64 (op : Int), .int .i64 lv, tv] 143 (0, 0)) :=
    (at_ b (by omega) (fun e => by have := htv b e.symm; omega)).trans ((hb.block b hbl).trans h.box)
  refine ⟨hbox4, ?_, ⟨us ++ [u], ?_, ?_⟩, ?_, h.ge⟩
  · exact blk_set' hbox4 2 _
  · rw [List.length_append]
    exact ownsRow_setCell_below ho (by show b < b + 1; omega) _
  · have hset : ∀ x, b < x → (w4.setCell ⟨b, 2, none⟩ (.slice (some ⟨g, 0, none⟩) (ts.length + 1) cap)).heap[x]? = w4.heap[x]? := fun x hx => Below.heap_setCell w4 ⟨b, 2, none⟩ _ x (by show x ≠ b; omega)
    refine RTerms.snoc ?_ ?_
    · refine ht.keep fun x hx hl => ?_
      have hne : some x ≠ tv.ownBlock := fun e => by have := htv x e.symm; omega
      refine ⟨⟨by omega, fun e => ?_⟩, (hset x (by omega)).trans (at_ x hl hne)⟩
      simp only [Value.ownBlock] at e
      injection e with e
      rcases hlies with e' | e'
      · exact hne (by rw [e', e])
      · omega
    · refine h2.keep fun x hx hl => ?_
      refine ⟨⟨hx.1, fun e => ?_⟩, (hset x hx.1).trans ((at_ x (by omega) hx.2).trans (hb.block x hl))⟩
      simp only [Value.ownBlock] at e
      injection e with e
      rcases hlies with e' | e'
      · exact hx.2 (by rw [e', e])
      · omega
  · have hbel2 : Below w.heap.size w (w2.alloc o) := (h.bel.trans (hb.mono h.bel.size)).alloc (by have := h.bel.size; omega) o
    exact (hbel2.grown hg (by have := h.bel.size; omega) (fun k e => by have := htv k e; have := h.ge; omega)).setCell (by show w.heap.size ≤ b; exact h.ge) _
/-- done: the operation with its terms -/
theorem TakesAt.done {w wr : World} {b op : Nat} {lv : Int} {tv : Value} {ts : List Tm} (h : TakesAt w wr b op lv tv ts) : RTerm wr (fun x => w.heap.size ≤ x) (.iface 143 (.agg #[.int .i64 (op : Int), .int .i64 lv, tv])) (.node op lv ts) := by
  obtain ⟨us, h1, h2⟩ := h.own
  obtain ⟨A, c, rfl, a1, a2, a3⟩ := own_reads h1
  unfold RTerm
  refine ⟨A, c, us, rfl, a1, a2, h2.length, fun j u hj => ?_, h2.keep fun x hx _ => ⟨by have := h.ge; omega, rfl⟩⟩
  obtain ⟨b', o, e, hc⟩ := a3 j u hj
  refine ⟨b', o, e, ?_, hc⟩
  have := own_lt h1 b' (by rw [e]; rfl)
  have := h.ge
  omega
theorem at_blk {w : World} {b : Nat} {cs : Array Value} {t : TypeId} (h : w.heap[b]? = some (.cells cs t (0, 0))) (i : Nat) : w.cell? ⟨b, i, none⟩ = cs[i]? := by simp [World.cell?, h]
theorem at_free {w : World} {b : Nat} {cs : Array Value} {t : TypeId} (h : w.heap[b]? = some (.cells cs t (0, 0))) (i : Nat) : w.frozen? ⟨b, i, none⟩ = false := by simp [World.frozen?, h]

/-- wherever rv reads as r, bv reads as b -/
def SufOf (rv bv : Value) (r b : List Int) : Prop := (∃ A c, bv = .slice A b.length c) ∧ ∀ w' : World, RInts w' rv r → RInts w' bv b
theorem SufOf.refl {w : World} {rv : Value} {r : List Int} (h : RInts w rv r) : SufOf rv rv r r := by
  obtain ⟨A, c, e, -⟩ := h.form; exact ⟨⟨A, c, e⟩, fun _ h => h⟩
theorem SufOf.trans {a b c : Value} {x y z : List Int} (h : SufOf a b x y) (k : SufOf b c y z) : SufOf a c x z := ⟨k.1, fun w' hw => k.2 w' (h.2 w' hw)⟩
/-- 'row[1:]' -/
theorem SufOf.tail {b o c : Nat} {n : Int} {rest : List Int} {A : Option Addr} (hA : A = some ⟨b, o + 1, none⟩ ∨ c - 1 = 0) : SufOf (.slice (some ⟨b, o, none⟩) (n :: rest).length c) (.slice A rest.length (c - 1)) (n :: rest) rest := by
  refine ⟨⟨_, _, rfl⟩, fun w' h => ?_⟩
  obtain ⟨A', c', e, h1, h2, h3⟩ := h
  cases e
  simp only [List.length_cons] at h1
  refine ⟨A, c - 1, rfl, by omega, by omega, fun j x hj => ?_⟩
  obtain ⟨b', o', e, hc⟩ := h3 (j + 1) x (by simpa using hj)
  cases e
  have hjl := (List.getElem?_eq_some_iff.1 hj).1
  rcases hA with rfl | h0
  · exact ⟨b, o + 1, rfl, by rw [← hc]; congr 2; omega⟩
  · omega
end

section
open Go.RowKit
set_option linter.unusedVariables false

theorem three_cells (w : World) (a b c : Value) (t : TypeId) : (w.alloc (.cells #[a, b, c] t)).cell? ⟨w.heap.size, 0, none⟩ = some a ∧ (w.alloc (.cells #[a, b, c] t)).cell? ⟨w.heap.size, 1, none⟩ = some b ∧ (w.alloc (.cells #[a, b, c] t)).cell? ⟨w.heap.size, 2, none⟩ = some c := by
  refine ⟨?_, ?_, ?_⟩ <;> (rw [World.cell?_alloc_at _ _ _ _ rfl]; rfl)
theorem m_letterSort (k of : Int) (w : World) : (method 270 140 (.agg #[.int .i64 k, .int .i64 of]) "loop.example/theorymodules/impl.sort").run Try.prog w = .ok (146, .agg #[.int .i64 k, .int .i64 of]) w := by kernel_rfl
theorem m_opSort (op lv : Int) (A : Option Addr) (n c : Nat) (w : World) : (method 270 143 (.agg #[.int .i64 op, .int .i64 lv, .slice A n c]) "loop.example/theorymodules/impl.sort").run Try.prog w = .ok (149, .agg #[.int .i64 op, .int .i64 lv, .slice A n c]) w := by kernel_rfl
theorem letterSort_any (k of : Int) (w : World) :
    Calls Try.prog 146 #[.agg #[.int .i64 k, .int .i64 of]] w fun e w' => e = .returned (.int .i64 of) ∧ Below w.heap.size w w' := by
  have hx := (box_cells w (.int .i64 k) (.int .i64 of) 140).2
  go_enter Try.func146, Try.ntmps146
  go_wp2
  go_ret
  exact ⟨rfl, below_alloc _ _⟩
theorem opSort_any (op lv : Int) (x : Value) (w : World) (hx : ∃ A n c, x = .slice A n c) :
    Calls Try.prog 149 #[.agg #[.int .i64 op, .int .i64 lv, x]] w fun e w' => e = .returned (.int .i64 lv) ∧ Below w.heap.size w w' := by
  obtain ⟨A, n, c, rfl⟩ := hx
  have hx := (three_cells w (.int .i64 op) (.int .i64 lv) (.slice A n c) 143).2.1
  go_enter Try.func149, Try.ntmps149
  go_wp2
  go_ret
  exact ⟨rfl, below_alloc _ _⟩

/-- the method of a term's value that tells its sort -/
theorem RTerm.sorts {w : World} {M : Nat → Prop} {v : Value} {t : Tm} (h : RTerm w M v t) : ∃ (T : TypeId) (x : Value) (fid : FuncId), v = .iface T x ∧ (∀ w' : World, (method 270 T x "loop.example/theorymodules/impl.sort").run Try.prog w' = .ok (fid, x) w') ∧ (∀ w' : World, (callFunc fid #[x]).run Try.prog w' = .ok (.enter fid #[x]) w') ∧
    ∀ w' : World, Calls Try.prog fid #[x] w' fun e w'' => e = .returned (.int .i64 t.sort) ∧ Below w'.heap.size w' w'' := by
  rcases h.form with ⟨k, of, rfl, e⟩ | ⟨op, lv, A, n, c, rfl, e⟩
  · exact ⟨_, _, _, rfl, fun w' => m_letterSort k of w', fun w' => by kernel_rfl, fun w' => by rw [e]; exact letterSort_any k of w'⟩
  · exact ⟨_, _, _, rfl, fun w' => m_opSort op lv A n c w', fun w' => by kernel_rfl, fun w' => by rw [e]; exact opSort_any op lv _ w' ⟨A, n, c, rfl⟩⟩

def ReadPost (rv : Value) (r : List Int) (res : Option (Tm × List Int)) (w : World) (e : Ending) (w' : World) : Prop :=
  (match res with
    | some (tm, b) => ∃ u bv, e = .returned (.tuple #[u, bv, .bool true]) ∧ RTerm w' (fun x => w.heap.size ≤ x) u tm ∧ SufOf rv bv r b
    | none => e = .returned (.tuple #[.nilIface, .slice none 0 0, .bool false])) ∧ Below w.heap.size w w'
def nodeM (s : MSig) (vars : List Int) (f op : Nat) (r : List Int) : Option (Tm × List Int) :=
  match argsM (firstM s vars f) (opRow s op).dropLast r with
  | none => none
  | some (ts, b) => some (.node op ((opRow s op).getLastD (-1)) ts, b)
def FirstAt (s : MSig) (vars : List Int) (f : Nat) : Prop := ∀ (r : List Int) (w : World) (v vv rv : Value), r.length ≤ f → Small r → RSig w v s → RInts w vv vars → RInts w rv r →
  Calls Try.prog 76 #[v, vv, rv] w (ReadPost rv r (firstM s vars f r) w)
theorem args_small {s : MSig} {vars : List Int} {f : Nat} {ss r : List Int} {ts : List Tm} {b : List Int} (h : argsM (firstM s vars f) ss r = some (ts, b)) (hs : Small r) : Small b := by
  obtain ⟨h1, h2⟩ := argsM_sound (firstM_sound f) _ _ _ _ h
  intro x hx
  exact hs x (by rw [h1]; exact List.mem_append_right _ hx)
theorem args_shorter {s : MSig} {vars : List Int} {f : Nat} {ss r : List Int} {ts : List Tm} {b : List Int} (h : argsM (firstM s vars f) ss r = some (ts, b)) : b.length ≤ r.length ∧ ts.length = ss.length := by
  obtain ⟨h1, h2⟩ := argsM_sound (firstM_sound f) _ _ _ _ h
  refine ⟨by rw [h1]; simp, ?_⟩
  clear h h1
  induction ts generalizing ss with
  | nil => unfold wfTs at h2; subst h2; rfl
  | cons t ts ih => unfold wfTs at h2; obtain ⟨x, ss', rfl, -, -, h4⟩ := h2; simp [ih h4]

set_option maxHeartbeats 800000 in
set_option maxRecDepth 100000 in
theorem opWithTerms_any (s : MSig) (vars : List Int) (hv : varsB s vars = true) (f : Nat) (ih : FirstAt s vars f) (op : Nat) (hop : op < s.ops.length) (r : List Int) (w : World) (v vv rv : Value) (hr : r.length ≤ f) (hsm : Small r)
    (h1 : RSig w v s) (h2 : RInts w vv vars) (h3 : RInts w rv r) :
    Calls Try.prog 120 #[v, vv, .int .i64 (op : Int), rv] w (ReadPost rv r (nodeM s vars f op r) w) := by
  obtain ⟨i0, hi0, hz0, hz1, hz2⟩ := info_parts (show (Try.prog.info? 94).map (fun i => (i.zero, i.size, i.bytes)) = some (some .nilIface, 1, 16) by kernel_rfl)
  obtain ⟨u, rfl, hrr⟩ := h1
  obtain ⟨sorts, ops⟩ := s
  simp only at hop
  have hrow := opRow_valid (vars_valid hv).1 (k := op) hop
  rw [opRow_at hop] at hrow
  simp only at hrow
  have hN : nodeM ⟨sorts, ops⟩ vars f op r = (match argsM (firstM ⟨sorts, ops⟩ vars f) ops[op].dropLast r with
    | none => none
    | some (ts, b) => some (.node op (ops[op].getLastD (-1)) ts, b)) := by
    unfold nodeM; rw [opRow_at hop]
  have hn := hrr.len
  obtain ⟨A, c, rfl, -⟩ := hrr.form
  have hb1 := below_alloc w (.cells #[.int .i64 sorts, .slice A ops.length c] 25)
  have hbx := box_cells w (.int .i64 sorts) (.slice A ops.length c) 25
  obtain ⟨b, o, c', u', e, hcell, hri⟩ := (hrr.keep hb1).at_ hop
  cases e
  have hHS := Lib.hid (show RSig (w.alloc (.cells #[.int .i64 sorts, .slice (some ⟨b, o, none⟩) ops.length c] 25)) (.agg #[.int .i64 sorts, .slice (some ⟨b, o, none⟩) ops.length c]) ⟨sorts, ops⟩ from ⟨_, rfl, hrr.keep hb1⟩)
  generalize ops[op] = row at hcell hri hrow hN
  have hr1 := hrow.1
  have hr3 := hrow.2.1
  rw [last_at (by omega)] at hN
  obtain ⟨b', o', c3, rfl, hx⟩ := hri.at_ (k := row.length - 1) (by omega)
  generalize row[row.length - 1]'(by omega) = lv at hx hN
  have HN := Lib.hid hN
  have HRI := Lib.hid hri
  have HB1 := Lib.hid hb1
  have HV2 := Lib.hid (h2.keep hb1)
  have HV3 := Lib.hid (h3.keep hb1)
  obtain ⟨A2, c2, rfl, -⟩ := h2.form
  obtain ⟨A3, c4, rfl, -⟩ := h3.form
  have f0 := hbx.1
  have f1 := hbx.2
  have HIH := Lib.hid ih
  have HSM := Lib.hid hsm
  clear hN hri hb1 h2 h3 hrr hbx hrow ih hv hsm
  obtain ⟨n, hnl⟩ : ∃ n, row.length = n + 1 := ⟨row.length - 1, by omega⟩
  rw [show row.length - 1 = n by omega] at hx
  rw [hnl] at hcell
  have HC3 : Hid (n + 1 ≤ c3) := by obtain ⟨A', c', e, q1, q2⟩ := HRI.out.form; cases e; unfold Hid; omega
  have hb2 := below_alloc (w.alloc (.cells #[.int .i64 sorts, .slice (some ⟨b, o, none⟩) ops.length c] 25)) (.cells #[.int .i64 (op : Int), .int .i64 lv, .slice none 0 0] 143)
  have g0 := cell_keep hb2 f0
  have g1 := cell_keep hb2 f1
  have g2 := cell_keep hb2 hcell
  have HB2 := Lib.hid hb2
  clear hb2
  have hc3 : (n : Int) ≤ (c3 : Int) := by have := HC3.out; omega
  have hc3' : n ≤ c3 := by have := HC3.out; omega
  have hst := TakesAt.start (w := w) (op := op) (lv := lv) (wr := (w.alloc (.cells #[.int .i64 sorts, .slice (some ⟨b, o, none⟩) ops.length c] 25)).alloc (.cells #[.int .i64 (op : Int), .int .i64 lv, .slice none 0 0] 143)) (b := w.heap.size + 1)
    ((congrArg (fun i => ((w.alloc (.cells #[.int .i64 sorts, .slice (some ⟨b, o, none⟩) ops.length c] 25)).alloc (.cells #[.int .i64 (op : Int), .int .i64 lv, .slice none 0 0] 143)).heap[i]?) (by simp)).trans (heap_alloc_new (w.alloc (.cells #[.int .i64 sorts, .slice (some ⟨b, o, none⟩) ops.length c] 25)) _)) (HB1.out.trans (HB2.out.mono (by simp))) (by omega)
  have HST := Lib.hid hst
  have HF := Lib.hid (And.intro f0 (And.intro f1 hcell))
  clear hst
  go_enter Try.func120, Try.ntmps120
  go_wp2
  clear f0 f1 hcell g0 g1 g2 hx
  go_loopw [3, 14, 15, 16, 17, 43] (fun r3 s14 t15 b16 k17 i43 wr => ∃ (k : Nat) (tv : Value) (ts : List Tm) (rk : List Int), k ≤ n ∧ i43 = .int .i64 k ∧ SufOf (.slice A3 r.length c4) r3 r rk ∧ argsM (firstM ⟨sorts, ops⟩ vars f) (row.dropLast.take k) r = some (ts, rk) ∧ TakesAt w wr (w.heap.size + 1) op lv tv ts ∧ Below (w.heap.size + 1) (w.alloc (.cells #[.int .i64 sorts, .slice (some ⟨b, o, none⟩) ops.length c] 25)) wr) (fun _ _ _ _ _ i _ => n - (intOf i).toNat)
  case atStart => exact ⟨0, _, [], r, Nat.zero_le _, rfl, SufOf.refl HV3.out, rfl, HST.out, HB2.out.mono (by simp)⟩
  case round =>
    obtain ⟨k, tv, ts, rk, hk, rfl, hrk, harg, htk, hbw⟩ := hrel
    have hbw' : Below (w.alloc (.cells #[.int .i64 sorts, .slice (some ⟨b, o, none⟩) ops.length c] 25)).heap.size (w.alloc (.cells #[.int .i64 sorts, .slice (some ⟨b, o, none⟩) ops.length c] 25)) wr := by simpa using hbw
    have f0 := cell_keep hbw' HF.out.1
    have f1 := cell_keep hbw' HF.out.2.1
    have HBW := Lib.hid hbw'
    have HARG := Lib.hid harg
    have HTK := Lib.hid htk
    have HSUF := Lib.hid hrk
    have HRK := Lib.hid (hrk.2 _ (HV3.out.keep hbw'))
    obtain ⟨A5, c5, rfl⟩ := hrk.1
    have hkl := (args_shorter harg).2
    rw [List.length_take, List.length_dropLast] at hkl
    have HKL := Lib.hid (show ts.length = k by omega)
    have hwsz := htk.bel.size
    clear hbw hbw' harg htk hrk HST hkl
    by_cases hlt : k < n
    · obtain ⟨b2, o2, c6, e, hx⟩ := (HRI.out.keep HBW.out).at_ (k := k) (by omega)
      cases e
      have hstep := argsM_step (ss := row.dropLast) (by rw [List.length_dropLast]; omega) HARG.out
      rw [List.getElem_dropLast] at hstep
      generalize row[k]'(by omega) = x at hx hstep
      have HSTEP := Lib.hid hstep
      clear hstep
      have hlt' : (k : Int) < (n : Int) := by omega
      go_wp2_with fail
      refine (HIH.out rk _ _ _ _ (Nat.le_trans (args_shorter HARG.out).1 hr) (args_small HARG.out HSM.out) (hHS.out.keep HBW.out) (HV2.out.keep HBW.out) HRK.out).mono ?_
      rintro e w2 ⟨hm, hb⟩
      have HB := Lib.hid hb
      clear hb
      cases hf : firstM ⟨sorts, ops⟩ vars f rk with
      | none =>
        rw [hf] at hm
        simp only at hm
        subst hm
        have HFN := Lib.hid hf
        clear hf
        go_wp2
        refine bodyPost_ret (v := .tuple #[.nilIface, .slice none 0 0, .bool false]) (by simp [results, Try.results120, go_sem]) rfl ?_
        have h := HSTEP.out
        rw [HFN.out] at h
        rw [HN.out, argsM_take_none h]
        exact ⟨rfl, HTK.out.bel.trans (HB.out.mono HTK.out.bel.size)⟩
      | some q =>
        obtain ⟨t, rb⟩ := q
        rw [hf] at hm
        simp only at hm
        obtain ⟨u, bv, rfl, hu, hbv⟩ := hm
        have HFS := Lib.hid hf
        have HU := Lib.hid hu
        have HBV := Lib.hid hbv
        obtain ⟨A6, c7, rfl⟩ := hbv.1
        clear hf hbv
        obtain ⟨T, y, fid, rfl, hms, hcf, hsc⟩ := hu.sorts
        have HSC := Lib.hid hsc
        clear hu hsc
        go_wp2_with fail
        refine (HSC.out _).mono ?_
        rintro e w3 ⟨rfl, hb3⟩
        have HB3 := Lib.hid (HB.out.trans (hb3.mono HB.out.size))
        have HU3 := Lib.hid (HU.out.below hb3)
        have f03 := cell_keep HB3.out f0
        have f13 := cell_keep HB3.out f1
        clear hb3 hms hcf HSC f0 f1 hx
        by_cases hts : t.sort = x
        · subst hts
          have h := HSTEP.out
          rw [HFS.out] at h
          simp only [if_true] at h
          have HNEXT := Lib.hid h
          clear h
          obtain ⟨us, hus, hrt⟩ := HTK.out.own
          obtain ⟨A9, c9, rfl, -⟩ := own_reads hus
          have HOWN := Lib.hid hus
          have HRT := Lib.hid hrt
          have hbox := (HB3.out.block _ (Array.getElem?_eq_some_iff.1 HTK.out.box).1).trans HTK.out.box
          have e2 := at_blk hbox 2
          simp at e2
          have hown3 := (own_keep HOWN.out HB3.out).alloc (.cells #[.iface T y] 94)
          rw [HKL.out] at hown3 e2
          have e3 := at_free hbox 2
          have f3 : (w3.alloc (.cells #[.iface T y] 94)).cell? ⟨w3.heap.size, 0, none⟩ = some (.iface T y) := by
            rw [World.cell?_alloc_at _ _ _ _ rfl]; rfl
          have hsz3 := HB3.out.size
          have hbl2 := (Array.getElem?_eq_some_iff.1 HTK.out.box).1
          clear hus hrt hbox
          go_wp2_with (at_builtin; refine wpList_append_lies _ rfl _ _ 141 rfl (w.heap.size + 1 + 1) 94 i0 .nilIface 1 16 Try.underlying141 hi0 hz0 hz1 hz2 rfl (by decide) _ _ _ rfl hown3 ⟨w3.heap.size, 0, none⟩ 1 1 [.iface T y] rfl rfl ?c1 ?c2 (by decide) ?c3 ?c4 ?c5 _ rfl ?_)
          case c1 => intro j u hj; match j, hj with | 0, hj => simp at hj; subst hj; simp [Addr.add]
          case c2 => intro u hu; simp at hu; subst hu; rfl
          case c3 => rw [maxLen_eq]; omega
          case c4 => omega
          case c5 => simp; omega
          intro g cap w4 hown4 hgrow4 hlies hlt4
          rw [← HKL.out] at hown4 hgrow4 hlies
          obtain ⟨hbox4, hnext⟩ := HTK.out.push HB3.out (HU3.out.keep fun x hx hl => ⟨by have := HB.out.size; omega, rfl⟩) HOWN.out HRT.out hown4 hgrow4 (by simpa using hlies)
          rw [HKL.out] at hbox4
          have hbel4 := Lib.hid (((((HBW.out.mono (show w.heap.size + 1 ≤ _ by simp)).trans (HB3.out.mono (by omega))).alloc (by omega) (.cells #[.iface T y] 94)).grown hgrow4 (by simp; omega) (fun k e => by have := own_lt HOWN.out k e; omega)).setCell (p := ⟨w.heap.size + 1, 2, none⟩) (Nat.le_refl _) (.slice (some ⟨g, 0, none⟩) (ts.length + 1) cap))
          have HNX := Lib.hid hnext
          have e4 := at_blk hbox4 2
          have e5 := at_free hbox4 2
          simp at e4
          clear hbox4 hnext hown4 hgrow4 hlies hown3 f3 e2 e3 f03 f13
          rw [HKL.out] at hbel4 HNX
          go_wp2
          go_roundw
          case rel => exact ⟨k + 1, _, ts ++ [t], rb, by omega, by go_num, HSUF.out.trans HBV.out, HNEXT.out, HNX.out, hbel4.out⟩
          case measure => simp [intOf]; omega
        · have h := HSTEP.out
          rw [HFS.out] at h
          simp only [if_neg hts] at h
          have HNONE := Lib.hid (argsM_take_none h)
          clear h
          generalize t.sort = q at hts ⊢
          go_wp2
          refine bodyPost_ret (v := .tuple #[.nilIface, .slice none 0 0, .bool false]) (by simp [results, Try.results120, go_sem]) rfl ?_
          rw [HN.out, HNONE.out]
          exact ⟨rfl, HTK.out.bel.trans (HB3.out.mono hwsz)⟩
    · have hkn : k = n := by omega
      have h := HARG.out
      rw [take_all (by rw [List.length_dropLast]; omega)] at h
      have HARG2 := Lib.hid h
      have hbox := HTK.out.box
      have e0 := at_blk hbox 0
      have e1 := at_blk hbox 1
      have e2 := at_blk hbox 2
      simp at e0 e1 e2
      clear h hbox
      go_wp2
      refine bodyPost_ret (v := .tuple #[.iface 143 (.agg #[.int .i64 (op : Int), .int .i64 lv, tv]), .slice A5 rk.length c5, .bool true]) (by simp [results, Try.results120, go_sem]) rfl ?_
      rw [HN.out, HARG2.out]
      exact ⟨⟨_, _, rfl, HTK.out.done, HSUF.out⟩, HTK.out.bel⟩
end

section
open Go.RowKit
set_option linter.unusedVariables false

theorem firstM_op {s : MSig} {vars : List Int} {f : Nat} {n : Int} {rest : List Int} (h : 0 ≤ n ∧ n < s.ops.length) : firstM s vars (f + 1) (n :: rest) = nodeM s vars f n.toNat rest := by
  simp only [firstM, nodeM]; rw [if_pos h]; rfl
theorem firstM_bad {s : MSig} {vars : List Int} {f : Nat} {n : Int} {rest : List Int} (h : ¬ (0 ≤ n ∧ n < s.ops.length)) (h2 : ¬ (100 ≤ n ∧ n < 100 + vars.length)) : firstM s vars (f + 1) (n :: rest) = none := by
  simp only [firstM]; rw [if_neg h, if_neg h2]
theorem firstM_letter {s : MSig} {vars : List Int} {f : Nat} {n : Int} {rest : List Int} (h : ¬ (0 ≤ n ∧ n < s.ops.length)) (h2 : 100 ≤ n ∧ n < 100 + vars.length) : firstM s vars (f + 1) (n :: rest) = some (.leaf (n - 100).toNat (vars.getD (n - 100).toNat 0), rest) := by
  simp only [firstM]; rw [if_neg h, if_pos h2]
theorem firstM_nil {s : MSig} {vars : List Int} {f : Nat} : firstM s vars f [] = none := by cases f <;> rfl

theorem tail_addr {c : Nat} {x y : Addr} {A : Option Addr} (h : (if c = 1 then some x else some y) = A) : A = some y ∨ c - 1 = 0 := by
  by_cases hc : c = 1
  · right; omega
  · left; rw [← h, if_neg hc]

set_option maxRecDepth 100000 in
theorem first_empty (s : MSig) (vars : List Int) (f : Nat) (w : World) (v vv rv : Value) (h1 : RSig w v s) (h2 : RInts w vv vars) (h3 : RInts w rv []) :
    Calls Try.prog 76 #[v, vv, rv] w (ReadPost rv [] (firstM s vars f []) w) := by
  obtain ⟨u, rfl, hrr⟩ := h1
  obtain ⟨sorts, ops⟩ := s
  obtain ⟨A, c, rfl, -⟩ := hrr.form
  obtain ⟨A2, c2, rfl, -⟩ := h2.form
  obtain ⟨A3, c4, rfl, -⟩ := h3.form
  rw [firstM_nil]
  have HB := Lib.hid (below_alloc w (.cells #[.int .i64 sorts, .slice A ops.length c] 25))
  clear hrr h2 h3
  go_enter Try.func76, Try.ntmps76
  go_wp2
  refine bodyPost_ret (v := .tuple #[.nilIface, .slice none 0 0, .bool false]) (by simp [results, Try.results76, go_sem]) rfl ?_
  exact ⟨rfl, HB.out⟩

set_option maxHeartbeats 800000 in
set_option maxRecDepth 100000 in
theorem first_step (s : MSig) (vars : List Int) (hv : varsB s vars = true) (f : Nat) (ih : FirstAt s vars f) (n : Int) (rest : List Int) (w : World) (v vv rv : Value) (hr : rest.length ≤ f) (hsm : Small (n :: rest)) (h1 : RSig w v s) (h2 : RInts w vv vars) (h3 : RInts w rv (n :: rest)) :
    Calls Try.prog 76 #[v, vv, rv] w (ReadPost rv (n :: rest) (firstM s vars (f + 1) (n :: rest)) w) := by
  obtain ⟨u, rfl, hrr⟩ := h1
  obtain ⟨sorts, ops⟩ := s
  have hnb : n ≤ 9223372036854775807 := hsm n (List.mem_cons_self ..)
  have HSM := Lib.hid hsm
  clear hsm
  have hops := (valid_sorts (vars_valid hv).1).2.2
  have hvl := (vars_valid hv).2.1
  simp only at hops
  obtain ⟨A, c, rfl, -⟩ := hrr.form
  have hb1 := below_alloc w (.cells #[.int .i64 sorts, .slice A ops.length c] 25)
  have hbx := box_cells w (.int .i64 sorts) (.slice A ops.length c) 25
  have HS := Lib.hid (show RSig (w.alloc (.cells #[.int .i64 sorts, .slice A ops.length c] 25)) (.agg #[.int .i64 sorts, .slice A ops.length c]) ⟨sorts, ops⟩ from ⟨_, rfl, hrr.keep hb1⟩)
  have HV2 := Lib.hid (h2.keep hb1)
  have HV3 := Lib.hid (h3.keep hb1)
  have hlen3 := h3.len
  obtain ⟨b, o, c4, rfl, hx⟩ := (h3.keep hb1).at_ (k := 0) (by simp)
  obtain ⟨A', c4', e, hcl, hcm⟩ := h3.form
  cases e
  simp only [List.length_cons, List.getElem_cons_zero, Nat.add_zero] at hx hcl hlen3
  obtain ⟨A2, c2, rfl, -⟩ := h2.form
  have HB1 := Lib.hid hb1
  have f0 := hbx.1
  have f1 := hbx.2
  have hz : ((rest.length : Int) + 1 == 0) = false := by rw [beq_eq_false_iff_ne]; omega
  simp only [List.length_cons]
  by_cases c0 : n < 0
  · have HN := Lib.hid (firstM_bad (s := ⟨sorts, ops⟩) (vars := vars) (f := f) (rest := rest) (n := n) (by simp only; omega) (by omega))
    clear h2 h3 hrr hb1 hbx
    go_enter Try.func76, Try.ntmps76
    go_wp2
    refine bodyPost_ret (v := .tuple #[.nilIface, .slice none 0 0, .bool false]) (by simp [results, Try.results76, go_sem]) rfl ?_
    rw [HN.out]
    exact ⟨rfl, HB1.out⟩
  clear hb1 hbx hrr h3
  by_cases c1 : n < (ops.length : Int)
  · have HN := Lib.hid (firstM_op (s := ⟨sorts, ops⟩) (vars := vars) (f := f) (rest := rest) (n := n) ⟨by omega, c1⟩)
    clear h2
    obtain ⟨k, rfl⟩ := Int.eq_ofNat_of_zero_le (show 0 ≤ n by omega)
    go_enter Try.func76, Try.ntmps76
    go_wp2_with fail
    have hcc : (1 : Int) ≤ (c4 : Int) := by omega
    go_quiet (fail)
    generalize hA5 : (if c4 = 1 then (some (⟨b, o, none⟩ : Addr)) else some ⟨b, o + 1, none⟩) = A5
    have HSUF := Lib.hid (SufOf.tail (b := b) (o := o) (c := c4) (n := (k : Int)) (rest := rest) (A := A5) (tail_addr hA5))
    clear hA5
    go_wp2_with fail
    have HR5 := Lib.hid (HSUF.out.2 _ HV3.out)
    have hbq := below_drewN (Below.refl (w.alloc (.cells #[.int .i64 sorts, .slice A ops.length c] 25)).heap.size (w.alloc (.cells #[.int .i64 sorts, .slice A ops.length c] 25))) nq
    refine (opWithTerms_any ⟨sorts, ops⟩ vars hv f ih k (by simp only; omega) rest _ _ _ _ hr (fun x hx => HSM.out x (List.mem_cons_of_mem _ hx)) (HS.out.keep hbq) (HV2.out.keep hbq) (HR5.out.keep hbq)).mono ?_
    rintro e w2 ⟨hm, hb⟩
    have HBF := Lib.hid (HB1.out.trans ((below_drewN (Below.refl _ _) nq).trans hb |>.mono (by simp)))
    cases hf : nodeM ⟨sorts, ops⟩ vars f k rest with
    | none =>
      rw [hf] at hm
      simp only at hm
      subst hm
      have HFN := Lib.hid hf
      clear hf hb hbq
      go_wp2
      refine bodyPost_ret (v := .tuple #[.nilIface, .slice none 0 0, .bool false]) (by simp [results, Try.results76, go_sem]) rfl ?_
      rw [HN.out, Int.toNat_natCast, HFN.out]
      exact ⟨rfl, HBF.out⟩
    | some q =>
      obtain ⟨t, rb⟩ := q
      rw [hf] at hm
      simp only at hm
      obtain ⟨u, bv, rfl, hu, hbv⟩ := hm
      have HFS := Lib.hid hf
      have HU := Lib.hid hu
      have HBV := Lib.hid hbv
      obtain ⟨T, y, fid, rfl, -⟩ := hu.sorts
      obtain ⟨A6, c7, rfl⟩ := hbv.1
      clear hf hbv hb hbq hu
      go_wp2
      refine bodyPost_ret (v := .tuple #[.iface T y, .slice A6 rb.length c7, .bool true]) (by simp [results, Try.results76, go_sem]) rfl ?_
      rw [HN.out, Int.toNat_natCast, HFS.out]
      exact ⟨⟨_, _, rfl, HU.out.keep fun x hx _ => ⟨by simp at hx; omega, rfl⟩, HSUF.out.trans HBV.out⟩, HBF.out⟩
  · by_cases c2 : 100 ≤ n ∧ n < 100 + (vars.length : Int)
    · have HN := Lib.hid (firstM_letter (s := ⟨sorts, ops⟩) (vars := vars) (f := f) (rest := rest) (n := n) (by simp only; omega) c2)
      obtain ⟨k, rfl⟩ : ∃ k : Nat, n = 100 + (k : Int) := ⟨(n - 100).toNat, by omega⟩
      obtain ⟨hv2, hv3⟩ := c2
      have hk : k < vars.length := by omega
      obtain ⟨b6, o6, c6, e, hy⟩ := HV2.out.at_ hk
      cases e
      rw [show ((100 : Int) + (k : Int) - 100).toNat = k by omega, getD_at _ hk] at HN
      generalize vars[k] = y at hy HN
      go_enter Try.func76, Try.ntmps76
      go_wp2_with fail
      have hcc : (1 : Int) ≤ (c4 : Int) := by omega
      go_quiet (fail)
      generalize hA5 : (if c4 = 1 then (some (⟨b, o, none⟩ : Addr)) else some ⟨b, o + 1, none⟩) = A5
      have HSUF := Lib.hid (SufOf.tail (b := b) (o := o) (c := c4) (n := 100 + (k : Int)) (rest := rest) (A := A5) (tail_addr hA5))
      clear hA5
      have HBF := Lib.hid (below_drewN HB1.out nq)
      go_wp2
      refine bodyPost_ret (v := .tuple #[.iface 140 (.agg #[.int .i64 (100 + (k : Int) - 100), .int .i64 y]), .slice A5 rest.length (c4 - 1), .bool true]) (by simp [results, Try.results76, go_sem]) rfl ?_
      rw [HN.out]
      exact ⟨⟨_, _, rfl, by unfold RTerm; rw [show (100 : Int) + (k : Int) - 100 = (k : Int) by omega], HSUF.out⟩, HBF.out⟩
    · have HN := Lib.hid (firstM_bad (s := ⟨sorts, ops⟩) (vars := vars) (f := f) (rest := rest) (n := n) (by simp only; omega) c2)
      by_cases c3 : n < 100
      · go_enter Try.func76, Try.ntmps76
        go_wp2_with fail
        have hcc : (1 : Int) ≤ (c4 : Int) := by omega
        go_quiet (fail)
        generalize hA5 : (if c4 = 1 then (some (⟨b, o, none⟩ : Addr)) else some ⟨b, o + 1, none⟩) = A5
        clear hA5
        have HBF := Lib.hid (below_drewN HB1.out nq)
        go_wp2
        refine bodyPost_ret (v := .tuple #[.nilIface, .slice none 0 0, .bool false]) (by simp [results, Try.results76, go_sem]) rfl ?_
        rw [HN.out]
        exact ⟨rfl, HBF.out⟩
      · obtain ⟨k, rfl⟩ : ∃ k : Nat, n = 100 + (k : Int) := ⟨(n - 100).toNat, by omega⟩
        have hk : (vars.length : Int) ≤ 100 + (k : Int) - 100 := by omega
        go_enter Try.func76, Try.ntmps76
        go_wp2_with fail
        have hcc : (1 : Int) ≤ (c4 : Int) := by omega
        go_quiet (fail)
        generalize hA5 : (if c4 = 1 then (some (⟨b, o, none⟩ : Addr)) else some ⟨b, o + 1, none⟩) = A5
        clear hA5
        have HBF := Lib.hid (below_drewN HB1.out nq)
        go_wp2
        refine bodyPost_ret (v := .tuple #[.nilIface, .slice none 0 0, .bool false]) (by simp [results, Try.results76, go_sem]) rfl ?_
        rw [HN.out]
        exact ⟨rfl, HBF.out⟩

theorem first_any (s : MSig) (vars : List Int) (hv : varsB s vars = true) : ∀ f, FirstAt s vars f := by
  intro f
  induction f with
  | zero =>
    intro r w v vv rv hr hsm h1 h2 h3
    obtain rfl := List.eq_nil_of_length_eq_zero (Nat.le_zero.1 hr)
    exact first_empty s vars 0 w v vv rv h1 h2 h3
  | succ f ih =>
    intro r w v vv rv hr hsm h1 h2 h3
    cases r with
    | nil => exact first_empty s vars _ w v vv rv h1 h2 h3
    | cons n rest => exact first_step s vars hv f ih n rest w v vv rv (by simpa using hr) hsm h1 h2 h3

def TermPost (res : Option Tm) (w : World) (e : Ending) (w' : World) : Prop :=
  (match res with
    | some tm => ∃ u, e = .returned (.tuple #[u, .bool true]) ∧ RTerm w' (fun x => w.heap.size ≤ x) u tm
    | none => e = .returned (.tuple #[.nilIface, .bool false])) ∧ Below w.heap.size w w'
theorem termM_no {s : MSig} {vars t : List Int} (h : ¬ (varsB s vars = true ∧ t.length ≤ 30)) : termM s vars t = none := by unfold termM; rw [if_neg h]
theorem termM_yes {s : MSig} {vars t : List Int} (h : varsB s vars = true) (h2 : t.length ≤ 30) : termM s vars t = match firstM s vars 30 t with
    | some (tm, []) => some tm
    | _ => none := by
  unfold termM
  rw [if_pos ⟨h, h2⟩]
  cases firstM s vars 30 t with
  | none => rfl
  | some q => obtain ⟨tm, b⟩ := q; cases b <;> rfl

set_option maxRecDepth 100000 in
theorem termOf_any (s : MSig) (vars t : List Int) (w : World) (v vv tv : Value) (hsm : Small t) (h1 : RSig w v s) (h2 : RInts w vv vars) (h3 : RInts w tv t) :
    Calls Try.prog 69 #[v, vv, tv] w (TermPost (termM s vars t) w) := by
  obtain ⟨u, rfl, hrr⟩ := h1
  obtain ⟨sorts, ops⟩ := s
  obtain ⟨A, c, rfl, -⟩ := hrr.form
  have hb1 := below_alloc w (.cells #[.int .i64 sorts, .slice A ops.length c] 25)
  have hbx := Lib.hid (box_cells w (.int .i64 sorts) (.slice A ops.length c) 25)
  have HS := Lib.hid (show RSig (w.alloc (.cells #[.int .i64 sorts, .slice A ops.length c] 25)) (.agg #[.int .i64 sorts, .slice A ops.length c]) ⟨sorts, ops⟩ from ⟨_, rfl, hrr.keep hb1⟩)
  have HV2 := Lib.hid (h2.keep hb1)
  have HV3 := Lib.hid (h3.keep hb1)
  have hlen := h3.len
  obtain ⟨A2, c2, rfl, -⟩ := h2.form
  obtain ⟨A3, c3, rfl, -⟩ := h3.form
  have HB1 := Lib.hid hb1
  clear hrr h2 h3 hb1
  cases hv : varsB ⟨sorts, ops⟩ vars with
  | false =>
    have HN := Lib.hid (termM_no (s := ⟨sorts, ops⟩) (vars := vars) (t := t) (by rw [hv]; simp))
    have HV := Lib.hid hv
    clear hv
    go_enter Try.func69, Try.ntmps69
    go_wp2_with (go_at_call 118; refine (varsOk_any _ _ ⟨sorts, ops⟩ vars _ HS.out HV2.out).mono ?_; rw [HV.out]; rintro e w1 ⟨rfl, hb⟩)
    refine bodyPost_ret (v := .tuple #[.nilIface, .bool false]) (by simp [results, Try.results69, go_sem]) rfl ?_
    rw [HN.out]
    exact ⟨rfl, HB1.out.trans (hb.mono (by simp))⟩
  | true =>
    by_cases hl : 30 < (t.length : Int)
    · have HN := Lib.hid (termM_no (s := ⟨sorts, ops⟩) (vars := vars) (t := t) (by omega))
      have HV := Lib.hid hv
      clear hv
      go_enter Try.func69, Try.ntmps69
      go_wp2_with (go_at_call 118; refine (varsOk_any _ _ ⟨sorts, ops⟩ vars _ HS.out HV2.out).mono ?_; rw [HV.out]; rintro e w1 ⟨rfl, hb⟩)
      refine bodyPost_ret (v := .tuple #[.nilIface, .bool false]) (by simp [results, Try.results69, go_sem]) rfl ?_
      rw [HN.out]
      exact ⟨rfl, HB1.out.trans (hb.mono (by simp))⟩
    · have HN := Lib.hid (termM_yes hv (t := t) (by omega))
      have HV := Lib.hid hv
      clear hv
      have hl3 : (t.length : Int) ≤ 30 := by omega
      go_enter Try.func69, Try.ntmps69
      go_wp2_with (go_at_call 118; refine (varsOk_any _ _ ⟨sorts, ops⟩ vars _ HS.out HV2.out).mono ?_; rw [HV.out]; rintro e w1 ⟨rfl, hb⟩; have f0 := cell_keep hb hbx.out.1; have f1 := cell_keep hb hbx.out.2; have HB := Lib.hid hb; clear hb)
      refine (first_any ⟨sorts, ops⟩ vars HV.out 30 t _ _ _ _ (by omega) hsm (HS.out.keep HB.out) (HV2.out.keep HB.out) (HV3.out.keep HB.out)).mono ?_
      rintro e w2 ⟨hm, hb2⟩
      have s1 := HB.out.size
      simp at s1
      have HBF := Lib.hid ((HB1.out.trans (HB.out.mono (by simp))).trans (hb2.mono (by omega)))
      clear hb2 f0 f1
      cases hf : firstM ⟨sorts, ops⟩ vars 30 t with
      | none =>
        rw [hf] at hm
        simp only at hm
        subst hm
        have HF := Lib.hid hf
        clear hf
        go_wp2
        refine bodyPost_ret (v := .tuple #[.nilIface, .bool false]) (by simp [results, Try.results69, go_sem]) rfl ?_
        rw [HN.out, HF.out]
        exact ⟨rfl, HBF.out⟩
      | some q =>
        obtain ⟨tm, rb⟩ := q
        rw [hf] at hm
        simp only at hm
        obtain ⟨u, bv, rfl, hu, hbv⟩ := hm
        have HF := Lib.hid hf
        have HU := Lib.hid hu
        obtain ⟨T, y, fid, rfl, -⟩ := hu.sorts
        obtain ⟨A6, c7, rfl⟩ := hbv.1
        clear hf hbv hu
        by_cases hrb : 0 < (rb.length : Int)
        · go_wp2
          refine bodyPost_ret (v := .tuple #[.nilIface, .bool false]) (by simp [results, Try.results69, go_sem]) rfl ?_
          rw [HN.out, HF.out]
          cases rb with
          | nil => simp at hrb
          | cons x rb => exact ⟨rfl, HBF.out⟩
        · go_wp2
          refine bodyPost_ret (v := .tuple #[.iface T y, .bool true]) (by simp [results, Try.results69, go_sem]) rfl ?_
          rw [HN.out, HF.out]
          cases rb with
          | nil => exact ⟨⟨_, rfl, HU.out.keep fun x hx _ => ⟨by omega, rfl⟩⟩, HBF.out⟩
          | cons x rb => simp at hrb; omega
end

section
open Go.RowKit
set_option linter.unusedVariables false

def endV (t : List Int) : Option (Tm × List Int) → Value
  | some (tm, b) => .tuple #[.int .i64 ((t.length - b.length : Nat) : Int), .int .i64 tm.sort]
  | none => .tuple #[.int .i64 (-1), .int .i64 (-1)]
theorem endV_some (t : List Int) (tm : Tm) (b : List Int) : endV t (some (tm, b)) = .tuple #[.int .i64 ((t.length - b.length : Nat) : Int), .int .i64 tm.sort] := rfl
def EndAt (s : MSig) (vars : List Int) (f : Nat) : Prop := ∀ (t : List Int) (k : Nat) (w : World) (v vv tv : Value), (t.drop k).length ≤ f → RSig w v s → RInts w vv vars → RInts w tv t →
  Calls Try.prog 75 #[v, vv, tv, .int .i64 (k : Int)] w fun e w' => e = .returned (endV t (firstM s vars f (t.drop k))) ∧ Below w.heap.size w w'

theorem drop_rest {t x b : List Int} {e : Nat} (h : t.drop e = x ++ b) : b = t.drop (t.length - b.length) ∧ b.length ≤ t.length := by
  obtain ⟨y, rfl⟩ : ∃ y, t = y ++ b := ⟨t.take e ++ x, by rw [List.append_assoc, ← h, List.take_append_drop]⟩
  simp
theorem inB_letter {n : Int} {l : Nat} (q : Int) (hq : q = 100 + (l : Int) - 1) : inB n 100 q = decide (100 ≤ n ∧ n < 100 + (l : Int)) := by
  unfold inB; rw [← Bool.decide_and, decide_eq_decide]; omega
theorem inB_op {n : Int} {l : Nat} (q : Int) (hq : q = (l : Int) - 1) : inB n 0 q = decide (0 ≤ n ∧ n < (l : Int)) := by
  unfold inB; rw [← Bool.decide_and, decide_eq_decide]; omega

set_option maxRecDepth 100000 in
theorem end_past (s : MSig) (vars : List Int) (f : Nat) (t : List Int) (k : Nat) (w : World) (v vv tv : Value) (hk : t.length ≤ k) (h1 : RSig w v s) (h2 : RInts w vv vars) (h3 : RInts w tv t) :
    Calls Try.prog 75 #[v, vv, tv, .int .i64 (k : Int)] w fun e w' => e = .returned (endV t (firstM s vars f (t.drop k))) ∧ Below w.heap.size w w' := by
  obtain ⟨u, rfl, hrr⟩ := h1
  obtain ⟨sorts, ops⟩ := s
  obtain ⟨A, c, rfl, -⟩ := hrr.form
  obtain ⟨A2, c2, rfl, -⟩ := h2.form
  obtain ⟨A3, c4, rfl, -⟩ := h3.form
  rw [List.drop_of_length_le hk, firstM_nil]
  have HB := Lib.hid (below_alloc w (.cells #[.int .i64 sorts, .slice A ops.length c] 25))
  have hk' : (t.length : Int) ≤ (k : Int) := by omega
  clear hrr h2 h3
  go_enter Try.func75, Try.ntmps75
  go_wp2
  refine bodyPost_ret (v := .tuple #[.int .i64 (-1), .int .i64 (-1)]) (by simp [results, Try.results75, go_sem]) rfl ?_
  exact ⟨rfl, HB.out⟩

set_option maxHeartbeats 1600000 in
set_option maxRecDepth 100000 in
theorem end_step (s : MSig) (vars : List Int) (hv : varsB s vars = true) (f : Nat) (ih : EndAt s vars f) (t : List Int) (k : Nat) (w : World) (v vv tv : Value) (hk : k < t.length) (hr : (t.drop (k + 1)).length ≤ f) (h1 : RSig w v s) (h2 : RInts w vv vars) (h3 : RInts w tv t) :
    Calls Try.prog 75 #[v, vv, tv, .int .i64 (k : Int)] w fun e w' => e = .returned (endV t (firstM s vars (f + 1) (t.drop k))) ∧ Below w.heap.size w w' := by
  obtain ⟨u, rfl, hrr⟩ := h1
  obtain ⟨sorts, ops⟩ := s
  have hvs := valid_sorts (vars_valid hv).1
  have hops := hvs.2.2
  have hvl := (vars_valid hv).2.1
  simp only at hops
  obtain ⟨A, c, rfl, -⟩ := hrr.form
  have hb1 := below_alloc w (.cells #[.int .i64 sorts, .slice A ops.length c] 25)
  have hbx := box_cells w (.int .i64 sorts) (.slice A ops.length c) 25
  have HS := Lib.hid (show RSig (w.alloc (.cells #[.int .i64 sorts, .slice A ops.length c] 25)) (.agg #[.int .i64 sorts, .slice A ops.length c]) ⟨sorts, ops⟩ from ⟨_, rfl, hrr.keep hb1⟩)
  have HO := Lib.hid (hrr.keep hb1)
  have HV2 := Lib.hid (h2.keep hb1)
  have HV3 := Lib.hid (h3.keep hb1)
  have hlen3 := h3.len
  obtain ⟨b, o, c4, rfl, hx⟩ := (h3.keep hb1).at_ hk
  obtain ⟨A2, c2, rfl, -⟩ := h2.form
  rw [List.drop_eq_getElem_cons hk]
  generalize t[k] = n at hx ⊢
  have HB1 := Lib.hid hb1
  have f0 := hbx.1
  have f1 := hbx.2
  have hk' : (k : Int) < (t.length : Int) := by omega
  clear h2 h3 hrr hb1 hbx
  by_cases c1 : 100 ≤ n ∧ n < 100 + (vars.length : Int)
  · have HN := Lib.hid (firstM_letter (s := ⟨sorts, ops⟩) (vars := vars) (f := f) (rest := t.drop (k + 1)) (n := n) (by simp only; omega) c1)
    obtain ⟨m, rfl⟩ : ∃ m : Nat, n = 100 + (m : Int) := ⟨(n - 100).toNat, by omega⟩
    have hm : m < vars.length := by omega
    obtain ⟨b6, o6, c6, e, hy⟩ := HV2.out.at_ hm
    cases e
    rw [show ((100 : Int) + (m : Int) - 100).toNat = m by omega, getD_at _ hm] at HN
    generalize vars[m] = y at hy HN
    have HI := Lib.hid (show inB (100 + (m : Int)) 100 (100 + (vars.length : Int) - 1) = true by rw [inB_letter _ rfl]; simp; omega)
    go_enter Try.func75, Try.ntmps75
    go_wp2_with (go_at_call 88; refine (l1In_is _ _ _ _ _ HI.out).mono ?_; rintro e w' ⟨rfl, rfl⟩)
    have hw1 : IntKind.i64.wrap (100 + (m : Int) - 100) = (m : Int) := by rw [IntKind.wrap_i64]; omega
    have hw2 : IntKind.i64.wrap ((k : Int) + 1) = (k : Int) + 1 := by rw [IntKind.wrap_i64]; omega
    have hm0 : (0 : Int) ≤ (m : Int) := by omega
    have hm1 : (m : Int) < (vars.length : Int) := by omega
    have hk0 : (0 : Int) ≤ (k : Int) := by omega
    go_quiet (fail)
    have HBF := Lib.hid (below_drewN HB1.out nq)
    go_wp2
    refine bodyPost_ret (v := .tuple #[.int .i64 ((k : Int) + 1), .int .i64 y]) (by simp [results, Try.results75, go_sem]) rfl ?_
    rw [HN.out]
    refine ⟨?_, HBF.out⟩
    rw [endV_some, show ((t.length - (t.drop (k + 1)).length : Nat) : Int) = (k : Int) + 1 by rw [List.length_drop]; omega]
    rfl
  · have HI := Lib.hid (show inB n 100 (100 + (vars.length : Int) - 1) = false by rw [inB_letter _ rfl]; simpa using c1)
    have hk0 : (0 : Int) ≤ (k : Int) := by omega
    by_cases c2' : 0 ≤ n ∧ n < (ops.length : Int)
    · obtain ⟨op, rfl⟩ := Int.eq_ofNat_of_zero_le c2'.1
      have HJ := Lib.hid (show inB (op : Int) 0 ((ops.length : Int) - 1) = true by rw [inB_op _ rfl]; simpa using c2')
      have hop : op < ops.length := by omega
      have hrow := opRow_valid (vars_valid hv).1 (k := op) hop
      have hN : firstM ⟨sorts, ops⟩ vars (f + 1) ((op : Int) :: t.drop (k + 1)) = (match argsM (firstM ⟨sorts, ops⟩ vars f) ops[op].dropLast (t.drop (k + 1)) with
          | none => none
          | some (ts, b) => some (.node op (ops[op].getLastD (-1)) ts, b)) := by
        rw [firstM_op (s := ⟨sorts, ops⟩) c2']; unfold nodeM; rw [Int.toNat_natCast, opRow_at (s := ⟨sorts, ops⟩) hop]; try rfl
      rw [opRow_at hop] at hrow
      simp only at hrow
      obtain ⟨b2, o2, c6, u', e, hcell, hri⟩ := HO.out.at_ hop
      cases e
      generalize ops[op] = row at hcell hri hrow hN
      have hr1 := hrow.1
      have hr3 := hrow.2.1
      obtain ⟨n, hnl⟩ : ∃ n, row.length = n + 1 := ⟨row.length - 1, by omega⟩
      rw [last_at (by omega)] at hN
      obtain ⟨b', o', c3, rfl, hl⟩ := hri.at_ (k := row.length - 1) (by omega)
      generalize row[row.length - 1]'(by omega) = lv at hl hN
      rw [show row.length - 1 = n by omega] at hl
      rw [hnl] at hcell
      have HPOS := Lib.hid hrow.2.2
      have HN := Lib.hid hN
      have HRI := Lib.hid hri
      have HIH := Lib.hid ih
      have HC := Lib.hid (And.intro f0 (And.intro f1 hl))
      clear hN hri ih hv hrow
      go_enter Try.func75, Try.ntmps75
      go_wp2_with (go_at_call 88; refine (l1In_is _ _ _ _ _ HI.out).mono ?_; rintro e w' ⟨rfl, rfl⟩)
      have hw3 : IntKind.i64.wrap ((ops.length : Int) - 1) = (ops.length : Int) - 1 := by rw [IntKind.wrap_i64]; omega
      go_quiet ((go_at_call 88; exact quiet_left (l1In_is _ _ _ _ _ HJ.out)))
      go_wp2_with fail
      go_quiet (fail)
      go_wp2
      clear f0 f1 hl hcell hx hw3
      go_loopw [11, 12, 13, 14] (fun e11 j12 x13 s14 wr => ∃ (j e : Nat) (ts : List Tm), j ≤ n ∧ j12 = .int .i64 j ∧ e11 = .int .i64 e ∧ e ≤ t.length ∧ argsM (firstM ⟨sorts, ops⟩ vars f) (row.dropLast.take j) (t.drop (k + 1)) = some (ts, t.drop e) ∧ Below (w.alloc (.cells #[.int .i64 sorts, .slice (some ⟨b2, o2, none⟩) ops.length c] 25)).heap.size (w.alloc (.cells #[.int .i64 sorts, .slice (some ⟨b2, o2, none⟩) ops.length c] 25)) wr) (fun _ j _ _ _ => n - (intOf j).toNat)
      case atStart => exact ⟨0, k + 1, [], Nat.zero_le _, rfl, by go_num, by omega, rfl, by first | exact below_drewN (Below.refl _ _) _ | exact below_drewN (below_drewN (Below.refl _ _) _) _⟩
      case round =>
        obtain ⟨j, e, ts, hj, rfl, rfl, he, harg, hbw⟩ := hrel
        have f0 := cell_keep hbw HC.out.1
        have f1 := cell_keep hbw HC.out.2.1
        have f2 := cell_keep hbw HC.out.2.2
        have HBW := Lib.hid hbw
        have HARG := Lib.hid harg
        clear hbw harg
        by_cases hlt : j < n
        · obtain ⟨b7, o7, c8, e', hx⟩ := (HRI.out.keep HBW.out).at_ (k := j) (by omega)
          cases e'
          have hstep := argsM_step (ss := row.dropLast) (by rw [List.length_dropLast]; omega) HARG.out
          rw [List.getElem_dropLast] at hstep
          have hx0 := (HPOS.out _ (List.getElem_mem (show j < row.length by omega))).1
          generalize row[j]'(by omega) = x at hx hstep hx0
          have HSTEP := Lib.hid hstep
          clear hstep
          have hlt' : (j : Int) + 1 < (n : Int) + 1 := by omega
          go_wp2_with fail
          refine (HIH.out t e _ _ _ _ (Nat.le_trans (args_shorter HARG.out).1 hr) (HS.out.keep HBW.out) (HV2.out.keep HBW.out) (HV3.out.keep HBW.out)).mono ?_
          rintro e' w2 ⟨rfl, hb⟩
          have HB := Lib.hid hb
          have f00 := cell_keep hb f0
          have f01 := cell_keep hb f1
          have f02 := cell_keep hb f2
          have hx2 := cell_keep hb hx
          clear hb f0 f1 f2 hx
          cases hf : firstM ⟨sorts, ops⟩ vars f (t.drop e) with
          | none =>
            have HFN := Lib.hid hf
            clear hf
            have hne : (-1 : Int) ≠ x := by omega
            unfold endV
            go_wp2
            refine bodyPost_ret (v := .tuple #[.int .i64 (-1), .int .i64 (-1)]) (by simp [results, Try.results75, go_sem]) rfl ?_
            have h := HSTEP.out
            rw [HFN.out] at h
            rw [HN.out, argsM_take_none h]
            exact ⟨rfl, HB1.out.trans ((HBW.out.trans (HB.out.mono HBW.out.size)).mono HB1.out.size)⟩
          | some q =>
            obtain ⟨tm, rb⟩ := q
            rw [endV_some]
            obtain ⟨hd1, hd2⟩ := drop_rest (firstM_sound _ _ _ _ hf).1
            have HFS := Lib.hid hf
            clear hf
            by_cases hts : tm.sort = x
            · subst hts
              have h := HSTEP.out
              rw [HFS.out] at h
              simp only [if_true] at h
              rw [hd1] at h
              have HNEXT := Lib.hid h
              have HBN := Lib.hid (HBW.out.trans (HB.out.mono HBW.out.size))
              clear h hd1
              have he2 : t.length - rb.length ≤ t.length := by omega
              generalize t.length - rb.length = e2 at HNEXT he2 ⊢
              go_wp2
              go_roundw
              case rel => exact ⟨j + 1, e2, ts ++ [tm], by omega, by go_num, rfl, he2, HNEXT.out, HBN.out⟩
              case measure => simp [intOf]; omega
            · have h := HSTEP.out
              rw [HFS.out] at h
              simp only [if_neg hts] at h
              have HNONE := Lib.hid (argsM_take_none h)
              clear h hd1 hd2
              generalize tm.sort = q at hts ⊢
              go_wp2
              refine bodyPost_ret (v := .tuple #[.int .i64 (-1), .int .i64 (-1)]) (by simp [results, Try.results75, go_sem]) rfl ?_
              rw [HN.out, HNONE.out]
              exact ⟨rfl, HB1.out.trans ((HBW.out.trans (HB.out.mono HBW.out.size)).mono HB1.out.size)⟩
        · have hjn : ¬ (j : Int) + 1 < (n : Int) + 1 := by omega
          have h := HARG.out
          rw [take_all (by rw [List.length_dropLast]; omega)] at h
          have HARG2 := Lib.hid h
          clear h
          go_wp2_with fail
          have hw4 : IntKind.i64.wrap ((n : Int) + 1 - 1) = (n : Int) := by rw [IntKind.wrap_i64]; omega
          go_quiet (fail)
          go_wp2
          refine bodyPost_ret (v := .tuple #[.int .i64 (e : Int), .int .i64 lv]) (by simp [results, Try.results75, go_sem]) rfl ?_
          rw [HN.out, HARG2.out]
          refine ⟨?_, below_drewN (HB1.out.trans (HBW.out.mono HB1.out.size)) _⟩
          simp only
          rw [endV_some, show ((t.length - (t.drop e).length : Nat) : Int) = (e : Int) by rw [List.length_drop]; omega]
          rfl
    · have HN := Lib.hid (firstM_bad (s := ⟨sorts, ops⟩) (vars := vars) (f := f) (rest := t.drop (k + 1)) (n := n) c2' c1)
      have HJ := Lib.hid (show inB n 0 ((ops.length : Int) - 1) = false by rw [inB_op _ rfl]; simpa using c2')
      go_enter Try.func75, Try.ntmps75
      go_wp2_with (go_at_call 88; refine (l1In_is _ _ _ _ _ HI.out).mono ?_; rintro e w' ⟨rfl, rfl⟩)
      have hw3 : IntKind.i64.wrap ((ops.length : Int) - 1) = (ops.length : Int) - 1 := by rw [IntKind.wrap_i64]; omega
      go_quiet ((go_at_call 88; exact quiet_left (l1In_is _ _ _ _ _ HJ.out)))
      have HBF := Lib.hid (below_drewN HB1.out nq)
      go_wp2
      refine bodyPost_ret (v := .tuple #[.int .i64 (-1), .int .i64 (-1)]) (by simp [results, Try.results75, go_sem]) rfl ?_
      rw [HN.out]
      exact ⟨rfl, HBF.out⟩

theorem end_any (s : MSig) (vars : List Int) (hv : varsB s vars = true) : ∀ f, EndAt s vars f := by
  intro f
  induction f with
  | zero =>
    intro t k w v vv tv hr h1 h2 h3
    rw [List.length_drop] at hr
    exact end_past s vars 0 t k w v vv tv (by omega) h1 h2 h3
  | succ f ih =>
    intro t k w v vv tv hr h1 h2 h3
    by_cases hk : k < t.length
    · exact end_step s vars hv f ih t k w v vv tv hk (by rw [List.length_drop] at hr ⊢; omega) h1 h2 h3
    · exact end_past s vars _ t k w v vv tv (by omega) h1 h2 h3
end
end Go.Proofs.Ytbopcghbmbchkab
