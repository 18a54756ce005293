/- A local struct of which a list of rows is filled by append. No walk. -/
import Derived.Test.YteccjnnhihbdhabLoc
import Derived.Test.YteccjnnhihbdhabAt
namespace Go.Proofs.Yteccjnnhihbdhab
open Go.RowKit
set_option linter.unusedVariables false

/-- one row more; w6: ahead of the append's one-place slice; rv: the new row, in a block of its own -/
theorem ORows.pushNew5 {wr w6 w7 : World} {B : Nat} {u v' rv : Value} {rows : List (List Int)} {row : List Int} {us : List Value} (hB : B ≤ wr.heap.size) (hb : Below wr.heap.size wr w6) (hr : OInts w6 wr.heap.size rv row)
    (h1 : wr.ownsRow B 25 1 u rows.length us) (h2 : us.length = rows.length)
    (h3 : ∀ (j : Nat) (u : Value) (row : List Int), us[j]? = some u → rows[j]? = some row → OInts wr B u row) (h4 : ∀ (i j : Nat) (u u' : Value), i < j → us[i]? = some u → us[j]? = some u' → u.ownBlock = none ∨ u.ownBlock ≠ u'.ownBlock)
    (hv' : w7.ownsRow B 25 1 v' (rows.length + 1) (us ++ [rv])) (hg : (w6.alloc (.cells #[rv] 25)).grownBy w7 u.ownBlock) : ORows w7 B v' (rows ++ [row]) := by
  refine ORows.push (w := w6.alloc (.cells #[rv] 25)) ((own_keep h1 hb).alloc _) h2 (fun j x r a b => World.ownsRow.alloc (own_keep (h3 j x r a b) hb) _) h4 (World.ownsRow.alloc (OInts.base hr hB) _) (fun i x hx => ?_) hg hv'
  have hi : i < us.length := (List.getElem?_eq_some_iff.1 hx).1
  have hxo := h3 i x rows[i] hx (List.getElem?_eq_getElem (by omega))
  cases hbx : x.ownBlock with
  | none => exact .inl rfl
  | some k =>
    right
    intro e
    have a := (own_lt hxo k hbx).2
    have b := (own_lt hr k e.symm).1
    omega
theorem news_one5 (w : World) (x : Value) (t : TypeId) : ∀ (j : Nat) (u : Value), [x][j]? = some u → (w.alloc (.cells #[x] t)).cell? ((⟨w.heap.size, 0, none⟩ : Addr).add j) = some u := by
  intro j u hj
  match j, hj with
  | 0, hj =>
    simp at hj
    subst hj
    rw [show (⟨w.heap.size, 0, none⟩ : Addr).add 0 = ⟨w.heap.size, 0, none⟩ from rfl, World.cell?_alloc_at _ _ _ _ rfl]
    rfl
theorem rows_one5 {A : Option Addr} {n c : Nat} (x : Value) (hx : x = .slice A n c := by rfl) : ∀ u ∈ [x], u.oneCell' = true := by
  intro u hu; simp at hu; subst hu; subst hx; rfl

theorem bel_grow5 {w w2 : World} {o : Obj} {A : Option Addr} {n c : Nat} (h : (w.alloc o).grownBy w2 (Value.slice A n c).ownBlock) (hr : ∀ k, (Value.slice A n c).ownBlock = some k → w.heap.size ≤ k) : Below w.heap.size w w2 :=
  (below_alloc w o).trans ⟨h.os, h.tape, h.output, h.size, fun k hk => h.block k (Nat.lt_of_lt_of_le hk (by simp)) (fun e => by have := hr k e.symm; omega)⟩

/-- the struct's box lies at lb, ahead of wv; of it the list of rows u is being filled -/
structure LocR (T : TypeId) (wv wr : World) (lb : Nat) (cs : Array Value) (u : Value) (rows : List (List Int)) : Prop where
  loc : wr.heap[lb]? = some (.cells cs T (0, 0))
  own : ORows wr wv.heap.size u rows
  gr : wv.grownBy wr (some lb)
  lt : lb < wv.heap.size
theorem LocR.start {T : TypeId} {wv : World} {lb : Nat} {cs : Array Value} (h : wv.heap[lb]? = some (.cells cs T (0, 0))) : LocR T wv wv lb cs (.slice none 0 0) [] :=
  ⟨h, ORows.nil _ _, ⟨rfl, rfl, rfl, Nat.le_refl _, fun _ _ _ => rfl⟩, (Array.getElem?_eq_some_iff.1 h).1⟩
theorem LocR.push {T : TypeId} {wv wr w6 w7 : World} {lb : Nat} {cs cs' : Array Value} {u v' rv : Value} {rows : List (List Int)} {row : List Int} {us : List Value} (h : LocR T wv wr lb cs u rows) (hb : Below wr.heap.size wr w6) (hr : OInts w6 wr.heap.size rv row)
    (h1 : wr.ownsRow wv.heap.size 25 1 u rows.length us) (h2 : us.length = rows.length)
    (h3 : ∀ (j : Nat) (u : Value) (row : List Int), us[j]? = some u → rows[j]? = some row → OInts wr wv.heap.size u row) (h4 : ∀ (i j : Nat) (u u' : Value), i < j → us[i]? = some u → us[j]? = some u' → u.ownBlock = none ∨ u.ownBlock ≠ u'.ownBlock)
    (hv' : w7.ownsRow wv.heap.size 25 1 v' (rows.length + 1) (us ++ [rv])) (hg : (w6.alloc (.cells #[rv] 25)).grownBy w7 u.ownBlock) (i : Nat) (hc : cs.setIfInBounds i v' = cs') :
    LocR T wv (w7.setCell ⟨lb, i, none⟩ v') lb cs' v' (rows ++ [row]) ∧ w7.heap[lb]? = some (.cells cs T (0, 0)) := by
  have hlr : lb < wr.heap.size := (Array.getElem?_eq_some_iff.1 h.loc).1
  have hs6 := hb.size
  have hsr := h.gr.size
  have hne : ∀ k, k < wv.heap.size → some k ≠ u.ownBlock := fun k hk e => by have := own_lt h1 k e.symm; omega
  have at7 : ∀ k, k < wv.heap.size → w7.heap[k]? = wr.heap[k]? := fun k hk =>
    ((hg.block k (by simp; omega) (hne k hk)).trans (heap_alloc_old w6 _ (by omega))).trans (hb.block k (by omega))
  have hl7 : w7.heap[lb]? = some (.cells cs T (0, 0)) := (at7 lb h.lt).trans h.loc
  have own7 := ORows.pushNew5 hsr hb hr h1 h2 h3 h4 hv' hg
  refine ⟨⟨by rw [← hc]; exact blk_set hl7 i v', own7.setLow' h.lt i v', ⟨hg.os.trans (hb.os.trans h.gr.os), hg.tape.trans (hb.tape.trans h.gr.tape), hg.output.trans (hb.output.trans h.gr.output), ?_, fun k hk hkl => ?_⟩, h.lt⟩, hl7⟩
  · have e : (w7.setCell ⟨lb, i, none⟩ v').heap.size = w7.heap.size := by simp [World.setCell]
    have h3 := hg.size
    rw [e]
    simp at h3
    omega
  · exact ((Below.heap_setCell w7 ⟨lb, i, none⟩ v' k (by show k ≠ lb; intro e; exact hkl (by rw [e]))).trans (at7 k hk)).trans (h.gr.block k hk hkl)
theorem LocR.below {T : TypeId} {w2 wv wr : World} {lb : Nat} {cs : Array Value} {u : Value} {xs : List (List Int)} (h : LocR T wv wr lb cs u xs) (hb : Below w2.heap.size w2 wv) (hl : w2.heap.size ≤ lb) : Below w2.heap.size w2 wr :=
  ⟨h.gr.os.trans hb.os, h.gr.tape.trans hb.tape, h.gr.output.trans hb.output, Nat.le_trans hb.size h.gr.size, fun k hk => (h.gr.block k (by have := hb.size; omega) (by intro e; injection e with e; omega)).trans (hb.block k hk)⟩
theorem LocR.other {T : TypeId} {wv wr : World} {lb B : Nat} {cs : Array Value} {u v : Value} {xs : List (List Int)} {ys : List Int} (h : LocR T wv wr lb cs u xs) (ho : OInts wv B v ys) (hne : v.ownBlock ≠ some lb) : OInts wr B v ys :=
  own_grown ho h.gr (.inr hne)
theorem LocR.at7 {T : TypeId} {wv wr w6 w7 : World} {lb b i : Nat} {cs : Array Value} {u x : Value} {rows : List (List Int)} {us : List Value} {o : Obj} (h : LocR T wv wr lb cs u rows) (hb : Below wr.heap.size wr w6)
    (h1 : wr.ownsRow wv.heap.size 25 1 u rows.length us) (hg : (w6.alloc o).grownBy w7 u.ownBlock) (hp : wr.cell? ⟨b, i, none⟩ = some x) (hk : b < wv.heap.size) : w7.cell? ⟨b, i, none⟩ = some x := by
  have hs6 := hb.size
  have hsr := h.gr.size
  exact (World.cell?_of_block (((hg.block b (by simp; omega) (fun e => by have := own_lt h1 b e.symm; omega)).trans (heap_alloc_old w6 _ (by omega))).trans (hb.block b (by omega)))).trans hp
theorem blk_held {wc wd : World} {bx : Nat} {o : Obj} (hz : wc.heap[bx]? = some o) (hb : Below wc.heap.size wc wd) : wd.heap[bx]? = some o := (hb.block _ (Array.getElem?_eq_some_iff.1 hz).1).trans hz

set_option maxRecDepth 100000 in
theorem cloneNil (c : Nat) (w : World) :
    Calls Try.prog 52 #[.slice none 0 c] w fun e w' => e = .returned (.slice none 0 0) ∧ Below w.heap.size w w' := by
  have hcmp := Lib.run_eql_slice_nil (P := Try.prog) w 25 3 none 0 c 0 0 Try.underlying25
  simp only [Option.isNone_none] at hcmp
  go_enter Try.func52, Try.ntmps52
  go_wp2
  go_ret
  exact ⟨rfl, Below.refl _ _⟩
theorem cloneAll (v : Value) (xs : List Int) (w : World) (h : RInts w v xs) (hs : xs.length ≤ 1048576) :
    Calls Try.prog 52 #[v] w fun e w' => ∃ u, e = .returned u ∧ OInts w' w.heap.size u xs ∧ Below w.heap.size w w' := by
  obtain ⟨A, c, rfl, h1, h2⟩ := h.form
  cases A with
  | some ad => exact clone_any ad _ c xs w h hs
  | none =>
    have hx : xs = [] := by
      cases xs with
      | nil => rfl
      | cons y ys =>
        obtain ⟨b, o, c', e, -⟩ := h.at_ (k := 0) (by simp)
        cases e
    subst hx
    refine (cloneNil c w).mono ?_
    rintro e w' ⟨rfl, hb⟩
    exact ⟨_, rfl, OInts.nil _ _, hb⟩
end Go.Proofs.Yteccjnnhihbdhab
