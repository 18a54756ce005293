/- The draws of a signature: l20Open, odd, l20SigOf, l20Sig. -/
import Derived.Test.YteccjnnhihbdhabRd
import Derived.Test.YteccjnnhihbdhabOwn
namespace Go.Proofs.Yteccjnnhihbdhab
open Go.RowKit
set_option linter.unusedVariables false

theorem Try.info_int : (Try.prog.info? 3).map (fun i => (i.zero, i.size, i.bytes)) = some (some (.int .i64 0), 1, 8) := by kernel_rfl
theorem Try.info_ints : (Try.prog.info? 25).map (fun i => (i.zero, i.size, i.bytes)) = some (some (.slice none 0 0), 1, 24) := by kernel_rfl

/-! frames: only block g, and what is new, has turned -/
theorem gr_trans {a b c : World} {g : Nat} {row : Option Nat} (h : a.grownBy b (some g)) (k : b.grownBy c row) (hr : ∀ x, row = some x → x = g ∨ a.heap.size ≤ x) : a.grownBy c (some g) :=
  ⟨k.os.trans h.os, k.tape.trans h.tape, k.output.trans h.output, Nat.le_trans h.size k.size, fun i hi hne => (k.block i (Nat.lt_of_lt_of_le hi h.size) (by
    rintro rfl
    rcases hr i rfl with e | e
    · exact hne (by rw [e])
    · omega)).trans (h.block i hi hne)⟩
theorem gr_refl (w : World) (g : Nat) : w.grownBy w (some g) := ⟨rfl, rfl, rfl, Nat.le_refl _, fun _ _ _ => rfl⟩
theorem gr_alloc {a b : World} {g : Nat} (h : a.grownBy b (some g)) (o : Obj) : a.grownBy (b.alloc o) (some g) := gr_trans h (World.grownBy_alloc b o none) (fun x hx => by cases hx)
theorem gr_below {a b c : World} {g : Nat} (h : a.grownBy b (some g)) (k : Below b.heap.size b c) : a.grownBy c (some g) :=
  ⟨k.os.trans h.os, k.tape.trans h.tape, k.output.trans h.output, Nat.le_trans h.size k.size, fun i hi hne => (k.block i (Nat.lt_of_lt_of_le hi h.size)).trans (h.block i hi hne)⟩
theorem gr_setCell {a b : World} {g : Nat} (h : a.grownBy b (some g)) {p : Addr} (hp : p.block = g ∨ a.heap.size ≤ p.block) (u : Value) : a.grownBy (b.setCell p u) (some g) :=
  ⟨h.os, h.tape, h.output, by simpa [World.setCell] using h.size, fun i hi hne => (Below.heap_setCell b p u i (by
    rintro rfl
    rcases hp with e | e
    · exact hne (by rw [e])
    · omega)).trans (h.block i hi hne)⟩
theorem gr_at {a b : World} {g k : Nat} {o : Obj} (h : a.grownBy b (some g)) (hk : k ≠ g) (ho : a.heap[k]? = some o) : b.heap[k]? = some o :=
  (h.block k (Array.getElem?_eq_some_iff.1 ho).1 (fun e => hk (by injection e))).trans ho
/-- the reader itself lies in a block that is there -/
theorem RRd.lt {w : World} {g p : Nat} (h : RRd w g p) : g < w.heap.size := by
  obtain ⟨u, bs, hg, -⟩ := h; exact (Array.getElem?_eq_some_iff.1 hg).1
theorem RRd.keep {w w' : World} {g p : Nat} (h : RRd w g p) (hb : Below w.heap.size w w') : RRd w' g p := by
  have hl := h.lt
  obtain ⟨u, bs, hg, hbs⟩ := h
  exact ⟨u, bs, (hb.block g hl).trans hg, hbs.keepBut fun b o x _ hc => cell_keep hb hc⟩
theorem RRd.grown {w w' : World} {g p : Nat} {row : Option Nat} (h : RRd w g p) (hg : w.grownBy w' row) (hne : ∀ k, row = some k → g < k) : RRd w' g p := by
  have hl := h.lt
  obtain ⟨u, bs, hgg, hbs⟩ := h
  refine ⟨u, bs, (hg.block g hl (fun e => by have := hne g e.symm; omega)).trans hgg, hbs.keepBut fun b o x hM hc => ?_⟩
  exact hg.cell hc (fun e => by have := hne b e.symm; omega)
theorem RRd.setCell {w : World} {g p : Nat} (h : RRd w g p) {b i : Nat} (hb : g < b) (u : Value) : RRd (w.setCell ⟨b, i, none⟩ u) g p := by
  obtain ⟨u', bs, hgg, hbs⟩ := h
  exact ⟨u', bs, (Below.heap_setCell w ⟨b, i, none⟩ u g (by show g ≠ b; omega)).trans hgg, hbs.keepBut fun b' o x hM hc => (World.cell?_of_block (Below.heap_setCell w ⟨b, i, none⟩ u b' (by show b' ≠ b; omega))).trans hc⟩

theorem open_any (v : Value) (bs : List Int) (w : World) (h : RBytes w w.heap.size v bs) :
    Calls Try.prog 64 #[v] w fun e w' => e = .returned (.pointer (some ⟨w.heap.size, 0, none⟩)) ∧ RRd w' w.heap.size 0 ∧ Below w.heap.size w w' := by
  have hh := h
  obtain ⟨A, c, rfl, h1, h2, h3⟩ := hh
  rw [maxLen_eq] at h2
  have H := Lib.hid h
  clear h3 h
  by_cases hl : 2000 < bs.length
  · obtain ⟨b, o, c', e, -, -, -⟩ := H.out.at_ (k := 0) (by omega)
    cases e
    go_enter Try.func64, Try.ntmps64
    go_wp2
    go_ret
    refine ⟨rfl, ⟨_, bs.take 2000, heap_alloc_new w _, ?_⟩, below_alloc _ _⟩
    have HK := H.out.keepBut (w' := w.alloc (.cells #[.slice (some ⟨b, o, none⟩) 2000 c, .int .i64 0] 108)) fun b o x _ hc => cell_keep (below_alloc _ _) hc
    have ht : (bs.take 2000).length = 2000 := by rw [List.length_take]; omega
    obtain ⟨A2, c2, e2, -, -, h5⟩ := HK
    cases e2
    refine ⟨_, c, by rw [ht], by rw [ht]; omega, by rw [maxLen_eq]; omega, fun j x hj => h5 j x ?_⟩
    rw [List.getElem?_take] at hj
    split at hj
    · exact hj
    · cases hj
  · go_enter Try.func64, Try.ntmps64
    go_wp2
    go_ret
    exact ⟨rfl, ⟨_, bs, heap_alloc_new w _, H.out.keepBut fun b o x _ hc => cell_keep (below_alloc _ _) hc⟩, below_alloc _ _⟩

def OddPost (g p : Nat) (w : World) (e : Ending) (w' : World) : Prop :=
  ∃ (b : Bool) (q : Nat), e = .returned (.bool b) ∧ RRd w' g q ∧ q ≤ p + 1 ∧ w.grownBy w' (some g)

theorem odd_any (g p : Nat) (n : Int) (w : World) (h : RRd w g p) (hp : p ≤ 1000000000) (hn : 0 ≤ n) (hn2 : n ≤ 1000000):
    Calls Try.prog 80 #[.pointer (some ⟨g, 0, none⟩), .int .i64 n] w (OddPost g p w) := by
  have H := Lib.hid h
  clear h
  by_cases h0 : 0 < n
  · go_enter Try.func80, Try.ntmps80
    go_wp2_with fail
    refine (pick_any g p n w H.out hp).mono ?_
    rintro e w1 ⟨x, rfl, -, hr, hg⟩
    have HR := Lib.hid hr
    have HG := Lib.hid hg
    clear hr hg
    go_wp2
    go_ret
    exact ⟨_, _, rfl, HR.out, Nat.le_refl _, HG.out⟩
  · go_enter Try.func80, Try.ntmps80
    go_wp2
    go_ret
    exact ⟨_, _, rfl, H.out, Nat.le_succ _, gr_refl _ _⟩

theorem ORows.grown {w w' : World} {B : Nat} {v : Value} {rows : List (List Int)} {row : Option Nat} (h : ORows w B v rows) (hg : w.grownBy w' row) (hne : ∀ k, row = some k → k < B) : ORows w' B v rows := by
  have hk : ∀ {e : TypeId} {size n : Nat} {u : Value} {zs : List Value}, w.ownsRow B e size u n zs → w'.ownsRow B e size u n zs := fun {e size n u zs} hu => by
    refine own_grown hu hg ?_
    cases hb : u.ownBlock with
    | none => exact .inl rfl
    | some k =>
      right
      intro e
      have := (own_lt hu k hb).1
      have := hne k e.symm
      omega
  obtain ⟨us, h1, h2, h3, h4⟩ := h
  exact ⟨us, hk h1, h2, fun j u r a b => hk (h3 j u r a b), h4⟩
theorem block_cell {w : World} {b : Nat} {cs : Array Value} {t : TypeId} (h : w.heap[b]? = some (.cells cs t (0, 0))) (i : Nat) : w.cell? ⟨b, i, none⟩ = cs[i]? := by simp [World.cell?, h]
theorem block_free {w : World} {b : Nat} {cs : Array Value} {t : TypeId} (h : w.heap[b]? = some (.cells cs t (0, 0))) (i : Nat) : w.frozen? ⟨b, i, none⟩ = false := by simp [World.frozen?, h]
theorem block_set {w : World} {b : Nat} {cs : Array Value} {t : TypeId} (h : w.heap[b]? = some (.cells cs t (0, 0))) (i : Nat) (u : Value) : (w.setCell ⟨b, i, none⟩ u).heap[b]? = some (.cells (cs.setIfInBounds i u) t (0, 0)) := by
  simp [World.setCell, Array.getElem?_modify, h]
theorem block_set_ne {w : World} {b b' : Nat} {o : Obj} (h : w.heap[b]? = some o) (i : Nat) (u : Value) (hb : b ≠ b') : (w.setCell ⟨b', i, none⟩ u).heap[b]? = some o := by
  rw [Below.heap_setCell w ⟨b', i, none⟩ u b hb]; exact h

/-- inside l20SigOf: w the world ahead of the call; block w.heap.size the result's, the next one the local signature's -/
structure SigAt (w wr : World) (g : Nat) (sorts : Int) (u : Value) (rows : List (List Int)) (q : Nat) : Prop where
  loc : wr.heap[w.heap.size + 1]? = some (.cells #[.int .i64 sorts, u] 35 (0, 0))
  res : wr.heap[w.heap.size]? = some (.cells #[.int .i64 0, .slice none 0 0] 35 (0, 0))
  own : ORows wr (w.heap.size + 2) u rows
  rd : RRd wr g q
  gr : w.grownBy wr (some g)
  gl : g < w.heap.size

theorem SigAt.later {w wr w2 : World} {g : Nat} {sorts : Int} {u : Value} {rows : List (List Int)} {q q' : Nat} (h : SigAt w wr g sorts u rows q) (hg : wr.grownBy w2 (some g)) (hr : RRd w2 g q') : SigAt w w2 g sorts u rows q' :=
  ⟨gr_at hg (by have := h.gl; omega) h.loc, gr_at hg (by have := h.gl; omega) h.res, h.own.grown hg (fun k e => by injection e with e; have := h.gl; omega), hr, gr_trans h.gr hg (fun x e => by injection e with e; exact .inl e.symm), h.gl⟩

/-- inside the round: the row under way, and all that was there at the round's head -/
structure RowAt (w wo wj : World) (g : Nat) (rv : Value) (row : List Int) (q : Nat) : Prop where
  own : OInts wj wo.heap.size rv row
  rd : RRd wj g q
  gr : wo.grownBy wj (some g)

theorem info_append (wj w1 wo : World) {g q : Nat} {rv v' : Value} {row : List Int} {x : Int} {o : Obj} (h : RowAt wo wo wj g rv row q) (hgl : g < wo.heap.size) {w2 : World} (hp : wj.grownBy w2 (some g)) (hr : RRd w2 g (q + 1))
    (hv' : w1.ownsRow wo.heap.size 3 1 v' (row.length + 1) (row.map (Value.int .i64) ++ [.int .i64 x])) (hg1 : (w2.alloc o).grownBy w1 rv.ownBlock) : RowAt wo wo w1 g v' (row ++ [x]) (q + 1) := by
  have hb : ∀ k, rv.ownBlock = some k → wo.heap.size ≤ k := fun k e => (own_lt h.own k e).1
  refine ⟨by unfold OInts; simpa using hv', (hr.keep (below_alloc w2 o)).grown hg1 (fun k e => by have := hb k e; omega), ?_⟩
  exact gr_trans (gr_alloc (gr_trans h.gr hp (fun x e => by injection e with e; exact .inl e.symm)) o) hg1 (fun k e => .inr (hb k e))
end Go.Proofs.Yteccjnnhihbdhab
