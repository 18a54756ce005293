/- numberOf of package impl; two rows that are filled at once. -/
import Derived.Test.YteccjnnhihbdhaaModV
import Derived.Test.YteccjnnhihbdhaaTree
namespace Go.Proofs.Yteccjnnhihbdhaa
open Go.RowKit
set_option linter.unusedVariables false
set_option linter.unusedSimpArgs false

theorem vb_alloc {a w : World} (h : Below a.heap.size a w) (o : Obj) : Below a.heap.size a (w.alloc o) := h.alloc h.size o
theorem vb_drew {a w : World} (h : Below a.heap.size a w) : Below a.heap.size a w.drew := ⟨h.os, h.tape, h.output, h.size, h.block⟩
theorem vb_undrew {w w' : World} (h : Below w.drew.heap.size w.drew w') : Below w.heap.size w w' := ⟨h.os, h.tape, h.output, h.size, h.block⟩
theorem va_far {w : World} {b rb : Nat} (h : b ≠ rb) (i o : Nat) (u : Value) : (w.setCell ⟨rb, i, none⟩ u).cell? ⟨b, o, none⟩ = w.cell? ⟨b, o, none⟩ := World.cell?_of_block (Below.heap_setCell w ⟨rb, i, none⟩ u b h)
theorem place_wrap {zs vs : List Int} (hz : Sizes zs) (hl : zs.length ≤ 4) (h : InAll zs vs) {k : Nat} (hk : k < zs.length) (hk' : k < vs.length) :
    ∃ a, IntKind.i64.wrap (placeM 0 (zs.take k) (vs.take k) * zs[k]) = a ∧ IntKind.i64.wrap (a + vs[k]) = placeM 0 (zs.take (k + 1)) (vs.take (k + 1)) := by
  have h1 := ways_few (hz.take (k + 1)) (by simp; omega)
  obtain ⟨h2, h3⟩ := place_in (hz.take (k + 1)) (h.take (k + 1))
  have h4 := h.2 k hk hk'
  have h5 := hz _ (List.getElem_mem hk)
  rw [placeM_take hk hk'] at h2 h3 ⊢
  generalize placeM 0 (zs.take k) (vs.take k) * zs[k] = q at h2 h3 ⊢
  generalize vs[k] = v at h2 h3 h4 ⊢
  refine ⟨q, ?_, ?_⟩ <;> (rw [IntKind.wrap_i64]; omega)

set_option maxRecDepth 100000 in
theorem numberOf_any (zs vs : List Int) (w : World) (v v' : Value) (h : RInts w v zs) (h' : RInts w v' vs) (hz : Sizes zs) (hl : zs.length ≤ 4) (hin : InAll zs vs) :
    Calls Try.prog 72 #[v, v'] w fun e w' => e = .returned (.int .i64 (placeM 0 zs vs)) ∧ w = w' := by
  have H := Lib.hid h
  have H' := Lib.hid h'
  obtain ⟨A, c, rfl, -⟩ := h.form
  obtain ⟨A', c', rfl, -⟩ := h'.form
  have HW := Lib.hid (fun (k : Nat) (hk : k < zs.length) (hk' : k < vs.length) => place_wrap hz hl hin hk hk')
  have HL := Lib.hid hin.1
  have hvl : vs.length ≤ 4 := by rw [hin.1]; exact hl
  clear h h' hz hin
  go_enter Try.func72, Try.ntmps72
  go_wp2
  go_loopw [5, 6, 7, 10] (fun p _ _ i wr => ∃ k : Nat, k ≤ vs.length ∧ i = .int .i64 k ∧ p = .int .i64 (placeM 0 (zs.take k) (vs.take k)) ∧ w = wr) (fun _ _ _ i _ => vs.length - (intOf i).toNat)
  case atStart => exact ⟨0, Nat.zero_le _, rfl, rfl, rfl⟩
  case round =>
    obtain ⟨k, hk, rfl, rfl, rfl⟩ := hrel
    by_cases hlt : k < vs.length
    · obtain ⟨b, o, c2, e, hx⟩ := H'.out.at_ hlt
      cases e
      have hlt' : (k : Int) < (vs.length : Int) := by omega
      have hkz : k < zs.length := by rw [← HL.out]; exact hlt
      have hkz' : (k : Int) < (zs.length : Int) := by omega
      obtain ⟨b2, o2, c3, e, hy⟩ := H.out.at_ hkz
      cases e
      obtain ⟨a, hw1, hw2⟩ := HW.out k hkz hlt
      generalize vs[k] = x at hx hw2
      generalize zs[k] = z at hy hw1
      generalize hq : placeM 0 (zs.take (k + 1)) (vs.take (k + 1)) = q at hw2
      have HQ := Lib.hid hq
      clear hq
      go_wp2
      go_roundw
      case rel => exact ⟨k + 1, by omega, by go_num, by rw [HQ.out], by first | trivial | rfl⟩
      case measure => simp [intOf]; omega
    · have hkn : k = vs.length := by omega
      have hlt' : ¬ (k : Int) < (vs.length : Int) := by omega
      have HT := Lib.hid (show zs.take k = zs from take_all (by rw [← HL.out]; omega))
      have HT2 := Lib.hid (show vs.take k = vs from take_all (by omega))
      rw [HT.out, HT2.out]
      go_wp2
      go_ret
      exact ⟨rfl, rfl⟩

/-- two rows that are being filled at once: k of their places are done -/
def TwoAt (W2 wr : World) (bs bt n : Nat) (xs ys : List Int) (k : Nat) : Prop :=
  ∃ cs ds : Array Value, wr.heap[bs]? = some (.cells cs 3 (0, 0)) ∧ wr.heap[bt]? = some (.cells ds 3 (0, 0)) ∧ cs.size = n ∧ ds.size = n ∧ (∀ j, j < k → cs[j]? = (xs[j]?).map (Value.int .i64)) ∧ (∀ j, j < k → ds[j]? = (ys[j]?).map (Value.int .i64)) ∧
    bs ≠ bt ∧ W2.heap.size ≤ bs ∧ W2.heap.size ≤ bt ∧ Below W2.heap.size W2 wr
section
variable {W2 wr w6 : World} {bs bt n k : Nat} {xs ys : List Int} {x y : Int}
theorem TwoAt.bel (h : TwoAt W2 wr bs bt n xs ys k) : Below W2.heap.size W2 wr := by obtain ⟨_, _, _, _, _, _, _, _, _, _, _, hb⟩ := h; exact hb
theorem TwoAt.ne (h : TwoAt W2 wr bs bt n xs ys k) : bs ≠ bt ∧ W2.heap.size ≤ bs ∧ W2.heap.size ≤ bt := by obtain ⟨_, _, _, _, _, _, _, _, a, b, c, _⟩ := h; exact ⟨a, b, c⟩
theorem two_put {cs : Array Value} {zs : List Int} {z : Int} (hs : cs.size = n) (hk : k < n) (hd : ∀ j, j < k → cs[j]? = (zs[j]?).map (Value.int .i64)) (hz : zs[k]? = some z) : ∀ j, j < k + 1 → (cs.setIfInBounds k (.int .i64 z))[j]? = (zs[j]?).map (Value.int .i64) := by
  intro j hj
  rw [Array.getElem?_setIfInBounds]
  by_cases hjk : k = j
  · subst hjk
    rw [if_pos rfl, if_pos (by omega), hz]
    rfl
  · rw [if_neg hjk]
    exact hd j (by omega)
theorem TwoAt.step (h : TwoAt W2 wr bs bt n xs ys k) (hb : Below wr.heap.size wr w6) (hk : k < n) (hx : xs[k]? = some x) (hy : ys[k]? = some y) :
    TwoAt W2 ((w6.setCell ⟨bs, k, none⟩ (.int .i64 x)).setCell ⟨bt, k, none⟩ (.int .i64 y)) bs bt n xs ys (k + 1) := by
  obtain ⟨cs, ds, a1, a2, a3, a4, a5, a6, a7, a8, a9, a10⟩ := h
  have b1 := (hb.block _ (Array.getElem?_eq_some_iff.1 a1).1).trans a1
  have b2 := (hb.block _ (Array.getElem?_eq_some_iff.1 a2).1).trans a2
  refine ⟨_, _, (Below.heap_setCell _ ⟨bt, k, none⟩ _ bs (by show bs ≠ bt; exact a7)).trans (blk_set b1 k _), blk_set ((Below.heap_setCell _ ⟨bs, k, none⟩ _ bt (by show bt ≠ bs; exact fun e => a7 e.symm)).trans b2) k _, by simpa using a3, by simpa using a4, two_put a3 hk a5 hx, two_put a4 hk a6 hy, a7, a8, a9,
    ((a10.trans (hb.mono a10.size)).setCell (p := ⟨bs, k, none⟩) a8 _).setCell (p := ⟨bt, k, none⟩) a9 _⟩
theorem TwoAt.cells (h : TwoAt W2 wr bs bt n xs ys k) (hb : Below wr.heap.size wr w6) (hk : k < n) (X : Value) :
    (∃ u, w6.cell? ⟨bs, k, none⟩ = some u) ∧ w6.frozen? ⟨bs, k, none⟩ = false ∧ (∃ u, (w6.setCell ⟨bs, k, none⟩ X).cell? ⟨bt, k, none⟩ = some u) ∧ (w6.setCell ⟨bs, k, none⟩ X).frozen? ⟨bt, k, none⟩ = false := by
  obtain ⟨cs, ds, a1, a2, a3, a4, a5, a6, a7, a8, a9, a10⟩ := h
  have b1 := (hb.block _ (Array.getElem?_eq_some_iff.1 a1).1).trans a1
  have b2 := (hb.block _ (Array.getElem?_eq_some_iff.1 a2).1).trans a2
  have b3 := (Below.heap_setCell w6 ⟨bs, k, none⟩ X bt (by show bt ≠ bs; exact fun e => a7 e.symm)).trans b2
  exact ⟨⟨cs[k]'(by omega), (blk_cell b1 k).trans (Array.getElem?_eq_getElem (by omega))⟩, blk_free b1 k, ⟨ds[k]'(by omega), (blk_cell b3 k).trans (Array.getElem?_eq_getElem (by omega))⟩, blk_free b3 k⟩
theorem TwoAt.done (h : TwoAt W2 wr bs bt n xs ys n) (hx : xs.length = n) (hy : ys.length = n) (hm : n ≤ 9223372036854775807) : RInts wr (.slice (some ⟨bs, 0, none⟩) n n) xs ∧ RInts wr (.slice (some ⟨bt, 0, none⟩) n n) ys := by
  obtain ⟨cs, ds, a1, a2, a3, a4, a5, a6, a7, a8, a9, a10⟩ := h
  refine ⟨⟨_, n, by rw [hx], by omega, by rw [maxLen_eq]; exact hm, fun j x hj => ⟨bs, 0, rfl, ?_⟩⟩, ⟨_, n, by rw [hy], by omega, by rw [maxLen_eq]; exact hm, fun j x hj => ⟨bt, 0, rfl, ?_⟩⟩⟩
  · have hl := (List.getElem?_eq_some_iff.1 hj).1
    rw [Nat.zero_add, blk_cell a1, a5 j (by omega), hj]; rfl
  · have hl := (List.getElem?_eq_some_iff.1 hj).1
    rw [Nat.zero_add, blk_cell a2, a6 j (by omega), hj]; rfl
theorem two_start {W wx : World} {o : Array Value} (hh : wx.heap = ((W.alloc (.cells o 3)).alloc (.cells o 3)).heap) (ho : wx.os = W.os) (ht : wx.tape = W.tape) (hp : wx.output = W.output) (hn : o.size = n) (xs ys : List Int) :
    TwoAt W wx W.heap.size (W.heap.size + 1) n xs ys 0 ∧ TwoAt W wx (W.heap.size + 1) W.heap.size n xs ys 0 := by
  have h1 : ((W.alloc (.cells o 3)).alloc (.cells o 3)).heap[W.heap.size]? = some (.cells o 3 (0, 0)) := by
    rw [heap_alloc_old _ _ (by simp)]; exact heap_alloc_new W _
  have h2 : ((W.alloc (.cells o 3)).alloc (.cells o 3)).heap[W.heap.size + 1]? = some (.cells o 3 (0, 0)) :=
    (congrArg (fun i => ((W.alloc (.cells o 3)).alloc (.cells o 3)).heap[i]?) (by simp)).trans (heap_alloc_new (W.alloc (.cells o 3)) _)
  have hb : Below W.heap.size W ((W.alloc (.cells o 3)).alloc (.cells o 3)) := (below_alloc _ _).alloc (by simp) _
  have hb' : Below W.heap.size W wx := ⟨ho, ht, hp, by rw [hh]; exact hb.size, fun n hn => by rw [hh]; exact hb.block n hn⟩
  rw [← hh] at h1 h2
  exact ⟨⟨o, o, h1, h2, hn, hn, fun j hj => by omega, fun j hj => by omega, by omega, by omega, by omega, hb'⟩, ⟨o, o, h2, h1, hn, hn, fun j hj => by omega, fun j hj => by omega, by omega, by omega, by omega, hb'⟩⟩
end
end Go.Proofs.Yteccjnnhihbdhaa
