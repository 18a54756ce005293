/- What the made proofs of the exact laws share where results lie in boxes, or are several rows (tools/exact.py). -/
import Derived.Test.YteccjnnhihbdhabMapG
import Derived.Deep.DeepCutAuto
import Derived.Deep.RegionHeld3
namespace Go.Proofs.Yteccjnnhihbdhab
open Go.RowKit
set_option linter.unusedVariables false

theorem blk_at {wc wd : World} {bx : Nat} {o : Obj} (hz : wc.heap[bx]? = some o) (hb : Below wc.heap.size wc wd) : wd.heap[bx]? = some o := (hb.block _ (Array.getElem?_eq_some_iff.1 hz).1).trans hz
theorem blk_cell_at {w : World} {b : Nat} {cs : Array Value} {t : TypeId} (h : w.heap[b]? = some (.cells cs t (0, 0))) {i : Nat} {u : Value} (hu : cs[i]? = some u) : w.cell? ⟨b, i, none⟩ = some u := (blk_cell h i).trans hu
theorem set_blk {w : World} {b k : Nat} (h : k ≠ b) (i : Nat) (u : Value) : (w.setCell ⟨b, i, none⟩ u).heap[k]? = w.heap[k]? := Below.heap_setCell w ⟨b, i, none⟩ u k h
theorem set_far {w : World} {b rb : Nat} (h : b ≠ rb) (i o : Nat) (u : Value) : (w.setCell ⟨rb, i, none⟩ u).cell? ⟨b, o, none⟩ = w.cell? ⟨b, o, none⟩ := World.cell?_of_block (Below.heap_setCell w ⟨rb, i, none⟩ u b h)
theorem cut_keeps {A M : Nat} {w : World} (h : M ≤ w.heap.size) : Keeps A (cutTo w M) w := fun k _ h2 => (cut_block (by rwa [cut_size h] at h2)).symm
theorem Keeps.outside_lo {A B M : Nat} {w w1 w2 : World} (h : Keeps A w w1) (ho : Outside B M w1 w2) (hB : w.heap.size ≤ B) : Keeps A w w2 := fun k h1 h2 => (ho.block k (.inl (by omega))).trans (h k h1 h2)
theorem own_cutTo {w : World} {B M : Nat} {e : TypeId} {size n : Nat} {v : Value} {zs : List Value} (h : w.ownsRow B e size v n zs) (hM : ∀ k, v.ownBlock = some k → k < M) : (cutTo w M).ownsRow B e size v n zs := by
  refine ⟨h.1, ?_⟩
  rcases h.2 with h2 | ⟨g, cap, cur, rfl, hg, hh, r⟩
  · exact .inl h2
  · exact .inr ⟨g, cap, cur, rfl, hg, (cut_block (hM g rfl)).trans hh, r⟩
theorem markIntS_gk (v : Value) (B : Nat) (xs : List Int) (k0 : Int) (wc w : World) (h : OInts wc B v xs) (hk : Keeps B wc w) (hz : wc.heap.size ≤ w.heap.size) (hs : xs.length ≤ 1048576) (h0 : 0 ≤ k0) (h1 : k0 ≤ 90000000000000) :
    Calls Try.prog 56 #[v, .int .i64 k0] w fun e w' => ∃ K : Int, e = .returned (.int .i64 K) ∧ 0 ≤ K ∧ K ≤ k0 + 2000000000000 ∧ (∀ w2 : World, Keeps B (cutTo w' wc.heap.size) w2 → Calls Try.prog 57 #[v, .int .i64 k0] w2 fun e w3 => e = .returned (.int .i64 K) ∧ Below w2.heap.size w2 w3) ∧ ∃ wa, Below w.heap.size w wa ∧ Outside B wc.heap.size wa w' := by
  refine (markIntS_any v B xs k0 w (h.same hk) hs h0 (by omega)).mono ?_
  rintro e w' ⟨rfl, ho, hg, hz'⟩
  refine ⟨_, rfl, by omega, by omega, fun w2 hk2 => ?_, w, Below.refl _ _, outside_grown h hg hz'⟩
  refine (heldIntS_any v xs.length k0 w2 (OInts.same (own_cutTo ho (fun k e => (own_lt h k e).2)) hk2).reads hs h0 (by omega)).mono ?_
  rintro e w3 ⟨rfl, hd⟩
  exact ⟨rfl, hd.below⟩
end Go.Proofs.Yteccjnnhihbdhab
