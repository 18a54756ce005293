/- Marks, as the made proofs of the exact laws want them: an object that was made at wc and lies in w as it was. -/
import Derived.Test.YteccjnnhihbdhabExGen
namespace Go.Proofs.Yteccjnnhihbdhab
open Go.RowKit
set_option linter.unusedVariables false

theorem outside_grown {w w' wc : World} {B : Nat} {v : Value} {e : TypeId} {size n : Nat} {zs : List Value} (h : wc.ownsRow B e size v n zs) (hg : w.grownBy w' v.ownBlock) (hz : w'.heap.size = w.heap.size) : Outside B wc.heap.size w w' :=
  ⟨hg.os, hg.tape, hg.output, hz, fun k hk => by
    by_cases hkl : k < w.heap.size
    · exact hg.block k hkl (fun e => by have := own_lt h k e.symm; omega)
    · rw [Array.getElem?_eq_none (by omega), Array.getElem?_eq_none (by omega)]⟩

theorem markIntS_go (v : Value) (B : Nat) (xs : List Int) (k0 : Int) (wc w : World) (h : OInts wc B v xs) (hk : Keeps B wc w) (hz : wc.heap.size ≤ w.heap.size) (hs : xs.length ≤ 1048576) (h0 : 0 ≤ k0) (h1 : k0 ≤ 100000000000000) :
    Calls Try.prog 56 #[v, .int .i64 k0] w fun e w' => ∃ k : Int, e = .returned (.int .i64 k) ∧ 0 ≤ k ∧ k ≤ k0 + 2000000000000 ∧ ∃ wa, Below w.heap.size w wa ∧ Outside B wc.heap.size wa w' := by
  refine (markIntS_any v B xs k0 w (h.same hk) hs h0 (by omega)).mono ?_
  rintro e w' ⟨rfl, ho, hg, hz'⟩
  exact ⟨_, rfl, by omega, by omega, w, Below.refl _ _, outside_grown h hg hz'⟩

theorem markIntS_g (v : Value) (B : Nat) (xs : List Int) (wc w : World) (h : OInts wc B v xs) (hk : Keeps B wc w) (hz : wc.heap.size ≤ w.heap.size) (hs : xs.length ≤ 1048576) :
    Calls Try.prog 56 #[v, .int .i64 1] w fun e w' => ∃ K : Int, e = .returned (.int .i64 K) ∧ 0 ≤ K ∧ (∀ w2 : World, Keeps B w' w2 → Calls Try.prog 57 #[v, .int .i64 1] w2 fun e w3 => e = .returned (.int .i64 K) ∧ Below w2.heap.size w2 w3) ∧ ∃ wa, Below w.heap.size w wa ∧ Outside B wc.heap.size wa w' := by
  refine (markIntS_any v B xs 1 w (h.same hk) hs (by omega) (by omega)).mono ?_
  rintro e w' ⟨rfl, ho, hg, hz'⟩
  refine ⟨_, rfl, by omega, fun w2 hk2 => ?_, w, Below.refl _ _, outside_grown h hg hz'⟩
  refine (heldIntS_any v xs.length 1 w2 (OInts.same ho hk2).reads hs (by omega) (by omega)).mono ?_
  rintro e w3 ⟨rfl, hd⟩
  exact ⟨rfl, hd.below⟩

theorem markIntSS_go (v : Value) (B : Nat) (rows : List (List Int)) (k0 : Int) (wc w : World) (h : ORows wc B v rows) (hk : Keeps B wc w) (hz : wc.heap.size ≤ w.heap.size) (hs : Fits rows) (h0 : 0 ≤ k0) (h1 : k0 ≤ 90000000000000) :
    Calls Try.prog 55 #[v, .int .i64 k0] w fun e w' => ∃ k : Int, e = .returned (.int .i64 k) ∧ 0 ≤ k ∧ k ≤ k0 + 2000000000000 ∧ ∃ wa, Below w.heap.size w wa ∧ Outside B wc.heap.size wa w' := by
  refine (markIntSSp_any v B rows k0 (cutTo w wc.heap.size) w (h.same fun k h1 h2 => (cut_block h2).trans (hk k h1 h2)) (cut_below hz) hs.1 hs.2 h0 (by omega)).mono ?_
  rintro e w' ⟨rfl, ho, hout⟩
  rw [cut_size hz] at hout
  have := tot_le hs.2
  have := hs.1
  exact ⟨_, rfl, by omega, by omega, w, Below.refl _ _, hout⟩

theorem markIntSS_g (v : Value) (B : Nat) (rows : List (List Int)) (wc w : World) (h : ORows wc B v rows) (hk : Keeps B wc w) (hz : wc.heap.size ≤ w.heap.size) (hs : Fits rows) :
    Calls Try.prog 55 #[v, .int .i64 1] w fun e w' => ∃ K : Int, e = .returned (.int .i64 K) ∧ 0 ≤ K ∧ (∀ w2 : World, Keeps B w' w2 → Calls Try.prog 58 #[v, .int .i64 1] w2 fun e w3 => e = .returned (.int .i64 K) ∧ Below w2.heap.size w2 w3) ∧ ∃ wa, Below w.heap.size w wa ∧ Outside B wc.heap.size wa w' := by
  refine (markIntSSp_any v B rows 1 (cutTo w wc.heap.size) w (h.same fun k h1 h2 => (cut_block h2).trans (hk k h1 h2)) (cut_below hz) hs.1 hs.2 (by omega) (by omega)).mono ?_
  rintro e w' ⟨rfl, ho, hout⟩
  rw [cut_size hz] at hout
  have := tot_le hs.2
  have := hs.1
  refine ⟨_, rfl, by omega, fun w2 hk2 => ?_, w, Below.refl _ _, hout⟩
  refine (heldIntSS_any v rows 1 w2 (ho.same hk2).reads hs.1 hs.2 (by omega) (by omega)).mono ?_
  rintro e w3 ⟨rfl, hd⟩
  exact ⟨rfl, hd.below⟩

theorem markSig_go (v : Value) (B : Nat) (s : MSig) (k0 : Int) (wc w : World) (h : OSig wc B v s) (hk : Keeps B wc w) (hz : wc.heap.size ≤ w.heap.size) (hs : Fits s.ops) (h0 : 0 ≤ k0) (h1 : k0 ≤ 90000000000000) :
    Calls Try.prog 20 #[v, .int .i64 k0] w fun e w' => ∃ k : Int, e = .returned (.int .i64 k) ∧ 0 ≤ k ∧ k ≤ k0 + 2000000000000 ∧ ∃ wa, Below w.heap.size w wa ∧ Outside B wc.heap.size wa w' := by
  refine (markSigp_any v B s k0 (cutTo w wc.heap.size) w (h.same fun k h1 h2 => (cut_block h2).trans (hk k h1 h2)) (cut_below hz) hs.1 hs.2 h0 (by omega)).mono ?_
  rintro e w' ⟨rfl, ho, o, hout⟩
  rw [cut_size hz] at hout
  have := tot_le hs.2
  have := hs.1
  exact ⟨_, rfl, by omega, by omega, w.alloc o, below_alloc _ _, hout⟩
end Go.Proofs.Yteccjnnhihbdhab
