/- Each letter, alone: the rows that replace nothing. -/
import Derived.Test.YtcbjfedhebeogabFit
import Derived.Test.YtcbjfedhebeogabDrawC
namespace Go.Proofs.Ytcbjfedhebeogab
open Go.RowKit
set_option linter.unusedVariables false

/-- each letter, alone -/
def selfRows (n : Nat) : List (List Int) := (List.range n).map fun (j : Nat) => [100 + (j : Int)]
theorem selfRows_succ (n : Nat) : selfRows (n + 1) = selfRows n ++ [[100 + (n : Int)]] := by unfold selfRows; rw [List.range_succ, List.map_append]; rfl
theorem selfRows_len (n : Nat) : (selfRows n).length = n := by unfold selfRows; simp
theorem selfRows_small {n : Nat} (h : n ≤ 1000) : ∀ r ∈ selfRows n, Small r := fun r hr x hx => by
  unfold selfRows at hr
  simp only [List.mem_map, List.mem_range] at hr
  obtain ⟨j, hj, rfl⟩ := hr
  simp at hx; omega
theorem sort_letter {s : MSig} {vars : List Int} (h : varsB s vars = true) {i : Nat} (hi : i < vars.length) : sortM s vars [100 + (i : Int)] = vars[i] := by
  have := sortM_of (tm := .leaf i (vars.getD i 0)) h (by simp [Tm.row]) (by unfold wfT; exact ⟨hi, rfl⟩)
  unfold Tm.row Tm.sort at this
  rw [this, getD_at _ hi]
theorem fits_self (s : MSig) (vars : List Int) : fitsB s vars (selfRows vars.length) vars = varsB s vars := by
  rw [fitsB_eq]
  cases hv : varsB s vars with
  | false => rfl
  | true =>
    rw [selfRows_len]
    simp only [decide_true, Bool.true_and, List.all_eq_true]
    intro q hq
    obtain ⟨i, hi, rfl⟩ := List.getElem_of_mem hq
    rw [List.length_zip, selfRows_len] at hi
    rw [List.getElem_zip]
    have hi' : i < vars.length := by omega
    have e : (selfRows vars.length)[i]'(by rw [selfRows_len]; exact hi') = [100 + (i : Int)] := by unfold selfRows; simp
    unfold fitP
    rw [e]
    simp only [sort_letter hv hi', decide_true, Bool.and_true, decide_eq_true_eq]
    exact ((vars_valid hv).2.2 i hi').1

/-- one letter more -/
theorem self_push {w w1 : World} {B n : Nat} {v v' : Value} {us : List Value} (hB : B ≤ w.heap.size) (h1 : w.ownsRow B 26 1 v (selfRows n).length us) (h2 : us.length = (selfRows n).length)
    (h3 : ∀ (j : Nat) (u : Value) (row : List Int), us[j]? = some u → (selfRows n)[j]? = some row → OInts w B u row) (h4 : ∀ (i j : Nat) (u u' : Value), i < j → us[i]? = some u → us[j]? = some u' → u.ownBlock = none ∨ u.ownBlock ≠ u'.ownBlock)
    (hv' : w1.ownsRow B 26 1 v' ((selfRows n).length + 1) (us ++ [.slice (some ⟨w.heap.size, 0, none⟩) 1 1])) (hg : ((w.alloc (.cells #[.int .i64 (100 + (n : Int))] 3)).alloc (.cells #[.slice (some ⟨w.heap.size, 0, none⟩) 1 1] 26)).grownBy w1 v.ownBlock) : ORows w1 B v' (selfRows (n + 1)) := by
  rw [selfRows_succ]
  refine ORows.push (w := (w.alloc (.cells #[.int .i64 (100 + (n : Int))] 3)).alloc (.cells #[.slice (some ⟨w.heap.size, 0, none⟩) 1 1] 26)) ((h1.alloc _).alloc _) h2 (fun j x r a b => World.ownsRow.alloc (World.ownsRow.alloc (h3 j x r a b) _) _) h4 (World.ownsRow.alloc (lit1 w (100 + (n : Int)) hB) _) (fun i x hx => ?_) hg hv'
  have hi : i < us.length := (List.getElem?_eq_some_iff.1 hx).1
  have hxo := h3 i x (selfRows n)[i] hx (List.getElem?_eq_getElem (by omega))
  cases hb : x.ownBlock with
  | none => exact .inl rfl
  | some k =>
    right
    intro e
    have a := (own_lt hxo k hb).2
    injection e with e
    have e2 : k = w.heap.size := e
    omega

theorem own_in2 {w w2 : World} {B : Nat} {o1 o2 : Obj} {A : Option Addr} {n c : Nat} (h : ((w.alloc o1).alloc o2).grownBy w2 (Value.slice A n c).ownBlock) (hr : ∀ k, (Value.slice A n c).ownBlock = some k → B ≤ k) (hB : B ≤ w.heap.size) : Below B w w2 :=
  ((below_alloc w o1).trans ((below_alloc _ o2).mono (by simp))).mono hB |>.trans ⟨h.os, h.tape, h.output, h.size, fun k hk => h.block k (by simp; omega) (fun e => by have := hr k e.symm; omega)⟩

end Go.Proofs.Ytcbjfedhebeogab
