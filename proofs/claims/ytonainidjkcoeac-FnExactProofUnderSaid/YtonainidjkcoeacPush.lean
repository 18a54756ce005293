/- A row that a call has made, at the end of an own row of rows. -/
import Derived.Test.YtonainidjkcoeacFill
namespace Go.Proofs.Ytonainidjkcoeac
open Go.RowKit
set_option linter.unusedVariables false

theorem rows_made {wr w6 w7 : World} {B : Nat} {u v' rv : Value} {rows : List (List Int)} {row : List Int} {us : List Value} (hB : B ≤ wr.heap.size) (hb : Below wr.heap.size wr w6) (hr : OInts w6 wr.heap.size rv row)
    (h1 : wr.ownsRow B 36 1 u rows.length us) (h2 : us.length = rows.length)
    (h3 : ∀ (j : Nat) (u : Value) (row : List Int), us[j]? = some u → rows[j]? = some row → OInts wr B u row) (h4 : ∀ (i j : Nat) (u u' : Value), i < j → us[i]? = some u → us[j]? = some u' → u.ownBlock = none ∨ u.ownBlock ≠ u'.ownBlock)
    (hv' : w7.ownsRow B 36 1 v' (rows.length + 1) (us ++ [rv])) (hg : (w6.alloc (.cells #[rv] 36)).grownBy w7 u.ownBlock) : ORows w7 B v' (rows ++ [row]) := by
  refine ORows.push (w := w6.alloc (.cells #[rv] 36)) ((own_keep h1 hb).alloc _) h2 (fun j x r a b => World.ownsRow.alloc (own_keep (h3 j x r a b) hb) _) h4 (World.ownsRow.alloc (OInts.base hr hB) _) (fun i x hx => ?_) hg hv'
  have hi : i < us.length := (List.getElem?_eq_some_iff.1 hx).1
  have hxo := h3 i x rows[i] hx (List.getElem?_eq_getElem (by omega))
  cases hbx : x.ownBlock with
  | none => exact .inl rfl
  | some k =>
    right
    intro e
    have a := (own_lt hxo k hbx).2
    have b := (own_lt hr k e.symm).1
    omega
theorem below_made {w wr w6 w7 : World} {B : Nat} {u rv : Value} {n : Nat} {us : List Value} (hw : Below B w wr) (hB : B ≤ w.heap.size) (hb : Below wr.heap.size wr w6) (h1 : wr.ownsRow B 36 1 u n us)
    (hg : (w6.alloc (.cells #[rv] 36)).grownBy w7 u.ownBlock) : Below B w w7 := by
  have s1 := hw.size
  have s2 := hb.size
  exact ((hw.trans (hb.mono (by omega))).alloc (by omega) _).grown hg (by simp; omega) (fun k e => (own_lt h1 k e).1)
end Go.Proofs.Ytonainidjkcoeac
