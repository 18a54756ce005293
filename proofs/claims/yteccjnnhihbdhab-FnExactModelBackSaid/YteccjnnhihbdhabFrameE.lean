/- What the proofs of the exact laws share: equations, lists of them and theories that came in. -/
import Derived.Test.YteccjnnhihbdhabFrameY
import Derived.Test.YteccjnnhihbdhabEqM
import Derived.Deep.Slices
import Derived.Deep.Strs
namespace Go.Proofs.Yteccjnnhihbdhab
open Go.ChangeShapes Go.WideShapes Go.ChangeAt Go.RowKit Go.Deep Go.Joins
set_option linter.unusedVariables false

set_option maxRecDepth 100000 in
theorem ints_cell {H : Type} {enc : TypeId × Value → H} {W : World} {fuel : Nat} {u : Value} {x : DataW H × List MemPlace} (h : DataW.trod enc Try.prog W 0 (fun _ => true) true fuel 25 [u] = some x) : ∃ xs, RInts W u xs ∧ Small xs := by
  rcases open_ints Try.underlying25 Try.underlying3 (by kernel_rfl) h with ⟨hcs, _⟩ | ⟨x, l, c, zs, hcs, _, hl, hm, hz, _, hcell, hwz⟩
  · simp at hcs
    subst hcs
    exact ⟨[], RInts.nil _, small_nil⟩
  · simp at hcs
    subst hcs
    simp only [if_true] at hz
    have ht : (zs.take l).length = l := by rw [List.length_take]; omega
    refine ⟨zs.take l, ⟨some x, c, by rw [ht], by rw [ht]; exact hl, hm, fun j y hj => ?_⟩, small_take (small_wf hwz) _⟩
    rw [List.getElem?_take] at hj
    split at hj
    · obtain ⟨hjl, rfl⟩ := List.getElem?_eq_some_iff.1 hj
      obtain ⟨b, o, rfl, hc⟩ := plain_cell hcell hjl
      exact ⟨b, o, rfl, hc⟩
    · cases hj
set_option maxRecDepth 100000 in
theorem rows_cell {H : Type} {enc : TypeId × Value → H} {W : World} {fuel : Nat} {u : Value} {x : DataW H × List MemPlace} (hf : DataW.trod enc Try.prog W 0 (fun _ => true) true fuel 22 [u] = some x) : ∃ xs, RRows W u xs ∧ SmallR xs := by
  rcases open_int_rows Try.underlying22 Try.underlying25 Try.underlying3 (by kernel_rfl) (by kernel_rfl) hf with ⟨hcs, -⟩ | ⟨ad, len, cap, A, L, C, Z, hcs, -, hl, hm, -, hr⟩
  · simp at hcs
    subst hcs
    exact ⟨[], RRows.nil _, fun row hr => by simp at hr⟩
  · simp at hcs
    subst hcs
    refine ⟨(List.range len).map fun r => (Z r).take (L r), ?_, fun row hrow => ?_⟩
    · refine ⟨some ad, cap, by simp, by simpa using hl, hm, fun j row hj => ?_⟩
      simp only [List.getElem?_map] at hj
      obtain ⟨r, hr', rfl⟩ := Option.map_eq_some_iff.1 hj
      obtain ⟨hjl, hrj⟩ := List.getElem?_eq_some_iff.1 hr'
      simp at hjl hrj
      subst hrj
      obtain ⟨hc, h1, h2, h3, h4, h5, h6⟩ := hr j (by omega)
      obtain ⟨b, o, sp⟩ := ad
      have hsp : sp = none := by
        have := spot_none (hr 0 (by omega)).1
        simpa [Addr.add] using this
      subst hsp
      rw [add_plain] at hc
      refine ⟨b, o, _, rfl, hc, A j, C j, by rw [List.length_take]; congr 1; omega, by rw [List.length_take]; omega, h2, fun i x hx => ?_⟩
      rw [List.getElem?_take] at hx
      split at hx
      · obtain ⟨hil, rfl⟩ := List.getElem?_eq_some_iff.1 hx
        cases hA : A j with
        | none => have := h5 hA; omega
        | some a' =>
          obtain ⟨-, hcell⟩ := h6 a' hA
          obtain ⟨b', o', rfl, hc'⟩ := plain_cell (by rw [h3]; exact hcell) hil
          exact ⟨b', o', rfl, hc'⟩
      · cases hx
    · obtain ⟨r, hr', rfl⟩ := List.mem_map.1 hrow
      simp at hr'
      obtain ⟨hc, h1, h2, h3, h4, h5, h6⟩ := hr r (by omega)
      exact small_take (small_wf h4) _

instance : Inhabited MEq := ⟨⟨[], [], []⟩⟩
instance : Inhabited MSig := ⟨⟨0, []⟩⟩

end Go.Proofs.Yteccjnnhihbdhab
