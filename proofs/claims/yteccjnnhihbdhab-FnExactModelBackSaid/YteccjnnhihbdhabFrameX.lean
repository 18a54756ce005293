/- What the proofs of the exact laws share: a signature that came in. -/
import Derived.Test.YteccjnnhihbdhabBase
import Derived.ProofKit
import Derived.OpenShut
import Derived.ShutString
import Derived.ChangeOld
import Derived.Lib.SmallJoins
import Derived.Deep.Matrix
namespace Go.Proofs.Yteccjnnhihbdhab
open Go.ChangeShapes Go.WideShapes Go.ChangeAt Go.RowKit Go.Deep Go.Joins
set_option linter.unusedVariables false

theorem own : ownKnob Try.prog.godebug = none := by kernel_rfl
theorem laidOut : laidOutB Try.prog = true := by kernel_rfl

theorem spot_none {w : World} {a : Addr} {v : Value} (h : w.cell? a = some v) : a.spot = none := World.cell?_spot h
theorem add_plain (b o j : Nat) : (⟨b, o, none⟩ : Addr).add j = ⟨b, o + j, none⟩ := by
  unfold Addr.add
  split
  · rename_i h; subst h; rfl
  · rfl

set_option maxRecDepth 100000 in
theorem cells_sig : Try.prog.cellsOf 24 = 2 := by kernel_rfl
set_option maxRecDepth 100000 in
theorem sig_of {H : Type} {enc : TypeId × Value → H} {W : World} {base : Nat} {v : Value} {d : DataW H} {p : List MemPlace} (hv : Value.okWide Try.prog W .any base 24 v)
    (h : DataW.Trod enc Try.prog W 0 (fun _ => true) true 24 v d p) : ∃ s, RSig W v s := by
  obtain ⟨c0, c1, y0, y1, m, rfl, -, -, hy0, hy1⟩ := open_agg2 Try.underlying24 (by kernel_rfl) cells_sig hv h
  obtain ⟨a, e0, -, wa⟩ := DataW.trod_int Try.underlying3 hy0
  simp at e0
  subst e0
  rcases open_int_rows Try.underlying22 Try.underlying25 Try.underlying3 (by kernel_rfl) (by kernel_rfl) hy1 with ⟨hcs, -⟩ | ⟨ad, len, cap, A, L, C, Z, hcs, -, hl, hm, -, hr⟩
  · simp at hcs
    subst hcs
    exact ⟨⟨a, []⟩, _, rfl, RRows.nil _⟩
  · simp at hcs
    subst hcs
    refine ⟨⟨a, (List.range len).map fun r => (Z r).take (L r)⟩, _, rfl, ?_⟩
    refine ⟨some ad, cap, by simp, by simpa using hl, hm, fun j row hj => ?_⟩
    simp only [List.getElem?_map] at hj
    obtain ⟨r, hr', rfl⟩ := Option.map_eq_some_iff.1 hj
    obtain ⟨hjl, hrj⟩ := List.getElem?_eq_some_iff.1 hr'
    simp at hjl hrj
    subst hrj
    obtain ⟨hc, h1, h2, h3, h4, h5, h6⟩ := hr j (by omega)
    obtain ⟨b, o, sp⟩ := ad
    have hsp : sp = none := by
      have := spot_none (hr 0 (by omega)).1
      simpa [Addr.add] using this
    subst hsp
    rw [add_plain] at hc
    refine ⟨b, o, _, rfl, hc, A j, C j, by rw [List.length_take]; congr 1; omega, by rw [List.length_take]; omega, h2, fun i x hx => ?_⟩
    rw [List.getElem?_take] at hx
    split at hx
    · rename_i hil
      obtain ⟨hiz, rfl⟩ := List.getElem?_eq_some_iff.1 hx
      cases hA : A j with
      | none => have := h5 hA; omega
      | some a' =>
        obtain ⟨-, hcell⟩ := h6 a' hA
        obtain ⟨b', o', sp'⟩ := a'
        have hsp' : sp' = none := by
          have := spot_none (hcell 0 (by omega))
          simpa [Addr.add] using this
        subst hsp'
        have := hcell i (by omega)
        rw [add_plain, getD_at _ hiz] at this
        exact ⟨b', o', rfl, this⟩
    · cases hx
end Go.Proofs.Yteccjnnhihbdhab
