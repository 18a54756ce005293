/- What the proofs of the exact laws share: equations, lists of them and theories that came in. -/
import Derived.Test.YteccjnnhihbdhaaFrameY
import Derived.Test.YteccjnnhihbdhaaEqM
import Derived.Deep.Slices
import Derived.Deep.Strs
namespace Go.Proofs.Yteccjnnhihbdhaa
open Go.ChangeShapes Go.WideShapes Go.ChangeAt Go.RowKit Go.Deep Go.Joins
set_option linter.unusedVariables false

set_option maxRecDepth 100000 in
theorem ints_cell {H : Type} {enc : TypeId × Value → H} {W : World} {fuel : Nat} {u : Value} {x : DataW H × List MemPlace} (h : DataW.trod enc Try.prog W 0 (fun _ => true) true fuel 25 [u] = some x) : ∃ xs, RInts W u xs ∧ Small xs := by
  rcases open_ints Try.underlying25 Try.underlying3 (by kernel_rfl) h with ⟨hcs, _⟩ | ⟨x, l, c, zs, hcs, _, hl, hm, hz, _, hcell, hwz⟩
  · simp at hcs
    subst hcs
    exact ⟨[], RInts.nil _, small_nil⟩
  · simp at hcs
    subst hcs
    simp only [if_true] at hz
    have ht : (zs.take l).length = l := by rw [List.length_take]; omega
    refine ⟨zs.take l, ⟨some x, c, by rw [ht], by rw [ht]; exact hl, hm, fun j y hj => ?_⟩, small_take (small_wf hwz) _⟩
    rw [List.getElem?_take] at hj
    split at hj
    · obtain ⟨hjl, rfl⟩ := List.getElem?_eq_some_iff.1 hj
      obtain ⟨b, o, rfl, hc⟩ := plain_cell hcell hjl
      exact ⟨b, o, rfl, hc⟩
    · cases hj
set_option maxRecDepth 100000 in
theorem rows_cell {H : Type} {enc : TypeId × Value → H} {W : World} {fuel : Nat} {u : Value} {x : DataW H × List MemPlace} (hf : DataW.trod enc Try.prog W 0 (fun _ => true) true fuel 22 [u] = some x) : ∃ xs, RRows W u xs ∧ SmallR xs := by
  rcases open_int_rows Try.underlying22 Try.underlying25 Try.underlying3 (by kernel_rfl) (by kernel_rfl) hf with ⟨hcs, -⟩ | ⟨ad, len, cap, A, L, C, Z, hcs, -, hl, hm, -, hr⟩
  · simp at hcs
    subst hcs
    exact ⟨[], RRows.nil _, fun row hr => by simp at hr⟩
  · simp at hcs
    subst hcs
    refine ⟨(List.range len).map fun r => (Z r).take (L r), ?_, fun row hrow => ?_⟩
    · refine ⟨some ad, cap, by simp, by simpa using hl, hm, fun j row hj => ?_⟩
      simp only [List.getElem?_map] at hj
      obtain ⟨r, hr', rfl⟩ := Option.map_eq_some_iff.1 hj
      obtain ⟨hjl, hrj⟩ := List.getElem?_eq_some_iff.1 hr'
      simp at hjl hrj
      subst hrj
      obtain ⟨hc, h1, h2, h3, h4, h5, h6⟩ := hr j (by omega)
      obtain ⟨b, o, sp⟩ := ad
      have hsp : sp = none := by
        have := spot_none (hr 0 (by omega)).1
        simpa [Addr.add] using this
      subst hsp
      rw [add_plain] at hc
      refine ⟨b, o, _, rfl, hc, A j, C j, by rw [List.length_take]; congr 1; omega, by rw [List.length_take]; omega, h2, fun i x hx => ?_⟩
      rw [List.getElem?_take] at hx
      split at hx
      · obtain ⟨hil, rfl⟩ := List.getElem?_eq_some_iff.1 hx
        cases hA : A j with
        | none => have := h5 hA; omega
        | some a' =>
          obtain ⟨-, hcell⟩ := h6 a' hA
          obtain ⟨b', o', rfl, hc'⟩ := plain_cell (by rw [h3]; exact hcell) hil
          exact ⟨b', o', rfl, hc'⟩
      · cases hx
    · obtain ⟨r, hr', rfl⟩ := List.mem_map.1 hrow
      simp at hr'
      obtain ⟨hc, h1, h2, h3, h4, h5, h6⟩ := hr r (by omega)
      exact small_take (small_wf h4) _

instance : Inhabited MEq := ⟨⟨[], [], []⟩⟩
instance : Inhabited MSig := ⟨⟨0, []⟩⟩

set_option maxRecDepth 100000 in
theorem cells_Eq : Try.prog.cellsOf 45 = 3 := by kernel_rfl
set_option maxRecDepth 100000 in
theorem eqs_cell {H : Type} {enc : TypeId × Value → H} {W : World} {fuel : Nat} {u : Value} {x : DataW H × List MemPlace} (hf : DataW.trod enc Try.prog W 0 (fun _ => true) true fuel 58 [u] = some x) : ∃ es, REqs W u es ∧ ∀ e ∈ es, SmallE e := by
  rcases open_slice Try.underlying58 hf with ⟨hcs, -⟩ | ⟨a, len, cap, m, n, D, Pl, hcs, hb, hl, hm, hmm, -, hx⟩
  · simp at hcs
    subst hcs
    exact ⟨[], REqs.nil _, fun e he => by simp at he⟩
  · simp at hcs
    subst hcs
    have hlm : len ≤ m := by rw [hmm]; split <;> omega
    have each : ∀ i, i < len → ∃ q : MEq, (∃ b o x y z, a = ⟨b, o, none⟩ ∧ W.cell? ⟨b, o + i * 3, none⟩ = some x ∧ W.cell? ⟨b, o + i * 3 + 1, none⟩ = some y ∧ W.cell? ⟨b, o + i * 3 + 2, none⟩ = some z ∧ RInts W x q.vars ∧ RInts W y q.left ∧ RInts W z q.right) ∧ SmallE q := by
      intro i hi
      obtain ⟨cs', h1, h2⟩ := hx i (by omega)
      rw [cells_Eq] at h1
      obtain ⟨-, hlen, hcell⟩ := World.cells?_some h1
      obtain ⟨y0, y1, y2, n', -, -, g0, g1, g2⟩ := trod_struct3 Try.underlying45 h2
      match cs', hlen with
      | [v0, v1, v2], _ =>
        have c0 := hcell 0 (by omega)
        have c1 := hcell 1 (by omega)
        have c2 := hcell 2 (by omega)
        have hsp0 : a.spot = none := by
          obtain ⟨cs0, k1, -⟩ := hx 0 (by omega)
          rw [cells_Eq] at k1
          obtain ⟨-, hl0, hc0⟩ := World.cells?_some k1
          have c := hc0 0 (by omega)
          rw [List.getElem?_eq_getElem (by omega)] at c
          have := spot_none c
          simpa [Addr.add] using this
        obtain ⟨b, o, sp⟩ := a
        simp only at hsp0
        subst hsp0
        rw [add_add, add_plain] at c0 c1 c2
        have k1 : Try.prog.cellsOf 25 = 1 := by kernel_rfl
        simp [k1] at g0 g1 g2
        obtain ⟨xs0, r0, -⟩ := ints_cell (u := v0) (by simpa using g0)
        obtain ⟨xs1, r1, s1⟩ := ints_cell (u := v1) (by simpa using g1)
        obtain ⟨xs2, r2, s2⟩ := ints_cell (u := v2) (by simpa using g2)
        exact ⟨⟨xs0, xs1, xs2⟩, ⟨b, o, v0, v1, v2, rfl, by simpa using c0, by simpa [Nat.add_assoc] using c1, by simpa [Nat.add_assoc] using c2, r0, r1, r2⟩, s1, s2⟩
    obtain ⟨q, hq⟩ := choose_lt each
    refine ⟨(List.range len).map q, ⟨some a, cap, by simp, by simpa using hl, hm, fun j e hj => ?_⟩, fun e he => ?_⟩
    · simp only [List.getElem?_map] at hj
      obtain ⟨r, hr', rfl⟩ := Option.map_eq_some_iff.1 hj
      obtain ⟨hjl, hrj⟩ := List.getElem?_eq_some_iff.1 hr'
      simp at hjl hrj
      subst hrj
      obtain ⟨⟨b, o, x, y, z, rfl, r⟩, -⟩ := hq j hjl
      exact ⟨b, o, x, y, z, rfl, r⟩
    · obtain ⟨r, hr', rfl⟩ := List.mem_map.1 he
      simp at hr'
      exact (hq r hr').2

set_option maxRecDepth 100000 in
theorem eq_of {H : Type} {enc : TypeId × Value → H} {W : World} {base : Nat} {v : Value} {d : DataW H} {p : List MemPlace} (hv : Value.okWide Try.prog W .any base 45 v)
    (h : DataW.Trod enc Try.prog W 0 (fun _ => true) true 45 v d p) : ∃ e, REq W v e ∧ SmallE e := by
  obtain ⟨v0, v1, v2, y0, y1, y2, n, rfl, -, -, h0, h1, h2⟩ := open_agg3 Try.underlying45 (by kernel_rfl) cells_Eq hv h
  obtain ⟨xs0, r0, -⟩ := ints_cell h0
  obtain ⟨xs1, r1, s1⟩ := ints_cell h1
  obtain ⟨xs2, r2, s2⟩ := ints_cell h2
  exact ⟨⟨xs0, xs1, xs2⟩, ⟨v0, v1, v2, rfl, r0, r1, r2⟩, s1, s2⟩

set_option maxRecDepth 100000 in
theorem cells_Thy : Try.prog.cellsOf 60 = 3 := by kernel_rfl
set_option maxRecDepth 100000 in
theorem thy_of {H : Type} {enc : TypeId × Value → H} {W : World} {base : Nat} {v : Value} {d : DataW H} {p : List MemPlace} (hv : Value.okWide Try.prog W .any base 60 v)
    (h : DataW.Trod enc Try.prog W 0 (fun _ => true) true 60 v d p) : ∃ t, RThy W v t ∧ SmallT t := by
  obtain ⟨cs, rfl, hsz⟩ := okWide_struct Try.underlying60 hv
  obtain ⟨c0, c1, c2, rfl⟩ := array3 (hsz.trans cells_Thy)
  obtain ⟨fuel, hf⟩ := h
  obtain ⟨y0, y1, n, -, -, h0, h1⟩ := trod_struct2 Try.underlying60 hf
  have k2 : Try.prog.cellsOf 24 = 2 := by kernel_rfl
  have k1 : Try.prog.cellsOf 58 = 1 := by kernel_rfl
  simp [Value.cells, k1, k2] at h0 h1
  obtain ⟨z0, z1, n', -, -, g0, g1⟩ := trod_struct2 Try.underlying24 h0
  have k3 : Try.prog.cellsOf 3 = 1 := by kernel_rfl
  have k4 : Try.prog.cellsOf 22 = 1 := by kernel_rfl
  simp [k3, k4] at g0 g1
  obtain ⟨a, e0, -, wa⟩ := DataW.trod_int Try.underlying3 g0
  simp at e0
  subst e0
  obtain ⟨rows, r1, -⟩ := rows_cell g1
  obtain ⟨es, r2, s2⟩ := eqs_cell h1
  exact ⟨⟨⟨a, rows⟩, es⟩, ⟨_, _, rfl, r1, r2⟩, s2⟩
end Go.Proofs.Yteccjnnhihbdhaa
