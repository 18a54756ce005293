/- What the proofs of the exact laws share: steps that came in. -/
import Derived.Test.YtonainidjkcoeacFrameE
import Derived.Test.YtonainidjkcoeacSteps
namespace Go.Proofs.Ytonainidjkcoeac
open Go.ChangeShapes Go.WideShapes Go.ChangeAt Go.RowKit Go.Deep Go.Joins
set_option linter.unusedVariables false

set_option maxRecDepth 100000 in
theorem step_of {H : Type} {enc : TypeId × Value → H} {W : World} {base : Nat} {v : Value} {d : DataW H} {p : List MemPlace} (hv : Value.okWide Try.prog W .any base 81 v)
    (h : DataW.Trod enc Try.prog W 0 (fun _ => true) true 81 v d p) : ∃ s, RStep W v s ∧ SmallP s := by
  obtain ⟨v0, v1, v2, v3, y0, y1, y2, y3, n, rfl, -, -, h0, h1, h2, h3⟩ := open_agg4 Try.underlying81 (by kernel_rfl) (by kernel_rfl) hv h
  obtain ⟨a, e0, -, -⟩ := DataW.trod_int Try.underlying3 h0
  simp at e0
  subst e0
  obtain ⟨c, e2, -, -⟩ := DataW.trod_int Try.underlying3 h2
  simp at e2
  subst e2
  obtain ⟨b, rfl⟩ : ∃ b, v1 = .bool b := by
    obtain ⟨b, hb, -⟩ := DataW.trod_bool Try.underlying4 h1
    simp at hb
    exact ⟨b, hb⟩
  obtain ⟨rows, r, s⟩ := rows_cell h3
  exact ⟨⟨a, b, c, rows⟩, ⟨_, rfl, r⟩, s⟩

instance : Inhabited MStep := ⟨⟨0, false, 0, []⟩⟩
set_option maxRecDepth 100000 in
theorem cells_Step : Try.prog.cellsOf 81 = 4 := by kernel_rfl
set_option maxRecDepth 100000 in
theorem steps_cell {H : Type} {enc : TypeId × Value → H} {W : World} {fuel : Nat} {u : Value} {x : DataW H × List MemPlace} (hf : DataW.trod enc Try.prog W 0 (fun _ => true) true fuel 22 [u] = some x) : ∃ es, RSteps W u es ∧ SmallPs es := by
  rcases open_slice Try.underlying22 hf with ⟨hcs, -⟩ | ⟨a, len, cap, m, n, D, Pl, hcs, hb, hl, hm, hmm, -, hx⟩
  · simp at hcs
    subst hcs
    exact ⟨[], RSteps.nil _, fun e he => by simp at he⟩
  · simp at hcs
    subst hcs
    have hlm : len ≤ m := by rw [hmm]; split <;> omega
    have each : ∀ i, i < len → ∃ q : MStep, (∃ b o u, a = ⟨b, o, none⟩ ∧ W.cell? ⟨b, o + i * 4, none⟩ = some (.int .i64 q.ax) ∧ W.cell? ⟨b, o + i * 4 + 1, none⟩ = some (.bool q.back) ∧ W.cell? ⟨b, o + i * 4 + 2, none⟩ = some (.int .i64 q.at_) ∧ W.cell? ⟨b, o + i * 4 + 3, none⟩ = some u ∧ RRows W u q.terms) ∧ SmallP q := by
      intro i hi
      obtain ⟨cs', h1, h2⟩ := hx i (by omega)
      rw [cells_Step] at h1
      obtain ⟨-, hlen, hcell⟩ := World.cells?_some h1
      obtain ⟨y0, y1, y2, y3, n', -, -, g0, g1, g2, g3⟩ := trod_struct4 Try.underlying81 h2
      match cs', hlen with
      | [v0, v1, v2, v3], _ =>
        have c0 := hcell 0 (by omega)
        have c1 := hcell 1 (by omega)
        have c2 := hcell 2 (by omega)
        have c3 := hcell 3 (by omega)
        have hsp0 : a.spot = none := by
          obtain ⟨cs0, k1, -⟩ := hx 0 (by omega)
          rw [cells_Step] at k1
          obtain ⟨-, hl0, hc0⟩ := World.cells?_some k1
          have c := hc0 0 (by omega)
          rw [List.getElem?_eq_getElem (by omega)] at c
          have := spot_none c
          simpa [Addr.add] using this
        obtain ⟨b, o, sp⟩ := a
        simp only at hsp0
        subst hsp0
        rw [add_add, add_plain] at c0 c1 c2 c3
        have k1 : Try.prog.cellsOf 3 = 1 := by kernel_rfl
        have k2 : Try.prog.cellsOf 4 = 1 := by kernel_rfl
        have k3 : Try.prog.cellsOf 30 = 1 := by kernel_rfl
        simp [k1, k2, k3] at g0 g1 g2 g3
        obtain ⟨p, e0, -, -⟩ := DataW.trod_int Try.underlying3 g0
        simp at e0
        subst e0
        obtain ⟨r, e2, -, -⟩ := DataW.trod_int Try.underlying3 g2
        simp at e2
        subst e2
        obtain ⟨q, e1, -⟩ := DataW.trod_bool Try.underlying4 g1
        simp at e1
        subst e1
        obtain ⟨rows, r1, s1⟩ := rows_cell g3
        exact ⟨⟨p, q, r, rows⟩, ⟨b, o, v3, rfl, by simpa using c0, by simpa [Nat.add_assoc] using c1, by simpa [Nat.add_assoc] using c2, by simpa [Nat.add_assoc] using c3, r1⟩, s1⟩
    obtain ⟨q, hq⟩ := choose_lt each
    refine ⟨(List.range len).map q, ⟨some a, cap, by simp, by simpa using hl, hm, fun j e hj => ?_⟩, fun e he => ?_⟩
    · simp only [List.getElem?_map] at hj
      obtain ⟨r, hr', rfl⟩ := Option.map_eq_some_iff.1 hj
      obtain ⟨hjl, hrj⟩ := List.getElem?_eq_some_iff.1 hr'
      simp at hjl hrj
      subst hrj
      obtain ⟨⟨b, o, u, rfl, r⟩, -⟩ := hq j hjl
      exact ⟨b, o, u, rfl, r⟩
    · obtain ⟨r, hr', rfl⟩ := List.mem_map.1 he
      simp at hr'
      exact (hq r hr').2
set_option maxRecDepth 100000 in
theorem steps_of {H : Type} {enc : TypeId × Value → H} {W : World} {base : Nat} {v : Value} {d : DataW H} {p : List MemPlace} (hv : Value.okWide Try.prog W .any base 22 v)
    (h : DataW.Trod enc Try.prog W 0 (fun _ => true) true 22 v d p) : ∃ es, RSteps W v es ∧ SmallPs es := by
  obtain ⟨a0, len0, cap0, rfl⟩ := okWide_slice Try.underlying22 hv
  obtain ⟨fuel, hf⟩ := h
  exact steps_cell (by simpa [Value.cells] using hf)
end Go.Proofs.Ytonainidjkcoeac
