/- What the proofs of the exact laws share: equations, lists of them and theories that came in. · What the proofs of the exact laws share: steps that came in. · The exact laws' marks of lists of steps, to the number: markStepS, heldStepS. · The exact laws' marks of lists of steps, to the number: markStepS, heldStepS. · l3Copy (package spec): a step, copied. · ProofBack of package impl. · l1Same: rows compared (package spec). · StepDo of both packages. · Proofs: ProofRun and ProofOk of both packages. · ProofUnder of package impl. · Marks of steps that may be nil. · Equations that a call has made, in worlds that keep what lies from a size on. No walk. · The exact laws' marks of an equation, to the number. · ProofBack of package spec. · ProofUnder of package spec. -/
import Derived.Test.YtonainidjkcoeacFrameY
import Derived.Test.YtonainidjkcoeacEqM
import Derived.Deep.Slices
import Derived.Deep.Strs
import Derived.Test.YtonainidjkcoeacSteps
import Derived.Test.YtonainidjkcoeacSz2
import Derived.Test.YtonainidjkcoeacCopy
import Derived.Test.YtonainidjkcoeacAt
import Derived.Deep.RegionHeld3
import Derived.Test.YtonainidjkcoeacPure3
import Derived.Test.YtonainidjkcoeacAfter
import Derived.Test.YtonainidjkcoeacTakes2
import Derived.Test.YtonainidjkcoeacApp
import Derived.Test.YtonainidjkcoeacSlEq
import Derived.Test.YtonainidjkcoeacExGen
import Derived.Test.YtonainidjkcoeacEqT
import Derived.Test.YtonainidjkcoeacMarkG
namespace Go.Proofs.Ytonainidjkcoeac
section
open Go.ChangeShapes Go.WideShapes Go.ChangeAt Go.RowKit Go.Deep Go.Joins
set_option linter.unusedVariables false

set_option maxRecDepth 100000 in
theorem ints_cell {H : Type} {enc : TypeId × Value → H} {W : World} {fuel : Nat} {u : Value} {x : DataW H × List MemPlace} (h : DataW.trod enc Try.prog W 0 (fun _ => true) true fuel 36 [u] = some x) : ∃ xs, RInts W u xs ∧ Small xs := by
  rcases open_ints Try.underlying36 Try.underlying3 (by kernel_rfl) h with ⟨hcs, _⟩ | ⟨x, l, c, zs, hcs, _, hl, hm, hz, _, hcell, hwz⟩
  · simp at hcs
    subst hcs
    exact ⟨[], RInts.nil _, small_nil⟩
  · simp at hcs
    subst hcs
    simp only [if_true] at hz
    have ht : (zs.take l).length = l := by rw [List.length_take]; omega
    refine ⟨zs.take l, ⟨some x, c, by rw [ht], by rw [ht]; exact hl, hm, fun j y hj => ?_⟩, small_take (small_wf hwz) _⟩
    rw [List.getElem?_take] at hj
    split at hj
    · obtain ⟨hjl, rfl⟩ := List.getElem?_eq_some_iff.1 hj
      obtain ⟨b, o, rfl, hc⟩ := plain_cell hcell hjl
      exact ⟨b, o, rfl, hc⟩
    · cases hj
set_option maxRecDepth 100000 in
theorem rows_cell {H : Type} {enc : TypeId × Value → H} {W : World} {fuel : Nat} {u : Value} {x : DataW H × List MemPlace} (hf : DataW.trod enc Try.prog W 0 (fun _ => true) true fuel 30 [u] = some x) : ∃ xs, RRows W u xs ∧ SmallR xs := by
  rcases open_int_rows Try.underlying30 Try.underlying36 Try.underlying3 (by kernel_rfl) (by kernel_rfl) hf with ⟨hcs, -⟩ | ⟨ad, len, cap, A, L, C, Z, hcs, -, hl, hm, -, hr⟩
  · simp at hcs
    subst hcs
    exact ⟨[], RRows.nil _, fun row hr => by simp at hr⟩
  · simp at hcs
    subst hcs
    refine ⟨(List.range len).map fun r => (Z r).take (L r), ?_, fun row hrow => ?_⟩
    · refine ⟨some ad, cap, by simp, by simpa using hl, hm, fun j row hj => ?_⟩
      simp only [List.getElem?_map] at hj
      obtain ⟨r, hr', rfl⟩ := Option.map_eq_some_iff.1 hj
      obtain ⟨hjl, hrj⟩ := List.getElem?_eq_some_iff.1 hr'
      simp at hjl hrj
      subst hrj
      obtain ⟨hc, h1, h2, h3, h4, h5, h6⟩ := hr j (by omega)
      obtain ⟨b, o, sp⟩ := ad
      have hsp : sp = none := by
        have := spot_none (hr 0 (by omega)).1
        simpa [Addr.add] using this
      subst hsp
      rw [add_plain] at hc
      refine ⟨b, o, _, rfl, hc, A j, C j, by rw [List.length_take]; congr 1; omega, by rw [List.length_take]; omega, h2, fun i x hx => ?_⟩
      rw [List.getElem?_take] at hx
      split at hx
      · obtain ⟨hil, rfl⟩ := List.getElem?_eq_some_iff.1 hx
        cases hA : A j with
        | none => have := h5 hA; omega
        | some a' =>
          obtain ⟨-, hcell⟩ := h6 a' hA
          obtain ⟨b', o', rfl, hc'⟩ := plain_cell (by rw [h3]; exact hcell) hil
          exact ⟨b', o', rfl, hc'⟩
      · cases hx
    · obtain ⟨r, hr', rfl⟩ := List.mem_map.1 hrow
      simp at hr'
      obtain ⟨hc, h1, h2, h3, h4, h5, h6⟩ := hr r (by omega)
      exact small_take (small_wf h4) _

instance : Inhabited MEq := ⟨⟨[], [], []⟩⟩
instance : Inhabited MSig := ⟨⟨0, []⟩⟩

set_option maxRecDepth 100000 in
theorem cells_Eq : Try.prog.cellsOf 38 = 3 := by kernel_rfl
set_option maxRecDepth 100000 in
theorem eqs_cell {H : Type} {enc : TypeId × Value → H} {W : World} {fuel : Nat} {u : Value} {x : DataW H × List MemPlace} (hf : DataW.trod enc Try.prog W 0 (fun _ => true) true fuel 33 [u] = some x) : ∃ es, REqs W u es ∧ ∀ e ∈ es, SmallE e := by
  rcases open_slice Try.underlying33 hf with ⟨hcs, -⟩ | ⟨a, len, cap, m, n, D, Pl, hcs, hb, hl, hm, hmm, -, hx⟩
  · simp at hcs
    subst hcs
    exact ⟨[], REqs.nil _, fun e he => by simp at he⟩
  · simp at hcs
    subst hcs
    have hlm : len ≤ m := by rw [hmm]; split <;> omega
    have each : ∀ i, i < len → ∃ q : MEq, (∃ b o x y z, a = ⟨b, o, none⟩ ∧ W.cell? ⟨b, o + i * 3, none⟩ = some x ∧ W.cell? ⟨b, o + i * 3 + 1, none⟩ = some y ∧ W.cell? ⟨b, o + i * 3 + 2, none⟩ = some z ∧ RInts W x q.vars ∧ RInts W y q.left ∧ RInts W z q.right) ∧ SmallE q := by
      intro i hi
      obtain ⟨cs', h1, h2⟩ := hx i (by omega)
      rw [cells_Eq] at h1
      obtain ⟨-, hlen, hcell⟩ := World.cells?_some h1
      obtain ⟨y0, y1, y2, n', -, -, g0, g1, g2⟩ := trod_struct3 Try.underlying38 h2
      match cs', hlen with
      | [v0, v1, v2], _ =>
        have c0 := hcell 0 (by omega)
        have c1 := hcell 1 (by omega)
        have c2 := hcell 2 (by omega)
        have hsp0 : a.spot = none := by
          obtain ⟨cs0, k1, -⟩ := hx 0 (by omega)
          rw [cells_Eq] at k1
          obtain ⟨-, hl0, hc0⟩ := World.cells?_some k1
          have c := hc0 0 (by omega)
          rw [List.getElem?_eq_getElem (by omega)] at c
          have := spot_none c
          simpa [Addr.add] using this
        obtain ⟨b, o, sp⟩ := a
        simp only at hsp0
        subst hsp0
        rw [add_add, add_plain] at c0 c1 c2
        have k1 : Try.prog.cellsOf 36 = 1 := by kernel_rfl
        simp [k1] at g0 g1 g2
        obtain ⟨xs0, r0, -⟩ := ints_cell (u := v0) (by simpa using g0)
        obtain ⟨xs1, r1, s1⟩ := ints_cell (u := v1) (by simpa using g1)
        obtain ⟨xs2, r2, s2⟩ := ints_cell (u := v2) (by simpa using g2)
        exact ⟨⟨xs0, xs1, xs2⟩, ⟨b, o, v0, v1, v2, rfl, by simpa using c0, by simpa [Nat.add_assoc] using c1, by simpa [Nat.add_assoc] using c2, r0, r1, r2⟩, s1, s2⟩
    obtain ⟨q, hq⟩ := choose_lt each
    refine ⟨(List.range len).map q, ⟨some a, cap, by simp, by simpa using hl, hm, fun j e hj => ?_⟩, fun e he => ?_⟩
    · simp only [List.getElem?_map] at hj
      obtain ⟨r, hr', rfl⟩ := Option.map_eq_some_iff.1 hj
      obtain ⟨hjl, hrj⟩ := List.getElem?_eq_some_iff.1 hr'
      simp at hjl hrj
      subst hrj
      obtain ⟨⟨b, o, x, y, z, rfl, r⟩, -⟩ := hq j hjl
      exact ⟨b, o, x, y, z, rfl, r⟩
    · obtain ⟨r, hr', rfl⟩ := List.mem_map.1 he
      simp at hr'
      exact (hq r hr').2

set_option maxRecDepth 100000 in
theorem eq_of {H : Type} {enc : TypeId × Value → H} {W : World} {base : Nat} {v : Value} {d : DataW H} {p : List MemPlace} (hv : Value.okWide Try.prog W .any base 38 v)
    (h : DataW.Trod enc Try.prog W 0 (fun _ => true) true 38 v d p) : ∃ e, REq W v e ∧ SmallE e := by
  obtain ⟨v0, v1, v2, y0, y1, y2, n, rfl, -, -, h0, h1, h2⟩ := open_agg3 Try.underlying38 (by kernel_rfl) cells_Eq hv h
  obtain ⟨xs0, r0, -⟩ := ints_cell h0
  obtain ⟨xs1, r1, s1⟩ := ints_cell h1
  obtain ⟨xs2, r2, s2⟩ := ints_cell h2
  exact ⟨⟨xs0, xs1, xs2⟩, ⟨v0, v1, v2, rfl, r0, r1, r2⟩, s1, s2⟩

set_option maxRecDepth 100000 in
theorem cells_Thy : Try.prog.cellsOf 35 = 3 := by kernel_rfl
set_option maxRecDepth 100000 in
theorem thy_of {H : Type} {enc : TypeId × Value → H} {W : World} {base : Nat} {v : Value} {d : DataW H} {p : List MemPlace} (hv : Value.okWide Try.prog W .any base 35 v)
    (h : DataW.Trod enc Try.prog W 0 (fun _ => true) true 35 v d p) : ∃ t, RThy W v t ∧ SmallT t := by
  obtain ⟨cs, rfl, hsz⟩ := okWide_struct Try.underlying35 hv
  obtain ⟨c0, c1, c2, rfl⟩ := array3 (hsz.trans cells_Thy)
  obtain ⟨fuel, hf⟩ := h
  obtain ⟨y0, y1, n, -, -, h0, h1⟩ := trod_struct2 Try.underlying35 hf
  have k2 : Try.prog.cellsOf 32 = 2 := by kernel_rfl
  have k1 : Try.prog.cellsOf 33 = 1 := by kernel_rfl
  simp [Value.cells, k1, k2] at h0 h1
  obtain ⟨z0, z1, n', -, -, g0, g1⟩ := trod_struct2 Try.underlying32 h0
  have k3 : Try.prog.cellsOf 3 = 1 := by kernel_rfl
  have k4 : Try.prog.cellsOf 30 = 1 := by kernel_rfl
  simp [k3, k4] at g0 g1
  obtain ⟨a, e0, -, wa⟩ := DataW.trod_int Try.underlying3 g0
  simp at e0
  subst e0
  obtain ⟨rows, r1, -⟩ := rows_cell g1
  obtain ⟨es, r2, s2⟩ := eqs_cell h1
  exact ⟨⟨⟨a, rows⟩, es⟩, ⟨_, _, rfl, r1, r2⟩, s2⟩
end

section
open Go.ChangeShapes Go.WideShapes Go.ChangeAt Go.RowKit Go.Deep Go.Joins
set_option linter.unusedVariables false

set_option maxRecDepth 100000 in
theorem step_of {H : Type} {enc : TypeId × Value → H} {W : World} {base : Nat} {v : Value} {d : DataW H} {p : List MemPlace} (hv : Value.okWide Try.prog W .any base 81 v)
    (h : DataW.Trod enc Try.prog W 0 (fun _ => true) true 81 v d p) : ∃ s, RStep W v s ∧ SmallP s := by
  obtain ⟨v0, v1, v2, v3, y0, y1, y2, y3, n, rfl, -, -, h0, h1, h2, h3⟩ := open_agg4 Try.underlying81 (by kernel_rfl) (by kernel_rfl) hv h
  obtain ⟨a, e0, -, -⟩ := DataW.trod_int Try.underlying3 h0
  simp at e0
  subst e0
  obtain ⟨c, e2, -, -⟩ := DataW.trod_int Try.underlying3 h2
  simp at e2
  subst e2
  obtain ⟨b, rfl⟩ : ∃ b, v1 = .bool b := by
    obtain ⟨b, hb, -⟩ := DataW.trod_bool Try.underlying4 h1
    simp at hb
    exact ⟨b, hb⟩
  obtain ⟨rows, r, s⟩ := rows_cell h3
  exact ⟨⟨a, b, c, rows⟩, ⟨_, rfl, r⟩, s⟩

instance : Inhabited MStep := ⟨⟨0, false, 0, []⟩⟩
set_option maxRecDepth 100000 in
theorem cells_Step : Try.prog.cellsOf 81 = 4 := by kernel_rfl
set_option maxRecDepth 100000 in
theorem steps_cell {H : Type} {enc : TypeId × Value → H} {W : World} {fuel : Nat} {u : Value} {x : DataW H × List MemPlace} (hf : DataW.trod enc Try.prog W 0 (fun _ => true) true fuel 22 [u] = some x) : ∃ es, RSteps W u es ∧ SmallPs es := by
  rcases open_slice Try.underlying22 hf with ⟨hcs, -⟩ | ⟨a, len, cap, m, n, D, Pl, hcs, hb, hl, hm, hmm, -, hx⟩
  · simp at hcs
    subst hcs
    exact ⟨[], RSteps.nil _, fun e he => by simp at he⟩
  · simp at hcs
    subst hcs
    have hlm : len ≤ m := by rw [hmm]; split <;> omega
    have each : ∀ i, i < len → ∃ q : MStep, (∃ b o u, a = ⟨b, o, none⟩ ∧ W.cell? ⟨b, o + i * 4, none⟩ = some (.int .i64 q.ax) ∧ W.cell? ⟨b, o + i * 4 + 1, none⟩ = some (.bool q.back) ∧ W.cell? ⟨b, o + i * 4 + 2, none⟩ = some (.int .i64 q.at_) ∧ W.cell? ⟨b, o + i * 4 + 3, none⟩ = some u ∧ RRows W u q.terms) ∧ SmallP q := by
      intro i hi
      obtain ⟨cs', h1, h2⟩ := hx i (by omega)
      rw [cells_Step] at h1
      obtain ⟨-, hlen, hcell⟩ := World.cells?_some h1
      obtain ⟨y0, y1, y2, y3, n', -, -, g0, g1, g2, g3⟩ := trod_struct4 Try.underlying81 h2
      match cs', hlen with
      | [v0, v1, v2, v3], _ =>
        have c0 := hcell 0 (by omega)
        have c1 := hcell 1 (by omega)
        have c2 := hcell 2 (by omega)
        have c3 := hcell 3 (by omega)
        have hsp0 : a.spot = none := by
          obtain ⟨cs0, k1, -⟩ := hx 0 (by omega)
          rw [cells_Step] at k1
          obtain ⟨-, hl0, hc0⟩ := World.cells?_some k1
          have c := hc0 0 (by omega)
          rw [List.getElem?_eq_getElem (by omega)] at c
          have := spot_none c
          simpa [Addr.add] using this
        obtain ⟨b, o, sp⟩ := a
        simp only at hsp0
        subst hsp0
        rw [add_add, add_plain] at c0 c1 c2 c3
        have k1 : Try.prog.cellsOf 3 = 1 := by kernel_rfl
        have k2 : Try.prog.cellsOf 4 = 1 := by kernel_rfl
        have k3 : Try.prog.cellsOf 30 = 1 := by kernel_rfl
        simp [k1, k2, k3] at g0 g1 g2 g3
        obtain ⟨p, e0, -, -⟩ := DataW.trod_int Try.underlying3 g0
        simp at e0
        subst e0
        obtain ⟨r, e2, -, -⟩ := DataW.trod_int Try.underlying3 g2
        simp at e2
        subst e2
        obtain ⟨q, e1, -⟩ := DataW.trod_bool Try.underlying4 g1
        simp at e1
        subst e1
        obtain ⟨rows, r1, s1⟩ := rows_cell g3
        exact ⟨⟨p, q, r, rows⟩, ⟨b, o, v3, rfl, by simpa using c0, by simpa [Nat.add_assoc] using c1, by simpa [Nat.add_assoc] using c2, by simpa [Nat.add_assoc] using c3, r1⟩, s1⟩
    obtain ⟨q, hq⟩ := choose_lt each
    refine ⟨(List.range len).map q, ⟨some a, cap, by simp, by simpa using hl, hm, fun j e hj => ?_⟩, fun e he => ?_⟩
    · simp only [List.getElem?_map] at hj
      obtain ⟨r, hr', rfl⟩ := Option.map_eq_some_iff.1 hj
      obtain ⟨hjl, hrj⟩ := List.getElem?_eq_some_iff.1 hr'
      simp at hjl hrj
      subst hrj
      obtain ⟨⟨b, o, u, rfl, r⟩, -⟩ := hq j hjl
      exact ⟨b, o, u, rfl, r⟩
    · obtain ⟨r, hr', rfl⟩ := List.mem_map.1 he
      simp at hr'
      exact (hq r hr').2
set_option maxRecDepth 100000 in
theorem steps_of {H : Type} {enc : TypeId × Value → H} {W : World} {base : Nat} {v : Value} {d : DataW H} {p : List MemPlace} (hv : Value.okWide Try.prog W .any base 22 v)
    (h : DataW.Trod enc Try.prog W 0 (fun _ => true) true 22 v d p) : ∃ es, RSteps W v es ∧ SmallPs es := by
  obtain ⟨a0, len0, cap0, rfl⟩ := okWide_slice Try.underlying22 hv
  obtain ⟨fuel, hf⟩ := h
  exact steps_cell (by simpa [Value.cells] using hf)
end

section
open Go.RowKit
set_option linter.unusedVariables false

theorem own_cutTo {wr : World} {B M : Nat} {e : TypeId} {size n : Nat} {v : Value} {zs : List Value} (h : wr.ownsRow B e size v n zs) (hv : ∀ g, v.ownBlock = some g → g < M) : (cutTo wr M).ownsRow B e size v n zs := by
  refine ⟨h.1, ?_⟩
  rcases h.2 with h2 | ⟨g, cap, cur, rfl, hg, hh, r⟩
  · exact .inl h2
  · exact .inr ⟨g, cap, cur, rfl, hg, (cut_block (hv g rfl)).trans hh, r⟩
theorem MarkP.cut {w wr : World} {B M : Nat} {v : Value} {us : List Value} {rows : List (List Int)} {k0 : Int} {k : Nat} (h : MarkP w wr B M v us rows k0 k) (hk : k = rows.length) (hv : ∀ g, v.ownBlock = some g → g < M) : ORows (cutTo wr M) B v (marksR k0 rows) := by
  refine ⟨us, by rw [marksR_len]; exact own_cutTo h.own hv, by rw [marksR_len]; exact h.len, fun j u r hu hr => ?_, h.apart⟩
  rw [marksR_at] at hr
  obtain ⟨row, hrow, rfl⟩ := Option.map_eq_some_iff.1 hr
  exact own_cutTo (h.done j u row (by rw [hk]; exact (List.getElem?_eq_some_iff.1 hrow).1) hu hrow) fun g hg => (h.low j u hu g hg).2

set_option maxRecDepth 100000 in
theorem markIntSSc_any (v : Value) (B : Nat) (rows : List (List Int)) (k0 : Int) (w0 w : World) (h : ORows w0 B v rows) (hb : Below w0.heap.size w0 w) (hs : rows.length ≤ 1048576) (hs2 : ∀ row ∈ rows, row.length ≤ 1048576) (h0 : 0 ≤ k0) (h1 : k0 ≤ 100000000000000) :
    Calls Try.prog 31 #[v, .int .i64 k0] w fun e w' => e = .returned (.int .i64 (k0 + (tot rows : Int))) ∧ ORows (cutTo w' w0.heap.size) B v (marksR k0 rows) ∧ Outside B w0.heap.size w w' := by
  obtain ⟨us, hm0⟩ := MarkP.start k0 h hb
  have HVL := Lib.hid (show ∀ g, v.ownBlock = some g → g < w0.heap.size from fun g hg => by obtain ⟨us', q1, -⟩ := h; exact (own_lt q1 g hg).2)
  have HM0 := Lib.hid hm0
  have HS2 := Lib.hid hs2
  obtain ⟨A, c, rfl, -⟩ := own_reads hm0.own
  clear h hb hm0 hs2
  go_enter Try.func31, Try.ntmps31
  go_wp2
  go_loopw [1, 5] (fun l i wr => ∃ k : Nat, k ≤ rows.length ∧ i = .int .i64 k ∧ l = .int .i64 (k0 + (tot (rows.take k) : Int)) ∧ MarkP w wr B w0.heap.size (.slice A rows.length c) us rows k0 k) (fun _ i _ => rows.length - (intOf i).toNat)
  case atStart => exact ⟨0, Nat.zero_le _, rfl, by simp [tot], HM0.out⟩
  case round =>
    obtain ⟨k, hk, rfl, rfl, hm⟩ := hrel
    have HM := Lib.hid hm
    clear hm
    have htt : (tot (rows.take k) : Int) ≤ 1048576 * 1048576 := by
      have := tot_le (rows := rows.take k) (fun row hr => HS2.out row (List.mem_of_mem_take hr))
      rw [List.length_take] at this
      omega
    by_cases hlt : k < rows.length
    · have hul : k < us.length := by rw [HM.out.len]; exact hlt
      have HYO := Lib.hid (HM.out.todo k us[k] rows[k] (Nat.le_refl _) (List.getElem?_eq_getElem hul) (List.getElem?_eq_getElem hlt))
      have hrl := HS2.out _ (List.getElem_mem hlt)
      obtain ⟨A0, c0, e0, -, -, hcells⟩ := own_reads HM.out.own
      cases e0
      obtain ⟨b, o, ea, hcell⟩ := hcells k us[k] (List.getElem?_eq_getElem hul)
      subst ea
      have HU := Lib.hid (List.getElem?_eq_getElem hul)
      have HR := Lib.hid (List.getElem?_eq_getElem hlt)
      have HTT := Lib.hid (tot_take hlt)
      generalize us[k] = u at HYO hcell HU
      generalize rows[k] = row at HYO HR hrl HTT
      obtain ⟨Au, cu, rfl, -⟩ := own_reads HYO.out
      clear hcells hul
      generalize hto : tot (rows.take k) = T at HTT htt
      have HTO := Lib.hid hto
      clear hto
      go_wp2_with fail
      refine (markIntS_any _ B row _ _ HYO.out hrl (by omega) (by omega)).mono ?_
      rintro e w1 ⟨rfl, ho, hg, hz⟩
      have HN := Lib.hid (HM.out.step HU.out HR.out (by rw [HTO.out]; exact ho) hg hz)
      have hyl : (row.length : Int) ≤ 1048576 := by omega
      clear ho hg hz
      go_wp2
      go_roundw
      case rel => exact ⟨k + 1, by omega, by go_num, by rw [HTT.out]; go_num, HN.out⟩
      case measure => simp [intOf]; omega
    · have hkn : k = rows.length := by omega
      have HKN := Lib.hid hkn
      clear hkn
      go_wp2
      go_ret
      have r1 := HM.out.cut HKN.out HVL.out
      have r2 := HM.out.frame
      refine ⟨?_, r1, r2⟩
      have e := HKN.out
      have e2 : tot (rows.take k) = tot rows := by rw [take_all (by omega)]
      exact ret_int (by rw [e2])


/-- the number with which a step's marks begin -/
def mkAt (k0 : Int) (ps : List MStep) (j : Nat) : Int := k0 + 3 * (j : Int) + (totP (ps.take j) : Int)
def markP (k : Int) (p : MStep) : MStep := ⟨k, (k + 1) % 3 == 0, k + 1 + 1, marksR (k + 1 + 1 + 1) p.terms⟩
def marksPs (k : Int) : List MStep → List MStep
  | [] => []
  | p :: ps => markP k p :: marksPs (k + 3 + (tot p.terms : Int)) ps
theorem marksPs_at : ∀ (ps : List MStep) (k : Int) (j : Nat), (marksPs k ps)[j]? = (ps[j]?).map fun p => markP (mkAt k ps j) p
  | [], k, j => by simp [marksPs]
  | p :: ps, k, 0 => by simp [marksPs, mkAt, totP]
  | p :: ps, k, j + 1 => by
    simp only [marksPs, List.getElem?_cons_succ, marksPs_at ps]
    congr 1
    funext x
    congr 1
    simp only [mkAt, List.take_succ_cons, totP]
    omega
theorem marksPs_len : ∀ (ps : List MStep) (k : Int), (marksPs k ps).length = ps.length
  | [], k => rfl
  | p :: ps, k => by simp [marksPs, marksPs_len ps]

structure MarkQ (w wr : World) (B M g c n : Nat) (us : Nat → Value) (rg : Nat → Nat × Nat) (ps : List MStep) (k0 : Int) (k : Nat) : Prop where
  blk : ∃ cur : Array Value, wr.heap[g]? = some (.cells cur 82 (0, 0)) ∧ cur.size = c * 4 ∧ (∀ j, j < n → cur[j * 4 + 3]? = some (us j)) ∧
    ∀ j, j < k → cur[j * 4]? = some (.int .i64 (mkAt k0 ps j)) ∧ cur[j * 4 + 1]? = some (.bool ((mkAt k0 ps j + 1) % 3 == 0)) ∧ cur[j * 4 + 2]? = some (.int .i64 (mkAt k0 ps j + 1 + 1))
  done : ∀ j p, j < k → ps[j]? = some p → InR wr (rg j) (us j) (marksR (mkAt k0 ps j + 1 + 1 + 1) p.terms)
  todo : ∀ j p, k ≤ j → ps[j]? = some p → InR wr (rg j) (us j) p.terms
  rng : ∀ j p, ps[j]? = some p → B ≤ (rg j).1 ∧ (rg j).2 ≤ M ∧ (g < (rg j).1 ∨ (rg j).2 ≤ g)
  frame : Outside B M w wr
section
variable {w wr w1 : World} {B M g c n : Nat} {us : Nat → Value} {rg : Nat → Nat × Nat} {ps : List MStep} {k0 : Int} {k : Nat}
theorem MarkQ.cell (h : MarkQ w wr B M g c n us rg ps k0 k) {j : Nat} (hj : j < c * 4) : ∃ u, wr.cell? ⟨g, j, none⟩ = some u ∧ wr.frozen? ⟨g, j, none⟩ = false := by
  obtain ⟨cur, h1, h2, h3⟩ := h.blk
  exact ⟨cur[j]'(by omega), (blk_cell h1 j).trans (Array.getElem?_eq_getElem (by omega)), blk_free h1 j⟩
/-- a cell of the step at hand is stored -/
theorem MarkQ.set (h : MarkQ w wr B M g c n us rg ps k0 k) (hg : B ≤ g) (hM : g < M) {i : Nat} (hi : i % 4 ≠ 3) (hik : k * 4 ≤ i) (u : Value) : MarkQ w (wr.setCell ⟨g, i, none⟩ u) B M g c n us rg ps k0 k := by
  obtain ⟨cur, h1, h2, h3, h4⟩ := h.blk
  refine ⟨⟨_, blk_set h1 i u, by simpa using h2, fun j hj => ?_, fun j hj => ?_⟩, fun j p hj hp => ?_, fun j p hj hp => ?_, h.rng, h.frame.set hg hM u⟩
  · rw [Array.getElem?_setIfInBounds, if_neg (by omega)]
    exact h3 j hj
  · rw [Array.getElem?_setIfInBounds, if_neg (by omega), Array.getElem?_setIfInBounds, if_neg (by omega), Array.getElem?_setIfInBounds, if_neg (by omega)]
    exact h4 j hj
  · have := h.rng j p hp
    exact (h.done j p hj hp).same fun x x1 x2 => Below.heap_setCell wr ⟨g, i, none⟩ u x (by show x ≠ g; omega)
  · have := h.rng j p hp
    exact (h.todo j p hj hp).same fun x x1 x2 => Below.heap_setCell wr ⟨g, i, none⟩ u x (by show x ≠ g; omega)
theorem MarkQ.step {x : Int} (h : MarkQ w wr B M g c n us rg ps k0 k) (hx : x = mkAt k0 ps k) (hg : B ≤ g) (hM : g < M) (hk : k < ps.length) (hn : n = ps.length) (hc : n ≤ c) (hap : ∀ i j, i < j → j < ps.length → (rg i).2 ≤ (rg j).1 ∨ (rg j).2 ≤ (rg i).1)
    (ho : Outside (rg k).1 (rg k).2 (((wr.setCell ⟨g, k * 4, none⟩ (.int .i64 x)).setCell ⟨g, k * 4 + 1, none⟩ (.bool ((x + 1) % 3 == 0))).setCell ⟨g, k * 4 + 2, none⟩ (.int .i64 (x + 1 + 1))) w1) (hm : InR w1 (rg k) (us k) (marksR (x + 1 + 1 + 1) ps[k].terms)) :
    MarkQ w w1 B M g c n us rg ps k0 (k + 1) := by
  subst hx
  have hf := ((h.set hg hM (i := k * 4) (by omega) (by omega) (.int .i64 (mkAt k0 ps k))).set hg hM (i := k * 4 + 1) (by omega) (by omega) (.bool ((mkAt k0 ps k + 1) % 3 == 0))).set hg hM (i := k * 4 + 2) (by omega) (by omega) (.int .i64 (mkAt k0 ps k + 1 + 1))
  obtain ⟨cur, h1, h2, h3, h4⟩ := h.blk
  have hb := blk_set (blk_set (blk_set h1 (k * 4) (.int .i64 (mkAt k0 ps k))) (k * 4 + 1) (.bool ((mkAt k0 ps k + 1) % 3 == 0))) (k * 4 + 2) (.int .i64 (mkAt k0 ps k + 1 + 1))
  obtain ⟨b, d, e⟩ := h.rng k ps[k] (List.getElem?_eq_getElem hk)
  refine ⟨⟨_, (ho.block g (by omega)).trans hb, by simpa using h2, fun j hj => ?_, fun j hj => ?_⟩, fun j p hj hp => ?_, fun j p hj hp => ?_, h.rng, hf.frame.trans (ho.mono b d)⟩
  · rw [Array.getElem?_setIfInBounds, if_neg (by omega), Array.getElem?_setIfInBounds, if_neg (by omega), Array.getElem?_setIfInBounds, if_neg (by omega)]
    exact h3 j hj
  · by_cases hjk : j = k
    · subst hjk
      refine ⟨?_, ?_, ?_⟩
      · rw [Array.getElem?_setIfInBounds, if_neg (by omega), Array.getElem?_setIfInBounds, if_neg (by omega), Array.getElem?_setIfInBounds, if_pos rfl, if_pos (by omega)]
      · rw [Array.getElem?_setIfInBounds, if_neg (by omega), Array.getElem?_setIfInBounds, if_pos rfl, if_pos (by simp; omega)]
      · rw [Array.getElem?_setIfInBounds, if_pos rfl, if_pos (by simp; omega)]
    · obtain ⟨a1, a2, a3⟩ := h4 j (by omega)
      refine ⟨?_, ?_, ?_⟩ <;> (rw [Array.getElem?_setIfInBounds, if_neg (by omega), Array.getElem?_setIfInBounds, if_neg (by omega), Array.getElem?_setIfInBounds, if_neg (by omega)]; assumption)
  · by_cases hjk : j = k
    · subst hjk
      rw [List.getElem?_eq_getElem hk] at hp
      cases hp
      exact hm
    · refine (hf.done j p (by omega) hp).same fun x x1 x2 => ho.block x ?_
      have := hap j k (by omega) hk
      omega
  · refine (hf.todo j p (by omega) hp).same fun x x1 x2 => ho.block x ?_
    have := hap k j (by omega) (List.getElem?_eq_some_iff.1 hp).1
    omega
theorem MarkQ.all (h : MarkQ w wr B M g c ps.length us rg ps k0 k) (hk : k = ps.length) (hg : B ≤ g) (hc : ps.length ≤ c) (hc2 : c ≤ 9223372036854775807) (hM : M ≤ wr.heap.size) (hap : ∀ i j, i < j → j < ps.length → (rg i).2 ≤ (rg j).1 ∨ (rg j).2 ≤ (rg i).1) :
    OSteps wr B (.slice (some ⟨g, 0, none⟩) ps.length c) (marksPs k0 ps) := by
  obtain ⟨cur, h1, h2, h3, h4⟩ := h.blk
  refine ⟨g, c, cur, rg, by rw [marksPs_len], hg, h1, by rw [marksPs_len]; exact hc, hc2, h2, fun j p hj => ?_, fun i j hij hj => hap i j hij (by rw [marksPs_len] at hj; exact hj)⟩
  rw [marksPs_at] at hj
  obtain ⟨q, hq, rfl⟩ := Option.map_eq_some_iff.1 hj
  have hjl := (List.getElem?_eq_some_iff.1 hq).1
  obtain ⟨a1, a2, a3⟩ := h4 j (by omega)
  obtain ⟨r1, r2, r3⟩ := h.rng j q hq
  exact ⟨us j, a1, a2, a3, h3 j hjl, h.done j q (by omega) hq, r1, by omega, r3⟩
end
end

section
open Go.RowKit
set_option linter.unusedVariables false

set_option maxHeartbeats 800000 in
set_option maxRecDepth 100000 in
theorem markStepS_q (v : Value) (B : Nat) (ps : List MStep) (k0 : Int) (wc w : World) (h : OSteps wc B v ps) (hk : Keeps B wc w) (hz : wc.heap.size ≤ w.heap.size) (hs : FitsQ ps) (h0 : 0 ≤ k0) (h1 : k0 ≤ 80000000000000) :
    Calls Try.prog 13 #[v, .int .i64 k0] w fun e w' => e = .returned (.int .i64 (mkAt k0 ps ps.length)) ∧ OSteps w' B v (marksPs k0 ps) ∧ Outside B wc.heap.size w w' := by
  obtain ⟨g, c, cur, rg, rfl, g1, g2, g3, g4, g5, g6, g7⟩ := h
  have hgl := (Array.getElem?_eq_some_iff.1 g2).1
  have hps := hs.1.1
  have hus : ∃ us : Nat → Value, ∀ j p, ps[j]? = some p → cur[j * 4 + 3]? = some (us j) ∧ InR wc (rg j) (us j) p.terms ∧ B ≤ (rg j).1 ∧ (rg j).2 ≤ wc.heap.size ∧ (g < (rg j).1 ∨ (rg j).2 ≤ g) := by
    refine ⟨fun j => (cur[j * 4 + 3]?).getD (.bool false), fun j p hj => ?_⟩
    obtain ⟨u, -, -, -, c3, r, a, b, d⟩ := g6 j p hj
    simp only [c3, Option.getD_some]
    exact ⟨trivial, r, a, b, d⟩
  obtain ⟨us, hus⟩ := hus
  have hm : MarkQ w w B wc.heap.size g c ps.length us rg ps k0 0 := by
    refine ⟨⟨cur, (hk g g1 hgl).trans g2, g5, fun j hj => (hus j _ (List.getElem?_eq_getElem hj)).1, fun j hj => by omega⟩, fun j p hj => by omega, fun j p _ hp => ?_, fun j p hp => ?_, Outside.refl _ _ _⟩
    · obtain ⟨-, r, a, b, d⟩ := hus j p hp
      exact r.same fun x x1 x2 => hk x (by omega) (by omega)
    · obtain ⟨-, r, a, b, d⟩ := hus j p hp
      exact ⟨a, b, d⟩
  have HM := Lib.hid hm
  have HS := Lib.hid hs
  have HAP := Lib.hid g7
  clear g2 g6 g7 hus hm hk hs g5
  go_enter Try.func13, Try.ntmps13
  go_wp2
  go_loopw [1, 5] (fun l i wr => ∃ k : Nat, ∃ x : Int, k ≤ ps.length ∧ i = .int .i64 k ∧ l = .int .i64 x ∧ 0 ≤ x ∧ x = mkAt k0 ps k ∧ MarkQ w wr B wc.heap.size g c ps.length us rg ps k0 k) (fun _ i _ => ps.length - (intOf i).toNat)
  case atStart => exact ⟨0, k0, Nat.zero_le _, rfl, rfl, h0, by simp [mkAt, totP], HM.out⟩
  case round =>
    obtain ⟨k, x, hk, rfl, rfl, hx0, hx1, hm⟩ := hrel
    have HMK := Lib.hid hm
    have HX1 := Lib.hid hx1
    have htp : totP (ps.take k) ≤ totP ps := by
      have : ∀ (l : List MStep) (n : Nat), totP (l.take n) ≤ totP l := fun l => by
        induction l with
        | nil => intro n; simp
        | cons a l ih => intro n; cases n with
          | zero => simp [totP]
          | succ n => have := ih n; simp only [List.take_succ_cons, totP]; omega
      exact this ps k
    have hxb : x ≤ 80000000000000 + 3 * 1048576 + 1048576 := by have := HS.out.2; have h9 := HX1.out; unfold mkAt at h9; omega
    clear hm hx1 htp
    by_cases hlt : k < ps.length
    · have hlt' : (k : Int) < (ps.length : Int) := by omega
      have HTT := Lib.hid (totP_take hlt)
      have HFP := Lib.hid (show Fits ps[k].terms from HS.out.1.2 _ (List.getElem_mem hlt))
      have HPK := Lib.hid (List.getElem?_eq_getElem hlt)
      obtain ⟨z0, m0, n0⟩ := HMK.out.cell (j := k * 4) (by omega)
      have h1m := HMK.out.set g1 hgl (i := k * 4) (by omega) (by omega) (.int .i64 x)
      obtain ⟨z1, m1, n1⟩ := h1m.cell (j := k * 4 + 1) (by omega)
      have h2m := h1m.set g1 hgl (i := k * 4 + 1) (by omega) (by omega) (.bool ((x + 1) % 3 == 0))
      obtain ⟨z2, m2, n2⟩ := h2m.cell (j := k * 4 + 2) (by omega)
      have h3m := h2m.set g1 hgl (i := k * 4 + 2) (by omega) (by omega) (.int .i64 (x + 1 + 1))
      generalize hW3 : ((wr.setCell ⟨g, k * 4, none⟩ (.int .i64 x)).setCell ⟨g, k * 4 + 1, none⟩ (.bool ((x + 1) % 3 == 0))).setCell ⟨g, k * 4 + 2, none⟩ (.int .i64 (x + 1 + 1)) = W3 at h3m
      have hs3 : W3.heap.size = w.heap.size := h3m.frame.size
      have hin := h3m.todo k ps[k] (Nat.le_refl _) (List.getElem?_eq_getElem hlt)
      obtain ⟨hlo, hhi, -⟩ := h3m.rng k ps[k] (List.getElem?_eq_getElem hlt)
      obtain ⟨Ak, ck, hke, -⟩ := hin.rows.reads.form
      have m3 : W3.cell? ⟨g, k * 4 + 3, none⟩ = some (us k) := by
        obtain ⟨cur', b1, b2, b3, -⟩ := h3m.blk
        exact (blk_cell b1 _).trans (b3 k hlt)
      have hsc : (cutTo W3 (rg k).2).heap.size = (rg k).2 := cut_size (by omega)
      have hcb := cut_below (w := W3) (M := (rg k).2) (by omega)
      have HOC := Lib.hid (show ORows (cutTo W3 (rg k).2) (rg k).1 (us k) ps[k].terms by
        obtain ⟨wd, e1, e2, e3⟩ := hin
        exact orows_same e2 fun i a b => (cut_block (by omega)).trans (e3 i a (by omega)))
      have HCB := Lib.hid hcb
      have HSC := Lib.hid hsc
      rw [hke] at m3 HOC
      have htt : (tot ps[k].terms : Int) ≤ 1048576 := by
        have h5 := HS.out.2
        have : ∀ (l : List MStep) (n : Nat), totP (l.take n) ≤ totP l := fun l => by
          induction l with
          | nil => intro n; simp
          | cons a l ih => intro n; cases n with
            | zero => simp [totP]
            | succ n => have := ih n; simp only [List.take_succ_cons, totP]; omega
        have h6 := this ps (k + 1)
        have h7 := HTT.out
        omega
      have HSTEP := Lib.hid (fun (w1 : World) (ho : Outside (rg k).1 (rg k).2 W3 w1) (hi : InR w1 (rg k) (.slice Ak ps[k].terms.length ck) (marksR (x + 1 + 1 + 1) ps[k].terms)) => HMK.out.step HX1.out g1 hgl hlt rfl g3 HAP.out (by rw [hW3]; exact ho) (by rw [hke]; exact hi))
      generalize ps[k].terms = rows at m3 HOC HFP HTT htt hke HSTEP
      have HFP2 := Lib.hid (show Fits rows from HFP.out)
      clear hin hsc hcb h1m h2m h3m hke
      go_wp2_with fail
      clear hW3
      refine (markIntSSc_any _ (rg k).1 rows _ _ W3 HOC.out HCB.out HFP2.out.1 HFP2.out.2 (by omega) (by omega)).mono ?_
      rintro e w1 ⟨rfl, hoc, hout⟩
      rw [HSC.out] at hout hoc
      have hs1 := hout.size
      have HN := Lib.hid (HSTEP.out w1 hout ⟨cutTo w1 (rg k).2, cut_size (by omega), hoc, fun i a b => (cut_block b).symm⟩)
      clear hout m0 m1 m2 m3 n0 n1 n2
      go_wp2
      go_roundw
      case rel =>
        have a1 := HX1.out
        have a2 := HTT.out
        exact ⟨k + 1, _, by omega, by go_num, rfl, by omega, by unfold mkAt at a1 ⊢; rw [a2]; omega, HN.out⟩
      case measure => simp [intOf]; omega
    · have hlt' : ¬ (k : Int) < (ps.length : Int) := by omega
      have hkn : k = ps.length := by omega
      have HKN := Lib.hid hkn
      clear hkn
      go_wp2
      go_ret
      have e1 := HX1.out
      have e2 := HKN.out
      refine ⟨ret_int (by rw [e1, e2]), HMK.out.all e2 g1 g3 g4 (by have := HMK.out.frame.size; omega) HAP.out, HMK.out.frame⟩

set_option maxHeartbeats 800000 in
set_option maxRecDepth 100000 in
theorem heldStepS_any (v : Value) (ps : List MStep) (k0 : Int) (w : World) (h : RSteps w v (marksPs k0 ps)) (hs : FitsQ ps) (h0 : 0 ≤ k0) (h1 : k0 ≤ 80000000000000) :
    Calls Try.prog 14 #[v, .int .i64 k0] w fun e w' => e = .returned (.int .i64 (mkAt k0 ps ps.length)) ∧ Below w.heap.size w w' := by
  have H := Lib.hid h
  have HS := Lib.hid hs
  have hps := hs.1.1
  obtain ⟨A, c, e, -⟩ := h.form
  rw [marksPs_len] at e
  subst e
  clear h hs
  go_enter Try.func14, Try.ntmps14
  go_wp2
  go_loopw [1, 5] (fun l i wr => ∃ k : Nat, ∃ x : Int, k ≤ ps.length ∧ i = .int .i64 k ∧ l = .int .i64 x ∧ 0 ≤ x ∧ x = mkAt k0 ps k ∧ Below w.heap.size w wr) (fun _ i _ => ps.length - (intOf i).toNat)
  case atStart => exact ⟨0, k0, Nat.zero_le _, rfl, rfl, h0, by simp [mkAt, totP], Below.refl _ _⟩
  case round =>
    obtain ⟨k, x, hk, rfl, rfl, hx0, hx1, hb⟩ := hrel
    have HB := Lib.hid hb
    have HX1 := Lib.hid hx1
    have htp : ∀ n, totP (ps.take n) ≤ totP ps := by
      have : ∀ (l : List MStep) (n : Nat), totP (l.take n) ≤ totP l := fun l => by
        induction l with
        | nil => intro n; simp
        | cons a l ih => intro n; cases n with
          | zero => simp [totP]
          | succ n => have := ih n; simp only [List.take_succ_cons, totP]; omega
      exact this ps
    have hxb : x ≤ 80000000000000 + 3 * 1048576 + 1048576 := by have := HS.out.2; have := htp k; unfold mkAt at hx1; omega
    clear hb hx1
    by_cases hlt : k < ps.length
    · have hlt' : (k : Int) < (ps.length : Int) := by omega
      obtain ⟨b, o, c', u, e, c0, c1, c2, c3, q0⟩ := (H.out.keep HB.out).at_ (k := k) (by rw [marksPs_len]; exact hlt)
      rw [marksPs_len] at e
      cases e
      have hel : (marksPs k0 ps)[k]'(by rw [marksPs_len]; exact hlt) = markP (mkAt k0 ps k) ps[k] := by
        have := marksPs_at ps k0 k
        rw [List.getElem?_eq_getElem (by rw [marksPs_len]; exact hlt), List.getElem?_eq_getElem hlt] at this
        simpa using this
      rw [hel, ← HX1.out] at c0 c1 c2 q0
      simp only [markP] at c0 c1 c2 q0
      have HFP := Lib.hid (show Fits ps[k].terms from HS.out.1.2 _ (List.getElem_mem hlt))
      have HTT := Lib.hid (totP_take hlt)
      have htt : (tot ps[k].terms : Int) ≤ 1048576 := by
        have h5 := HS.out.2
        have h6 := htp (k + 1)
        have h7 := HTT.out
        omega
      clear hel htp
      generalize ps[k].terms = rows at q0 HFP HTT htt
      obtain ⟨A1, d1, e1, -⟩ := q0.form
      rw [marksR_len] at e1
      subst e1
      have HQ := Lib.hid q0
      clear q0
      have e2 : (x != x) = false := by simp
      have e3 : (x + 1 + 1 != x + 1 + 1) = false := by simp
      go_wp2_with fail
      refine (heldIntSS_any _ rows _ _ HQ.out HFP.out.1 HFP.out.2 (by omega) (by omega)).mono ?_
      rintro e w1 ⟨rfl, hd⟩
      have HB1 := Lib.hid (sz_keep HB.out hd.below)
      clear hd c0 c1 c2 c3
      go_wp2
      go_roundw
      case rel =>
        have a1 := HX1.out
        have a2 := HTT.out
        exact ⟨k + 1, _, by omega, by go_num, rfl, by omega, by unfold mkAt at a1 ⊢; rw [a2]; omega, HB1.out⟩
      case measure => simp [intOf]; omega
    · have hlt' : ¬ (k : Int) < (ps.length : Int) := by omega
      have hkn : k = ps.length := by omega
      have HKN := Lib.hid hkn
      clear hkn
      go_wp2
      go_ret
      have e1 := HX1.out
      have e2 := HKN.out
      exact ⟨ret_int (by rw [e1, e2]), HB.out⟩

theorem markStepS_g (v : Value) (B : Nat) (ps : List MStep) (wc w : World) (h : OSteps wc B v ps) (hk : Keeps B wc w) (hz : wc.heap.size ≤ w.heap.size) (hs : FitsQ ps) :
    Calls Try.prog 13 #[v, .int .i64 1] w fun e w' => ∃ K : Int, e = .returned (.int .i64 K) ∧ 0 ≤ K ∧ (∀ w2 : World, Keeps B w' w2 → w'.heap.size ≤ w2.heap.size → Calls Try.prog 14 #[v, .int .i64 1] w2 fun e w3 => e = .returned (.int .i64 K) ∧ Below w2.heap.size w2 w3) ∧ ∃ wa, Below w.heap.size w wa ∧ Outside B wc.heap.size wa w' := by
  refine (markStepS_q v B ps 1 wc w h hk hz hs (by omega) (by omega)).mono ?_
  rintro e w' ⟨rfl, ho, hout⟩
  refine ⟨_, rfl, by unfold mkAt; omega, fun w2 hk2 hz2 => ?_, w, Below.refl _ _, hout⟩
  exact heldStepS_any v ps 1 w2 (ho.same hz2 hk2).reads hs (by omega) (by omega)
end

section
open Go.RowKit
set_option linter.unusedVariables false
set_option linter.unusedSimpArgs false

set_option maxHeartbeats 800000 in
set_option maxRecDepth 100000 in
theorem l3Copy_any (p : MStep) (w : World) (v : Value) (hs : FitsP p) (h : RStep w v p) :
    Calls Try.prog 49 #[v] w fun x w' => ∃ u, x = .returned u ∧ OStep w' w.heap.size u p ∧ Below w.heap.size w w' := by
  obtain ⟨Apa, cpa, rfl⟩ := h.form
  have hb : Below w.heap.size w (w.alloc (.cells #[.int .i64 p.ax, .bool p.back, .int .i64 p.at_, .slice Apa p.terms.length cpa] 82)) := below_alloc _ _
  have HB := Lib.hid hb
  have hsz : (w.alloc (.cells #[.int .i64 p.ax, .bool p.back, .int .i64 p.at_, .slice Apa p.terms.length cpa] 82)).heap.size = w.heap.size + 1 := by simp
  have Hp := Lib.hid (h.keep hb)
  have p0 := bx_at (w) #[.int .i64 p.ax, .bool p.back, .int .i64 p.at_, .slice Apa p.terms.length cpa] 82 (k := 0) rfl
  have p1 := bx_at (w) #[.int .i64 p.ax, .bool p.back, .int .i64 p.at_, .slice Apa p.terms.length cpa] 82 (k := 1) rfl
  have p2 := bx_at (w) #[.int .i64 p.ax, .bool p.back, .int .i64 p.at_, .slice Apa p.terms.length cpa] 82 (k := 2) rfl
  have p3 := bx_at (w) #[.int .i64 p.ax, .bool p.back, .int .i64 p.at_, .slice Apa p.terms.length cpa] 82 (k := 3) rfl
  generalize hW : w.alloc (.cells #[.int .i64 p.ax, .bool p.back, .int .i64 p.at_, .slice Apa p.terms.length cpa] 82) = W at HB hsz Hp p0 p1 p2 p3
  clear hb h
  have R1 := Lib.hid Hp.out.of
  have HS := Lib.hid hs
  have hba := below_alloc W (.cells #[.int .i64 0, .bool false, .int .i64 0, .slice none 0 0] 82)
  have zr := heap_alloc_new W (.cells #[.int .i64 0, .bool false, .int .i64 0, .slice none 0 0] 82)
  have hsz2 : (W.alloc (.cells #[.int .i64 0, .bool false, .int .i64 0, .slice none 0 0] 82)).heap.size = w.heap.size + 2 := by rw [World.size_alloc, hsz]
  rw [hsz] at zr
  have n0 := cell_keep hba p0
  have n1 := cell_keep hba p1
  have n2 := cell_keep hba p2
  have n3 := cell_keep hba p3
  have HBA := Lib.hid (fit_keep HB.out hba)
  have R2 := Lib.hid (R1.out.keep hba)
  generalize hW2 : W.alloc (.cells #[.int .i64 0, .bool false, .int .i64 0, .slice none 0 0] 82) = W2 at zr hsz2 n0 n1 n2 n3 HBA R2
  have ZR := Lib.hid zr
  have HC := Lib.hid (And.intro n0 (And.intro n1 (And.intro n2 n3)))
  have ea := World.new_ne W2 _ n0
  clear zr hba p0 p1 p2 p3 hs
  go_enter Try.func49, Try.ntmps49
  go_wp2_with fail
  clear hW hW2
  go_region_held3 (fun w' => w'.cell? ⟨w.heap.size, 0, none⟩ = some (.int .i64 p.ax) ∧ w'.cell? ⟨w.heap.size, 1, none⟩ = some (.bool p.back) ∧ w'.cell? ⟨w.heap.size, 2, none⟩ = some (.int .i64 p.at_) ∧ w'.cell? ⟨w.heap.size, 3, none⟩ = some (.slice Apa p.terms.length cpa)) (first | go_keep)
    (first
      | (go_at_call 93; refine (l1CopyAny _ p.terms W2.drew (R2.out.keep (bel_drew (Below.refl _ _))) HS.out.1 (fun j hj => HS.out.2 _ (List.getElem_mem hj))).mono ?_; rintro x w3 ⟨u, rfl, ho, hb⟩; obtain ⟨A3, c3, rfl, -⟩ := ho.reads.form; have HB3 := Lib.hid (show Below W2.heap.size W2 w3 from bel_undrew hb); have HO := Lib.hid (show ORows w3 W2.heap.size (.slice A3 p.terms.length c3) p.terms from ho); have j0 := cell_keep HB3.out n0; have j1 := cell_keep HB3.out n1; have j2 := cell_keep HB3.out n2; have j3 := cell_keep HB3.out n3; have zb := (HB3.out.block (w.heap.size + 1) (by omega)).trans ZR.out; have y0 : w3.cell? ⟨w.heap.size + 1, 0, none⟩ = some (.int .i64 0) := blk_cell zb 0; have y1 : w3.cell? ⟨w.heap.size + 1, 1, none⟩ = some (.bool false) := blk_cell zb 1; have y2 : w3.cell? ⟨w.heap.size + 1, 2, none⟩ = some (.int .i64 0) := blk_cell zb 2; have y3 : w3.cell? ⟨w.heap.size + 1, 3, none⟩ = some (.slice none 0 0) := blk_cell zb 3; have f0 := blk_free zb 0; have f1 := blk_free zb 1; have f2 := blk_free zb 2; have f3 := blk_free zb 3; have ZB := Lib.hid zb; clear ho hb zb))
  go_wp2
  have r1 := blk_set (blk_set (blk_set (blk_set ZB.out 0 (.int .i64 p.ax)) 1 (.bool p.back)) 2 (.int .i64 p.at_)) 3 (.slice A3 p.terms.length c3)
  have o1 := (((HO.out.setLow' (b := w.heap.size + 1) (by omega) 0 (.int .i64 p.ax)).setLow' (b := w.heap.size + 1) (by omega) 1 (.bool p.back)).setLow' (b := w.heap.size + 1) (by omega) 2 (.int .i64 p.at_)).setLow' (b := w.heap.size + 1) (by omega) 3 (.slice A3 p.terms.length c3)
  have hb := ((((fit_keep HBA.out HB3.out).setCell (p := ⟨w.heap.size + 1, 0, none⟩) (by show w.heap.size ≤ w.heap.size + 1; omega) (.int .i64 p.ax)).setCell (p := ⟨w.heap.size + 1, 1, none⟩) (by show w.heap.size ≤ w.heap.size + 1; omega) (.bool p.back)).setCell (p := ⟨w.heap.size + 1, 2, none⟩) (by show w.heap.size ≤ w.heap.size + 1; omega) (.int .i64 p.at_)).setCell (p := ⟨w.heap.size + 1, 3, none⟩) (by show w.heap.size ≤ w.heap.size + 1; omega) (.slice A3 p.terms.length c3)
  generalize (((w3.setCell ⟨w.heap.size + 1, 0, none⟩ (.int .i64 p.ax)).setCell ⟨w.heap.size + 1, 1, none⟩ (.bool p.back)).setCell ⟨w.heap.size + 1, 2, none⟩ (.int .i64 p.at_)).setCell ⟨w.heap.size + 1, 3, none⟩ (.slice A3 p.terms.length c3) = W5 at r1 o1 hb ⊢
  have k0 : W5.cell? ⟨w.heap.size + 1, 0, none⟩ = some (.int .i64 p.ax) := blk_cell r1 0
  have k1 : W5.cell? ⟨w.heap.size + 1, 1, none⟩ = some (.bool p.back) := blk_cell r1 1
  have k2 : W5.cell? ⟨w.heap.size + 1, 2, none⟩ = some (.int .i64 p.at_) := blk_cell r1 2
  have k3 : W5.cell? ⟨w.heap.size + 1, 3, none⟩ = some (.slice A3 p.terms.length c3) := blk_cell r1 3
  clear y0 y1 y2 y3 f0 f1 f2 f3 j0 j1 j2 j3 n0 n1 n2 n3 ea
  refine bodyPost_ret (v := .agg #[.int .i64 p.ax, .bool p.back, .int .i64 p.at_, .slice A3 p.terms.length c3]) (by simp [results, Try.results49, go_sem, k0, k1, k2, k3]) rfl ?_
  exact ⟨_, rfl, ⟨_, rfl, o1.base (by omega)⟩, hb⟩
end

section
open Go.RowKit
set_option linter.unusedVariables false
set_option linter.unusedSimpArgs false

set_option maxRecDepth 100000 in
theorem clone_none (c : Nat) (w : World) :
    Calls Try.prog 84 #[.slice none 0 c] w fun e w' => e = .returned (.slice none 0 0) ∧ Below w.heap.size w w' := by
  have hcmp := Lib.run_eql_slice_nil (P := Try.prog) w 36 3 none 0 c 0 0 Try.underlying36
  simp only [Option.isNone_none] at hcmp
  go_enter Try.func84, Try.ntmps84
  go_wp2
  go_ret
  exact ⟨rfl, Below.refl _ _⟩
theorem clone_all (v : Value) (xs : List Int) (w : World) (h : RInts w v xs) (hs : xs.length ≤ 1048576) :
    Calls Try.prog 84 #[v] w fun e w' => ∃ u, e = .returned u ∧ OInts w' w.heap.size u xs ∧ Below w.heap.size w w' := by
  obtain ⟨A, c, rfl, h1, h2⟩ := h.form
  cases A with
  | some ad => exact clone_any ad _ c xs w h hs
  | none =>
    have hx : xs = [] := by
      cases xs with
      | nil => rfl
      | cons y ys =>
        obtain ⟨b, o, c', e, -⟩ := h.at_ (k := 0) (by simp)
        cases e
    subst hx
    refine (clone_none c w).mono ?_
    rintro e w' ⟨rfl, hb⟩
    exact ⟨_, rfl, OInts.nil _ _, hb⟩

set_option maxRecDepth 100000 in
theorem copiedRows_any (v : Value) (rows : List (List Int)) (w : World) (h : RRows w v rows) (hs : Fits rows) :
    Calls Try.prog 51 #[v] w fun e w' => ∃ u, e = .returned u ∧ ORows w' w.heap.size u rows ∧ Below w.heap.size w w' := by
  have H := Lib.hid h
  have HS := Lib.hid hs
  obtain ⟨A, c, rfl, -⟩ := h.form
  have hlen := hs.1
  clear h hs
  have hmk := run_make_row' (P := Try.prog) 30 36 (.slice none 0 0) 24 Try.underlying30 Try.tinfo_ints rfl .i64 .i64 rows.length (by omega) (by omega)
  go_enter Try.func51, Try.ntmps51
  go_wp2
  go_loopw [4, 5, 11] (fun a b i wr => ∃ k : Nat, k ≤ rows.length ∧ i = .int .i64 k ∧ FillingR w wr rows k) (fun _ _ i _ => rows.length - (intOf i).toNat)
  case atStart => exact ⟨0, Nat.zero_le _, rfl, FillingR.start w _ _ (by simp [madeCells])⟩
  case round =>
    obtain ⟨k, hk, rfl, hf⟩ := hrel
    have HF := Lib.hid hf
    clear hf hmk
    by_cases hlt : k < rows.length
    · obtain ⟨b, o, c', u, e, hx, hri⟩ := (H.out.keep (by obtain ⟨_, _, _, _, _, hb⟩ := HF.out; exact hb)).at_ hlt
      cases e
      have hlt' : (k : Int) < (rows.length : Int) := by omega
      have hrl := HS.out.2 _ (List.getElem_mem hlt)
      have HI := Lib.hid hri
      have HRL := Lib.hid hrl
      obtain ⟨A', c'', rfl, -⟩ := hri.form
      clear hri hrl
      go_wp2_with fail
      refine (clone_all _ rows[k] _ HI.out HRL.out).mono ?_
      rintro e w1 ⟨u, rfl, ho, hb⟩
      obtain ⟨u0, g1, g2⟩ := HF.out.cell hlt hb
      have HN := Lib.hid (HF.out.step hlt hb ho)
      obtain ⟨A1, c1, rfl, -⟩ := ho.reads.form
      clear ho hb
      go_wp2
      go_roundw
      case rel => exact ⟨k + 1, by omega, by go_num, HN.out⟩
      case measure => simp [intOf]; omega
    · have hlt' : ¬ (k : Int) < (rows.length : Int) := by omega
      go_wp2
      go_ret
      obtain ⟨r1, r2⟩ := HF.out.done (by omega) (by omega)
      have hkn : k = rows.length := by omega
      subst hkn
      exact ⟨_, rfl, r1, r2⟩

def turnP (p : MStep) : MStep := ⟨p.ax, !p.back, p.at_, p.terms⟩
/-- a proof turned -/
def backM (ps : List MStep) : List MStep := (ps.map turnP).reverse
theorem backM_len (ps : List MStep) : (backM ps).length = ps.length := by simp [backM]
theorem backM_at {ps : List MStep} {j k : Nat} (hk : k < ps.length) (hj : j + k + 1 = ps.length) : (backM ps)[j]? = some (turnP ps[k]) := by
  unfold backM
  rw [List.getElem?_reverse (by simp; omega)]
  simp only [List.length_map]
  rw [show ps.length - 1 - j = k by omega, List.getElem?_map, List.getElem?_eq_getElem hk]
  rfl
theorem backM_fits {ps : List MStep} (h : FitsPs ps) : FitsPs (backM ps) := by
  refine ⟨by rw [backM_len]; exact h.1, fun p hp => ?_⟩
  unfold backM at hp
  rw [List.mem_reverse] at hp
  obtain ⟨q, hq, rfl⟩ := List.mem_map.1 hp
  exact h.2 q hq

/-- a list of steps that is being filled from its end: k of them are done -/
def FillB (w wr : World) (ps : List MStep) (k : Nat) : Prop :=
  ∃ (cur : Array Value) (rg : Nat → Nat × Nat), wr.heap[w.heap.size]? = some (.cells cur 82 (0, 0)) ∧ cur.size = ps.length * 4 ∧
    (∀ j p, ps.length ≤ j + k → ps[j]? = some p → ∃ u, cur[j * 4]? = some (.int .i64 p.ax) ∧ cur[j * 4 + 1]? = some (.bool p.back) ∧ cur[j * 4 + 2]? = some (.int .i64 p.at_) ∧ cur[j * 4 + 3]? = some u ∧ InR wr (rg j) u p.terms ∧ w.heap.size < (rg j).1 ∧ (rg j).2 ≤ wr.heap.size) ∧
    (∀ i j, i < j → j < ps.length → ps.length ≤ i + k → (rg j).2 ≤ (rg i).1) ∧ Below w.heap.size w wr
section
variable {w wr w1 : World} {ps : List MStep} {k : Nat}
theorem FillB.start (w : World) (ps : List MStep) (cur : Array Value) (h : cur.size = ps.length * 4) : FillB w (w.alloc (.cells cur 82)) ps 0 :=
  ⟨cur, fun _ => (0, 0), heap_alloc_new w _, h, fun j p hj hp => by have := (List.getElem?_eq_some_iff.1 hp).1; omega, fun i j _ hj hi => by omega, below_alloc _ _⟩
theorem FillB.bel (h : FillB w wr ps k) : Below w.heap.size w wr := by obtain ⟨_, _, _, _, _, _, hb⟩ := h; exact hb
theorem FillB.lt (h : FillB w wr ps k) : w.heap.size < wr.heap.size := by obtain ⟨_, _, h1, _⟩ := h; exact (Array.getElem?_eq_some_iff.1 h1).1
theorem FillB.cell (h : FillB w wr ps k) (hb : Below wr.heap.size wr w1) {j : Nat} (hj : j < ps.length * 4) : ∃ u, w1.cell? ⟨w.heap.size, j, none⟩ = some u ∧ w1.frozen? ⟨w.heap.size, j, none⟩ = false := by
  obtain ⟨cur, rg, h1, h2, h3, h4, h5⟩ := h
  have h1' := (hb.block _ (Array.getElem?_eq_some_iff.1 h1).1).trans h1
  exact ⟨cur[j]'(by omega), (blk_cell h1' j).trans (Array.getElem?_eq_getElem (by omega)), blk_free h1' j⟩
theorem FillB.put {m : Nat} (h : FillB w wr ps k) (hm : m + k + 1 = ps.length) (hk : m < ps.length) (hb : Below wr.heap.size wr w1) {u : Value} (hp : ORows w1 wr.heap.size u ps[m].terms) :
    FillB w ((((w1.setCell ⟨w.heap.size, m * 4, none⟩ (.int .i64 ps[m].ax)).setCell ⟨w.heap.size, m * 4 + 1, none⟩ (.bool ps[m].back)).setCell ⟨w.heap.size, m * 4 + 2, none⟩ (.int .i64 ps[m].at_)).setCell ⟨w.heap.size, m * 4 + 3, none⟩ u) ps (k + 1) := by
  obtain ⟨cur, rg, h1, h2, h3, h4, h5⟩ := h
  have hl := (Array.getElem?_eq_some_iff.1 h1).1
  have h1' := (hb.block _ hl).trans h1
  have hs := hb.size
  have oth : ∀ b' : Nat, b' ≠ w.heap.size → ((((w1.setCell ⟨w.heap.size, m * 4, none⟩ (.int .i64 ps[m].ax)).setCell ⟨w.heap.size, m * 4 + 1, none⟩ (.bool ps[m].back)).setCell ⟨w.heap.size, m * 4 + 2, none⟩ (.int .i64 ps[m].at_)).setCell ⟨w.heap.size, m * 4 + 3, none⟩ u).heap[b']? = w1.heap[b']? := fun b' hb' => by
    rw [Below.heap_setCell _ ⟨w.heap.size, m * 4 + 3, none⟩ _ b' hb', Below.heap_setCell _ ⟨w.heap.size, m * 4 + 2, none⟩ _ b' hb', Below.heap_setCell _ ⟨w.heap.size, m * 4 + 1, none⟩ _ b' hb', Below.heap_setCell _ ⟨w.heap.size, m * 4, none⟩ _ b' hb']
  have hsz : ((((w1.setCell ⟨w.heap.size, m * 4, none⟩ (.int .i64 ps[m].ax)).setCell ⟨w.heap.size, m * 4 + 1, none⟩ (.bool ps[m].back)).setCell ⟨w.heap.size, m * 4 + 2, none⟩ (.int .i64 ps[m].at_)).setCell ⟨w.heap.size, m * 4 + 3, none⟩ u).heap.size = w1.heap.size := by simp [World.setCell]
  refine ⟨_, fun j => if j = m then (wr.heap.size, w1.heap.size) else rg j, blk_set (blk_set (blk_set (blk_set h1' _ _) _ _) _ _) _ _, by simpa using h2, fun j p hj hpj => ?_, fun i j hij hj hik => ?_, ((((h5.trans (hb.mono (by omega))).setCell (p := ⟨w.heap.size, m * 4, none⟩) (Nat.le_refl _) _).setCell (p := ⟨w.heap.size, m * 4 + 1, none⟩) (Nat.le_refl _) _).setCell (p := ⟨w.heap.size, m * 4 + 2, none⟩) (Nat.le_refl _) _).setCell (p := ⟨w.heap.size, m * 4 + 3, none⟩) (Nat.le_refl _) _⟩
  · by_cases hjk : j = m
    · subst hjk
      rw [List.getElem?_eq_getElem hk] at hpj
      cases hpj
      obtain ⟨a, b, c, d⟩ := set4_new (cur := cur) (m := j * 4) (a := .int .i64 ps[j].ax) (b := .bool ps[j].back) (c := .int .i64 ps[j].at_) (d := u) (by omega)
      refine ⟨u, a, b, c, d, ?_, by simp; omega, by rw [hsz]; simp⟩
      simp only [if_true]
      exact ⟨w1, rfl, hp, fun n n1 n2 => oth n (by simp only at n1; omega)⟩
    · obtain ⟨x, a, b, c, d, r, lo, hi⟩ := h3 j p (by omega) hpj
      refine ⟨x, by rw [set4_old (by omega)]; exact a, by rw [set4_old (by omega)]; exact b, by rw [set4_old (by omega)]; exact c, by rw [set4_old (by omega)]; exact d, ?_, by simp only [if_neg hjk]; exact lo, by rw [hsz]; simp only [if_neg hjk]; omega⟩
      simp only [if_neg hjk]
      exact r.same fun n n1 n2 => (oth n (by omega)).trans (hb.block n (by omega))
  · have hjk : ¬ j = m := by omega
    by_cases hi : i = m
    · subst hi
      simp only [if_neg hjk, if_true]
      obtain ⟨x, a, b, c, d, r, lo, hi⟩ := h3 j ps[j] (by omega) (List.getElem?_eq_getElem (by omega))
      exact hi
    · simp only [if_neg hi, if_neg hjk]
      exact h4 i j hij hj (by omega)
theorem FillB.done (h : FillB w wr ps k) (hk : k = ps.length) (hm : ps.length ≤ 9223372036854775807) : OSteps wr w.heap.size (.slice (some ⟨w.heap.size, 0, none⟩) ps.length ps.length) ps ∧ Below w.heap.size w wr := by
  obtain ⟨cur, rg, h1, h2, h3, h4, h5⟩ := h
  refine ⟨⟨w.heap.size, ps.length, cur, rg, rfl, Nat.le_refl _, h1, Nat.le_refl _, hm, h2, fun j p hj => ?_, fun i j hij hj => .inr (h4 i j hij hj (by omega))⟩, h5⟩
  obtain ⟨u, a, b, c, d, r, lo, hi⟩ := h3 j p (by omega) hj
  exact ⟨u, a, b, c, d, r, by omega, hi, .inl lo⟩
end
theorem far4 {w : World} {b rb : Nat} (h : b ≠ rb) (i0 i1 i2 i3 o : Nat) (u0 u1 u2 u3 : Value) : ((((w.setCell ⟨rb, i0, none⟩ u0).setCell ⟨rb, i1, none⟩ u1).setCell ⟨rb, i2, none⟩ u2).setCell ⟨rb, i3, none⟩ u3).cell? ⟨b, o, none⟩ = w.cell? ⟨b, o, none⟩ :=
  World.cell?_of_block ((Below.heap_setCell _ ⟨rb, i3, none⟩ u3 b h).trans ((Below.heap_setCell _ ⟨rb, i2, none⟩ u2 b h).trans ((Below.heap_setCell _ ⟨rb, i1, none⟩ u1 b h).trans (Below.heap_setCell w ⟨rb, i0, none⟩ u0 b h))))

set_option maxHeartbeats 1600000 in
set_option maxRecDepth 100000 in
theorem proofBack_any (ps : List MStep) (w : World) (v : Value) (hs : FitsPs ps) (h : RSteps w v ps) :
    Calls Try.prog 11 #[v] w fun e w' => ∃ u, e = .returned u ∧ OSteps w' w.heap.size u (backM ps) ∧ Below w.heap.size w w' := by
  have H := Lib.hid h
  have HS := Lib.hid hs
  have HBL := Lib.hid (backM_len ps)
  obtain ⟨A, c, rfl, -⟩ := h.form
  have hlen := hs.1
  clear h hs
  have hmk := run_make_wide 24 82 _ 4 48 Try.underlying24 Try.tinfo_Step .i64 .i64 ps.length (by omega) (by omega)
  go_enter Try.func11, Try.ntmps11
  go_wp2
  go_loopw [4, 5, 11] (fun a b i wr => ∃ k : Nat, k ≤ ps.length ∧ i = .int .i64 k ∧ FillB w wr (backM ps) k) (fun _ _ i _ => ps.length - (intOf i).toNat)
  case atStart => exact ⟨0, Nat.zero_le _, rfl, FillB.start w _ _ (by rw [HBL.out]; simp [madeCells])⟩
  case round =>
    obtain ⟨k, hk, rfl, hf⟩ := hrel
    have HF := Lib.hid hf
    have hlw := hf.lt
    clear hf hmk
    by_cases hlt : k < ps.length
    · have hlt' : (k : Int) < (ps.length : Int) := by omega
      obtain ⟨b, o, c', x, e, c0, c1, c2, c3, q0⟩ := (H.out.keep HF.out.bel).at_ hlt
      cases e
      obtain ⟨m, hm⟩ : ∃ m, m + k + 1 = ps.length := ⟨ps.length - 1 - k, by omega⟩
      have HFP := Lib.hid (HS.out.2 _ (List.getElem_mem hlt))
      have hbm : m < (backM ps).length := by rw [HBL.out]; omega
      have HAT := Lib.hid (backM_at hlt hm)
      have hel : (backM ps)[m] = turnP ps[k] := by have h := HAT.out; rw [List.getElem?_eq_getElem hbm] at h; injection h
      have HPUT := Lib.hid (fun (w1 : World) (hb : Below wr.heap.size wr w1) (u : Value) (hp : ORows w1 wr.heap.size u (backM ps)[m].terms) => HF.out.put (by rw [HBL.out]; exact hm) hbm hb hp)
      rw [hel] at HPUT
      clear hel HAT
      generalize ps[k] = p at q0 c0 c1 c2 HFP HPUT
      have HI := Lib.hid q0
      obtain ⟨A0, d0, rfl, -⟩ := q0.form
      have hb := below_alloc wr (.cells #[.int .i64 p.ax, .bool p.back, .int .i64 p.at_, .slice A0 p.terms.length d0] 82)
      have x0 := bx_at wr #[.int .i64 p.ax, .bool p.back, .int .i64 p.at_, .slice A0 p.terms.length d0] 82 (k := 0) rfl
      have x1 := bx_at wr #[.int .i64 p.ax, .bool p.back, .int .i64 p.at_, .slice A0 p.terms.length d0] 82 (k := 1) rfl
      have x2 := bx_at wr #[.int .i64 p.ax, .bool p.back, .int .i64 p.at_, .slice A0 p.terms.length d0] 82 (k := 2) rfl
      have x3 := bx_at wr #[.int .i64 p.ax, .bool p.back, .int .i64 p.at_, .slice A0 p.terms.length d0] 82 (k := 3) rfl
      generalize hW2 : wr.alloc (.cells #[.int .i64 p.ax, .bool p.back, .int .i64 p.at_, .slice A0 p.terms.length d0] 82) = W2 at hb x0 x1 x2 x3
      have HIW := Lib.hid (q0.keep hb)
      have HB2 := Lib.hid hb
      have hw1 : IntKind.i64.wrap ((ps.length : Int) - 1) = (ps.length : Int) - 1 := by rw [IntKind.wrap_i64]; omega
      have hw2 : IntKind.i64.wrap ((ps.length : Int) - 1 - (k : Int)) = (m : Int) := by rw [IntKind.wrap_i64]; omega
      have hml : (m : Int) < (ps.length : Int) := by omega
      have hm0 : (0 : Int) ≤ (m : Int) := by omega
      have hbl4 : m * 4 + 3 < (backM ps).length * 4 := by omega
      have HBL4 := Lib.hid hbl4
      have HM := Lib.hid hm
      clear q0 hb hbm hbl4 hm
      go_wp2_with fail
      clear hW2 c0 c1 c2 c3
      refine wp_region_held_drew (S := (fun w' => w'.cell? ⟨wr.heap.size, 0, none⟩ = some (.int .i64 p.ax) ∧ w'.cell? ⟨wr.heap.size, 1, none⟩ = some (.bool p.back) ∧ w'.cell? ⟨wr.heap.size, 2, none⟩ = some (.int .i64 p.at_) ∧ w'.cell? ⟨wr.heap.size, 3, none⟩ = some (.slice A0 p.terms.length d0))) (by kernel_rfl) ?_ (fun hHeld => ?_)
      · exact ⟨x0, x1, x2, x3⟩
      refine wpAnyH_take (i := 0) (oi := _) (v := ?_) rfl (by kernel_rfl) (by kernel_rfl) (by kernel_rfl) (fun _ _ _ h => h) (Or.inl ⟨by rfl, ?_⟩) (by assumption) ?_
      rotate_left
      · first | (intro w' hSw; (try dsimp only at hSw); go_simp; done) | (intro w' hSw; (try dsimp only at hSw); go_simp; with_reducible rfl)
      try simp only [Act.put, List.getElem_toArray, List.getElem_cons_zero, List.getElem_cons_succ, List.setIfInBounds_toArray, List.set_cons_zero, List.set_cons_succ]
      refine wpAnyH_take (i := 1) (oi := _) (v := ?_) rfl (by kernel_rfl) (by kernel_rfl) (by kernel_rfl) (fun _ _ _ h => h) (Or.inl ⟨by rfl, ?_⟩) (by assumption) ?_
      rotate_left
      · first | (intro w' hSw; (try dsimp only at hSw); go_simp; done) | (intro w' hSw; (try dsimp only at hSw); go_simp; with_reducible rfl)
      try simp only [Act.put, List.getElem_toArray, List.getElem_cons_zero, List.getElem_cons_succ, List.setIfInBounds_toArray, List.set_cons_zero, List.set_cons_succ]
      refine wpAnyH_take (i := 2) (oi := _) (v := ?_) rfl (by kernel_rfl) (by kernel_rfl) (by kernel_rfl) (fun _ _ _ h => h) (Or.inl ⟨by rfl, ?_⟩) (by assumption) ?_
      rotate_left
      · first | (intro w' hSw; (try dsimp only at hSw); go_simp; done) | (intro w' hSw; (try dsimp only at hSw); go_simp; with_reducible rfl)
      try simp only [Act.put, List.getElem_toArray, List.getElem_cons_zero, List.getElem_cons_succ, List.setIfInBounds_toArray, List.set_cons_zero, List.set_cons_succ]
      refine wpAnyH_take (i := 3) (oi := _) (v := ?_) rfl (by kernel_rfl) (by kernel_rfl) (by kernel_rfl) (fun _ _ _ h => h) (Or.inl ⟨by rfl, ?_⟩) (by assumption) ?_
      rotate_left
      · first | (intro w' hSw; (try dsimp only at hSw); go_simp; done) | (intro w' hSw; (try dsimp only at hSw); go_simp; with_reducible rfl)
      try simp only [Act.put, List.getElem_toArray, List.getElem_cons_zero, List.getElem_cons_succ, List.setIfInBounds_toArray, List.set_cons_zero, List.set_cons_succ]
      refine wpAnyH_take (i := 4) (oi := _) (v := ?_) rfl (by kernel_rfl) (by kernel_rfl) (by kernel_rfl) (fun _ _ _ h => h) (Or.inl ⟨by rfl, ?_⟩) (by assumption) ?_
      rotate_left
      · first | (intro w' hSw; (try dsimp only at hSw); go_simp; done) | (intro w' hSw; (try dsimp only at hSw); go_simp; with_reducible rfl)
      try simp only [Act.put, List.getElem_toArray, List.getElem_cons_zero, List.getElem_cons_succ, List.setIfInBounds_toArray, List.set_cons_zero, List.set_cons_succ]
      refine wpAnyH_take (i := 5) (oi := _) (v := ?_) rfl (by kernel_rfl) (by kernel_rfl) (by kernel_rfl) (fun _ _ _ h => h) (Or.inl ⟨by rfl, ?_⟩) (by assumption) ?_
      rotate_left
      · first | (intro w' hSw; (try dsimp only at hSw); go_simp; done) | (intro w' hSw; (try dsimp only at hSw); go_simp; with_reducible rfl)
      try simp only [Act.put, List.getElem_toArray, List.getElem_cons_zero, List.getElem_cons_succ, List.setIfInBounds_toArray, List.set_cons_zero, List.set_cons_succ]
      refine wpAnyH_take (i := 6) (oi := _) (v := ?_) rfl (by kernel_rfl) (by kernel_rfl) (by kernel_rfl) (fun _ _ _ h => h) (Or.inl ⟨by rfl, ?_⟩) (by assumption) ?_
      rotate_left
      · first | (intro w' hSw; (try dsimp only at hSw); go_simp; done) | (intro w' hSw; (try dsimp only at hSw); go_simp; with_reducible rfl)
      try simp only [Act.put, List.getElem_toArray, List.getElem_cons_zero, List.getElem_cons_succ, List.setIfInBounds_toArray, List.set_cons_zero, List.set_cons_succ]
      refine wpAnyH_take (i := 7) (oi := _) (v := ?_) rfl (by kernel_rfl) (by kernel_rfl) (by kernel_rfl) (fun _ _ _ h => h) (Or.inl ⟨by rfl, ?_⟩) (by assumption) ?_
      rotate_left
      · first | (intro w' hSw; (try dsimp only at hSw); go_simp; done) | (intro w' hSw; (try dsimp only at hSw); go_simp; with_reducible rfl)
      try simp only [Act.put, List.getElem_toArray, List.getElem_cons_zero, List.getElem_cons_succ, List.setIfInBounds_toArray, List.set_cons_zero, List.set_cons_succ]
      refine wpAnyH_take (i := 8) (oi := _) (v := ?_) rfl (by kernel_rfl) (by kernel_rfl) (by kernel_rfl) (fun _ _ _ h => h) (Or.inl ⟨by rfl, ?_⟩) (by assumption) ?_
      rotate_left
      · first | (intro w' hSw; (try dsimp only at hSw); go_simp; done) | (intro w' hSw; (try dsimp only at hSw); go_simp; with_reducible rfl)
      try simp only [Act.put, List.getElem_toArray, List.getElem_cons_zero, List.getElem_cons_succ, List.setIfInBounds_toArray, List.set_cons_zero, List.set_cons_succ]
      refine wpAnyH_take (i := 9) (oi := _) (v := ?_) rfl (by kernel_rfl) (by kernel_rfl) (by kernel_rfl) (fun _ _ _ h => h) (Or.inl ⟨by rfl, ?_⟩) (by assumption) ?_
      rotate_left
      · first | (intro w' hSw; (try dsimp only at hSw); go_simp; done) | (intro w' hSw; (try dsimp only at hSw); go_simp; with_reducible rfl)
      try simp only [Act.put, List.getElem_toArray, List.getElem_cons_zero, List.getElem_cons_succ, List.setIfInBounds_toArray, List.set_cons_zero, List.set_cons_succ]
      refine wpAnyH_take (i := 10) (oi := _) (v := ?_) rfl (by kernel_rfl) (by kernel_rfl) (by kernel_rfl) (fun _ _ _ h => h) (Or.inl ⟨by rfl, ?_⟩) (by assumption) ?_
      rotate_left
      · first | (intro w' hSw; (try dsimp only at hSw); go_simp; done) | (intro w' hSw; (try dsimp only at hSw); go_simp; with_reducible rfl)
      try simp only [Act.put, List.getElem_toArray, List.getElem_cons_zero, List.getElem_cons_succ, List.setIfInBounds_toArray, List.set_cons_zero, List.set_cons_succ]
      refine wpAnyH_take (i := 11) (oi := _) (v := ?_) rfl (by kernel_rfl) (by kernel_rfl) (by kernel_rfl) (fun _ _ _ h => h) (Or.inl ⟨by rfl, ?_⟩) (by assumption) ?_
      rotate_left
      · first | (intro w' hSw; (try dsimp only at hSw); go_simp; done) | (intro w' hSw; (try dsimp only at hSw); go_simp; with_reducible rfl)
      try simp only [Act.put, List.getElem_toArray, List.getElem_cons_zero, List.getElem_cons_succ, List.setIfInBounds_toArray, List.set_cons_zero, List.set_cons_succ]
      refine wpAnyH_take (i := 12) (oi := _) (v := ?_) rfl (by kernel_rfl) (by kernel_rfl) (by kernel_rfl) (fun _ _ _ h => h) (Or.inl ⟨by rfl, ?_⟩) (by assumption) ?_
      rotate_left
      · first | (intro w' hSw; (try dsimp only at hSw); go_simp; done) | (intro w' hSw; (try dsimp only at hSw); go_simp; with_reducible rfl)
      try simp only [Act.put, List.getElem_toArray, List.getElem_cons_zero, List.getElem_cons_succ, List.setIfInBounds_toArray, List.set_cons_zero, List.set_cons_succ]
      refine wpAnyH_take (i := 13) (oi := _) (v := ?_) rfl (by kernel_rfl) (by kernel_rfl) (by kernel_rfl) (fun _ _ _ h => h) (Or.inl ⟨by rfl, ?_⟩) (by assumption) ?_
      rotate_left
      · first | (intro w' hSw; (try dsimp only at hSw); go_simp; done) | (intro w' hSw; (try dsimp only at hSw); go_simp; with_reducible rfl)
      try simp only [Act.put, List.getElem_toArray, List.getElem_cons_zero, List.getElem_cons_succ, List.setIfInBounds_toArray, List.set_cons_zero, List.set_cons_succ]
      refine wpAnyH_take (i := 14) (oi := _) (v := ?_) rfl (by kernel_rfl) (by kernel_rfl) (by kernel_rfl) (fun _ _ _ h => h) (Or.inl ⟨by rfl, ?_⟩) (by assumption) ?_
      rotate_left
      · first | (intro w' hSw; (try dsimp only at hSw); go_simp; done) | (intro w' hSw; (try dsimp only at hSw); go_simp; with_reducible rfl)
      try simp only [Act.put, List.getElem_toArray, List.getElem_cons_zero, List.getElem_cons_succ, List.setIfInBounds_toArray, List.set_cons_zero, List.set_cons_succ]
      refine wpAnyH_ready (rs := [15]) (by kernel_rfl) (by simp) ?_
      refine AllReadyH.cons (o := _) rfl (fun K hK => ?_) AllReadyH.nil
      go_simp
      refine (copiedRows_any _ p.terms W2.drew (HIW.out.keep (bel_drew (Below.refl _ _))) HFP.out).mono ?_
      rintro e w5 ⟨u5, rfl, ho5, hb5⟩
      have hx5 := (show Below W2.heap.size W2 w5 from bel_undrew hb5)
      have hsb := HB2.out.size
      have HX5 := Lib.hid (sz_keep HB2.out hx5)
      obtain ⟨A5, c5, rfl, -⟩ := ho5.reads.form
      have HO5 := Lib.hid (show ORows w5 wr.heap.size _ p.terms from ho5.base hsb)
      have p0 := cell_keep hx5 x0
      have p1 := cell_keep hx5 x1
      have p2 := cell_keep hx5 x2
      have p3 := cell_keep hx5 x3
      have HN := Lib.hid (HPUT.out w5 HX5.out _ HO5.out)
      obtain ⟨u0, j0, k0⟩ := HF.out.cell HX5.out (j := m * 4) (by have := HBL4.out; omega)
      obtain ⟨u1, j1, k1⟩ := HF.out.cell HX5.out (j := m * 4 + 1) (by have := HBL4.out; omega)
      obtain ⟨u2, j2, k2⟩ := HF.out.cell HX5.out (j := m * 4 + 2) (by have := HBL4.out; omega)
      obtain ⟨u3, j3, k3⟩ := HF.out.cell HX5.out (j := m * 4 + 3) (by have := HBL4.out; omega)
      clear ho5 hb5 hx5
      go_wp2_with fail
      refine hK.out _ _ ?_ (fun hHeld => ?_)
      · exact ⟨p0, p1, p2, p3⟩
      clear hK K
      try simp only [Act.put, List.getElem_toArray, List.getElem_cons_zero, List.getElem_cons_succ, List.setIfInBounds_toArray, List.set_cons_zero, List.set_cons_succ]
      refine wpAnyH_take (i := 16) (oi := _) (v := ?_) rfl (by kernel_rfl) (by kernel_rfl) (by kernel_rfl) (fun _ _ _ h => h) (Or.inl ⟨by rfl, ?_⟩) (by assumption) ?_
      rotate_left
      · first | (intro w' hSw; (try dsimp only at hSw); go_simp; done) | (intro w' hSw; (try dsimp only at hSw); go_simp; with_reducible rfl)
      try simp only [Act.put, List.getElem_toArray, List.getElem_cons_zero, List.getElem_cons_succ, List.setIfInBounds_toArray, List.set_cons_zero, List.set_cons_succ]
      refine wpAnyH_take (i := 17) (oi := _) (v := ?_) rfl (by kernel_rfl) (by kernel_rfl) (by kernel_rfl) (fun _ _ _ h => h) (Or.inl ⟨by rfl, ?_⟩) (by assumption) ?_
      rotate_left
      · first | (intro w' hSw; (try dsimp only at hSw); go_simp; done) | (intro w' hSw; (try dsimp only at hSw); go_simp; with_reducible rfl)
      try simp only [Act.put, List.getElem_toArray, List.getElem_cons_zero, List.getElem_cons_succ, List.setIfInBounds_toArray, List.set_cons_zero, List.set_cons_succ]
      refine wpAnyH_ready (rs := [18]) (by kernel_rfl) (by simp) ?_
      refine AllReadyH.cons (o := _) rfl (fun K hK => ?_) AllReadyH.nil
      go_simp
      skip
      go_wp2_with fail
      refine hK.out _ _ ?_ (fun hHeld => ?_)
      · exact ⟨(far4 (by omega) _ _ _ _ _ _ _ _ _).trans p0, (far4 (by omega) _ _ _ _ _ _ _ _ _).trans p1, (far4 (by omega) _ _ _ _ _ _ _ _ _).trans p2, (far4 (by omega) _ _ _ _ _ _ _ _ _).trans p3⟩
      clear hK K
      try simp only [Act.put, List.getElem_toArray, List.getElem_cons_zero, List.getElem_cons_succ, List.setIfInBounds_toArray, List.set_cons_zero, List.set_cons_succ]
      refine wpAnyH_done (by kernel_rfl) ?_ _
      clear x0 x1 x2 x3 p0 p1 p2 p3 j0 j1 j2 j3 k0 k1 k2 k3 hw1 hw2
      go_wp2
      go_roundw
      case rel => exact ⟨k + 1, by omega, by go_num, HN.out⟩
      case measure => simp [intOf]; omega
    · have hlt' : ¬ (k : Int) < (ps.length : Int) := by omega
      have hkn : k = ps.length := by omega
      have HD := Lib.hid (HF.out.done (by rw [HBL.out]; exact hkn) (by rw [HBL.out]; omega))
      rw [HBL.out] at HD
      subst hkn
      go_wp2
      go_ret
      exact ⟨_, rfl, HD.out.1, HD.out.2⟩
end

section
open Go.RowKit
set_option linter.unusedVariables false

theorem l1Same_any (v v' : Value) (xs ys : List Int) (w : World) (h : RInts w v xs) (h' : RInts w v' ys) :
    Calls Try.prog 70 #[v, v'] w fun e w' => e = .returned (.bool (decide (xs = ys))) ∧ Drawn w w' := by
  have H := Lib.hid h
  have H' := Lib.hid h'
  have hn := h.len
  have hn' := h'.len
  obtain ⟨A, c, rfl, -⟩ := h.form
  obtain ⟨A', c', rfl, -⟩ := h'.form
  clear h h'
  go_enter Try.func70, Try.ntmps70
  go_wp2
  go_loopw [5] (fun i wr => ∃ k : Nat, k ≤ xs.length ∧ k ≤ ys.length ∧ i = .int .i64 k ∧ xs.take k = ys.take k ∧ Drawn w wr) (fun i _ => xs.length - (intOf i).toNat)
  case atStart => exact ⟨0, Nat.zero_le _, Nat.zero_le _, rfl, rfl, Drawn.refl _⟩
  case round =>
    obtain ⟨k, hk, hk2, rfl, hb0, hd⟩ := hrel
    have hb := Lib.hid hb0
    have HD := Lib.hid hd
    clear hb0 hd
    by_cases hlt : k < xs.length
    · have hs1 : (k : Int) < (xs.length : Int) := by omega
      by_cases hlt2 : k < ys.length
      · have hs2 : (k : Int) < (ys.length : Int) := by omega
        obtain ⟨b, o, c3, e, hx⟩ := (H.out.keep HD.out.below).at_ hlt
        cases e
        obtain ⟨b', o', c4, e, hy⟩ := (H'.out.keep HD.out.below).at_ hlt2
        cases e
        have HT := Lib.hid (take_succ_eq hlt hlt2 hb.out)
        have HN := Lib.hid (ne_of_at hlt hlt2)
        generalize xs[k] = x at hx HT HN
        generalize ys[k] = y at hy HT HN
        by_cases hxy : x = y
        · subst hxy
          have e1 : (x != x) = false := by simp
          have e2 : (x == x) = true := by simp
          go_wp2_with fail
          go_quiet (fail)
          go_wp2
          go_roundw
          case rel => exact ⟨k + 1, by omega, by omega, by go_num, HT.out (by simp), HD.out.more _⟩
          case measure => simp [intOf]; omega
        · have e1 : (x != y) = true := by simpa using hxy
          have e2 : (x == y) = false := by simpa using hxy
          have HXY := Lib.hid hxy
          clear hxy
          go_wp2_with fail
          go_quiet (fail)
          go_wp2
          go_ret
          exact ⟨ret_bool (by simpa using (HN.out HXY.out)), HD.out.more _⟩
      · have hs2 : ¬ (k : Int) < (ys.length : Int) := by omega
        have e3 : ((xs.length : Int) == (ys.length : Int)) = false := by rw [beq_eq_false_iff_ne]; omega
        have HNE := Lib.hid (show decide (xs = ys) = false by simp; rintro rfl; omega)
        go_wp2
        go_ret
        exact ⟨ret_bool HNE.out.symm, HD.out⟩
    · have hs1 : ¬ (k : Int) < (xs.length : Int) := by omega
      by_cases hle : xs.length = ys.length
      · have e3 : ((xs.length : Int) == (ys.length : Int)) = true := by rw [beq_iff_eq]; omega
        have HEQ := Lib.hid (show decide (xs = ys) = true by
          have h := hb.out
          rw [take_all (by omega), take_all (by omega)] at h
          simpa using h)
        clear hle
        go_wp2
        go_ret
        exact ⟨ret_bool HEQ.out.symm, HD.out⟩
      · have e3 : ((xs.length : Int) == (ys.length : Int)) = false := by rw [beq_eq_false_iff_ne]; omega
        have HNE := Lib.hid (show decide (xs = ys) = false by simp; rintro rfl; omega)
        clear hle
        go_wp2
        go_ret
        exact ⟨ret_bool HNE.out.symm, HD.out⟩
end

section
open Go.RowKit
set_option linter.unusedVariables false
set_option linter.unusedSimpArgs false

theorem stepM_no {t : MThy} {vars u : List Int} {p : MStep} (h : thyB t = false) : stepM t vars u p = ([], false) := by unfold stepM; rw [h]; simp
theorem stepM_yes {t : MThy} {vars u : List Int} {p : MStep} (h : thyB t = true) : stepM t vars u p = afterM t vars u p := by unfold stepM; rw [if_pos h]

set_option maxRecDepth 100000 in
theorem l3Sides_any (e : MEq) (back : Bool) (w : World) (v : Value) (h : REq w v e) :
    Calls Try.prog 97 #[v, .bool back] w fun x w' => ∃ a b, x = .returned (.tuple #[a, b]) ∧ RInts w' a (sideFrom e back) ∧ RInts w' b (sideTo e back) ∧ Below w.heap.size w w' := by
  obtain ⟨Aea, cea, Aeb, ceb, Aec, cec, rfl⟩ := h.form
  have hb : Below w.heap.size w (w.alloc (.cells #[.slice Aea e.vars.length cea, .slice Aeb e.left.length ceb, .slice Aec e.right.length cec] 49)) := below_alloc _ _
  have HB := Lib.hid hb
  have hsz : (w.alloc (.cells #[.slice Aea e.vars.length cea, .slice Aeb e.left.length ceb, .slice Aec e.right.length cec] 49)).heap.size = w.heap.size + 1 := by simp
  have He := Lib.hid (h.keep hb)
  have e0 := bx_at (w) #[.slice Aea e.vars.length cea, .slice Aeb e.left.length ceb, .slice Aec e.right.length cec] 49 (k := 0) rfl
  have e1 := bx_at (w) #[.slice Aea e.vars.length cea, .slice Aeb e.left.length ceb, .slice Aec e.right.length cec] 49 (k := 1) rfl
  have e2 := bx_at (w) #[.slice Aea e.vars.length cea, .slice Aeb e.left.length ceb, .slice Aec e.right.length cec] 49 (k := 2) rfl
  generalize hW : w.alloc (.cells #[.slice Aea e.vars.length cea, .slice Aeb e.left.length ceb, .slice Aec e.right.length cec] 49) = W at HB hsz He e0 e1 e2
  clear hb h
  obtain ⟨r0, r1, r2⟩ := He.out.of
  have R := Lib.hid (And.intro r1 r2)
  clear r0 r1 r2
  have ea := World.new_ne W _ e0
  cases back with
  | true =>
    go_enter Try.func97, Try.ntmps97
    go_wp2_with fail
    refine wp_region_held_drew (S := (fun w' => w'.cell? ⟨w.heap.size, 0, none⟩ = some (.slice Aea e.vars.length cea) ∧ w'.cell? ⟨w.heap.size, 1, none⟩ = some (.slice Aeb e.left.length ceb) ∧ w'.cell? ⟨w.heap.size, 2, none⟩ = some (.slice Aec e.right.length cec))) (by kernel_rfl) ?_ (fun hHeld => ?_)
    · exact ⟨e0, e1, e2⟩
    refine wpAnyH_take (i := 0) (oi := _) (v := ?_) rfl (by kernel_rfl) (by kernel_rfl) (by kernel_rfl) (fun _ _ _ h => h) (Or.inl ⟨by rfl, ?_⟩) (by assumption) ?_
    rotate_left
    · first | (intro w' hSw; (try dsimp only at hSw); go_simp; done) | (intro w' hSw; (try dsimp only at hSw); go_simp; with_reducible rfl)
    try simp only [Act.put, List.getElem_toArray, List.getElem_cons_zero, List.getElem_cons_succ, List.setIfInBounds_toArray, List.set_cons_zero, List.set_cons_succ]
    refine wpAnyH_take (i := 1) (oi := _) (v := ?_) rfl (by kernel_rfl) (by kernel_rfl) (by kernel_rfl) (fun _ _ _ h => h) (Or.inl ⟨by rfl, ?_⟩) (by assumption) ?_
    rotate_left
    · first | (intro w' hSw; (try dsimp only at hSw); go_simp; done) | (intro w' hSw; (try dsimp only at hSw); go_simp; with_reducible rfl)
    try simp only [Act.put, List.getElem_toArray, List.getElem_cons_zero, List.getElem_cons_succ, List.setIfInBounds_toArray, List.set_cons_zero, List.set_cons_succ]
    refine wpAnyH_take (i := 2) (oi := _) (v := ?_) rfl (by kernel_rfl) (by kernel_rfl) (by kernel_rfl) (fun _ _ _ h => h) (Or.inl ⟨by rfl, ?_⟩) (by assumption) ?_
    rotate_left
    · first | (intro w' hSw; (try dsimp only at hSw); go_simp; done) | (intro w' hSw; (try dsimp only at hSw); go_simp; with_reducible rfl)
    try simp only [Act.put, List.getElem_toArray, List.getElem_cons_zero, List.getElem_cons_succ, List.setIfInBounds_toArray, List.set_cons_zero, List.set_cons_succ]
    refine wpAnyH_take (i := 3) (oi := _) (v := ?_) rfl (by kernel_rfl) (by kernel_rfl) (by kernel_rfl) (fun _ _ _ h => h) (Or.inl ⟨by rfl, ?_⟩) (by assumption) ?_
    rotate_left
    · first | (intro w' hSw; (try dsimp only at hSw); go_simp; done) | (intro w' hSw; (try dsimp only at hSw); go_simp; with_reducible rfl)
    try simp only [Act.put, List.getElem_toArray, List.getElem_cons_zero, List.getElem_cons_succ, List.setIfInBounds_toArray, List.set_cons_zero, List.set_cons_succ]
    refine wpAnyH_take (i := 4) (oi := _) (v := ?_) rfl (by kernel_rfl) (by kernel_rfl) (by kernel_rfl) (fun _ _ _ h => h) (Or.inl ⟨by rfl, ?_⟩) (by assumption) ?_
    rotate_left
    · first | (intro w' hSw; (try dsimp only at hSw); go_simp; done) | (intro w' hSw; (try dsimp only at hSw); go_simp; with_reducible rfl)
    try simp only [Act.put, List.getElem_toArray, List.getElem_cons_zero, List.getElem_cons_succ, List.setIfInBounds_toArray, List.set_cons_zero, List.set_cons_succ]
    refine wpAnyH_take (i := 5) (oi := _) (v := ?_) rfl (by kernel_rfl) (by kernel_rfl) (by kernel_rfl) (fun _ _ _ h => h) (Or.inl ⟨by rfl, ?_⟩) (by assumption) ?_
    rotate_left
    · first | (intro w' hSw; (try dsimp only at hSw); go_simp; done) | (intro w' hSw; (try dsimp only at hSw); go_simp; with_reducible rfl)
    try simp only [Act.put, List.getElem_toArray, List.getElem_cons_zero, List.getElem_cons_succ, List.setIfInBounds_toArray, List.set_cons_zero, List.set_cons_succ]
    refine wpAnyH_done (by kernel_rfl) ?_ _
    go_wp2
    refine bodyPost_ret (v := .tuple #[.slice Aec e.right.length cec, .slice Aeb e.left.length ceb]) (by simp [results, Try.results97, go_sem]) rfl ?_
    exact ⟨_, _, rfl, by simpa [sideFrom] using R.out.2.keep (bel_drew (Below.refl _ _)), by simpa [sideTo] using R.out.1.keep (bel_drew (Below.refl _ _)), bel_drew HB.out⟩
  | false =>
    go_enter Try.func97, Try.ntmps97
    go_wp2_with fail
    refine wp_region_held_drew (S := (fun w' => w'.cell? ⟨w.heap.size, 0, none⟩ = some (.slice Aea e.vars.length cea) ∧ w'.cell? ⟨w.heap.size, 1, none⟩ = some (.slice Aeb e.left.length ceb) ∧ w'.cell? ⟨w.heap.size, 2, none⟩ = some (.slice Aec e.right.length cec))) (by kernel_rfl) ?_ (fun hHeld => ?_)
    · exact ⟨e0, e1, e2⟩
    refine wpAnyH_take (i := 0) (oi := _) (v := ?_) rfl (by kernel_rfl) (by kernel_rfl) (by kernel_rfl) (fun _ _ _ h => h) (Or.inl ⟨by rfl, ?_⟩) (by assumption) ?_
    rotate_left
    · first | (intro w' hSw; (try dsimp only at hSw); go_simp; done) | (intro w' hSw; (try dsimp only at hSw); go_simp; with_reducible rfl)
    try simp only [Act.put, List.getElem_toArray, List.getElem_cons_zero, List.getElem_cons_succ, List.setIfInBounds_toArray, List.set_cons_zero, List.set_cons_succ]
    refine wpAnyH_take (i := 1) (oi := _) (v := ?_) rfl (by kernel_rfl) (by kernel_rfl) (by kernel_rfl) (fun _ _ _ h => h) (Or.inl ⟨by rfl, ?_⟩) (by assumption) ?_
    rotate_left
    · first | (intro w' hSw; (try dsimp only at hSw); go_simp; done) | (intro w' hSw; (try dsimp only at hSw); go_simp; with_reducible rfl)
    try simp only [Act.put, List.getElem_toArray, List.getElem_cons_zero, List.getElem_cons_succ, List.setIfInBounds_toArray, List.set_cons_zero, List.set_cons_succ]
    refine wpAnyH_take (i := 2) (oi := _) (v := ?_) rfl (by kernel_rfl) (by kernel_rfl) (by kernel_rfl) (fun _ _ _ h => h) (Or.inl ⟨by rfl, ?_⟩) (by assumption) ?_
    rotate_left
    · first | (intro w' hSw; (try dsimp only at hSw); go_simp; done) | (intro w' hSw; (try dsimp only at hSw); go_simp; with_reducible rfl)
    try simp only [Act.put, List.getElem_toArray, List.getElem_cons_zero, List.getElem_cons_succ, List.setIfInBounds_toArray, List.set_cons_zero, List.set_cons_succ]
    refine wpAnyH_take (i := 3) (oi := _) (v := ?_) rfl (by kernel_rfl) (by kernel_rfl) (by kernel_rfl) (fun _ _ _ h => h) (Or.inl ⟨by rfl, ?_⟩) (by assumption) ?_
    rotate_left
    · first | (intro w' hSw; (try dsimp only at hSw); go_simp; done) | (intro w' hSw; (try dsimp only at hSw); go_simp; with_reducible rfl)
    try simp only [Act.put, List.getElem_toArray, List.getElem_cons_zero, List.getElem_cons_succ, List.setIfInBounds_toArray, List.set_cons_zero, List.set_cons_succ]
    refine wpAnyH_take (i := 4) (oi := _) (v := ?_) rfl (by kernel_rfl) (by kernel_rfl) (by kernel_rfl) (fun _ _ _ h => h) (Or.inl ⟨by rfl, ?_⟩) (by assumption) ?_
    rotate_left
    · first | (intro w' hSw; (try dsimp only at hSw); go_simp; done) | (intro w' hSw; (try dsimp only at hSw); go_simp; with_reducible rfl)
    try simp only [Act.put, List.getElem_toArray, List.getElem_cons_zero, List.getElem_cons_succ, List.setIfInBounds_toArray, List.set_cons_zero, List.set_cons_succ]
    refine wpAnyH_take (i := 5) (oi := _) (v := ?_) rfl (by kernel_rfl) (by kernel_rfl) (by kernel_rfl) (fun _ _ _ h => h) (Or.inl ⟨by rfl, ?_⟩) (by assumption) ?_
    rotate_left
    · first | (intro w' hSw; (try dsimp only at hSw); go_simp; done) | (intro w' hSw; (try dsimp only at hSw); go_simp; with_reducible rfl)
    try simp only [Act.put, List.getElem_toArray, List.getElem_cons_zero, List.getElem_cons_succ, List.setIfInBounds_toArray, List.set_cons_zero, List.set_cons_succ]
    refine wpAnyH_done (by kernel_rfl) ?_ _
    go_wp2
    refine bodyPost_ret (v := .tuple #[.slice Aeb e.left.length ceb, .slice Aec e.right.length cec]) (by simp [results, Try.results97, go_sem]) rfl ?_
    exact ⟨_, _, rfl, by simpa [sideFrom] using R.out.1.keep (bel_drew (Below.refl _ _)), by simpa [sideTo] using R.out.2.keep (bel_drew (Below.refl _ _)), bel_drew HB.out⟩

theorem stepM_out {t : MThy} {vars u : List Int} {p : MStep} (h : ¬ (0 ≤ p.ax ∧ p.ax < t.eqs.length)) : stepM t vars u p = ([], false) := by
  unfold stepM; rw [afterM_no h]; simp
theorem inB_ax {n : Int} {l : Nat} (q : Int) (hq : q = (l : Int) - 1) : inB n 0 q = decide (0 ≤ n ∧ n < (l : Int)) := inB_op q hq

set_option maxHeartbeats 1000000 in
set_option maxRecDepth 100000 in
theorem specStepDo_any (t : MThy) (vars u : List Int) (p : MStep) (w : World) (v vv uv pv : Value) (hsp : SmallP p) (h : RThy w v t) (h1 : RInts w vv vars) (h2 : RInts w uv u) (h3 : RStep w pv p) :
    Calls Try.prog 60 #[v, vv, uv, pv] w (PairPost (stepM t vars u p) w) := by
  obtain ⟨Ata, cta, Atb, ctb, rfl⟩ := h.form
  obtain ⟨Apa, cpa, rfl⟩ := h3.form
  have hb : Below w.heap.size w ((w.alloc (.cells #[.int .i64 t.over.sorts, .slice Ata t.over.ops.length cta, .slice Atb t.eqs.length ctb] 47)).alloc (.cells #[.int .i64 p.ax, .bool p.back, .int .i64 p.at_, .slice Apa p.terms.length cpa] 82)) := (below_alloc _ _).alloc (by simp) _
  have HB := Lib.hid hb
  have hsz : ((w.alloc (.cells #[.int .i64 t.over.sorts, .slice Ata t.over.ops.length cta, .slice Atb t.eqs.length ctb] 47)).alloc (.cells #[.int .i64 p.ax, .bool p.back, .int .i64 p.at_, .slice Apa p.terms.length cpa] 82)).heap.size = w.heap.size + 2 := by simp
  have Ht := Lib.hid (h.keep hb)
  have t0 := cell_keep (below_alloc (w.alloc (.cells #[.int .i64 t.over.sorts, .slice Ata t.over.ops.length cta, .slice Atb t.eqs.length ctb] 47)) (.cells #[.int .i64 p.ax, .bool p.back, .int .i64 p.at_, .slice Apa p.terms.length cpa] 82)) (bx_at (w) #[.int .i64 t.over.sorts, .slice Ata t.over.ops.length cta, .slice Atb t.eqs.length ctb] 47 (k := 0) rfl)
  have t1 := cell_keep (below_alloc (w.alloc (.cells #[.int .i64 t.over.sorts, .slice Ata t.over.ops.length cta, .slice Atb t.eqs.length ctb] 47)) (.cells #[.int .i64 p.ax, .bool p.back, .int .i64 p.at_, .slice Apa p.terms.length cpa] 82)) (bx_at (w) #[.int .i64 t.over.sorts, .slice Ata t.over.ops.length cta, .slice Atb t.eqs.length ctb] 47 (k := 1) rfl)
  have t2 := cell_keep (below_alloc (w.alloc (.cells #[.int .i64 t.over.sorts, .slice Ata t.over.ops.length cta, .slice Atb t.eqs.length ctb] 47)) (.cells #[.int .i64 p.ax, .bool p.back, .int .i64 p.at_, .slice Apa p.terms.length cpa] 82)) (bx_at (w) #[.int .i64 t.over.sorts, .slice Ata t.over.ops.length cta, .slice Atb t.eqs.length ctb] 47 (k := 2) rfl)
  have Hp := Lib.hid (h3.keep hb)
  have p0 := bx_at (w.alloc (.cells #[.int .i64 t.over.sorts, .slice Ata t.over.ops.length cta, .slice Atb t.eqs.length ctb] 47)) #[.int .i64 p.ax, .bool p.back, .int .i64 p.at_, .slice Apa p.terms.length cpa] 82 (k := 0) rfl
  have p1 := bx_at (w.alloc (.cells #[.int .i64 t.over.sorts, .slice Ata t.over.ops.length cta, .slice Atb t.eqs.length ctb] 47)) #[.int .i64 p.ax, .bool p.back, .int .i64 p.at_, .slice Apa p.terms.length cpa] 82 (k := 1) rfl
  have p2 := bx_at (w.alloc (.cells #[.int .i64 t.over.sorts, .slice Ata t.over.ops.length cta, .slice Atb t.eqs.length ctb] 47)) #[.int .i64 p.ax, .bool p.back, .int .i64 p.at_, .slice Apa p.terms.length cpa] 82 (k := 2) rfl
  have p3 := bx_at (w.alloc (.cells #[.int .i64 t.over.sorts, .slice Ata t.over.ops.length cta, .slice Atb t.eqs.length ctb] 47)) #[.int .i64 p.ax, .bool p.back, .int .i64 p.at_, .slice Apa p.terms.length cpa] 82 (k := 3) rfl
  simp only [World.size_alloc] at p0 p1 p2 p3
  generalize hW : (w.alloc (.cells #[.int .i64 t.over.sorts, .slice Ata t.over.ops.length cta, .slice Atb t.eqs.length ctb] 47)).alloc (.cells #[.int .i64 p.ax, .bool p.back, .int .i64 p.at_, .slice Apa p.terms.length cpa] 82) = W at HB hsz Ht t0 t1 t2 Hp p0 p1 p2 p3
  clear hb h h3
  have HV := Lib.hid (h1.keep HB.out)
  have HU := Lib.hid (h2.keep HB.out)
  have HP := Lib.hid Hp.out.of
  have HTS := Lib.hid (show RSig W (.agg #[.int .i64 t.over.sorts, .slice Ata t.over.ops.length cta]) t.over from ⟨_, rfl, Ht.out.of.2.1⟩)
  have hlen := (Ht.out.of.2.2).len
  have HSP := Lib.hid hsp
  obtain ⟨A1, d1, rfl, -⟩ := h1.form
  obtain ⟨A2, d2, rfl, -⟩ := h2.form
  clear h1 h2 hsp
  obtain ⟨bb, hbb⟩ : ∃ b, thyB t = b := ⟨_, rfl⟩
  have HT := Lib.hid hbb
  clear hbb
  go_enter Try.func60, Try.ntmps60
  go_wp2_with fail
  clear hW
  refine (specTheoryOk_any t _ _ Ht.out).mono ?_
  rw [HT.out]
  rintro x w1 ⟨rfl, hb⟩
  have HB1 := Lib.hid (fit_keep HB.out hb)
  have HK := Lib.hid hb
  have j0 := cell_keep hb t0
  have j1 := cell_keep hb t1
  have j2 := cell_keep hb t2
  have j3 := cell_keep hb p0
  have j4 := cell_keep hb p1
  have j5 := cell_keep hb p2
  have j6 := cell_keep hb p3
  clear hb t0 t1 t2 p0 p1 p2 p3
  cases bb with
  | false =>
    have HE := Lib.hid (stepM_no (vars := vars) (u := u) (p := p) HT.out)
    have he := own_empty w1
    go_wp2
    refine bodyPost_ret (v := .tuple #[.slice (some ⟨w1.heap.size, 0, none⟩) 0 0, .bool false]) (by simp [results, Try.results60, go_sem]) rfl ?_
    rw [HE.out]
    exact ⟨_, rfl, OInts.base he HB1.out.size, fit_keep HB1.out (below_alloc _ _)⟩
  | true =>
    cases hin : inB p.ax 0 ((t.eqs.length : Int) - 1) with
    | false =>
      have hno : ¬ (0 ≤ p.ax ∧ p.ax < t.eqs.length) := by
        rw [inB_ax (l := t.eqs.length) _ rfl] at hin
        simpa using hin
      have HE := Lib.hid (stepM_out (vars := vars) (u := u) hno)
      have HI := Lib.hid hin
      have he := own_empty w1
      clear hin
      go_wp2_with (go_at_call 96; refine (l1In_is _ _ _ _ false HI.out).mono ?_; rintro e w2 ⟨rfl, rfl⟩)
      refine bodyPost_ret (v := .tuple #[.slice (some ⟨w1.heap.size, 0, none⟩) 0 0, .bool false]) (by simp [results, Try.results60, go_sem]) rfl ?_
      rw [HE.out]
      exact ⟨_, rfl, OInts.base he HB1.out.size, fit_keep HB1.out (below_alloc _ _)⟩
    | true =>
      have hyes : 0 ≤ p.ax ∧ p.ax < t.eqs.length := by
        rw [inB_ax (l := t.eqs.length) _ rfl] at hin
        simpa using hin
      have HI := Lib.hid hin
      clear hin
      obtain ⟨k, hk⟩ := Int.eq_ofNat_of_zero_le hyes.1
      have hkl : k < t.eqs.length := by omega
      have hk0 : (0 : Int) ≤ (k : Int) := by omega
      have hk1 : (k : Int) < (t.eqs.length : Int) := by omega
      have HE := Lib.hid ((stepM_yes (vars := vars) (u := u) (p := p) HT.out).trans (afterM_yes (vars := vars) (u := u) (p := p) hkl hk))
      obtain ⟨b, o, c3, x0, x1, x2, e, c00, c01, c02, q0, q1, q2⟩ := (((Ht.out.keep HK.out).of).2.2).at_ hkl
      cases e
      generalize t.eqs[k] = e at q0 q1 q2 HE
      have HX := Lib.hid (show REq w1 (.agg #[x0, x1, x2]) e from ⟨x0, x1, x2, rfl, q0, q1, q2⟩)
      obtain ⟨A0, g0, rfl, -⟩ := q0.form
      obtain ⟨A9, g1, rfl, -⟩ := q1.form
      obtain ⟨A8, g2, rfl, -⟩ := q2.form
      rw [hk] at j3 HI hyes
      have HK' := Lib.hid hk
      clear q0 q1 q2 hk
      have hba := below_alloc w1 (.cells #[.slice A0 e.vars.length g0, .slice A9 e.left.length g1, .slice A8 e.right.length g2] 49)
      have n0 := bx_at w1 #[.slice A0 e.vars.length g0, .slice A9 e.left.length g1, .slice A8 e.right.length g2] 49 (k := 0) rfl
      have n1 := bx_at w1 #[.slice A0 e.vars.length g0, .slice A9 e.left.length g1, .slice A8 e.right.length g2] 49 (k := 1) rfl
      have n2 := bx_at w1 #[.slice A0 e.vars.length g0, .slice A9 e.left.length g1, .slice A8 e.right.length g2] 49 (k := 2) rfl
      have m0 := cell_keep hba j0
      have m1 := cell_keep hba j1
      have m4 := cell_keep hba j4
      have m5 := cell_keep hba j5
      have m6 := cell_keep hba j6
      have HX2 := Lib.hid (HX.out.keep hba)
      have HK2 := Lib.hid (fit_keep HK.out hba)
      generalize hW2 : w1.alloc (.cells #[.slice A0 e.vars.length g0, .slice A9 e.left.length g1, .slice A8 e.right.length g2] 49) = W2 at n0 n1 n2 m0 m1 m4 m5 m6 HX2 HK2
      have hsz1 := HK.out.size
      clear hba
      have HY := Lib.hid hyes
      clear hyes
      go_wp2_with fail
      refine (l1In_is _ _ _ _ true HI.out).mono ?_
      rintro e' w2 ⟨rfl, hw2⟩
      subst hw2
      go_wp2_with fail
      clear hW2 j0 j1 j2 j3 j4 j5 j6 c00 c01 c02 hk0 hk1
      refine (l3Sides_any e p.back _ _ HX2.out).mono ?_
      rintro x w3 ⟨fv, tv, rfl, rf, rt, hb⟩
      obtain ⟨AF, cF, rfl, -⟩ := rf.form
      obtain ⟨AO, cO, rfl, -⟩ := rt.form
      have RF := Lib.hid rf
      have RT := Lib.hid rt
      have HK3 := Lib.hid (fit_keep HK2.out hb)
      have i0 := cell_keep hb m0
      have i1 := cell_keep hb m1
      have i4 := cell_keep hb m4
      have i5 := cell_keep hb m5
      have i6 := cell_keep hb m6
      have i7 := cell_keep hb n0
      have EV := Lib.hid ((HX2.out.of).1.keep hb)
      obtain ⟨X, bx, hX⟩ : ∃ X b, putM t.over e.vars (sideFrom e p.back) vars p.terms = (X, b) := ⟨_, _, rfl⟩
      obtain ⟨Y, by_, hY⟩ : ∃ Y d, putM t.over e.vars (sideTo e p.back) vars p.terms = (Y, d) := ⟨_, _, rfl⟩
      have GX := Lib.hid hX
      have GY := Lib.hid hY
      clear hX hY hb rf rt m0 m1 m4 m5 m6 n0 n1 n2
      go_wp2_with fail
      refine (specTermPut_any t.over e.vars (sideFrom e p.back) vars p.terms _ _ _ _ _ _ HSP.out (HTS.out.keep HK3.out) EV.out RF.out (HV.out.keep HK3.out) (HP.out.keep HK3.out)).mono ?_
      rw [GX.out]
      rintro x w4 ⟨z, rfl, ho, hb⟩
      simp only at ho ⊢
      obtain ⟨Az, cz, rfl, -⟩ := own_reads ho
      have ZX := Lib.hid ho.reads
      have HK4 := Lib.hid (fit_keep HK3.out hb)
      have RT4 := Lib.hid (RT.out.keep hb)
      have EV4 := Lib.hid (EV.out.keep hb)
      have m0 := cell_keep hb i0
      have m1 := cell_keep hb i1
      have m5 := cell_keep hb i5
      have m6 := cell_keep hb i6
      have m7 := cell_keep hb i7
      clear hb ho i0 i1 i4 i5 i6 i7
      go_wp2_with fail
      refine (specTermPut_any t.over e.vars (sideTo e p.back) vars p.terms _ _ _ _ _ _ HSP.out (HTS.out.keep HK4.out) EV4.out RT4.out (HV.out.keep HK4.out) (HP.out.keep HK4.out)).mono ?_
      rw [GY.out]
      rintro x w5 ⟨z, rfl, ho, hb⟩
      simp only at ho ⊢
      obtain ⟨Ay, cy, rfl, -⟩ := own_reads ho
      have ZY := Lib.hid ho.reads
      have HK5 := Lib.hid (fit_keep HK4.out hb)
      have ZX5 := Lib.hid (ZX.out.keep hb)
      have i0 := cell_keep hb m0
      have i1 := cell_keep hb m1
      have i5 := cell_keep hb m5
      clear hb ho m0 m1 m5 m6 m7
      cases bx with
      | false =>
        have HE2 := Lib.hid (HE.out.trans (show ruleM t.over e.vars (sideFrom e p.back) (sideTo e p.back) vars u p.at_ p.terms = ([], false) by unfold ruleM; rw [GX.out]; simp))
        have he := own_empty w5
        have hs5 := (fit_keep HB.out HK5.out).size
        go_wp2
        refine bodyPost_ret (v := .tuple #[.slice (some ⟨w5.heap.size, 0, none⟩) 0 0, .bool false]) (by simp [results, Try.results60, go_sem]) rfl ?_
        rw [HE2.out]
        exact ⟨_, rfl, OInts.base he hs5, fit_keep (fit_keep HB.out HK5.out) (below_alloc _ _)⟩
      | true =>
        cases by_ with
        | false =>
          have HE2 := Lib.hid (HE.out.trans (show ruleM t.over e.vars (sideFrom e p.back) (sideTo e p.back) vars u p.at_ p.terms = ([], false) by unfold ruleM; rw [GX.out, GY.out]; simp))
          have he := own_empty w5
          have hs5 := (fit_keep HB.out HK5.out).size
          go_wp2
          refine bodyPost_ret (v := .tuple #[.slice (some ⟨w5.heap.size, 0, none⟩) 0 0, .bool false]) (by simp [results, Try.results60, go_sem]) rfl ?_
          rw [HE2.out]
          exact ⟨_, rfl, OInts.base he hs5, fit_keep (fit_keep HB.out HK5.out) (below_alloc _ _)⟩
        | true =>
          go_wp2_with fail
          refine (specTermAt_any t.over vars u p.at_ _ _ _ _ (HTS.out.keep HK5.out) (HV.out.keep HK5.out) (HU.out.keep HK5.out)).mono ?_
          rintro x w6 ⟨z, rfl, hop, hb⟩
          obtain ⟨Ap, cp, rfl, -⟩ := own_reads hop
          have ZP := Lib.hid hop.reads
          have HK6 := Lib.hid (fit_keep HK5.out hb)
          have ZX6 := Lib.hid (ZX5.out.keep hb)
          have ZY6 := Lib.hid (ZY.out.keep hb)
          have m0 := cell_keep hb i0
          have m1 := cell_keep hb i1
          have m5 := cell_keep hb i5
          obtain ⟨q, hq⟩ : ∃ q : Bool, decide (atM t.over vars u p.at_ = X) = q := ⟨_, rfl⟩
          have HQ := Lib.hid hq
          clear hb hop i0 i1 i5 hq
          go_wp2_with fail
          refine (l1Same_any _ _ (atM t.over vars u p.at_) X _ ZP.out ZX6.out).mono ?_
          rw [HQ.out]
          rintro x w7 ⟨rfl, hd⟩
          have hb := hd.below
          have HK7 := Lib.hid (fit_keep HK6.out hb)
          have ZY7 := Lib.hid (ZY6.out.keep hb)
          have i0 := cell_keep hb m0
          have i1 := cell_keep hb m1
          have i5 := cell_keep hb m5
          clear hb hd m0 m1 m5
          cases q with
          | false =>
            have HE2 := Lib.hid (HE.out.trans (show ruleM t.over e.vars (sideFrom e p.back) (sideTo e p.back) vars u p.at_ p.terms = ([], false) by
              unfold ruleM; rw [GX.out, if_neg]
              rintro ⟨-, h, -⟩
              have := HQ.out
              rw [decide_eq_false_iff_not] at this
              exact this h.symm))
            have he := own_empty w7
            have hs5 := (fit_keep HB.out HK7.out).size
            go_wp2
            refine bodyPost_ret (v := .tuple #[.slice (some ⟨w7.heap.size, 0, none⟩) 0 0, .bool false]) (by simp [results, Try.results60, go_sem]) rfl ?_
            rw [HE2.out]
            exact ⟨_, rfl, OInts.base he hs5, fit_keep (fit_keep HB.out HK7.out) (below_alloc _ _)⟩
          | true =>
            have HXA := Lib.hid (of_decide_eq_true HQ.out)
            have HE2 := Lib.hid (HE.out.trans (show ruleM t.over e.vars (sideFrom e p.back) (sideTo e p.back) vars u p.at_ p.terms = swapM t.over vars u p.at_ Y by unfold ruleM; rw [GX.out, GY.out, if_pos ⟨rfl, HXA.out.symm, rfl⟩]))
            obtain ⟨Z, g, hZ⟩ : ∃ Z g, swapM t.over vars u p.at_ Y = (Z, g) := ⟨_, _, rfl⟩
            have HZZ := Lib.hid hZ
            clear hZ
            go_wp2_with fail
            refine (specTermSwap_any t.over vars u p.at_ Y _ _ _ _ _ (HTS.out.keep HK7.out) (HV.out.keep HK7.out) (HU.out.keep HK7.out) ZY7.out).mono ?_
            rw [HZZ.out]
            rintro x w8 ⟨z'', rfl, ho, hb⟩
            simp only at ho ⊢
            obtain ⟨Aw, cw, rfl, -⟩ := own_reads ho
            have HB8 := Lib.hid (fit_keep (fit_keep HB.out HK7.out) hb)
            have HO := Lib.hid ho
            have hs7 := (fit_keep HB.out HK7.out).size
            clear hb ho i0 i1 i5
            go_wp2
            refine bodyPost_ret (v := .tuple #[.slice Aw Z.length cw, .bool g]) (by simp [results, Try.results60, go_sem]) rfl ?_
            rw [HE2.out, HZZ.out]
            exact ⟨_, rfl, HO.out.base hs7, HB8.out⟩
end

section
open Go.RowKit
set_option linter.unusedVariables false
set_option linter.unusedSimpArgs false

def runL (t : MThy) (vars : List Int) : List Int → List MStep → List Int × Bool
  | now, [] => (now, true)
  | now, p :: ps => if (stepM t vars now p).2 = true then runL t vars (stepM t vars now p).1 ps else ([], false)
def runM (t : MThy) (vars u : List Int) (ps : List MStep) : List Int × Bool :=
  if thyB t = true ∧ 0 ≤ sortM t.over vars u ∧ ps.length ≤ 20 then runL t vars u ps else ([], false)
theorem runL_append (t : MThy) (vars : List Int) : ∀ (a b : List MStep) (now : List Int), runL t vars now (a ++ b) = if (runL t vars now a).2 = true then runL t vars (runL t vars now a).1 b else ([], false)
  | [], b, now => by simp [runL]
  | p :: a, b, now => by
    have ih := runL_append t vars a b (stepM t vars now p).1
    by_cases h : (stepM t vars now p).2 = true
    · have e1 : runL t vars now (p :: a) = runL t vars (stepM t vars now p).1 a := by simp [runL, h]
      have e2 : runL t vars now ((p :: a) ++ b) = runL t vars (stepM t vars now p).1 (a ++ b) := by simp [runL, h]
      rw [e1, e2]; exact ih
    · have e1 : runL t vars now (p :: a) = ([], false) := by simp [runL, h]
      have e2 : runL t vars now ((p :: a) ++ b) = ([], false) := by simp [runL, h]
      rw [e1, e2]; simp
theorem runL_snoc {t : MThy} {vars now x : List Int} {ps : List MStep} {k : Nat} (hk : k < ps.length) (h : runL t vars now (ps.take k) = (x, true)) : runL t vars now (ps.take (k + 1)) = if (stepM t vars x ps[k]).2 = true then ((stepM t vars x ps[k]).1, true) else ([], false) := by
  rw [List.take_succ_eq_append_getElem hk, runL_append, h]
  simp [runL]
theorem runL_fail {t : MThy} {vars now : List Int} {ps : List MStep} {k : Nat} (h : (runL t vars now (ps.take k)).2 = false) : runL t vars now ps = ([], false) := by
  have := runL_append t vars (ps.take k) (ps.drop k) now
  rw [List.take_append_drop, if_neg (by rw [h]; simp)] at this
  exact this
theorem runM_no {t : MThy} {vars u : List Int} {ps : List MStep} (h : ¬ (thyB t = true ∧ 0 ≤ sortM t.over vars u ∧ ps.length ≤ 20)) : runM t vars u ps = ([], false) := by unfold runM; rw [if_neg h]
theorem runM_yes {t : MThy} {vars u : List Int} {ps : List MStep} (h : thyB t = true ∧ 0 ≤ sortM t.over vars u ∧ ps.length ≤ 20) : runM t vars u ps = runL t vars u ps := by unfold runM; rw [if_pos h]

theorem swapM_small {s : MSig} {vars u Y : List Int} {a : Int} (hu : Small u) (hY : Small Y) : Small (swapM s vars u a Y).1 := by
  unfold swapM
  split
  · intro x hx
    simp only [swapRow, List.mem_append] at hx
    rcases hx with (hx | hx) | hx
    · exact hu x (List.mem_of_mem_take hx)
    · exact hY x hx
    · exact hu x (List.mem_of_mem_drop hx)
  · intro x hx; simp at hx
theorem stepM_small {t : MThy} {vars u : List Int} {p : MStep} (ht : SmallT t) (hu : Small u) (hp : SmallP p) : Small (stepM t vars u p).1 := by
  have nil : Small [] := fun x hx => by simp at hx
  unfold stepM afterM ruleM
  split
  · split
    · rename_i h
      split
      · obtain ⟨k, hk⟩ := Int.eq_ofNat_of_zero_le h.1
        have hkl : k < t.eqs.length := by omega
        rw [hk, Int.toNat_natCast, getD_at _ hkl]
        exact swapM_small hu (putM_small (side_small (ht _ (List.getElem_mem hkl)) p.back).2 hp)
      · exact nil
    · exact nil
  · exact nil
theorem sort_pos {s : MSig} {vars u : List Int} (h : 0 ≤ sortM s vars u) : 1 ≤ u.length ∧ u.length ≤ 30 := by
  obtain ⟨tm, -, h2, -, rfl, -⟩ := sortM_to h
  exact ⟨row_pos tm, h2⟩


set_option maxHeartbeats 800000 in
set_option maxRecDepth 100000 in
theorem proofRun_any (t : MThy) (vars u : List Int) (ps : List MStep) (w : World) (v vv uv pv : Value) (hst : SmallT t) (hsu : Small u) (hsp : SmallPs ps) (h : RThy w v t) (h1 : RInts w vv vars) (h2 : RInts w uv u) (h3 : RSteps w pv ps) :
    Calls Try.prog 75 #[v, vv, uv, pv] w (PairPost (runM t vars u ps) w) := by
  obtain ⟨Ata, cta, Atb, ctb, rfl⟩ := h.form
  have hb : Below w.heap.size w (w.alloc (.cells #[.int .i64 t.over.sorts, .slice Ata t.over.ops.length cta, .slice Atb t.eqs.length ctb] 47)) := below_alloc _ _
  have HB := Lib.hid hb
  have hsz : (w.alloc (.cells #[.int .i64 t.over.sorts, .slice Ata t.over.ops.length cta, .slice Atb t.eqs.length ctb] 47)).heap.size = w.heap.size + 1 := by simp
  have Ht := Lib.hid (h.keep hb)
  have t0 := bx_at (w) #[.int .i64 t.over.sorts, .slice Ata t.over.ops.length cta, .slice Atb t.eqs.length ctb] 47 (k := 0) rfl
  have t1 := bx_at (w) #[.int .i64 t.over.sorts, .slice Ata t.over.ops.length cta, .slice Atb t.eqs.length ctb] 47 (k := 1) rfl
  have t2 := bx_at (w) #[.int .i64 t.over.sorts, .slice Ata t.over.ops.length cta, .slice Atb t.eqs.length ctb] 47 (k := 2) rfl
  generalize hW : w.alloc (.cells #[.int .i64 t.over.sorts, .slice Ata t.over.ops.length cta, .slice Atb t.eqs.length ctb] 47) = W at HB hsz Ht t0 t1 t2
  clear hb h
  have HV := Lib.hid (h1.keep HB.out)
  have HU := Lib.hid (h2.keep HB.out)
  have HP := Lib.hid (h3.keep HB.out)
  have HTS := Lib.hid (show RSig W (.agg #[.int .i64 t.over.sorts, .slice Ata t.over.ops.length cta]) t.over from ⟨_, rfl, Ht.out.of.2.1⟩)
  have HSM := Lib.hid (And.intro hst (And.intro hsu hsp))
  have hpl := h3.len
  have hul := h2.len
  obtain ⟨A1, d1, rfl, -⟩ := h1.form
  obtain ⟨A2, d2, rfl, -⟩ := h2.form
  obtain ⟨A3, d3, rfl, -⟩ := h3.form
  clear h1 h2 h3 hst hsu hsp
  obtain ⟨bb, hbb⟩ : ∃ b, thyB t = b := ⟨_, rfl⟩
  have HT := Lib.hid hbb
  obtain ⟨q, hq⟩ : ∃ q, sortM t.over vars u = q := ⟨_, rfl⟩
  have HQ := Lib.hid hq
  clear hbb hq
  go_enter Try.func75, Try.ntmps75
  go_wp2_with fail
  clear hW
  refine (theoryOk_any t _ _ HSM.out.1 Ht.out).mono ?_
  rw [HT.out]
  rintro x w1 ⟨rfl, hb⟩
  have HB1 := Lib.hid (fit_keep HB.out hb)
  have HK := Lib.hid hb
  have j0 := cell_keep hb t0
  have j1 := cell_keep hb t1
  have j2 := cell_keep hb t2
  clear hb t0 t1 t2
  cases bb with
  | false =>
    have HE := Lib.hid (runM_no (t := t) (vars := vars) (u := u) (ps := ps) (by rw [HT.out]; simp))
    go_wp2
    refine bodyPost_ret (v := .tuple #[.slice none 0 0, .bool false]) (by simp [results, Try.results75, go_sem]) rfl ?_
    rw [HE.out]
    exact ⟨_, rfl, OInts.nil _ _, HB1.out⟩
  | true =>
    go_wp2_with fail
    refine (termSort_any t.over vars u _ _ _ _ HSM.out.2.1 (HTS.out.keep HK.out) (HV.out.keep HK.out) (HU.out.keep HK.out)).mono ?_
    rw [HQ.out]
    rintro x w2 ⟨rfl, hb⟩
    have HB2 := Lib.hid (fit_keep HB1.out hb)
    have HK2 := Lib.hid (fit_keep HK.out hb)
    have i0 := cell_keep hb j0
    have i1 := cell_keep hb j1
    have i2 := cell_keep hb j2
    clear hb j0 j1 j2
    by_cases hq0 : q < 0
    · have HE := Lib.hid (runM_no (t := t) (vars := vars) (u := u) (ps := ps) (by rw [HQ.out]; omega))
      go_wp2
      refine bodyPost_ret (v := .tuple #[.slice none 0 0, .bool false]) (by simp [results, Try.results75, go_sem]) rfl ?_
      rw [HE.out]
      exact ⟨_, rfl, OInts.nil _ _, HB2.out⟩
    · by_cases hlen : 20 < (ps.length : Int)
      · have HE := Lib.hid (runM_no (t := t) (vars := vars) (u := u) (ps := ps) (by omega))
        go_wp2
        refine bodyPost_ret (v := .tuple #[.slice none 0 0, .bool false]) (by simp [results, Try.results75, go_sem]) rfl ?_
        rw [HE.out]
        exact ⟨_, rfl, OInts.nil _ _, HB2.out⟩
      · have HE := Lib.hid (runM_yes (t := t) (vars := vars) (u := u) (ps := ps) ⟨HT.out, by rw [HQ.out]; omega, by omega⟩)
        have hup := sort_pos (s := t.over) (vars := vars) (u := u) (by rw [HQ.out]; omega)
        have hul2 := hup.2
        obtain ⟨b2, o2, c2', e2, -⟩ := (HU.out).at_ (k := 0) (by omega)
        cases e2
        have HC := Lib.hid (And.intro i0 (And.intro i1 i2))
        clear hup
        go_wp2_with fail
        refine (clone_any _ _ _ u _ (HU.out.keep HK2.out) (by omega)).mono ?_
        rintro x w3 ⟨z, rfl, ho, hb⟩
        obtain ⟨Az, cz, rfl, -⟩ := own_reads ho
        have HO := Lib.hid ho
        have HB3 := Lib.hid (fit_keep HB2.out hb)
        have HK3 := Lib.hid (fit_keep HK2.out hb)
        have HK23 := Lib.hid hb
        clear hb ho i0 i1 i2
        go_wp2
        go_loopw [10, 12, 35] (fun nv s12 i wr => ∃ (k : Nat) (now : List Int), k ≤ ps.length ∧ i = .int .i64 k ∧ OInts wr w2.heap.size nv now ∧ Small now ∧ runL t vars u (ps.take k) = (now, true) ∧ Below w2.heap.size w2 wr) (fun _ _ i _ => ps.length - (intOf i).toNat)
        case atStart => exact ⟨0, u, Nat.zero_le _, rfl, HO.out, HSM.out.2.1, rfl, HK23.out⟩
        case round =>
          obtain ⟨k, now, hk, rfl, ho, hns, hrun, hbw⟩ := hrel
          obtain ⟨An, cn, rfl, -⟩ := own_reads ho
          have HON := Lib.hid ho
          have HNS := Lib.hid hns
          have HRUN := Lib.hid hrun
          have HBW := Lib.hid hbw
          have hzw := hbw.size
          clear ho hns hrun hbw
          by_cases hlt : k < ps.length
          · have hlt' : (k : Int) < (ps.length : Int) := by omega
            obtain ⟨b, o, c', x, e, c0, c1, c2, c3, q0⟩ := (HP.out.keep (fit_keep HK2.out HBW.out)).at_ hlt
            cases e
            have HSN := Lib.hid (runL_snoc hlt HRUN.out)
            have HSP := Lib.hid (HSM.out.2.2 _ (List.getElem_mem hlt))
            generalize ps[k] = p at q0 c0 c1 c2 HSN HSP
            have HI := Lib.hid (show RStep wr (.agg #[.int .i64 p.ax, .bool p.back, .int .i64 p.at_, x]) p from ⟨x, rfl, q0⟩)
            obtain ⟨A0, d0, rfl, -⟩ := q0.form
            have hba := below_alloc wr (.cells #[.int .i64 p.ax, .bool p.back, .int .i64 p.at_, .slice A0 p.terms.length d0] 82)
            have n0 := bx_at wr #[.int .i64 p.ax, .bool p.back, .int .i64 p.at_, .slice A0 p.terms.length d0] 82 (k := 0) rfl
            have n1 := bx_at wr #[.int .i64 p.ax, .bool p.back, .int .i64 p.at_, .slice A0 p.terms.length d0] 82 (k := 1) rfl
            have n2 := bx_at wr #[.int .i64 p.ax, .bool p.back, .int .i64 p.at_, .slice A0 p.terms.length d0] 82 (k := 2) rfl
            have n3 := bx_at wr #[.int .i64 p.ax, .bool p.back, .int .i64 p.at_, .slice A0 p.terms.length d0] 82 (k := 3) rfl
            have m0 := cell_keep hba (cell_keep HBW.out HC.out.1)
            have m1 := cell_keep hba (cell_keep HBW.out HC.out.2.1)
            have m2 := cell_keep hba (cell_keep HBW.out HC.out.2.2)
            have HI2 := Lib.hid (HI.out.keep hba)
            have HON2 := Lib.hid (own_keep HON.out hba)
            have HBA := Lib.hid (fit_keep HBW.out hba)
            generalize hW4 : wr.alloc (.cells #[.int .i64 p.ax, .bool p.back, .int .i64 p.at_, .slice A0 p.terms.length d0] 82) = W4 at n0 n1 n2 n3 m0 m1 m2 HI2 HON2 HBA
            obtain ⟨R, g, hR⟩ : ∃ R g, afterM t vars now p = (R, g) := ⟨_, _, rfl⟩
            have HR := Lib.hid hR
            have HRS := Lib.hid (show Small R by have := stepM_small (vars := vars) HSM.out.1 HNS.out HSP.out; rw [stepM_yes HT.out, hR] at this; exact this)
            clear q0 hba hR
            go_wp2_with fail
            clear hW4
            refine (afterStep_any t vars now p _ _ _ _ _ HSM.out.1 HNS.out HSP.out (Ht.out.keep (fit_keep HK2.out HBA.out)) (HV.out.keep (fit_keep HK2.out HBA.out)) (OInts.reads HON2.out) HI2.out).mono ?_
            rw [HR.out]
            rintro x w5 ⟨z, rfl, ho, hb⟩
            simp only at ho ⊢
            obtain ⟨Az', cz', rfl, -⟩ := own_reads ho
            have HB5 := Lib.hid (fit_keep HBA.out hb)
            have HO5 := Lib.hid (ho.base HBA.out.size)
            clear ho hb n0 n1 n2 n3 m0 m1 m2 c0 c1 c2 c3
            cases g with
            | false =>
              have HF := Lib.hid (HE.out.trans (runL_fail (k := k + 1) (by rw [HSN.out, stepM_yes HT.out, HR.out]; simp)))
              go_wp2
              refine bodyPost_ret (v := .tuple #[.slice none 0 0, .bool false]) (by simp [results, Try.results75, go_sem]) rfl ?_
              rw [HF.out]
              exact ⟨_, rfl, OInts.nil _ _, fit_keep HB2.out HB5.out⟩
            | true =>
              go_wp2
              go_roundw
              case rel => exact ⟨k + 1, R, by omega, by go_num, HO5.out, HRS.out, by rw [HSN.out, stepM_yes HT.out, HR.out]; first | done | simp, HB5.out⟩
              case measure => simp [intOf]; omega
          · have hkn : k = ps.length := by omega
            subst hkn
            have hlt' : ¬ (ps.length : Int) < (ps.length : Int) := by omega
            have HF := Lib.hid (show runM t vars u ps = (now, true) from HE.out.trans (by have h := HRUN.out; rwa [take_all (Nat.le_refl _)] at h))
            have hs2 := HB2.out.size
            go_wp2
            refine bodyPost_ret (v := .tuple #[.slice An now.length cn, .bool true]) (by simp [results, Try.results75, go_sem]) rfl ?_
            rw [HF.out]
            exact ⟨_, rfl, HON.out.base hs2, fit_keep HB2.out HBW.out⟩


theorem bel_grow3 {w w2 : World} {o : Obj} {A : Option Addr} {n c : Nat} (h : (w.alloc o).grownBy w2 (Value.slice A n c).ownBlock) (hr : ∀ k, (Value.slice A n c).ownBlock = some k → w.heap.size ≤ k) : Below w.heap.size w w2 :=
  (below_alloc w o).trans ⟨h.os, h.tape, h.output, h.size, fun k hk => h.block k (Nat.lt_of_lt_of_le hk (by simp)) (fun e => by have := hr k e.symm; omega)⟩

set_option maxHeartbeats 800000 in
set_option maxRecDepth 100000 in
theorem specProofRun_any (t : MThy) (vars u : List Int) (ps : List MStep) (w : World) (v vv uv pv : Value) (hsp : SmallPs ps) (h : RThy w v t) (h1 : RInts w vv vars) (h2 : RInts w uv u) (h3 : RSteps w pv ps) :
    Calls Try.prog 72 #[v, vv, uv, pv] w (PairPost (runM t vars u ps) w) := by
  obtain ⟨Ata, cta, Atb, ctb, rfl⟩ := h.form
  have hb : Below w.heap.size w (w.alloc (.cells #[.int .i64 t.over.sorts, .slice Ata t.over.ops.length cta, .slice Atb t.eqs.length ctb] 47)) := below_alloc _ _
  have HB := Lib.hid hb
  have hsz : (w.alloc (.cells #[.int .i64 t.over.sorts, .slice Ata t.over.ops.length cta, .slice Atb t.eqs.length ctb] 47)).heap.size = w.heap.size + 1 := by simp
  have Ht := Lib.hid (h.keep hb)
  have t0 := bx_at (w) #[.int .i64 t.over.sorts, .slice Ata t.over.ops.length cta, .slice Atb t.eqs.length ctb] 47 (k := 0) rfl
  have t1 := bx_at (w) #[.int .i64 t.over.sorts, .slice Ata t.over.ops.length cta, .slice Atb t.eqs.length ctb] 47 (k := 1) rfl
  have t2 := bx_at (w) #[.int .i64 t.over.sorts, .slice Ata t.over.ops.length cta, .slice Atb t.eqs.length ctb] 47 (k := 2) rfl
  generalize hW : w.alloc (.cells #[.int .i64 t.over.sorts, .slice Ata t.over.ops.length cta, .slice Atb t.eqs.length ctb] 47) = W at HB hsz Ht t0 t1 t2
  clear hb h
  have HV := Lib.hid (h1.keep HB.out)
  have HU := Lib.hid (h2.keep HB.out)
  have HP := Lib.hid (h3.keep HB.out)
  have HTS := Lib.hid (show RSig W (.agg #[.int .i64 t.over.sorts, .slice Ata t.over.ops.length cta]) t.over from ⟨_, rfl, Ht.out.of.2.1⟩)
  have HSM := Lib.hid hsp
  have hpl := h3.len
  have hul := h2.len
  obtain ⟨A1, d1, rfl, -⟩ := h1.form
  obtain ⟨A2, d2, rfl, -⟩ := h2.form
  obtain ⟨A3, d3, rfl, -⟩ := h3.form
  clear h1 h2 h3 hsp
  obtain ⟨bb, hbb⟩ : ∃ b, thyB t = b := ⟨_, rfl⟩
  have HT := Lib.hid hbb
  obtain ⟨q, hq⟩ : ∃ q, sortM t.over vars u = q := ⟨_, rfl⟩
  have HQ := Lib.hid hq
  clear hbb hq
  go_enter Try.func72, Try.ntmps72
  go_wp2_with fail
  clear hW
  refine (specTheoryOk_any t _ _ Ht.out).mono ?_
  rw [HT.out]
  rintro x w1 ⟨rfl, hb⟩
  have HB1 := Lib.hid (fit_keep HB.out hb)
  have HK := Lib.hid hb
  have j0 := cell_keep hb t0
  have j1 := cell_keep hb t1
  have j2 := cell_keep hb t2
  clear hb t0 t1 t2
  cases bb with
  | false =>
    have HE := Lib.hid (runM_no (t := t) (vars := vars) (u := u) (ps := ps) (by rw [HT.out]; simp))
    have he := own_empty w1
    go_wp2
    refine bodyPost_ret (v := .tuple #[.slice (some ⟨w1.heap.size, 0, none⟩) 0 0, .bool false]) (by simp [results, Try.results72, go_sem]) rfl ?_
    rw [HE.out]
    exact ⟨_, rfl, OInts.base he HB1.out.size, fit_keep HB1.out (below_alloc _ _)⟩
  | true =>
    go_wp2_with fail
    refine (specTermSort_any t.over vars u _ _ _ _ (HTS.out.keep HK.out) (HV.out.keep HK.out) (HU.out.keep HK.out)).mono ?_
    rw [HQ.out]
    rintro x w2 ⟨rfl, hb⟩
    have HB2 := Lib.hid (fit_keep HB1.out hb)
    have HK2 := Lib.hid (fit_keep HK.out hb)
    have i0 := cell_keep hb j0
    have i1 := cell_keep hb j1
    have i2 := cell_keep hb j2
    have he := own_empty w2
    clear hb j0 j1 j2
    by_cases hq0 : q < 0
    · have HE := Lib.hid (runM_no (t := t) (vars := vars) (u := u) (ps := ps) (by rw [HQ.out]; omega))
      go_wp2
      refine bodyPost_ret (v := .tuple #[.slice (some ⟨w2.heap.size, 0, none⟩) 0 0, .bool false]) (by simp [results, Try.results72, go_sem]) rfl ?_
      rw [HE.out]
      exact ⟨_, rfl, OInts.base he HB2.out.size, fit_keep HB2.out (below_alloc _ _)⟩
    · by_cases hlen : 20 < (ps.length : Int)
      · have HE := Lib.hid (runM_no (t := t) (vars := vars) (u := u) (ps := ps) (by omega))
        go_wp2
        refine bodyPost_ret (v := .tuple #[.slice (some ⟨w2.heap.size, 0, none⟩) 0 0, .bool false]) (by simp [results, Try.results72, go_sem]) rfl ?_
        rw [HE.out]
        exact ⟨_, rfl, OInts.base he HB2.out.size, fit_keep HB2.out (below_alloc _ _)⟩
      · have HE := Lib.hid (runM_yes (t := t) (vars := vars) (u := u) (ps := ps) ⟨HT.out, by rw [HQ.out]; omega, by omega⟩)
        have hup := sort_pos (s := t.over) (vars := vars) (u := u) (by rw [HQ.out]; omega)
        have hul2 := hup.2
        have HC := Lib.hid (And.intro i0 (And.intro i1 i2))
        obtain ⟨A6, c6, w6, hrun, ho6, hg6⟩ := app_own_run (w2.alloc (.cells #[] 3)) 36 w2.heap.size _ _ [] u he ((HU.out.keep HK2.out).keep (below_alloc w2 (.cells #[] 3))) (by simp; omega) (by simp)
        rw [List.nil_append] at hrun ho6
        have HRUN := Lib.hid hrun
        have HB6 := Lib.hid (bel_grow3 hg6 (fun k e => by injection e with e; exact Nat.le_of_eq e))
        have HO6 := Lib.hid (show OInts w6 w2.heap.size (.slice A6 u.length c6) u from ho6)
        clear hup hrun ho6 hg6 he i0 i1 i2
        go_wp2_with (at_builtin; refine Lib.wpList_append_run _ rfl _ _ _ _ rfl _ _ rfl rfl _ _ HRUN.out ?_)
        go_loopw [10, 11] (fun nv i wr => ∃ (k : Nat) (now : List Int), k ≤ ps.length ∧ i = .int .i64 k ∧ OInts wr w2.heap.size nv now ∧ runL t vars u (ps.take k) = (now, true) ∧ Below w2.heap.size w2 wr) (fun _ i _ => ps.length - (intOf i).toNat)
        case atStart => exact ⟨0, u, Nat.zero_le _, rfl, HO6.out, rfl, HB6.out⟩
        case round =>
          obtain ⟨k, now, hk, rfl, ho, hrun, hbw⟩ := hrel
          obtain ⟨An, cn, rfl, -⟩ := own_reads ho
          have HON := Lib.hid ho
          have HRL := Lib.hid hrun
          have HBW := Lib.hid hbw
          have hzw := hbw.size
          have m0 := cell_keep hbw HC.out.1
          have m1 := cell_keep hbw HC.out.2.1
          have m2 := cell_keep hbw HC.out.2.2
          clear ho hrun hbw
          by_cases hlt : k < ps.length
          · have hlt' : (k : Int) < (ps.length : Int) := by omega
            obtain ⟨b, o, c', x, e, c0, c1, c2, c3, q0⟩ := (HP.out.keep (fit_keep HK2.out HBW.out)).at_ hlt
            cases e
            have HSN := Lib.hid (runL_snoc hlt HRL.out)
            have HSP := Lib.hid (HSM.out _ (List.getElem_mem hlt))
            generalize ps[k] = p at q0 c0 c1 c2 HSN HSP
            have HI := Lib.hid (show RStep wr (.agg #[.int .i64 p.ax, .bool p.back, .int .i64 p.at_, x]) p from ⟨x, rfl, q0⟩)
            obtain ⟨A0, d0, rfl, -⟩ := q0.form
            obtain ⟨R, g, hR⟩ : ∃ R g, stepM t vars now p = (R, g) := ⟨_, _, rfl⟩
            have HR := Lib.hid hR
            have ea := World.new_ne wr _ m0
            have eb := World.new_ne wr _ c0
            clear q0 hR
            go_wp2_with fail
            go_region_held3 (fun w' => w'.cell? ⟨w.heap.size, 0, none⟩ = some (.int .i64 t.over.sorts) ∧ w'.cell? ⟨w.heap.size, 1, none⟩ = some (.slice Ata t.over.ops.length cta) ∧ w'.cell? ⟨w.heap.size, 2, none⟩ = some (.slice Atb t.eqs.length ctb) ∧ w'.cell? ⟨b, o + k * 4, none⟩ = some (.int .i64 p.ax) ∧ w'.cell? ⟨b, o + k * 4 + 1, none⟩ = some (.bool p.back) ∧ w'.cell? ⟨b, o + k * 4 + 2, none⟩ = some (.int .i64 p.at_) ∧ w'.cell? ⟨b, o + k * 4 + 3, none⟩ = some (.slice A0 p.terms.length d0)) (first | go_keep)
              (first
                | (go_at_call 60; refine (specStepDo_any t vars now p wr.drew _ _ _ _ HSP.out (Ht.out.keep (bel_drew (fit_keep HK2.out HBW.out))) (HV.out.keep (bel_drew (fit_keep HK2.out HBW.out))) ((OInts.reads HON.out).keep (bel_drew (Below.refl _ _))) (HI.out.keep (bel_drew (Below.refl _ _)))).mono ?_; rw [HR.out]; rintro x w5 ⟨z, rfl, ho, hb⟩; simp only at ho ⊢; obtain ⟨Az', cz', rfl, -⟩ := own_reads ho; have HB5 := Lib.hid (show Below wr.heap.size wr w5 from bel_undrew hb); have HO5 := Lib.hid (show OInts w5 wr.heap.size (.slice Az' R.length cz') R from ho); have j0 := cell_keep HB5.out m0; have j1 := cell_keep HB5.out m1; have j2 := cell_keep HB5.out m2; have j3 := cell_keep HB5.out c0; have j4 := cell_keep HB5.out c1; have j5 := cell_keep HB5.out c2; have j6 := cell_keep HB5.out c3; clear ho hb))
            have HBN := Lib.hid (fit_keep HBW.out HB5.out)
            have HON5 := Lib.hid (HO5.out.base hzw)
            clear m0 m1 m2 c0 c1 c2 c3 j0 j1 j2 j3 j4 j5 j6 ea eb
            cases g with
            | false =>
              have HF := Lib.hid (HE.out.trans (runL_fail (k := k + 1) (by rw [HSN.out, HR.out]; simp)))
              have he := own_empty w5
              have hs5 := (fit_keep HB2.out HBN.out).size
              go_wp2
              refine bodyPost_ret (v := .tuple #[.slice (some ⟨w5.heap.size, 0, none⟩) 0 0, .bool false]) (by simp [results, Try.results72, go_sem]) rfl ?_
              rw [HF.out]
              exact ⟨_, rfl, OInts.base he hs5, fit_keep (fit_keep HB2.out HBN.out) (below_alloc _ _)⟩
            | true =>
              go_wp2
              go_roundw
              case rel => exact ⟨k + 1, R, by omega, by go_num, HON5.out, by rw [HSN.out, HR.out]; first | done | simp, HBN.out⟩
              case measure => simp [intOf]; omega
          · have hkn : k = ps.length := by omega
            subst hkn
            have hlt' : ¬ (ps.length : Int) < (ps.length : Int) := by omega
            have HF := Lib.hid (show runM t vars u ps = (now, true) from HE.out.trans (by have h := HRL.out; rwa [take_all (Nat.le_refl _)] at h))
            have hs2 := HB2.out.size
            go_wp2
            refine bodyPost_ret (v := .tuple #[.slice An now.length cn, .bool true]) (by simp [results, Try.results72, go_sem]) rfl ?_
            rw [HF.out]
            exact ⟨_, rfl, HON.out.base hs2, fit_keep HB2.out HBW.out⟩


def proofB (t : MThy) (e : MEq) (ps : List MStep) : Bool := eqOkB t.over e && ((runM t e.vars e.left ps).2 && decide ((runM t e.vars e.left ps).1 = e.right))

set_option maxHeartbeats 800000 in
set_option maxRecDepth 100000 in
theorem proofOk_any (t : MThy) (e : MEq) (ps : List MStep) (w : World) (v ev pv : Value) (hst : SmallT t) (hse : SmallE e) (hsp : SmallPs ps) (h : RThy w v t) (he : REq w ev e) (h3 : RSteps w pv ps) :
    Calls Try.prog 62 #[v, ev, pv] w fun x w' => x = .returned (.bool (proofB t e ps)) ∧ Below w.heap.size w w' := by
  obtain ⟨Ata, cta, Atb, ctb, rfl⟩ := h.form
  obtain ⟨Aea, cea, Aeb, ceb, Aec, cec, rfl⟩ := he.form
  have hb : Below w.heap.size w ((w.alloc (.cells #[.int .i64 t.over.sorts, .slice Ata t.over.ops.length cta, .slice Atb t.eqs.length ctb] 47)).alloc (.cells #[.slice Aea e.vars.length cea, .slice Aeb e.left.length ceb, .slice Aec e.right.length cec] 49)) := (below_alloc _ _).alloc (by simp) _
  have HB := Lib.hid hb
  have hsz : ((w.alloc (.cells #[.int .i64 t.over.sorts, .slice Ata t.over.ops.length cta, .slice Atb t.eqs.length ctb] 47)).alloc (.cells #[.slice Aea e.vars.length cea, .slice Aeb e.left.length ceb, .slice Aec e.right.length cec] 49)).heap.size = w.heap.size + 2 := by simp
  have Ht := Lib.hid (h.keep hb)
  have t0 := cell_keep (below_alloc (w.alloc (.cells #[.int .i64 t.over.sorts, .slice Ata t.over.ops.length cta, .slice Atb t.eqs.length ctb] 47)) (.cells #[.slice Aea e.vars.length cea, .slice Aeb e.left.length ceb, .slice Aec e.right.length cec] 49)) (bx_at (w) #[.int .i64 t.over.sorts, .slice Ata t.over.ops.length cta, .slice Atb t.eqs.length ctb] 47 (k := 0) rfl)
  have t1 := cell_keep (below_alloc (w.alloc (.cells #[.int .i64 t.over.sorts, .slice Ata t.over.ops.length cta, .slice Atb t.eqs.length ctb] 47)) (.cells #[.slice Aea e.vars.length cea, .slice Aeb e.left.length ceb, .slice Aec e.right.length cec] 49)) (bx_at (w) #[.int .i64 t.over.sorts, .slice Ata t.over.ops.length cta, .slice Atb t.eqs.length ctb] 47 (k := 1) rfl)
  have t2 := cell_keep (below_alloc (w.alloc (.cells #[.int .i64 t.over.sorts, .slice Ata t.over.ops.length cta, .slice Atb t.eqs.length ctb] 47)) (.cells #[.slice Aea e.vars.length cea, .slice Aeb e.left.length ceb, .slice Aec e.right.length cec] 49)) (bx_at (w) #[.int .i64 t.over.sorts, .slice Ata t.over.ops.length cta, .slice Atb t.eqs.length ctb] 47 (k := 2) rfl)
  have He := Lib.hid (he.keep hb)
  have e0 := bx_at (w.alloc (.cells #[.int .i64 t.over.sorts, .slice Ata t.over.ops.length cta, .slice Atb t.eqs.length ctb] 47)) #[.slice Aea e.vars.length cea, .slice Aeb e.left.length ceb, .slice Aec e.right.length cec] 49 (k := 0) rfl
  have e1 := bx_at (w.alloc (.cells #[.int .i64 t.over.sorts, .slice Ata t.over.ops.length cta, .slice Atb t.eqs.length ctb] 47)) #[.slice Aea e.vars.length cea, .slice Aeb e.left.length ceb, .slice Aec e.right.length cec] 49 (k := 1) rfl
  have e2 := bx_at (w.alloc (.cells #[.int .i64 t.over.sorts, .slice Ata t.over.ops.length cta, .slice Atb t.eqs.length ctb] 47)) #[.slice Aea e.vars.length cea, .slice Aeb e.left.length ceb, .slice Aec e.right.length cec] 49 (k := 2) rfl
  simp only [World.size_alloc] at e0 e1 e2
  generalize hW : (w.alloc (.cells #[.int .i64 t.over.sorts, .slice Ata t.over.ops.length cta, .slice Atb t.eqs.length ctb] 47)).alloc (.cells #[.slice Aea e.vars.length cea, .slice Aeb e.left.length ceb, .slice Aec e.right.length cec] 49) = W at HB hsz Ht t0 t1 t2 He e0 e1 e2
  clear hb h he
  have HP := Lib.hid (h3.keep HB.out)
  have HTS := Lib.hid (show RSig W (.agg #[.int .i64 t.over.sorts, .slice Ata t.over.ops.length cta]) t.over from ⟨_, rfl, Ht.out.of.2.1⟩)
  have HE := Lib.hid He.out.of
  have HSM := Lib.hid (And.intro hst (And.intro hse hsp))
  obtain ⟨A3, d3, rfl, -⟩ := h3.form
  clear h3 hst hse hsp
  obtain ⟨bb, hbb⟩ : ∃ b, eqOkB t.over e = b := ⟨_, rfl⟩
  have HT := Lib.hid hbb
  obtain ⟨R, g, hR⟩ : ∃ R g, runM t e.vars e.left ps = (R, g) := ⟨_, _, rfl⟩
  have HR := Lib.hid hR
  clear hbb hR
  go_enter Try.func62, Try.ntmps62
  go_wp2_with fail
  clear hW
  refine (eqOk_any t.over e _ _ _ HSM.out.2.1 HTS.out He.out).mono ?_
  rw [HT.out]
  rintro x w1 ⟨rfl, hb⟩
  have HB1 := Lib.hid (fit_keep HB.out hb)
  have HK := Lib.hid hb
  have j0 := cell_keep hb t0
  have j1 := cell_keep hb t1
  have j2 := cell_keep hb t2
  have j3 := cell_keep hb e0
  have j4 := cell_keep hb e1
  have j5 := cell_keep hb e2
  clear hb t0 t1 t2 e0 e1 e2
  cases bb with
  | false =>
    go_wp2
    go_ret
    exact ⟨ret_bool (by unfold proofB; rw [HT.out]; rfl), HB1.out⟩
  | true =>
    go_wp2_with fail
    refine (proofRun_any t e.vars e.left ps _ _ _ _ _ HSM.out.1 HSM.out.2.1.1 HSM.out.2.2 (Ht.out.keep HK.out) (HE.out.1.keep HK.out) (HE.out.2.1.keep HK.out) (HP.out.keep HK.out)).mono ?_
    rw [HR.out]
    rintro x w2 ⟨z, rfl, ho, hb⟩
    simp only at ho ⊢
    obtain ⟨Az, cz, rfl, -⟩ := own_reads ho
    have ZR := Lib.hid ho.reads
    have HB2 := Lib.hid (fit_keep HB1.out hb)
    have HK2 := Lib.hid (fit_keep HK.out hb)
    have i5 := cell_keep hb j5
    clear hb ho j0 j1 j2 j3 j4 j5
    cases g with
    | false =>
      go_wp2
      go_ret
      exact ⟨ret_bool (by unfold proofB; rw [HR.out]; simp), HB2.out⟩
    | true =>
      obtain ⟨q, hq⟩ : ∃ q : Bool, decide (R = e.right) = q := ⟨_, rfl⟩
      have HQ := Lib.hid hq
      clear hq
      go_wp2_with fail
      refine (slEqual_any _ _ R e.right _ ZR.out (HE.out.2.2.keep HK2.out)).mono ?_
      rw [HQ.out]
      rintro x w3 ⟨rfl, hd⟩
      have HB3 := Lib.hid (fit_keep HB2.out hd.below)
      clear hd i5
      go_wp2
      go_ret
      exact ⟨ret_bool (by unfold proofB; rw [HT.out, HR.out]; simp [HQ.out]), HB3.out⟩

set_option maxHeartbeats 800000 in
set_option maxRecDepth 100000 in
theorem specProofOk_any (t : MThy) (e : MEq) (ps : List MStep) (w : World) (v ev pv : Value) (hsp : SmallPs ps) (h : RThy w v t) (he : REq w ev e) (h3 : RSteps w pv ps) :
    Calls Try.prog 56 #[v, ev, pv] w fun x w' => x = .returned (.bool (proofB t e ps)) ∧ Below w.heap.size w w' := by
  obtain ⟨Ata, cta, Atb, ctb, rfl⟩ := h.form
  obtain ⟨Aea, cea, Aeb, ceb, Aec, cec, rfl⟩ := he.form
  have hb : Below w.heap.size w ((w.alloc (.cells #[.int .i64 t.over.sorts, .slice Ata t.over.ops.length cta, .slice Atb t.eqs.length ctb] 47)).alloc (.cells #[.slice Aea e.vars.length cea, .slice Aeb e.left.length ceb, .slice Aec e.right.length cec] 49)) := (below_alloc _ _).alloc (by simp) _
  have HB := Lib.hid hb
  have hsz : ((w.alloc (.cells #[.int .i64 t.over.sorts, .slice Ata t.over.ops.length cta, .slice Atb t.eqs.length ctb] 47)).alloc (.cells #[.slice Aea e.vars.length cea, .slice Aeb e.left.length ceb, .slice Aec e.right.length cec] 49)).heap.size = w.heap.size + 2 := by simp
  have Ht := Lib.hid (h.keep hb)
  have t0 := cell_keep (below_alloc (w.alloc (.cells #[.int .i64 t.over.sorts, .slice Ata t.over.ops.length cta, .slice Atb t.eqs.length ctb] 47)) (.cells #[.slice Aea e.vars.length cea, .slice Aeb e.left.length ceb, .slice Aec e.right.length cec] 49)) (bx_at (w) #[.int .i64 t.over.sorts, .slice Ata t.over.ops.length cta, .slice Atb t.eqs.length ctb] 47 (k := 0) rfl)
  have t1 := cell_keep (below_alloc (w.alloc (.cells #[.int .i64 t.over.sorts, .slice Ata t.over.ops.length cta, .slice Atb t.eqs.length ctb] 47)) (.cells #[.slice Aea e.vars.length cea, .slice Aeb e.left.length ceb, .slice Aec e.right.length cec] 49)) (bx_at (w) #[.int .i64 t.over.sorts, .slice Ata t.over.ops.length cta, .slice Atb t.eqs.length ctb] 47 (k := 1) rfl)
  have t2 := cell_keep (below_alloc (w.alloc (.cells #[.int .i64 t.over.sorts, .slice Ata t.over.ops.length cta, .slice Atb t.eqs.length ctb] 47)) (.cells #[.slice Aea e.vars.length cea, .slice Aeb e.left.length ceb, .slice Aec e.right.length cec] 49)) (bx_at (w) #[.int .i64 t.over.sorts, .slice Ata t.over.ops.length cta, .slice Atb t.eqs.length ctb] 47 (k := 2) rfl)
  have He := Lib.hid (he.keep hb)
  have e0 := bx_at (w.alloc (.cells #[.int .i64 t.over.sorts, .slice Ata t.over.ops.length cta, .slice Atb t.eqs.length ctb] 47)) #[.slice Aea e.vars.length cea, .slice Aeb e.left.length ceb, .slice Aec e.right.length cec] 49 (k := 0) rfl
  have e1 := bx_at (w.alloc (.cells #[.int .i64 t.over.sorts, .slice Ata t.over.ops.length cta, .slice Atb t.eqs.length ctb] 47)) #[.slice Aea e.vars.length cea, .slice Aeb e.left.length ceb, .slice Aec e.right.length cec] 49 (k := 1) rfl
  have e2 := bx_at (w.alloc (.cells #[.int .i64 t.over.sorts, .slice Ata t.over.ops.length cta, .slice Atb t.eqs.length ctb] 47)) #[.slice Aea e.vars.length cea, .slice Aeb e.left.length ceb, .slice Aec e.right.length cec] 49 (k := 2) rfl
  simp only [World.size_alloc] at e0 e1 e2
  generalize hW : (w.alloc (.cells #[.int .i64 t.over.sorts, .slice Ata t.over.ops.length cta, .slice Atb t.eqs.length ctb] 47)).alloc (.cells #[.slice Aea e.vars.length cea, .slice Aeb e.left.length ceb, .slice Aec e.right.length cec] 49) = W at HB hsz Ht t0 t1 t2 He e0 e1 e2
  clear hb h he
  have HP := Lib.hid (h3.keep HB.out)
  have HTS := Lib.hid (show RSig W (.agg #[.int .i64 t.over.sorts, .slice Ata t.over.ops.length cta]) t.over from ⟨_, rfl, Ht.out.of.2.1⟩)
  have HE := Lib.hid He.out.of
  have HSM := Lib.hid hsp
  obtain ⟨A3, d3, rfl, -⟩ := h3.form
  clear h3 hsp
  obtain ⟨bb, hbb⟩ : ∃ b, eqOkB t.over e = b := ⟨_, rfl⟩
  have HT := Lib.hid hbb
  obtain ⟨R, g, hR⟩ : ∃ R g, runM t e.vars e.left ps = (R, g) := ⟨_, _, rfl⟩
  have HR := Lib.hid hR
  clear hbb hR
  go_enter Try.func56, Try.ntmps56
  go_wp2_with fail
  clear hW
  refine (specProofRun_any t e.vars e.left ps _ _ _ _ _ HSM.out Ht.out HE.out.1 HE.out.2.1 HP.out).mono ?_
  rw [HR.out]
  rintro x w1 ⟨z, rfl, ho, hb⟩
  simp only at ho ⊢
  obtain ⟨Az, cz, rfl, -⟩ := own_reads ho
  have ZR := Lib.hid ho.reads
  have HB1 := Lib.hid (fit_keep HB.out hb)
  have HK := Lib.hid hb
  have j0 := cell_keep hb t0
  have j1 := cell_keep hb t1
  have j3 := cell_keep hb e0
  have j4 := cell_keep hb e1
  have j5 := cell_keep hb e2
  clear hb ho t0 t1 t2 e0 e1 e2
  cases g with
  | false =>
    go_wp2
    go_ret
    exact ⟨ret_bool (by unfold proofB; rw [HR.out]; simp), HB1.out⟩
  | true =>
    go_wp2_with fail
    refine (specEqOk_any t.over e _ _ _ (HTS.out.keep HK.out) (He.out.keep HK.out)).mono ?_
    rw [HT.out]
    rintro x w2 ⟨rfl, hb⟩
    have HB2 := Lib.hid (fit_keep HB1.out hb)
    have HK2 := Lib.hid (fit_keep HK.out hb)
    have ZR2 := Lib.hid (ZR.out.keep hb)
    have i5 := cell_keep hb j5
    clear hb j0 j1 j3 j4 j5
    cases bb with
    | false =>
      go_wp2
      go_ret
      exact ⟨ret_bool (by unfold proofB; rw [HT.out]; rfl), HB2.out⟩
    | true =>
      obtain ⟨q, hq⟩ : ∃ q : Bool, decide (R = e.right) = q := ⟨_, rfl⟩
      have HQ := Lib.hid hq
      clear hq
      go_wp2_with fail
      refine (l1Same_any _ _ R e.right _ ZR2.out (HE.out.2.2.keep HK2.out)).mono ?_
      rw [HQ.out]
      rintro x w3 ⟨rfl, hd⟩
      have HB3 := Lib.hid (fit_keep HB2.out hd.below)
      clear hd i5
      go_wp2
      go_ret
      exact ⟨ret_bool (by unfold proofB; rw [HT.out, HR.out]; simp [HQ.out]), HB3.out⟩
end

section
open Go.RowKit
set_option linter.unusedVariables false
set_option linter.unusedSimpArgs false

/-- a step at so many places more -/
def moveP (a : Int) (p : MStep) : MStep := ⟨p.ax, p.back, IntKind.i64.wrap (a + p.at_), p.terms⟩
def movedM (ps : List MStep) (a : Int) : List MStep := ps.map (moveP a)
theorem movedM_len (ps : List MStep) (a : Int) : (movedM ps a).length = ps.length := by simp [movedM]
theorem movedM_at {ps : List MStep} {a : Int} {k : Nat} (hk : k < ps.length) (hk' : k < (movedM ps a).length) : (movedM ps a)[k] = moveP a ps[k] := by simp [movedM]
theorem movedM_small {ps : List MStep} {a : Int} (h : SmallPs ps) : SmallPs (movedM ps a) := fun p hp => by
  unfold movedM at hp
  obtain ⟨q, hq, rfl⟩ := List.mem_map.1 hp
  exact h q hq
theorem movedM_fits {ps : List MStep} {a : Int} (h : FitsPs ps) : FitsPs (movedM ps a) := ⟨by rw [movedM_len]; exact h.1, fun p hp => by
  unfold movedM at hp
  obtain ⟨q, hq, rfl⟩ := List.mem_map.1 hp
  exact h.2 q hq⟩
def underM (t : MThy) (e : MEq) (ps : List MStep) (u : List Int) (a : Int) : List MStep × Bool :=
  if proofB t e ps = true ∧ atM t.over e.vars u a = e.left ∧ (runM t e.vars u (movedM ps a)).2 = true then (movedM ps a, true) else ([], false)
theorem underM_no {t : MThy} {e : MEq} {ps : List MStep} {u : List Int} {a : Int} (h : ¬ (proofB t e ps = true ∧ atM t.over e.vars u a = e.left ∧ (runM t e.vars u (movedM ps a)).2 = true)) : underM t e ps u a = ([], false) := by unfold underM; rw [if_neg h]
theorem underM_yes {t : MThy} {e : MEq} {ps : List MStep} {u : List Int} {a : Int} (h : proofB t e ps = true ∧ atM t.over e.vars u a = e.left ∧ (runM t e.vars u (movedM ps a)).2 = true) : underM t e ps u a = (movedM ps a, true) := by unfold underM; rw [if_pos h]

/-- steps of a call's own, or nil -/
def OStepsN (w : World) (B : Nat) (v : Value) (ps : List MStep) : Prop := OSteps w B v ps ∨ (v = .slice none 0 0 ∧ ps = [])
theorem rsteps_nil (w : World) (A : Option Addr) : RSteps w (.slice A 0 0) [] := ⟨A, 0, rfl, Nat.le_refl _, Nat.zero_le _, fun j p hj => by simp at hj⟩
theorem OStepsN.reads {w : World} {B : Nat} {v : Value} {ps : List MStep} (h : OStepsN w B v ps) : RSteps w v ps := by
  rcases h with h | ⟨rfl, rfl⟩
  · exact h.reads
  · exact rsteps_nil w none
theorem OStepsN.same {w w' : World} {B : Nat} {v : Value} {ps : List MStep} (h : OStepsN w B v ps) (hs : w.heap.size ≤ w'.heap.size) (hk : ∀ k, B ≤ k → k < w.heap.size → w'.heap[k]? = w.heap[k]?) : OStepsN w' B v ps := h.imp (fun h => h.same hs hk) id
theorem osteps_base {w : World} {B B' : Nat} {v : Value} {ps : List MStep} (h : OSteps w B v ps) (hB : B' ≤ B) : OSteps w B' v ps := by
  obtain ⟨g, c, cur, rg, e, h1, h2, h3, h4, h5, h6, h7⟩ := h
  refine ⟨g, c, cur, rg, e, by omega, h2, h3, h4, h5, fun j p hj => ?_, h7⟩
  obtain ⟨u, c0, c1, c2, c3, r, a, b, d⟩ := h6 j p hj
  exact ⟨u, c0, c1, c2, c3, r, by omega, b, d⟩
def PairSteps (R : List MStep × Bool) (w : World) (e : Ending) (w' : World) : Prop := ∃ u, e = .returned (.tuple #[u, .bool R.2]) ∧ OStepsN w' w.heap.size u R.1 ∧ Below w.heap.size w w'
def PairStepsR (R : List MStep × Bool) (w : World) (e : Ending) (w' : World) : Prop := ∃ u, e = .returned (.tuple #[u, .bool R.2]) ∧ RSteps w' u R.1 ∧ Below w.heap.size w w'

set_option maxHeartbeats 3200000 in
set_option maxRecDepth 100000 in
theorem proofUnder_any (t : MThy) (e : MEq) (ps : List MStep) (u : List Int) (a : Int) (w : World) (v ev pv uv : Value) (hst : SmallT t) (hse : SmallE e) (hsp : SmallPs ps) (hsu : Small u) (hf : FitsPs ps) (h : RThy w v t) (he : REq w ev e) (h3 : RSteps w pv ps) (h4 : RInts w uv u) :
    Calls Try.prog 33 #[v, ev, pv, uv, .int .i64 a] w (PairSteps (underM t e ps u a) w) := by
  obtain ⟨Ata, cta, Atb, ctb, rfl⟩ := h.form
  obtain ⟨Aea, cea, Aeb, ceb, Aec, cec, rfl⟩ := he.form
  have hb : Below w.heap.size w ((w.alloc (.cells #[.int .i64 t.over.sorts, .slice Ata t.over.ops.length cta, .slice Atb t.eqs.length ctb] 47)).alloc (.cells #[.slice Aea e.vars.length cea, .slice Aeb e.left.length ceb, .slice Aec e.right.length cec] 49)) := (below_alloc _ _).alloc (by simp) _
  have HB := Lib.hid hb
  have hsz : ((w.alloc (.cells #[.int .i64 t.over.sorts, .slice Ata t.over.ops.length cta, .slice Atb t.eqs.length ctb] 47)).alloc (.cells #[.slice Aea e.vars.length cea, .slice Aeb e.left.length ceb, .slice Aec e.right.length cec] 49)).heap.size = w.heap.size + 2 := by simp
  have Ht := Lib.hid (h.keep hb)
  have t0 := cell_keep (below_alloc (w.alloc (.cells #[.int .i64 t.over.sorts, .slice Ata t.over.ops.length cta, .slice Atb t.eqs.length ctb] 47)) (.cells #[.slice Aea e.vars.length cea, .slice Aeb e.left.length ceb, .slice Aec e.right.length cec] 49)) (bx_at (w) #[.int .i64 t.over.sorts, .slice Ata t.over.ops.length cta, .slice Atb t.eqs.length ctb] 47 (k := 0) rfl)
  have t1 := cell_keep (below_alloc (w.alloc (.cells #[.int .i64 t.over.sorts, .slice Ata t.over.ops.length cta, .slice Atb t.eqs.length ctb] 47)) (.cells #[.slice Aea e.vars.length cea, .slice Aeb e.left.length ceb, .slice Aec e.right.length cec] 49)) (bx_at (w) #[.int .i64 t.over.sorts, .slice Ata t.over.ops.length cta, .slice Atb t.eqs.length ctb] 47 (k := 1) rfl)
  have t2 := cell_keep (below_alloc (w.alloc (.cells #[.int .i64 t.over.sorts, .slice Ata t.over.ops.length cta, .slice Atb t.eqs.length ctb] 47)) (.cells #[.slice Aea e.vars.length cea, .slice Aeb e.left.length ceb, .slice Aec e.right.length cec] 49)) (bx_at (w) #[.int .i64 t.over.sorts, .slice Ata t.over.ops.length cta, .slice Atb t.eqs.length ctb] 47 (k := 2) rfl)
  have He := Lib.hid (he.keep hb)
  have e0 := bx_at (w.alloc (.cells #[.int .i64 t.over.sorts, .slice Ata t.over.ops.length cta, .slice Atb t.eqs.length ctb] 47)) #[.slice Aea e.vars.length cea, .slice Aeb e.left.length ceb, .slice Aec e.right.length cec] 49 (k := 0) rfl
  have e1 := bx_at (w.alloc (.cells #[.int .i64 t.over.sorts, .slice Ata t.over.ops.length cta, .slice Atb t.eqs.length ctb] 47)) #[.slice Aea e.vars.length cea, .slice Aeb e.left.length ceb, .slice Aec e.right.length cec] 49 (k := 1) rfl
  have e2 := bx_at (w.alloc (.cells #[.int .i64 t.over.sorts, .slice Ata t.over.ops.length cta, .slice Atb t.eqs.length ctb] 47)) #[.slice Aea e.vars.length cea, .slice Aeb e.left.length ceb, .slice Aec e.right.length cec] 49 (k := 2) rfl
  simp only [World.size_alloc] at e0 e1 e2
  generalize hW : (w.alloc (.cells #[.int .i64 t.over.sorts, .slice Ata t.over.ops.length cta, .slice Atb t.eqs.length ctb] 47)).alloc (.cells #[.slice Aea e.vars.length cea, .slice Aeb e.left.length ceb, .slice Aec e.right.length cec] 49) = W at HB hsz Ht t0 t1 t2 He e0 e1 e2
  clear hb h he
  have HP := Lib.hid (h3.keep HB.out)
  have HU := Lib.hid (h4.keep HB.out)
  have HTS := Lib.hid (show RSig W (.agg #[.int .i64 t.over.sorts, .slice Ata t.over.ops.length cta]) t.over from ⟨_, rfl, Ht.out.of.2.1⟩)
  have HE := Lib.hid He.out.of
  have HST := Lib.hid hst
  have HSE := Lib.hid hse
  have HSP := Lib.hid hsp
  have HSU := Lib.hid hsu
  have HFP := Lib.hid hf
  have hlen := hf.1
  obtain ⟨A3, d3, rfl, -⟩ := h3.form
  obtain ⟨A4, d4, rfl, -⟩ := h4.form
  clear h3 h4 hst hse hsp hsu hf
  obtain ⟨pb, hpb⟩ : ∃ b, proofB t e ps = b := ⟨_, rfl⟩
  have HPB := Lib.hid hpb
  obtain ⟨Y, hY⟩ : ∃ Y, atM t.over e.vars u a = Y := ⟨_, rfl⟩
  have HY := Lib.hid hY
  obtain ⟨q, hq⟩ : ∃ q : Bool, decide (Y = e.left) = q := ⟨_, rfl⟩
  have HQ := Lib.hid hq
  clear hpb hY hq
  have hmk := run_make_wide 24 82 _ 4 48 Try.underlying24 Try.tinfo_Step .i64 .i64 ps.length (by omega) (by omega)
  go_enter Try.func33, Try.ntmps33
  go_wp2_with fail
  clear hW
  cases pb with
  | false =>
    refine wp_region_held_drew (S := (fun w' => w'.cell? ⟨w.heap.size, 0, none⟩ = some (.int .i64 t.over.sorts) ∧ w'.cell? ⟨w.heap.size, 1, none⟩ = some (.slice Ata t.over.ops.length cta) ∧ w'.cell? ⟨w.heap.size, 2, none⟩ = some (.slice Atb t.eqs.length ctb) ∧ w'.cell? ⟨w.heap.size + 1, 0, none⟩ = some (.slice Aea e.vars.length cea) ∧ w'.cell? ⟨w.heap.size + 1, 1, none⟩ = some (.slice Aeb e.left.length ceb) ∧ w'.cell? ⟨w.heap.size + 1, 2, none⟩ = some (.slice Aec e.right.length cec))) (by kernel_rfl) ?_ (fun hHeld => ?_)
    · exact ⟨t0, t1, t2, e0, e1, e2⟩
    refine wpAnyH_take (i := 0) (oi := _) (v := ?_) rfl (by kernel_rfl) (by kernel_rfl) (by kernel_rfl) (fun _ _ _ h => h) (Or.inl ⟨by rfl, ?_⟩) (by assumption) ?_
    rotate_left
    · first | (intro w' hSw; (try dsimp only at hSw); go_simp; done) | (intro w' hSw; (try dsimp only at hSw); go_simp; with_reducible rfl)
    try simp only [Act.put, List.getElem_toArray, List.getElem_cons_zero, List.getElem_cons_succ, List.setIfInBounds_toArray, List.set_cons_zero, List.set_cons_succ]
    refine wpAnyH_take (i := 1) (oi := _) (v := ?_) rfl (by kernel_rfl) (by kernel_rfl) (by kernel_rfl) (fun _ _ _ h => h) (Or.inl ⟨by rfl, ?_⟩) (by assumption) ?_
    rotate_left
    · first | (intro w' hSw; (try dsimp only at hSw); go_simp; done) | (intro w' hSw; (try dsimp only at hSw); go_simp; with_reducible rfl)
    try simp only [Act.put, List.getElem_toArray, List.getElem_cons_zero, List.getElem_cons_succ, List.setIfInBounds_toArray, List.set_cons_zero, List.set_cons_succ]
    refine wpAnyH_take (i := 2) (oi := _) (v := ?_) rfl (by kernel_rfl) (by kernel_rfl) (by kernel_rfl) (fun _ _ _ h => h) (Or.inl ⟨by rfl, ?_⟩) (by assumption) ?_
    rotate_left
    · first | (intro w' hSw; (try dsimp only at hSw); go_simp; done) | (intro w' hSw; (try dsimp only at hSw); go_simp; with_reducible rfl)
    try simp only [Act.put, List.getElem_toArray, List.getElem_cons_zero, List.getElem_cons_succ, List.setIfInBounds_toArray, List.set_cons_zero, List.set_cons_succ]
    refine wpAnyH_ready (rs := [3]) (by kernel_rfl) (by simp) ?_
    refine AllReadyH.cons (o := _) rfl (fun K hK => ?_) AllReadyH.nil
    go_simp
    refine (proofOk_any t e ps W.drew _ _ _ HST.out HSE.out HSP.out (Ht.out.keep (bel_drew (Below.refl _ _))) (He.out.keep (bel_drew (Below.refl _ _))) (HP.out.keep (bel_drew (Below.refl _ _)))).mono ?_
    rw [HPB.out]
    rintro x w1 ⟨rfl, hb1⟩
    have hx1 := (show Below W.heap.size W w1 from bel_undrew hb1)
    have HX1 := Lib.hid hx1
    have m0 := cell_keep hx1 t0
    have m1 := cell_keep hx1 t1
    have m2 := cell_keep hx1 t2
    have m3 := cell_keep hx1 e0
    have m4 := cell_keep hx1 e1
    have m5 := cell_keep hx1 e2
    clear hb1 hx1
    go_wp2_with fail
    refine hK.out _ _ ?_ (fun hHeld => ?_)
    · exact ⟨m0, m1, m2, m3, m4, m5⟩
    clear hK K
    try simp only [Act.put, List.getElem_toArray, List.getElem_cons_zero, List.getElem_cons_succ, List.setIfInBounds_toArray, List.set_cons_zero, List.set_cons_succ]
    refine wpAnyH_take (i := 4) (oi := _) (v := ?_) rfl (by kernel_rfl) (by kernel_rfl) (by kernel_rfl) (fun _ _ _ h => h) (Or.inl ⟨by rfl, ?_⟩) (by assumption) ?_
    rotate_left
    · first | (intro w' hSw; (try dsimp only at hSw); go_simp; done) | (intro w' hSw; (try dsimp only at hSw); go_simp; with_reducible rfl)
    try simp only [Act.put, List.getElem_toArray, List.getElem_cons_zero, List.getElem_cons_succ, List.setIfInBounds_toArray, List.set_cons_zero, List.set_cons_succ]
    refine wpAnyH_take (i := 5) (oi := _) (v := ?_) rfl (by kernel_rfl) (by kernel_rfl) (by kernel_rfl) (fun _ _ _ h => h) (Or.inl ⟨by rfl, ?_⟩) (by assumption) ?_
    rotate_left
    · first | (intro w' hSw; (try dsimp only at hSw); go_simp; done) | (intro w' hSw; (try dsimp only at hSw); go_simp; with_reducible rfl)
    try simp only [Act.put, List.getElem_toArray, List.getElem_cons_zero, List.getElem_cons_succ, List.setIfInBounds_toArray, List.set_cons_zero, List.set_cons_succ]
    refine wpAnyH_take (i := 6) (oi := _) (v := _) rfl (by kernel_rfl) (by kernel_rfl) (by kernel_rfl) (fun _ _ _ h => h) (Or.inr ⟨by rfl, rfl⟩) (by assumption) ?_
    try simp only [Act.put, List.getElem_toArray, List.getElem_cons_zero, List.getElem_cons_succ, List.setIfInBounds_toArray, List.set_cons_zero, List.set_cons_succ]
    refine wpAnyH_take (i := 7) (oi := _) (v := _) rfl (by kernel_rfl) (by kernel_rfl) (by kernel_rfl) (fun _ _ _ h => h) (Or.inr ⟨by rfl, rfl⟩) (by assumption) ?_
    try simp only [Act.put, List.getElem_toArray, List.getElem_cons_zero, List.getElem_cons_succ, List.setIfInBounds_toArray, List.set_cons_zero, List.set_cons_succ]
    refine wpAnyH_take (i := 8) (oi := _) (v := _) rfl (by kernel_rfl) (by kernel_rfl) (by kernel_rfl) (fun _ _ _ h => h) (Or.inr ⟨by rfl, rfl⟩) (by assumption) ?_
    try simp only [Act.put, List.getElem_toArray, List.getElem_cons_zero, List.getElem_cons_succ, List.setIfInBounds_toArray, List.set_cons_zero, List.set_cons_succ]
    refine wpAnyH_take (i := 9) (oi := _) (v := _) rfl (by kernel_rfl) (by kernel_rfl) (by kernel_rfl) (fun _ _ _ h => h) (Or.inr ⟨by rfl, rfl⟩) (by assumption) ?_
    try simp only [Act.put, List.getElem_toArray, List.getElem_cons_zero, List.getElem_cons_succ, List.setIfInBounds_toArray, List.set_cons_zero, List.set_cons_succ]
    refine wpAnyH_take (i := 10) (oi := _) (v := _) rfl (by kernel_rfl) (by kernel_rfl) (by kernel_rfl) (fun _ _ _ h => h) (Or.inr ⟨by rfl, rfl⟩) (by assumption) ?_
    try simp only [Act.put, List.getElem_toArray, List.getElem_cons_zero, List.getElem_cons_succ, List.setIfInBounds_toArray, List.set_cons_zero, List.set_cons_succ]
    refine wpAnyH_take (i := 11) (oi := _) (v := _) rfl (by kernel_rfl) (by kernel_rfl) (by kernel_rfl) (fun _ _ _ h => h) (Or.inr ⟨by rfl, rfl⟩) (by assumption) ?_
    try simp only [Act.put, List.getElem_toArray, List.getElem_cons_zero, List.getElem_cons_succ, List.setIfInBounds_toArray, List.set_cons_zero, List.set_cons_succ]
    refine wpAnyH_take (i := 13) (oi := _) (v := _) rfl (by kernel_rfl) (by kernel_rfl) (by kernel_rfl) (fun _ _ _ h => h) (Or.inr ⟨by rfl, rfl⟩) (by assumption) ?_
    try simp only [Act.put, List.getElem_toArray, List.getElem_cons_zero, List.getElem_cons_succ, List.setIfInBounds_toArray, List.set_cons_zero, List.set_cons_succ]
    refine wpAnyH_take (i := 14) (oi := _) (v := _) rfl (by kernel_rfl) (by kernel_rfl) (by kernel_rfl) (fun _ _ _ h => h) (Or.inr ⟨by rfl, rfl⟩) (by assumption) ?_
    try simp only [Act.put, List.getElem_toArray, List.getElem_cons_zero, List.getElem_cons_succ, List.setIfInBounds_toArray, List.set_cons_zero, List.set_cons_succ]
    refine wpAnyH_ready (rs := [12]) (by kernel_rfl) (by simp) ?_
    refine AllReadyH.cons (o := _) rfl (fun K hK => ?_) AllReadyH.nil
    refine ite_off (by rfl) ?_
    refine hK.out _ _ (by assumption) (fun hHeld => ?_)
    clear hK K
    try simp only [Act.put, List.getElem_toArray, List.getElem_cons_zero, List.getElem_cons_succ, List.setIfInBounds_toArray, List.set_cons_zero, List.set_cons_succ]
    refine wpAnyH_ready (rs := [15]) (by kernel_rfl) (by simp) ?_
    refine AllReadyH.cons (o := _) rfl (fun K hK => ?_) AllReadyH.nil
    refine ite_off (by rfl) ?_
    refine hK.out _ _ (by assumption) (fun hHeld => ?_)
    clear hK K
    try simp only [Act.put, List.getElem_toArray, List.getElem_cons_zero, List.getElem_cons_succ, List.setIfInBounds_toArray, List.set_cons_zero, List.set_cons_succ]
    refine wpAnyH_take (i := 16) (oi := _) (v := _) rfl (by kernel_rfl) (by kernel_rfl) (by kernel_rfl) (fun _ _ _ h => h) (Or.inr ⟨by rfl, rfl⟩) (by assumption) ?_
    try simp only [Act.put, List.getElem_toArray, List.getElem_cons_zero, List.getElem_cons_succ, List.setIfInBounds_toArray, List.set_cons_zero, List.set_cons_succ]
    refine wpAnyH_take (i := 17) (oi := _) (v := ?_) rfl (by kernel_rfl) (by kernel_rfl) (by kernel_rfl) (fun _ _ _ h => h) (Or.inl ⟨by rfl, ?_⟩) (by assumption) ?_
    rotate_left
    · first | (intro w' hSw; (try dsimp only at hSw); go_simp; done) | (intro w' hSw; (try dsimp only at hSw); go_simp; with_reducible rfl)
    try simp only [Act.put, List.getElem_toArray, List.getElem_cons_zero, List.getElem_cons_succ, List.setIfInBounds_toArray, List.set_cons_zero, List.set_cons_succ]
    refine wpAnyH_done (by kernel_rfl) ?_ _
    have HE0 := Lib.hid (underM_no (t := t) (e := e) (ps := ps) (u := u) (a := a) (by rw [HPB.out]; simp))
    clear t0 t1 t2 e0 e1 e2 m0 m1 m2 m3 m4 m5
    go_wp2
    refine bodyPost_ret (v := .tuple #[.slice none 0 0, .bool false]) (by simp [results, Try.results33, go_sem]) rfl ?_
    rw [HE0.out]
    exact ⟨_, rfl, .inr ⟨rfl, rfl⟩, fit_keep HB.out HX1.out⟩
  | true =>
    refine wp_region_held_drew (S := (fun w' => w'.cell? ⟨w.heap.size, 0, none⟩ = some (.int .i64 t.over.sorts) ∧ w'.cell? ⟨w.heap.size, 1, none⟩ = some (.slice Ata t.over.ops.length cta) ∧ w'.cell? ⟨w.heap.size, 2, none⟩ = some (.slice Atb t.eqs.length ctb) ∧ w'.cell? ⟨w.heap.size + 1, 0, none⟩ = some (.slice Aea e.vars.length cea) ∧ w'.cell? ⟨w.heap.size + 1, 1, none⟩ = some (.slice Aeb e.left.length ceb) ∧ w'.cell? ⟨w.heap.size + 1, 2, none⟩ = some (.slice Aec e.right.length cec))) (by kernel_rfl) ?_ (fun hHeld => ?_)
    · exact ⟨t0, t1, t2, e0, e1, e2⟩
    refine wpAnyH_take (i := 0) (oi := _) (v := ?_) rfl (by kernel_rfl) (by kernel_rfl) (by kernel_rfl) (fun _ _ _ h => h) (Or.inl ⟨by rfl, ?_⟩) (by assumption) ?_
    rotate_left
    · first | (intro w' hSw; (try dsimp only at hSw); go_simp; done) | (intro w' hSw; (try dsimp only at hSw); go_simp; with_reducible rfl)
    try simp only [Act.put, List.getElem_toArray, List.getElem_cons_zero, List.getElem_cons_succ, List.setIfInBounds_toArray, List.set_cons_zero, List.set_cons_succ]
    refine wpAnyH_take (i := 1) (oi := _) (v := ?_) rfl (by kernel_rfl) (by kernel_rfl) (by kernel_rfl) (fun _ _ _ h => h) (Or.inl ⟨by rfl, ?_⟩) (by assumption) ?_
    rotate_left
    · first | (intro w' hSw; (try dsimp only at hSw); go_simp; done) | (intro w' hSw; (try dsimp only at hSw); go_simp; with_reducible rfl)
    try simp only [Act.put, List.getElem_toArray, List.getElem_cons_zero, List.getElem_cons_succ, List.setIfInBounds_toArray, List.set_cons_zero, List.set_cons_succ]
    refine wpAnyH_take (i := 2) (oi := _) (v := ?_) rfl (by kernel_rfl) (by kernel_rfl) (by kernel_rfl) (fun _ _ _ h => h) (Or.inl ⟨by rfl, ?_⟩) (by assumption) ?_
    rotate_left
    · first | (intro w' hSw; (try dsimp only at hSw); go_simp; done) | (intro w' hSw; (try dsimp only at hSw); go_simp; with_reducible rfl)
    try simp only [Act.put, List.getElem_toArray, List.getElem_cons_zero, List.getElem_cons_succ, List.setIfInBounds_toArray, List.set_cons_zero, List.set_cons_succ]
    refine wpAnyH_ready (rs := [3]) (by kernel_rfl) (by simp) ?_
    refine AllReadyH.cons (o := _) rfl (fun K hK => ?_) AllReadyH.nil
    go_simp
    refine (proofOk_any t e ps W.drew _ _ _ HST.out HSE.out HSP.out (Ht.out.keep (bel_drew (Below.refl _ _))) (He.out.keep (bel_drew (Below.refl _ _))) (HP.out.keep (bel_drew (Below.refl _ _)))).mono ?_
    rw [HPB.out]
    rintro x w1 ⟨rfl, hb1⟩
    have hx1 := (show Below W.heap.size W w1 from bel_undrew hb1)
    have HX1 := Lib.hid hx1
    have m0 := cell_keep hx1 t0
    have m1 := cell_keep hx1 t1
    have m2 := cell_keep hx1 t2
    have m3 := cell_keep hx1 e0
    have m4 := cell_keep hx1 e1
    have m5 := cell_keep hx1 e2
    clear hb1 hx1
    go_wp2_with fail
    refine hK.out _ _ ?_ (fun hHeld => ?_)
    · exact ⟨m0, m1, m2, m3, m4, m5⟩
    clear hK K
    try simp only [Act.put, List.getElem_toArray, List.getElem_cons_zero, List.getElem_cons_succ, List.setIfInBounds_toArray, List.set_cons_zero, List.set_cons_succ]
    refine wpAnyH_take (i := 4) (oi := _) (v := ?_) rfl (by kernel_rfl) (by kernel_rfl) (by kernel_rfl) (fun _ _ _ h => h) (Or.inl ⟨by rfl, ?_⟩) (by assumption) ?_
    rotate_left
    · first | (intro w' hSw; (try dsimp only at hSw); go_simp; done) | (intro w' hSw; (try dsimp only at hSw); go_simp; with_reducible rfl)
    try simp only [Act.put, List.getElem_toArray, List.getElem_cons_zero, List.getElem_cons_succ, List.setIfInBounds_toArray, List.set_cons_zero, List.set_cons_succ]
    refine wpAnyH_take (i := 5) (oi := _) (v := ?_) rfl (by kernel_rfl) (by kernel_rfl) (by kernel_rfl) (fun _ _ _ h => h) (Or.inl ⟨by rfl, ?_⟩) (by assumption) ?_
    rotate_left
    · first | (intro w' hSw; (try dsimp only at hSw); go_simp; done) | (intro w' hSw; (try dsimp only at hSw); go_simp; with_reducible rfl)
    try simp only [Act.put, List.getElem_toArray, List.getElem_cons_zero, List.getElem_cons_succ, List.setIfInBounds_toArray, List.set_cons_zero, List.set_cons_succ]
    refine wpAnyH_take (i := 6) (oi := _) (v := ?_) rfl (by kernel_rfl) (by kernel_rfl) (by kernel_rfl) (fun _ _ _ h => h) (Or.inl ⟨by rfl, ?_⟩) (by assumption) ?_
    rotate_left
    · first | (intro w' hSw; (try dsimp only at hSw); go_simp; done) | (intro w' hSw; (try dsimp only at hSw); go_simp; with_reducible rfl)
    try simp only [Act.put, List.getElem_toArray, List.getElem_cons_zero, List.getElem_cons_succ, List.setIfInBounds_toArray, List.set_cons_zero, List.set_cons_succ]
    refine wpAnyH_take (i := 7) (oi := _) (v := ?_) rfl (by kernel_rfl) (by kernel_rfl) (by kernel_rfl) (fun _ _ _ h => h) (Or.inl ⟨by rfl, ?_⟩) (by assumption) ?_
    rotate_left
    · first | (intro w' hSw; (try dsimp only at hSw); go_simp; done) | (intro w' hSw; (try dsimp only at hSw); go_simp; with_reducible rfl)
    try simp only [Act.put, List.getElem_toArray, List.getElem_cons_zero, List.getElem_cons_succ, List.setIfInBounds_toArray, List.set_cons_zero, List.set_cons_succ]
    refine wpAnyH_take (i := 8) (oi := _) (v := ?_) rfl (by kernel_rfl) (by kernel_rfl) (by kernel_rfl) (fun _ _ _ h => h) (Or.inl ⟨by rfl, ?_⟩) (by assumption) ?_
    rotate_left
    · first | (intro w' hSw; (try dsimp only at hSw); go_simp; done) | (intro w' hSw; (try dsimp only at hSw); go_simp; with_reducible rfl)
    try simp only [Act.put, List.getElem_toArray, List.getElem_cons_zero, List.getElem_cons_succ, List.setIfInBounds_toArray, List.set_cons_zero, List.set_cons_succ]
    refine wpAnyH_take (i := 9) (oi := _) (v := ?_) rfl (by kernel_rfl) (by kernel_rfl) (by kernel_rfl) (fun _ _ _ h => h) (Or.inl ⟨by rfl, ?_⟩) (by assumption) ?_
    rotate_left
    · first | (intro w' hSw; (try dsimp only at hSw); go_simp; done) | (intro w' hSw; (try dsimp only at hSw); go_simp; with_reducible rfl)
    try simp only [Act.put, List.getElem_toArray, List.getElem_cons_zero, List.getElem_cons_succ, List.setIfInBounds_toArray, List.set_cons_zero, List.set_cons_succ]
    refine wpAnyH_take (i := 10) (oi := _) (v := ?_) rfl (by kernel_rfl) (by kernel_rfl) (by kernel_rfl) (fun _ _ _ h => h) (Or.inl ⟨by rfl, ?_⟩) (by assumption) ?_
    rotate_left
    · first | (intro w' hSw; (try dsimp only at hSw); go_simp; done) | (intro w' hSw; (try dsimp only at hSw); go_simp; with_reducible rfl)
    try simp only [Act.put, List.getElem_toArray, List.getElem_cons_zero, List.getElem_cons_succ, List.setIfInBounds_toArray, List.set_cons_zero, List.set_cons_succ]
    refine wpAnyH_take (i := 11) (oi := _) (v := ?_) rfl (by kernel_rfl) (by kernel_rfl) (by kernel_rfl) (fun _ _ _ h => h) (Or.inl ⟨by rfl, ?_⟩) (by assumption) ?_
    rotate_left
    · first | (intro w' hSw; (try dsimp only at hSw); go_simp; done) | (intro w' hSw; (try dsimp only at hSw); go_simp; with_reducible rfl)
    try simp only [Act.put, List.getElem_toArray, List.getElem_cons_zero, List.getElem_cons_succ, List.setIfInBounds_toArray, List.set_cons_zero, List.set_cons_succ]
    refine wpAnyH_take (i := 13) (oi := _) (v := ?_) rfl (by kernel_rfl) (by kernel_rfl) (by kernel_rfl) (fun _ _ _ h => h) (Or.inl ⟨by rfl, ?_⟩) (by assumption) ?_
    rotate_left
    · first | (intro w' hSw; (try dsimp only at hSw); go_simp; done) | (intro w' hSw; (try dsimp only at hSw); go_simp; with_reducible rfl)
    try simp only [Act.put, List.getElem_toArray, List.getElem_cons_zero, List.getElem_cons_succ, List.setIfInBounds_toArray, List.set_cons_zero, List.set_cons_succ]
    refine wpAnyH_take (i := 14) (oi := _) (v := ?_) rfl (by kernel_rfl) (by kernel_rfl) (by kernel_rfl) (fun _ _ _ h => h) (Or.inl ⟨by rfl, ?_⟩) (by assumption) ?_
    rotate_left
    · first | (intro w' hSw; (try dsimp only at hSw); go_simp; done) | (intro w' hSw; (try dsimp only at hSw); go_simp; with_reducible rfl)
    try simp only [Act.put, List.getElem_toArray, List.getElem_cons_zero, List.getElem_cons_succ, List.setIfInBounds_toArray, List.set_cons_zero, List.set_cons_succ]
    refine wpAnyH_ready (rs := [12]) (by kernel_rfl) (by simp) ?_
    refine AllReadyH.cons (o := _) rfl (fun K hK => ?_) AllReadyH.nil
    go_simp
    refine (termAt_any t.over e.vars u a w1 _ _ _ HSU.out (HTS.out.keep HX1.out) (HE.out.1.keep HX1.out) (HU.out.keep HX1.out)).mono ?_
    rw [HY.out]
    rintro x w2 ⟨y, rfl, ho2, hb2⟩
    obtain ⟨Ay, cy, rfl, -⟩ := ho2.reads.form
    have HYR := Lib.hid ho2.reads
    have HX2 := Lib.hid (fit_keep HX1.out hb2)
    have n0 := cell_keep hb2 m0
    have n1 := cell_keep hb2 m1
    have n2 := cell_keep hb2 m2
    have n3 := cell_keep hb2 m3
    have n4 := cell_keep hb2 m4
    have n5 := cell_keep hb2 m5
    clear ho2 hb2
    go_wp2_with fail
    refine hK.out _ _ ?_ (fun hHeld => ?_)
    · exact ⟨n0, n1, n2, n3, n4, n5⟩
    clear hK K
    try simp only [Act.put, List.getElem_toArray, List.getElem_cons_zero, List.getElem_cons_succ, List.setIfInBounds_toArray, List.set_cons_zero, List.set_cons_succ]
    refine wpAnyH_ready (rs := [15]) (by kernel_rfl) (by simp) ?_
    refine AllReadyH.cons (o := _) rfl (fun K hK => ?_) AllReadyH.nil
    go_simp
    refine (slEqual_any _ _ Y e.left w2 HYR.out (HE.out.2.1.keep HX2.out)).mono ?_
    rw [HQ.out]
    rintro x w3 ⟨rfl, hd⟩
    have HX3 := Lib.hid (fit_keep HX2.out hd.below)
    have k0 := cell_keep hd.below n0
    have k1 := cell_keep hd.below n1
    have k2 := cell_keep hd.below n2
    have k3 := cell_keep hd.below n3
    have k4 := cell_keep hd.below n4
    have k5 := cell_keep hd.below n5
    clear hd
    go_wp2_with fail
    refine hK.out _ _ ?_ (fun hHeld => ?_)
    · exact ⟨k0, k1, k2, k3, k4, k5⟩
    clear hK K
    try simp only [Act.put, List.getElem_toArray, List.getElem_cons_zero, List.getElem_cons_succ, List.setIfInBounds_toArray, List.set_cons_zero, List.set_cons_succ]
    refine wpAnyH_take (i := 16) (oi := _) (v := ?_) rfl (by kernel_rfl) (by kernel_rfl) (by kernel_rfl) (fun _ _ _ h => h) (Or.inl ⟨by rfl, ?_⟩) (by assumption) ?_
    rotate_left
    · first | (intro w' hSw; (try dsimp only at hSw); go_simp; done) | (intro w' hSw; (try dsimp only at hSw); go_simp; with_reducible rfl)
    try simp only [Act.put, List.getElem_toArray, List.getElem_cons_zero, List.getElem_cons_succ, List.setIfInBounds_toArray, List.set_cons_zero, List.set_cons_succ]
    refine wpAnyH_take (i := 17) (oi := _) (v := ?_) rfl (by kernel_rfl) (by kernel_rfl) (by kernel_rfl) (fun _ _ _ h => h) (Or.inl ⟨by rfl, ?_⟩) (by assumption) ?_
    rotate_left
    · first | (intro w' hSw; (try dsimp only at hSw); go_simp; done) | (intro w' hSw; (try dsimp only at hSw); go_simp; with_reducible rfl)
    try simp only [Act.put, List.getElem_toArray, List.getElem_cons_zero, List.getElem_cons_succ, List.setIfInBounds_toArray, List.set_cons_zero, List.set_cons_succ]
    refine wpAnyH_done (by kernel_rfl) ?_ _
    have HC := Lib.hid (And.intro t0 (And.intro t1 (And.intro t2 (And.intro e0 (And.intro e1 e2)))))
    have HB3 := Lib.hid (fit_keep HB.out HX3.out)
    clear t0 t1 t2 e0 e1 e2 m0 m1 m2 m3 m4 m5 n0 n1 n2 n3 n4 n5 k0 k1 k2 k3 k4 k5
    cases q with
    | false =>
      have HE0 := Lib.hid (underM_no (t := t) (e := e) (ps := ps) (u := u) (a := a) (by rw [HY.out]; have := HQ.out; simp at this; simp [this]))
      go_wp2
      refine bodyPost_ret (v := .tuple #[.slice none 0 0, .bool false]) (by simp [results, Try.results33, go_sem]) rfl ?_
      rw [HE0.out]
      exact ⟨_, rfl, .inr ⟨rfl, rfl⟩, HB3.out⟩
    | true =>
      have HYE := Lib.hid (show atM t.over e.vars u a = e.left by have := HQ.out; rw [HY.out]; simpa using this)
      have HBL := Lib.hid (movedM_len ps a)
      simp only [Bool.not_true]
      go_wp2
      go_loopw [13, 14, 40] (fun x b i wr => ∃ k : Nat, k ≤ ps.length ∧ i = .int .i64 k ∧ FillS w3 wr (movedM ps a) k) (fun _ _ i _ => ps.length - (intOf i).toNat)
      case atStart => exact ⟨0, Nat.zero_le _, rfl, FillS.start w3 _ _ (by rw [HBL.out]; simp [madeCells])⟩
      case round =>
        obtain ⟨k, hk, rfl, hf⟩ := hrel
        have HF := Lib.hid hf
        have hlw : w3.heap.size < wr.heap.size := by obtain ⟨_, _, h1, _⟩ := hf; exact (Array.getElem?_eq_some_iff.1 h1).1
        clear hf hmk
        by_cases hlt : k < ps.length
        · have hlt' : (k : Int) < (ps.length : Int) := by omega
          obtain ⟨b, o, c', x, ee, c0, c1, c2, c3, q0⟩ := (HP.out.keep (fit_keep HX3.out HF.out.bel)).at_ hlt
          cases ee
          have HFK := Lib.hid (HFP.out.2 _ (List.getElem_mem hlt))
          have hbm : k < (movedM ps a).length := by rw [HBL.out]; omega
          have hel := movedM_at (a := a) hlt hbm
          have HPUT := Lib.hid (fun (w1 : World) (hb : Below wr.heap.size wr w1) (u : Value) (hp : ORows w1 wr.heap.size u (movedM ps a)[k].terms) => HF.out.put hbm hb hp)
          rw [hel] at HPUT
          clear hel
          generalize ps[k] = p at q0 c0 c1 c2 HFK HPUT
          obtain ⟨z, hz⟩ : ∃ z, IntKind.i64.wrap (a + p.at_) = z := ⟨_, rfl⟩
          have hmv : moveP a p = ⟨p.ax, p.back, z, p.terms⟩ := by unfold moveP; rw [hz]
          rw [hmv] at HPUT
          clear hmv
          obtain ⟨A0, d0, rfl, -⟩ := q0.form
          have hb := below_alloc wr (.cells #[.int .i64 p.ax, .bool p.back, .int .i64 p.at_, .slice A0 p.terms.length d0] 82)
          have x0 := bx_at wr #[.int .i64 p.ax, .bool p.back, .int .i64 p.at_, .slice A0 p.terms.length d0] 82 (k := 0) rfl
          have x1 := bx_at wr #[.int .i64 p.ax, .bool p.back, .int .i64 p.at_, .slice A0 p.terms.length d0] 82 (k := 1) rfl
          have x2 := bx_at wr #[.int .i64 p.ax, .bool p.back, .int .i64 p.at_, .slice A0 p.terms.length d0] 82 (k := 2) rfl
          have x3 := bx_at wr #[.int .i64 p.ax, .bool p.back, .int .i64 p.at_, .slice A0 p.terms.length d0] 82 (k := 3) rfl
          generalize hW2 : wr.alloc (.cells #[.int .i64 p.ax, .bool p.back, .int .i64 p.at_, .slice A0 p.terms.length d0] 82) = W2 at hb x0 x1 x2 x3
          have HIW := Lib.hid (q0.keep hb)
          have HB2 := Lib.hid hb
          have hm0 : (0 : Int) ≤ (k : Int) := by omega
          have hbl4 : k * 4 + 3 < (movedM ps a).length * 4 := by omega
          have HBL4 := Lib.hid hbl4
          clear q0 hb hbm hbl4
          go_wp2_with fail
          clear hW2 c0 c1 c2 c3
          refine wp_region_held_drew (S := (fun w' => w'.cell? ⟨wr.heap.size, 0, none⟩ = some (.int .i64 p.ax) ∧ w'.cell? ⟨wr.heap.size, 1, none⟩ = some (.bool p.back) ∧ w'.cell? ⟨wr.heap.size, 2, none⟩ = some (.int .i64 p.at_) ∧ w'.cell? ⟨wr.heap.size, 3, none⟩ = some (.slice A0 p.terms.length d0))) (by kernel_rfl) ?_ (fun hHeld => ?_)
          · exact ⟨x0, x1, x2, x3⟩
          refine wpAnyH_take (i := 0) (oi := _) (v := ?_) rfl (by kernel_rfl) (by kernel_rfl) (by kernel_rfl) (fun _ _ _ h => h) (Or.inl ⟨by rfl, ?_⟩) (by assumption) ?_
          rotate_left
          · first | (intro w' hSw; (try dsimp only at hSw); go_simp; done) | (intro w' hSw; (try dsimp only at hSw); go_simp; with_reducible rfl)
          try simp only [Act.put, List.getElem_toArray, List.getElem_cons_zero, List.getElem_cons_succ, List.setIfInBounds_toArray, List.set_cons_zero, List.set_cons_succ]
          refine wpAnyH_take (i := 1) (oi := _) (v := ?_) rfl (by kernel_rfl) (by kernel_rfl) (by kernel_rfl) (fun _ _ _ h => h) (Or.inl ⟨by rfl, ?_⟩) (by assumption) ?_
          rotate_left
          · first | (intro w' hSw; (try dsimp only at hSw); go_simp; done) | (intro w' hSw; (try dsimp only at hSw); go_simp; with_reducible rfl)
          try simp only [Act.put, List.getElem_toArray, List.getElem_cons_zero, List.getElem_cons_succ, List.setIfInBounds_toArray, List.set_cons_zero, List.set_cons_succ]
          refine wpAnyH_take (i := 2) (oi := _) (v := ?_) rfl (by kernel_rfl) (by kernel_rfl) (by kernel_rfl) (fun _ _ _ h => h) (Or.inl ⟨by rfl, ?_⟩) (by assumption) ?_
          rotate_left
          · first | (intro w' hSw; (try dsimp only at hSw); go_simp; done) | (intro w' hSw; (try dsimp only at hSw); go_simp; with_reducible rfl)
          try simp only [Act.put, List.getElem_toArray, List.getElem_cons_zero, List.getElem_cons_succ, List.setIfInBounds_toArray, List.set_cons_zero, List.set_cons_succ]
          refine wpAnyH_take (i := 3) (oi := _) (v := ?_) rfl (by kernel_rfl) (by kernel_rfl) (by kernel_rfl) (fun _ _ _ h => h) (Or.inl ⟨by rfl, ?_⟩) (by assumption) ?_
          rotate_left
          · first | (intro w' hSw; (try dsimp only at hSw); go_simp; done) | (intro w' hSw; (try dsimp only at hSw); go_simp; with_reducible rfl)
          try simp only [Act.put, List.getElem_toArray, List.getElem_cons_zero, List.getElem_cons_succ, List.setIfInBounds_toArray, List.set_cons_zero, List.set_cons_succ]
          refine wpAnyH_take (i := 4) (oi := _) (v := ?_) rfl (by kernel_rfl) (by kernel_rfl) (by kernel_rfl) (fun _ _ _ h => h) (Or.inl ⟨by rfl, ?_⟩) (by assumption) ?_
          rotate_left
          · first | (intro w' hSw; (try dsimp only at hSw); go_simp; done) | (intro w' hSw; (try dsimp only at hSw); go_simp; with_reducible rfl)
          try simp only [Act.put, List.getElem_toArray, List.getElem_cons_zero, List.getElem_cons_succ, List.setIfInBounds_toArray, List.set_cons_zero, List.set_cons_succ]
          refine wpAnyH_take (i := 5) (oi := _) (v := ?_) rfl (by kernel_rfl) (by kernel_rfl) (by kernel_rfl) (fun _ _ _ h => h) (Or.inl ⟨by rfl, ?_⟩) (by assumption) ?_
          rotate_left
          · first | (intro w' hSw; (try dsimp only at hSw); go_simp; done) | (intro w' hSw; (try dsimp only at hSw); go_simp; with_reducible rfl)
          try simp only [Act.put, List.getElem_toArray, List.getElem_cons_zero, List.getElem_cons_succ, List.setIfInBounds_toArray, List.set_cons_zero, List.set_cons_succ]
          refine wpAnyH_take (i := 6) (oi := _) (v := ?_) rfl (by kernel_rfl) (by kernel_rfl) (by kernel_rfl) (fun _ _ _ h => h) (Or.inl ⟨by rfl, ?_⟩) (by assumption) ?_
          rotate_left
          · first | (intro w' hSw; (try dsimp only at hSw); go_simp; done) | (intro w' hSw; (try dsimp only at hSw); go_simp; with_reducible rfl)
          try simp only [Act.put, List.getElem_toArray, List.getElem_cons_zero, List.getElem_cons_succ, List.setIfInBounds_toArray, List.set_cons_zero, List.set_cons_succ]
          refine wpAnyH_take (i := 7) (oi := _) (v := ?_) rfl (by kernel_rfl) (by kernel_rfl) (by kernel_rfl) (fun _ _ _ h => h) (Or.inl ⟨by rfl, ?_⟩) (by assumption) ?_
          rotate_left
          · first | (intro w' hSw; (try dsimp only at hSw); go_simp; done) | (intro w' hSw; (try dsimp only at hSw); go_simp; with_reducible rfl)
          try simp only [Act.put, List.getElem_toArray, List.getElem_cons_zero, List.getElem_cons_succ, List.setIfInBounds_toArray, List.set_cons_zero, List.set_cons_succ]
          refine wpAnyH_take (i := 8) (oi := _) (v := ?_) rfl (by kernel_rfl) (by kernel_rfl) (by kernel_rfl) (fun _ _ _ h => h) (Or.inl ⟨by rfl, ?_⟩) (by assumption) ?_
          rotate_left
          · first | (intro w' hSw; (try dsimp only at hSw); go_simp; done) | (intro w' hSw; (try dsimp only at hSw); go_simp; with_reducible rfl)
          try simp only [Act.put, List.getElem_toArray, List.getElem_cons_zero, List.getElem_cons_succ, List.setIfInBounds_toArray, List.set_cons_zero, List.set_cons_succ]
          refine wpAnyH_take (i := 9) (oi := _) (v := ?_) rfl (by kernel_rfl) (by kernel_rfl) (by kernel_rfl) (fun _ _ _ h => h) (Or.inl ⟨by rfl, ?_⟩) (by assumption) ?_
          rotate_left
          · first | (intro w' hSw; (try dsimp only at hSw); go_simp; done) | (intro w' hSw; (try dsimp only at hSw); go_simp; with_reducible rfl)
          try simp only [Act.put, List.getElem_toArray, List.getElem_cons_zero, List.getElem_cons_succ, List.setIfInBounds_toArray, List.set_cons_zero, List.set_cons_succ]
          refine wpAnyH_take (i := 10) (oi := _) (v := ?_) rfl (by kernel_rfl) (by kernel_rfl) (by kernel_rfl) (fun _ _ _ h => h) (Or.inl ⟨by rfl, ?_⟩) (by assumption) ?_
          rotate_left
          · first | (intro w' hSw; (try dsimp only at hSw); go_simp; done) | (intro w' hSw; (try dsimp only at hSw); go_simp; with_reducible rfl)
          try simp only [Act.put, List.getElem_toArray, List.getElem_cons_zero, List.getElem_cons_succ, List.setIfInBounds_toArray, List.set_cons_zero, List.set_cons_succ]
          refine wpAnyH_take (i := 11) (oi := _) (v := ?_) rfl (by kernel_rfl) (by kernel_rfl) (by kernel_rfl) (fun _ _ _ h => h) (Or.inl ⟨by rfl, ?_⟩) (by assumption) ?_
          rotate_left
          · first | (intro w' hSw; (try dsimp only at hSw); go_simp; done) | (intro w' hSw; (try dsimp only at hSw); go_simp; with_reducible rfl)
          try simp only [Act.put, List.getElem_toArray, List.getElem_cons_zero, List.getElem_cons_succ, List.setIfInBounds_toArray, List.set_cons_zero, List.set_cons_succ]
          refine wpAnyH_ready (rs := [12]) (by kernel_rfl) (by simp) ?_
          refine AllReadyH.cons (o := _) rfl (fun K hK => ?_) AllReadyH.nil
          go_simp
          refine (copiedRows_any _ p.terms W2.drew (HIW.out.keep (bel_drew (Below.refl _ _))) HFK.out).mono ?_
          rintro e w5 ⟨u5, rfl, ho5, hb5⟩
          have hx5 := (show Below W2.heap.size W2 w5 from bel_undrew hb5)
          have hsb := HB2.out.size
          have HX5 := Lib.hid (sz_keep HB2.out hx5)
          obtain ⟨A5, c5, rfl, -⟩ := ho5.reads.form
          have HO5 := Lib.hid (show ORows w5 wr.heap.size _ p.terms from ho5.base hsb)
          have p0 := cell_keep hx5 x0
          have p1 := cell_keep hx5 x1
          have p2 := cell_keep hx5 x2
          have p3 := cell_keep hx5 x3
          have HN := Lib.hid (HPUT.out w5 HX5.out _ HO5.out)
          obtain ⟨u0, j0, k0⟩ := HF.out.cell HX5.out (j := k * 4) (by have := HBL4.out; omega)
          obtain ⟨u1, j1, k1⟩ := HF.out.cell HX5.out (j := k * 4 + 1) (by have := HBL4.out; omega)
          obtain ⟨u2, j2, k2⟩ := HF.out.cell HX5.out (j := k * 4 + 2) (by have := HBL4.out; omega)
          obtain ⟨u3, j3, k3⟩ := HF.out.cell HX5.out (j := k * 4 + 3) (by have := HBL4.out; omega)
          clear ho5 hb5 hx5
          go_wp2_with fail
          refine hK.out _ _ ?_ (fun hHeld => ?_)
          · exact ⟨p0, p1, p2, p3⟩
          clear hK K
          try simp only [Act.put, List.getElem_toArray, List.getElem_cons_zero, List.getElem_cons_succ, List.setIfInBounds_toArray, List.set_cons_zero, List.set_cons_succ]
          refine wpAnyH_take (i := 13) (oi := _) (v := ?_) rfl (by kernel_rfl) (by kernel_rfl) (by kernel_rfl) (fun _ _ _ h => h) (Or.inl ⟨by rfl, ?_⟩) (by assumption) ?_
          rotate_left
          · first | (intro w' hSw; (try dsimp only at hSw); go_simp; done) | (intro w' hSw; (try dsimp only at hSw); go_simp; with_reducible rfl)
          try simp only [Act.put, List.getElem_toArray, List.getElem_cons_zero, List.getElem_cons_succ, List.setIfInBounds_toArray, List.set_cons_zero, List.set_cons_succ]
          refine wpAnyH_take (i := 14) (oi := _) (v := ?_) rfl (by kernel_rfl) (by kernel_rfl) (by kernel_rfl) (fun _ _ _ h => h) (Or.inl ⟨by rfl, ?_⟩) (by assumption) ?_
          rotate_left
          · first | (intro w' hSw; (try dsimp only at hSw); go_simp; done) | (intro w' hSw; (try dsimp only at hSw); go_simp; with_reducible rfl)
          try simp only [Act.put, List.getElem_toArray, List.getElem_cons_zero, List.getElem_cons_succ, List.setIfInBounds_toArray, List.set_cons_zero, List.set_cons_succ]
          refine wpAnyH_ready (rs := [15]) (by kernel_rfl) (by simp) ?_
          refine AllReadyH.cons (o := _) rfl (fun K hK => ?_) AllReadyH.nil
          go_simp
          skip
          go_wp2_with fail
          refine hK.out _ _ ?_ (fun hHeld => ?_)
          · exact ⟨(far4 (by omega) _ _ _ _ _ _ _ _ _).trans p0, (far4 (by omega) _ _ _ _ _ _ _ _ _).trans p1, (far4 (by omega) _ _ _ _ _ _ _ _ _).trans p2, (far4 (by omega) _ _ _ _ _ _ _ _ _).trans p3⟩
          clear hK K
          try simp only [Act.put, List.getElem_toArray, List.getElem_cons_zero, List.getElem_cons_succ, List.setIfInBounds_toArray, List.set_cons_zero, List.set_cons_succ]
          refine wpAnyH_done (by kernel_rfl) ?_ _
          clear x0 x1 x2 x3 p0 p1 p2 p3 j0 j1 j2 j3 k0 k1 k2 k3 hz
          go_wp2
          go_roundw
          case rel => exact ⟨k + 1, by omega, by go_num, HN.out⟩
          case measure => simp [intOf]; omega
        · have hlt' : ¬ (k : Int) < (ps.length : Int) := by omega
          have hkn : k = ps.length := by omega
          have HD := Lib.hid (HF.out.done (by rw [HBL.out]; exact hkn) (by rw [HBL.out]; omega))
          rw [HBL.out] at HD
          subst hkn
          have hbw := fit_keep HX3.out HD.out.2
          have HBW := Lib.hid hbw
          have i0 := cell_keep hbw HC.out.1
          have i1 := cell_keep hbw HC.out.2.1
          have i2 := cell_keep hbw HC.out.2.2.1
          have i3 := cell_keep hbw HC.out.2.2.2.1
          have i4 := cell_keep hbw HC.out.2.2.2.2.1
          have i5 := cell_keep hbw HC.out.2.2.2.2.2
          have HRS := Lib.hid (OSteps.reads HD.out.1)
          obtain ⟨R, g, hR⟩ : ∃ R g, runM t e.vars u (movedM ps a) = (R, g) := ⟨_, _, rfl⟩
          have HR := Lib.hid hR
          have hs3 := HB3.out.size
          clear hbw hR
          go_wp2_with fail
          refine (proofRun_any t e.vars u (movedM ps a) _ _ _ _ _ HST.out HSU.out (movedM_small HSP.out) (Ht.out.keep HBW.out) (HE.out.1.keep HBW.out) (HU.out.keep HBW.out) HRS.out).mono ?_
          rw [HR.out]
          rintro x w6 ⟨y6, rfl, ho6, hb6⟩
          simp only at ho6 ⊢
          have HB6 := Lib.hid hb6
          clear i0 i1 i2 i3 i4 i5 ho6 hb6
          cases g with
          | false =>
            have HE0 := Lib.hid (underM_no (t := t) (e := e) (ps := ps) (u := u) (a := a) (by rw [HR.out]; simp))
            go_wp2
            refine bodyPost_ret (v := .tuple #[.slice none 0 0, .bool false]) (by simp [results, Try.results33, go_sem]) rfl ?_
            rw [HE0.out]
            exact ⟨_, rfl, .inr ⟨rfl, rfl⟩, fit_keep (fit_keep HB.out HBW.out) HB6.out⟩
          | true =>
            have HE0 := Lib.hid (underM_yes (t := t) (e := e) (ps := ps) (u := u) (a := a) ⟨HPB.out, HYE.out, by rw [HR.out]⟩)
            have HO := Lib.hid (osteps_base (OSteps.keep HD.out.1 HB6.out) hs3)
            go_wp2
            refine bodyPost_ret (v := .tuple #[.slice (some ⟨w3.heap.size, 0, none⟩) ps.length ps.length, .bool true]) (by simp [results, Try.results33, go_sem]) rfl ?_
            rw [HE0.out]
            exact ⟨_, rfl, .inl HO.out, fit_keep (fit_keep HB.out HBW.out) HB6.out⟩
end

section
open Go.RowKit
set_option linter.unusedVariables false

set_option maxRecDepth 100000 in
theorem markStepS_nil (w : World) :
    Calls Try.prog 13 #[.slice none 0 0, .int .i64 1] w fun e w' => e = .returned (.int .i64 1) ∧ w = w' := by
  go_enter Try.func13, Try.ntmps13
  go_wp2
  go_loop [1, 5] (fun l i => i = .int .i64 0 ∧ l = .int .i64 1) (fun _ _ => 0)
  case atStart => exact ⟨rfl, rfl⟩
  case round =>
    obtain ⟨rfl, rfl⟩ := hrel
    go_wp2
    go_ret
    exact ⟨rfl, rfl⟩
theorem markStepSN_g (v : Value) (B : Nat) (ps : List MStep) (wc w : World) (h : OStepsN wc B v ps) (hk : Keeps B wc w) (hz : wc.heap.size ≤ w.heap.size) (hs : FitsQ ps) :
    Calls Try.prog 13 #[v, .int .i64 1] w fun e w' => ∃ K : Int, e = .returned (.int .i64 K) ∧ 0 ≤ K ∧ (∀ w2 : World, Keeps B w' w2 → w'.heap.size ≤ w2.heap.size → Calls Try.prog 14 #[v, .int .i64 1] w2 fun e w3 => e = .returned (.int .i64 K) ∧ Below w2.heap.size w2 w3) ∧ ∃ wa, Below w.heap.size w wa ∧ Outside B wc.heap.size wa w' := by
  rcases h with h | ⟨rfl, rfl⟩
  · exact markStepS_g v B ps wc w h hk hz hs
  · refine (markStepS_nil w).mono ?_
    rintro e w' ⟨rfl, rfl⟩
    refine ⟨1, rfl, by omega, fun w2 _ _ => ?_, w, Below.refl _ _, Outside.refl _ _ _⟩
    have h := heldStepS_any (.slice none 0 0) [] 1 w2 (rsteps_nil w2 none) hs (by omega) (by omega)
    refine h.mono ?_
    rintro e w3 ⟨rfl, hb⟩
    exact ⟨ret_int (by simp [mkAt, totP]), hb⟩
end

section
open Go.RowKit
set_option linter.unusedVariables false

theorem OEq.same {w w' : World} {B : Nat} {v : Value} {e : MEq} (h : OEq w B v e) (hk : ∀ k, B ≤ k → k < w.heap.size → w'.heap[k]? = w.heap[k]?) : OEq w' B v e := by
  obtain ⟨a, b, c, rfl, h1, h2, h3, h4⟩ := h
  exact ⟨a, b, c, rfl, h1.same hk, h2.same hk, h3.same hk, h4⟩
end

section
open Go.RowKit
set_option linter.unusedVariables false
set_option linter.unusedSimpArgs false

theorem apart_symm {a b : Value} (h : Apart a b) : Apart b a := by
  unfold Apart at *
  rcases h with h | h
  · rw [h]
    cases b.ownBlock with
    | none => exact .inl rfl
    | some k => right; simp
  · exact .inr (fun e => h e.symm)

def marksE (k0 : Int) (m : MEq) : MEq := ⟨marks (k0) m.vars.length, marks (k0 + (m.vars.length : Int)) m.left.length, marks (k0 + (m.vars.length : Int) + (m.left.length : Int)) m.right.length⟩
def totE (m : MEq) : Int := (m.vars.length : Int) + (m.left.length : Int) + (m.right.length : Int)
set_option maxRecDepth 100000 in
theorem markEq_n (v : Value) (B : Nat) (m : MEq) (k0 : Int) (wc w : World) (h : OEq wc B v m) (hk : Keeps B wc w) (hz : wc.heap.size ≤ w.heap.size) (hs : FitsE m) (h0 : 0 ≤ k0) (h1 : k0 ≤ 90000000000000) :
    Calls Try.prog 29 #[v, .int .i64 k0] w fun e w' => e = .returned (.int .i64 (k0 + totE m)) ∧ OEq w' B v (marksE k0 m) ∧ ∃ wa, Below w.heap.size w wa ∧ Outside B wc.heap.size wa w' := by
  obtain ⟨a0, a1, a2, rfl, o0, o1, o2, ap0_1, ap0_2, ap1_2⟩ := h
  obtain ⟨xs0, xs1, xs2⟩ := m
  obtain ⟨hs0, hs1, hs2⟩ := hs
  simp only at o0 o1 o2 hs0 hs1 hs2
  have hb := below_alloc w (.cells #[a0, a1, a2] 49)
  have P0 := Lib.hid (o0.same (fun k q1 q2 => (hb.block k (by omega)).trans (hk k q1 q2)))
  have P1 := Lib.hid (o1.same (fun k q1 q2 => (hb.block k (by omega)).trans (hk k q1 q2)))
  have P2 := Lib.hid (o2.same (fun k q1 q2 => (hb.block k (by omega)).trans (hk k q1 q2)))
  have C0 := Lib.hid o0
  have C1 := Lib.hid o1
  have C2 := Lib.hid o2
  have AP0_1 := Lib.hid ap0_1
  have AP0_2 := Lib.hid ap0_2
  have AP1_2 := Lib.hid ap1_2
  obtain ⟨A0, c0, rfl, -⟩ := o0.reads.form
  obtain ⟨A1, c1, rfl, -⟩ := o1.reads.form
  obtain ⟨A2, c2, rfl, -⟩ := o2.reads.form
  have t0 := bx_at w #[.slice A0 xs0.length c0, .slice A1 xs1.length c1, .slice A2 xs2.length c2] 49 (k := 0) rfl
  have t1 := bx_at w #[.slice A0 xs0.length c0, .slice A1 xs1.length c1, .slice A2 xs2.length c2] 49 (k := 1) rfl
  have t2 := bx_at w #[.slice A0 xs0.length c0, .slice A1 xs1.length c1, .slice A2 xs2.length c2] 49 (k := 2) rfl
  have hsW : (w.alloc (.cells #[.slice A0 xs0.length c0, .slice A1 xs1.length c1, .slice A2 xs2.length c2] 49)).heap.size = w.heap.size + 1 := by simp
  have HB := Lib.hid hb
  generalize hW : w.alloc (.cells #[.slice A0 xs0.length c0, .slice A1 xs1.length c1, .slice A2 xs2.length c2] 49) = W at HB hsW P0 P1 P2 t0 t1 t2
  have HOUT : Hid (Outside B wc.heap.size W W) := Outside.refl _ _ _
  have HSZ := Lib.hid hsW
  have HZ := Lib.hid hz
  clear o0 o1 o2 ap0_1 ap0_2 ap1_2 hb hk hsW hz
  go_enter Try.func29, Try.ntmps29
  go_wp2_with fail
  clear hW
  refine (markIntS_any _ B xs0 _ _ P0.out hs0 (by omega) (by omega)).mono ?_
  rintro e y0 ⟨rfl, ho, hg, hzz⟩
  have hout := outside_grown C0.out hg hzz
  replace P1 := Lib.hid (own_grown P1.out hg (apart_symm AP0_1.out))
  replace P2 := Lib.hid (own_grown P2.out hg (apart_symm AP0_2.out))
  replace P0 := Lib.hid ho
  replace t1 := (World.cell?_of_block (hout.block w.heap.size (.inr HZ.out))).trans t1
  replace t2 := (World.cell?_of_block (hout.block w.heap.size (.inr HZ.out))).trans t2
  replace HOUT := Lib.hid (HOUT.out.trans hout)
  clear ho hg hzz hout t0
  go_wp2_with fail
  refine (markIntS_any _ B xs1 _ _ P1.out hs1 (by omega) (by omega)).mono ?_
  rintro e y1 ⟨rfl, ho, hg, hzz⟩
  have hout := outside_grown C1.out hg hzz
  replace P0 := Lib.hid (own_grown P0.out hg AP0_1.out)
  replace P2 := Lib.hid (own_grown P2.out hg (apart_symm AP1_2.out))
  replace P1 := Lib.hid ho
  replace t2 := (World.cell?_of_block (hout.block w.heap.size (.inr HZ.out))).trans t2
  replace HOUT := Lib.hid (HOUT.out.trans hout)
  clear ho hg hzz hout t1
  go_wp2_with fail
  refine (markIntS_any _ B xs2 _ _ P2.out hs2 (by omega) (by omega)).mono ?_
  rintro e y2 ⟨rfl, ho, hg, hzz⟩
  have hout := outside_grown C2.out hg hzz
  replace P0 := Lib.hid (own_grown P0.out hg AP0_2.out)
  replace P1 := Lib.hid (own_grown P1.out hg AP1_2.out)
  replace P2 := Lib.hid ho
  replace HOUT := Lib.hid (HOUT.out.trans hout)
  clear ho hg hzz hout t2
  go_wp2
  go_ret
  refine ⟨ret_int (by simp only [totE]; omega), ⟨_, _, _, rfl, ?_, ?_, ?_, AP0_1.out, AP0_2.out, AP1_2.out⟩, W, HB.out, HOUT.out⟩
  · exact P0.out
  · exact P1.out
  · exact P2.out
theorem markEq_go (v : Value) (B : Nat) (m : MEq) (k0 : Int) (wc w : World) (h : OEq wc B v m) (hk : Keeps B wc w) (hz : wc.heap.size ≤ w.heap.size) (hs : FitsE m) (h0 : 0 ≤ k0) (h1 : k0 ≤ 90000000000000) :
    Calls Try.prog 29 #[v, .int .i64 k0] w fun e w' => ∃ k : Int, e = .returned (.int .i64 k) ∧ 0 ≤ k ∧ k ≤ k0 + 2000000000000 ∧ ∃ wa, Below w.heap.size w wa ∧ Outside B wc.heap.size wa w' := by
  refine (markEq_n v B m k0 wc w h hk hz hs h0 h1).mono ?_
  rintro e w' ⟨rfl, ho, hout⟩
  obtain ⟨hs0, hs1, hs2⟩ := hs
  exact ⟨_, rfl, by unfold totE; omega, by unfold totE; omega, hout⟩
end

section
open Go.RowKit
set_option linter.unusedVariables false
set_option linter.unusedSimpArgs false

theorem RSteps.reads {w : World} {v : Value} {ps : List MStep} (h : RSteps w v ps) : RSteps w v ps := h
/-- the cells of steps, one behind the other -/
def StepsIn (w : World) (B : Nat) (us : List Value) (qs : List MStep) : Prop :=
  ∀ i p, qs[i]? = some p → ∃ u, us[i * 4]? = some (.int .i64 p.ax) ∧ us[i * 4 + 1]? = some (.bool p.back) ∧ us[i * 4 + 2]? = some (.int .i64 p.at_) ∧ us[i * 4 + 3]? = some u ∧ ORows w B u p.terms
theorem StepsIn.keep {w w' : World} {B : Nat} {us : List Value} {qs : List MStep} (h : StepsIn w B us qs) (hb : Below w.heap.size w w') : StepsIn w' B us qs := fun i p hp => by
  obtain ⟨u, a, b, c, d, r⟩ := h i p hp; exact ⟨u, a, b, c, d, r.keep hb⟩
theorem orows_past {w w' : World} {B B2 n : Nat} {v s : Value} {rows : List (List Int)} {us : List Value} (h : ORows w B v rows) (hs : w.ownsRow B2 82 4 s n us) (hg : w.grownBy w' s.ownBlock) : ORows w' B v rows := by
  obtain ⟨xs, h1, h2, h3, h4⟩ := h
  exact ⟨xs, own_grown h1 hg (own_ne h1 hs (by decide)), h2, fun j u row a b => own_grown (h3 j u row a b) hg (own_ne (h3 j u row a b) hs (by decide)), h4⟩
theorem StepsIn.push {w w' : World} {B B2 n : Nat} {s u : Value} {us zs : List Value} {qs : List MStep} {p : MStep} (h : StepsIn w B us qs) (hs : w.ownsRow B2 82 4 s n zs) (hg : w.grownBy w' s.ownBlock) (hl : us.length = qs.length * 4) (hp : ORows w B u p.terms) :
    StepsIn w' B (us ++ [.int .i64 p.ax, .bool p.back, .int .i64 p.at_, u]) (qs ++ [p]) := fun i q hq => by
  rcases Nat.lt_or_ge i qs.length with hi | hi
  · rw [List.getElem?_append_left hi] at hq
    obtain ⟨x, a, b, c, d, r⟩ := h i q hq
    exact ⟨x, by rw [List.getElem?_append_left (by omega)]; exact a, by rw [List.getElem?_append_left (by omega)]; exact b, by rw [List.getElem?_append_left (by omega)]; exact c, by rw [List.getElem?_append_left (by omega)]; exact d, orows_past r hs hg⟩
  · rw [List.getElem?_append_right hi] at hq
    rcases hk : i - qs.length with _ | m
    · rw [hk] at hq
      simp at hq
      subst hq
      have e : i = qs.length := by omega
      subst e
      refine ⟨u, ?_, ?_, ?_, ?_, orows_past hp hs hg⟩
      · rw [List.getElem?_append_right (by omega), show qs.length * 4 - us.length = 0 by omega]; rfl
      · rw [List.getElem?_append_right (by omega), show qs.length * 4 + 1 - us.length = 1 by omega]; rfl
      · rw [List.getElem?_append_right (by omega), show qs.length * 4 + 2 - us.length = 2 by omega]; rfl
      · rw [List.getElem?_append_right (by omega), show qs.length * 4 + 3 - us.length = 3 by omega]; rfl
    · rw [hk] at hq
      simp at hq
theorem StepsIn.reads {w : World} {B B2 n : Nat} {s : Value} {us : List Value} {qs : List MStep} (h : StepsIn w B us qs) (ho : w.ownsRow B2 82 4 s n us) (hn : n = qs.length) : RSteps w s qs := by
  obtain ⟨A, c, rfl, h1, h2, h3⟩ := wide_reads ho
  subst hn
  refine ⟨A, c, rfl, h1, h2, fun j p hj => ?_⟩
  obtain ⟨u, a, b, cc, d, r⟩ := h j p hj
  obtain ⟨g, rfl, k0⟩ := h3 _ _ a
  obtain ⟨g1, e1, k1⟩ := h3 _ _ b
  obtain ⟨g2, e2, k2⟩ := h3 _ _ cc
  obtain ⟨g3, e3, k3⟩ := h3 _ _ d
  injection e1 with e1; injection e1 with e1
  injection e2 with e2; injection e2 with e2
  injection e3 with e3; injection e3 with e3
  subst e1 e2 e3
  exact ⟨g, 0, u, rfl, by rw [Nat.zero_add]; exact k0, by rw [Nat.zero_add]; exact k1, by rw [Nat.zero_add]; exact k2, by rw [Nat.zero_add]; exact k3, r.reads⟩
theorem news4 (w : World) (a b c d : Value) (t : TypeId) : ∀ (j : Nat) (u : Value), [a, b, c, d][j]? = some u → (w.alloc (.cells #[a, b, c, d] t)).cell? ((⟨w.heap.size, 0, none⟩ : Addr).add j) = some u := by
  intro j u hj
  have hadd : (⟨w.heap.size, 0, none⟩ : Addr).add j = ⟨w.heap.size, j, none⟩ := by
    unfold Addr.add
    split
    · rename_i h; subst h; rfl
    · simp
  rw [hadd, World.cell?_alloc_at _ _ _ _ rfl]
  match j, hj with
  | 0, hj => exact hj
  | 1, hj => exact hj
  | 2, hj => exact hj
  | 3, hj => exact hj
theorem one4 {A : Option Addr} {n c : Nat} (a b : Int) (d : Bool) : ∀ u ∈ [Value.int .i64 a, .bool d, .int .i64 b, .slice A n c], u.oneCell' = true := by
  intro u hu
  simp at hu
  rcases hu with rfl | rfl | rfl | rfl <;> rfl
theorem own_emptyS (w : World) : (w.alloc (.cells #[] 82)).ownsRow w.heap.size 82 4 (.slice (some ⟨w.heap.size, 0, none⟩) 0 0) 0 [] := World.ownsRow_lit w #[] 0 (Nat.le_refl _) (Nat.zero_le _) rfl
theorem backM_take {ps : List MStep} {j k : Nat} (hk : k < ps.length) (hj : j + k + 1 = ps.length) : (backM ps).take (j + 1) = (backM ps).take j ++ [turnP ps[k]] := by
  have hb : j < (backM ps).length := by rw [backM_len]; omega
  have h := backM_at hk hj
  rw [List.getElem?_eq_getElem hb] at h
  injection h with h
  rw [List.take_succ_eq_append_getElem hb, h]

set_option maxHeartbeats 1600000 in
set_option maxRecDepth 100000 in
theorem specProofBack_any (ps : List MStep) (w : World) (v : Value) (hs : FitsPs ps) (h : RSteps w v ps) :
    Calls Try.prog 9 #[v] w fun e w' => ∃ u, e = .returned u ∧ RSteps w' u (backM ps) ∧ Below w.heap.size w w' := by
  obtain ⟨i0, hi0, hz0, hz1, hz2⟩ := info_parts Try.tinfo_Step
  have H := Lib.hid h
  have HS := Lib.hid hs
  have HBL := Lib.hid (backM_len ps)
  obtain ⟨A, c, rfl, -⟩ := h.form
  have hlen := hs.1
  have hw1 : IntKind.i64.wrap ((ps.length : Int) - 1) = (ps.length : Int) - 1 := by rw [IntKind.wrap_i64]; omega
  clear h hs
  go_enter Try.func9, Try.ntmps9
  go_wp2
  clear hw1
  go_loopw [3, 4, 5] (fun o i b wr => ∃ (j : Nat) (x : Int) (us : List Value), x = (ps.length : Int) - 1 - (j : Int) ∧ -1 ≤ x ∧ i = .int .i64 x ∧ wr.ownsRow w.heap.size 82 4 o j us ∧ StepsIn wr w.heap.size us ((backM ps).take j) ∧ Below w.heap.size w wr) (fun _ i _ _ => (intOf i + 1).toNat)
  case atStart => exact ⟨0, _, [], by simp, by omega, rfl, own_emptyS w, fun i p hp => by simp at hp, below_alloc _ _⟩
  case round =>
    obtain ⟨j, x, us, hx, hx1, rfl, ho, hin, hd⟩ := hrel
    obtain ⟨A9, c9, rfl, -⟩ := wide_reads ho
    have HO := Lib.hid ho
    have HIN := Lib.hid hin
    have HD := Lib.hid hd
    clear ho hin hd
    by_cases hpos : 0 ≤ x
    · obtain ⟨k, rfl⟩ := Int.eq_ofNat_of_zero_le hpos
      have hjk : j + k + 1 = ps.length := by omega
      have hlt : k < ps.length := by omega
      have hlt' : (k : Int) < (ps.length : Int) := by omega
      obtain ⟨b, o, c', y, e, c0, c1, c2, c3, q0⟩ := (H.out.keep HD.out).at_ hlt
      cases e
      have HFP := Lib.hid (HS.out.2 _ (List.getElem_mem hlt))
      have HTK := Lib.hid (backM_take hlt hjk)
      have HLN := Lib.hid (show ((backM ps).take j).length = j by rw [List.length_take, HBL.out]; omega)
      have hjl : j ≤ 1048576 := by omega
      have HX := Lib.hid hx
      generalize ps[k] = p at q0 c0 c1 c2 HFP HTK
      generalize (backM ps).take j = qs at HIN HTK HLN
      have HI := Lib.hid (show RStep wr (.agg #[.int .i64 p.ax, .bool p.back, .int .i64 p.at_, y]) p from ⟨y, rfl, q0⟩)
      obtain ⟨A0, d0, rfl, -⟩ := q0.form
      clear q0 hx hjk hpos
      go_wp2_with fail
      refine (l3Copy_any p wr _ HFP.out HI.out).mono ?_
      rintro e w1 ⟨u1, rfl, ⟨rv, rfl, hor⟩, hb⟩
      obtain ⟨A1, d1, rfl, -⟩ := hor.reads.form
      have hb2 := below_alloc w1 (.cells #[.int .i64 p.ax, .bool p.back, .int .i64 p.at_, .slice A1 p.terms.length d1] 82)
      have hl2 : (w1.alloc (.cells #[.int .i64 p.ax, .bool p.back, .int .i64 p.at_, .slice A1 p.terms.length d1] 82)).heap[w1.heap.size]? = some (.cells #[.int .i64 p.ax, .bool p.back, .int .i64 p.at_, .slice A1 p.terms.length d1] 82 (0, 0)) := heap_alloc_new w1 _
      generalize hW2 : w1.alloc (.cells #[.int .i64 p.ax, .bool p.back, .int .i64 p.at_, .slice A1 p.terms.length d1] 82) = W2 at hb2 hl2
      have x1 := blk_cell hl2 1
      have xf := blk_free hl2 1
      simp at x1
      have hl3 : (W2.setCell ⟨w1.heap.size, 1, none⟩ (.bool (!p.back))).heap[w1.heap.size]? = some (.cells #[.int .i64 p.ax, .bool (!p.back), .int .i64 p.at_, .slice A1 p.terms.length d1] 82 (0, 0)) := blk_set hl2 1 _
      have hb3 : Below w1.heap.size w1 (W2.setCell ⟨w1.heap.size, 1, none⟩ (.bool (!p.back))) := hb2.setCell (p := ⟨w1.heap.size, 1, none⟩) (Nat.le_refl _) _
      generalize hW3 : W2.setCell ⟨w1.heap.size, 1, none⟩ (.bool (!p.back)) = W3 at hl3 hb3
      have y0 := blk_cell hl3 0
      have y1 := blk_cell hl3 1
      have y2 := blk_cell hl3 2
      have y3 := blk_cell hl3 3
      simp at y0 y1 y2 y3
      have hbr := sz_keep hb hb3
      have HOW := Lib.hid (own_keep HO.out hbr)
      have HINW := Lib.hid (HIN.out.keep hbr)
      have HDW := Lib.hid (sz_keep HD.out hbr)
      have hsd := HD.out.size
      have hsr := hbr.size
      have HRV := Lib.hid ((hor.keep hb3).base (B' := w.heap.size) hsd)
      clear hb hb2 hb3 hbr hl2 hl3 hor c0 c1 c2 c3
      have HAL := Lib.hid (below_alloc W3 (.cells #[.int .i64 p.ax, .bool (!p.back), .int .i64 p.at_, .slice A1 p.terms.length d1] 82))
      have HUL := Lib.hid (show us.length = j * 4 from HO.out.1)
      go_wp2_with (at_builtin; refine wpList_append_own _ rfl _ _ 24 rfl w.heap.size 82 i0 (.agg #[.int .i64 0, .bool false, .int .i64 0, .slice none 0 0]) 4 48 Try.underlying24 hi0 hz0 hz1 hz2 rfl (by decide) _ j us rfl (own_keep HOW.out HAL.out) ⟨W3.heap.size, 0, none⟩ 1 1 [.int .i64 p.ax, .bool (!p.back), .int .i64 p.at_, .slice A1 p.terms.length d1] rfl (by simp) (news4 W3 _ _ _ _ _) (one4 _ _ _) (by rw [maxLen_eq]; omega) (by omega) (by simp; omega) ?_)
      intro v6 w6 hv6 hg6 _
      have HN := Lib.hid ((HINW.out.keep HAL.out).push (p := turnP p) (own_keep HOW.out HAL.out) hg6 (by rw [HUL.out, HLN.out]) (HRV.out.keep HAL.out))
      have HD6 := Lib.hid ((HDW.out.trans (HAL.out.mono HDW.out.size)).grown hg6 (by simp; omega) (fun k e => ((own_keep HOW.out HAL.out).lt k e).1))
      obtain ⟨A6, c6, rfl, -⟩ := wide_reads hv6
      have HV6 := Lib.hid hv6
      clear hv6 hg6 hW2 hW3 x1 xf y0 y1 y2 y3
      go_wp2
      go_roundw
      case rel => exact ⟨j + 1, (k : Int) - 1, _, by have := HX.out; omega, by omega, by go_num, HV6.out, by rw [HTK.out]; exact HN.out, HD6.out⟩
      case measure => first | (simp [intOf]; done) | (simp [intOf]; omega)
    · have hjn : j = ps.length := by omega
      have HR := Lib.hid (StepsIn.reads HIN.out HO.out (by rw [List.length_take, HBL.out]; omega))
      have HT := Lib.hid (show (backM ps).take j = backM ps from take_all (by rw [HBL.out]; omega))
      rw [HT.out] at HR
      clear hjn hx
      go_wp2
      go_ret
      exact ⟨_, rfl, HR.out, HD.out⟩
end

section
open Go.RowKit
set_option linter.unusedVariables false
set_option linter.unusedSimpArgs false

theorem movedM_take {ps : List MStep} {a : Int} {k : Nat} (hk : k < ps.length) : (movedM ps a).take (k + 1) = (movedM ps a).take k ++ [moveP a ps[k]] := by
  have hb : k < (movedM ps a).length := by rw [movedM_len]; omega
  rw [List.take_succ_eq_append_getElem hb, movedM_at hk hb]
theorem below_at {B B' : Nat} {w w' : World} (h : Below B w w') (e : B' = B) : Below B' w w' := by subst e; exact h

set_option maxHeartbeats 3200000 in
set_option maxRecDepth 100000 in
theorem specProofUnder_any (t : MThy) (e : MEq) (ps : List MStep) (u : List Int) (a : Int) (w : World) (v ev pv uv : Value) (hsp : SmallPs ps) (hsu : Small u) (hf : FitsPs ps) (h : RThy w v t) (he : REq w ev e) (h3 : RSteps w pv ps) (h4 : RInts w uv u) :
    Calls Try.prog 32 #[v, ev, pv, uv, .int .i64 a] w (PairStepsR (underM t e ps u a) w) := by
  obtain ⟨i0, hi0, hz0, hz1, hz2⟩ := info_parts Try.tinfo_Step
  obtain ⟨Ata, cta, Atb, ctb, rfl⟩ := h.form
  obtain ⟨Aea, cea, Aeb, ceb, Aec, cec, rfl⟩ := he.form
  have hb : Below w.heap.size w ((w.alloc (.cells #[.int .i64 t.over.sorts, .slice Ata t.over.ops.length cta, .slice Atb t.eqs.length ctb] 47)).alloc (.cells #[.slice Aea e.vars.length cea, .slice Aeb e.left.length ceb, .slice Aec e.right.length cec] 49)) := (below_alloc _ _).alloc (by simp) _
  have HB := Lib.hid hb
  have hsz : ((w.alloc (.cells #[.int .i64 t.over.sorts, .slice Ata t.over.ops.length cta, .slice Atb t.eqs.length ctb] 47)).alloc (.cells #[.slice Aea e.vars.length cea, .slice Aeb e.left.length ceb, .slice Aec e.right.length cec] 49)).heap.size = w.heap.size + 2 := by simp
  have Ht := Lib.hid (h.keep hb)
  have t0 := cell_keep (below_alloc (w.alloc (.cells #[.int .i64 t.over.sorts, .slice Ata t.over.ops.length cta, .slice Atb t.eqs.length ctb] 47)) (.cells #[.slice Aea e.vars.length cea, .slice Aeb e.left.length ceb, .slice Aec e.right.length cec] 49)) (bx_at (w) #[.int .i64 t.over.sorts, .slice Ata t.over.ops.length cta, .slice Atb t.eqs.length ctb] 47 (k := 0) rfl)
  have t1 := cell_keep (below_alloc (w.alloc (.cells #[.int .i64 t.over.sorts, .slice Ata t.over.ops.length cta, .slice Atb t.eqs.length ctb] 47)) (.cells #[.slice Aea e.vars.length cea, .slice Aeb e.left.length ceb, .slice Aec e.right.length cec] 49)) (bx_at (w) #[.int .i64 t.over.sorts, .slice Ata t.over.ops.length cta, .slice Atb t.eqs.length ctb] 47 (k := 1) rfl)
  have t2 := cell_keep (below_alloc (w.alloc (.cells #[.int .i64 t.over.sorts, .slice Ata t.over.ops.length cta, .slice Atb t.eqs.length ctb] 47)) (.cells #[.slice Aea e.vars.length cea, .slice Aeb e.left.length ceb, .slice Aec e.right.length cec] 49)) (bx_at (w) #[.int .i64 t.over.sorts, .slice Ata t.over.ops.length cta, .slice Atb t.eqs.length ctb] 47 (k := 2) rfl)
  have He := Lib.hid (he.keep hb)
  have e0 := bx_at (w.alloc (.cells #[.int .i64 t.over.sorts, .slice Ata t.over.ops.length cta, .slice Atb t.eqs.length ctb] 47)) #[.slice Aea e.vars.length cea, .slice Aeb e.left.length ceb, .slice Aec e.right.length cec] 49 (k := 0) rfl
  have e1 := bx_at (w.alloc (.cells #[.int .i64 t.over.sorts, .slice Ata t.over.ops.length cta, .slice Atb t.eqs.length ctb] 47)) #[.slice Aea e.vars.length cea, .slice Aeb e.left.length ceb, .slice Aec e.right.length cec] 49 (k := 1) rfl
  have e2 := bx_at (w.alloc (.cells #[.int .i64 t.over.sorts, .slice Ata t.over.ops.length cta, .slice Atb t.eqs.length ctb] 47)) #[.slice Aea e.vars.length cea, .slice Aeb e.left.length ceb, .slice Aec e.right.length cec] 49 (k := 2) rfl
  simp only [World.size_alloc] at e0 e1 e2
  generalize hW : (w.alloc (.cells #[.int .i64 t.over.sorts, .slice Ata t.over.ops.length cta, .slice Atb t.eqs.length ctb] 47)).alloc (.cells #[.slice Aea e.vars.length cea, .slice Aeb e.left.length ceb, .slice Aec e.right.length cec] 49) = W at HB hsz Ht t0 t1 t2 He e0 e1 e2
  clear hb h he
  have HP := Lib.hid (h3.keep HB.out)
  have HU := Lib.hid (h4.keep HB.out)
  have HTS := Lib.hid (show RSig W (.agg #[.int .i64 t.over.sorts, .slice Ata t.over.ops.length cta]) t.over from ⟨_, rfl, Ht.out.of.2.1⟩)
  have HE := Lib.hid He.out.of
  have HSP := Lib.hid hsp
  have HSU := Lib.hid hsu
  have HFP := Lib.hid hf
  have hlen := hf.1
  have hpl := h3.len
  obtain ⟨A3, d3, rfl, -⟩ := h3.form
  obtain ⟨A4, d4, rfl, -⟩ := h4.form
  clear h3 h4 hsp hsu hf
  obtain ⟨pb, hpb⟩ : ∃ b, proofB t e ps = b := ⟨_, rfl⟩
  have HPB := Lib.hid hpb
  obtain ⟨Y, hY⟩ : ∃ Y, atM t.over e.vars u a = Y := ⟨_, rfl⟩
  have HY := Lib.hid hY
  obtain ⟨q, hq⟩ : ∃ q : Bool, decide (Y = e.left) = q := ⟨_, rfl⟩
  have HQ := Lib.hid hq
  clear hpb hY hq
  have hno := own_emptyS W
  have hba := below_alloc W (.cells #[] 82)
  have n0 := cell_keep hba t0
  have n1 := cell_keep hba t1
  have n2 := cell_keep hba t2
  have n3 := cell_keep hba e0
  have n4 := cell_keep hba e1
  have n5 := cell_keep hba e2
  rw [hsz] at hno
  generalize hW2 : W.alloc (.cells #[] 82) = W2 at hno hba n0 n1 n2 n3 n4 n5
  have HNO := Lib.hid hno
  have HBA := Lib.hid hba
  have HC := Lib.hid (And.intro t0 (And.intro t1 (And.intro t2 (And.intro e0 (And.intro e1 e2)))))
  clear hno hba t0 t1 t2 e0 e1 e2
  go_enter Try.func32, Try.ntmps32
  go_wp2_with fail
  clear hW hW2
  cases pb with
  | false =>
    refine wp_region_held_drew (S := (fun w' => w'.cell? ⟨w.heap.size, 0, none⟩ = some (.int .i64 t.over.sorts) ∧ w'.cell? ⟨w.heap.size, 1, none⟩ = some (.slice Ata t.over.ops.length cta) ∧ w'.cell? ⟨w.heap.size, 2, none⟩ = some (.slice Atb t.eqs.length ctb) ∧ w'.cell? ⟨w.heap.size + 1, 0, none⟩ = some (.slice Aea e.vars.length cea) ∧ w'.cell? ⟨w.heap.size + 1, 1, none⟩ = some (.slice Aeb e.left.length ceb) ∧ w'.cell? ⟨w.heap.size + 1, 2, none⟩ = some (.slice Aec e.right.length cec))) (by kernel_rfl) ?_ (fun hHeld => ?_)
    · exact ⟨n0, n1, n2, n3, n4, n5⟩
    refine wpAnyH_take (i := 0) (oi := _) (v := ?_) rfl (by kernel_rfl) (by kernel_rfl) (by kernel_rfl) (fun _ _ _ h => h) (Or.inl ⟨by rfl, ?_⟩) (by assumption) ?_
    rotate_left
    · first | (intro w' hSw; (try dsimp only at hSw); go_simp; done) | (intro w' hSw; (try dsimp only at hSw); go_simp; with_reducible rfl)
    try simp only [Act.put, List.getElem_toArray, List.getElem_cons_zero, List.getElem_cons_succ, List.setIfInBounds_toArray, List.set_cons_zero, List.set_cons_succ]
    refine wpAnyH_take (i := 1) (oi := _) (v := ?_) rfl (by kernel_rfl) (by kernel_rfl) (by kernel_rfl) (fun _ _ _ h => h) (Or.inl ⟨by rfl, ?_⟩) (by assumption) ?_
    rotate_left
    · first | (intro w' hSw; (try dsimp only at hSw); go_simp; done) | (intro w' hSw; (try dsimp only at hSw); go_simp; with_reducible rfl)
    try simp only [Act.put, List.getElem_toArray, List.getElem_cons_zero, List.getElem_cons_succ, List.setIfInBounds_toArray, List.set_cons_zero, List.set_cons_succ]
    refine wpAnyH_take (i := 2) (oi := _) (v := ?_) rfl (by kernel_rfl) (by kernel_rfl) (by kernel_rfl) (fun _ _ _ h => h) (Or.inl ⟨by rfl, ?_⟩) (by assumption) ?_
    rotate_left
    · first | (intro w' hSw; (try dsimp only at hSw); go_simp; done) | (intro w' hSw; (try dsimp only at hSw); go_simp; with_reducible rfl)
    try simp only [Act.put, List.getElem_toArray, List.getElem_cons_zero, List.getElem_cons_succ, List.setIfInBounds_toArray, List.set_cons_zero, List.set_cons_succ]
    refine wpAnyH_ready (rs := [3]) (by kernel_rfl) (by simp) ?_
    refine AllReadyH.cons (o := _) rfl (fun K hK => ?_) AllReadyH.nil
    go_simp
    refine (specProofOk_any t e ps W2.drew _ _ _ HSP.out (Ht.out.keep (bel_drew HBA.out)) (He.out.keep (bel_drew HBA.out)) (HP.out.keep (bel_drew HBA.out))).mono ?_
    rw [HPB.out]
    rintro x w1 ⟨rfl, hb1⟩
    have hx1 := (show Below W2.heap.size W2 w1 from bel_undrew hb1)
    have HX1 := Lib.hid (fit_keep HBA.out hx1)
    have m0 := cell_keep hx1 n0
    have m1 := cell_keep hx1 n1
    have m2 := cell_keep hx1 n2
    have m3 := cell_keep hx1 n3
    have m4 := cell_keep hx1 n4
    have m5 := cell_keep hx1 n5
    clear hb1 hx1
    go_wp2_with fail
    refine hK.out _ _ ?_ (fun hHeld => ?_)
    · exact ⟨m0, m1, m2, m3, m4, m5⟩
    clear hK K
    try simp only [Act.put, List.getElem_toArray, List.getElem_cons_zero, List.getElem_cons_succ, List.setIfInBounds_toArray, List.set_cons_zero, List.set_cons_succ]
    refine wpAnyH_take (i := 4) (oi := _) (v := ?_) rfl (by kernel_rfl) (by kernel_rfl) (by kernel_rfl) (fun _ _ _ h => h) (Or.inl ⟨by rfl, ?_⟩) (by assumption) ?_
    rotate_left
    · first | (intro w' hSw; (try dsimp only at hSw); go_simp; done) | (intro w' hSw; (try dsimp only at hSw); go_simp; with_reducible rfl)
    try simp only [Act.put, List.getElem_toArray, List.getElem_cons_zero, List.getElem_cons_succ, List.setIfInBounds_toArray, List.set_cons_zero, List.set_cons_succ]
    refine wpAnyH_take (i := 5) (oi := _) (v := ?_) rfl (by kernel_rfl) (by kernel_rfl) (by kernel_rfl) (fun _ _ _ h => h) (Or.inl ⟨by rfl, ?_⟩) (by assumption) ?_
    rotate_left
    · first | (intro w' hSw; (try dsimp only at hSw); go_simp; done) | (intro w' hSw; (try dsimp only at hSw); go_simp; with_reducible rfl)
    try simp only [Act.put, List.getElem_toArray, List.getElem_cons_zero, List.getElem_cons_succ, List.setIfInBounds_toArray, List.set_cons_zero, List.set_cons_succ]
    refine wpAnyH_take (i := 6) (oi := _) (v := _) rfl (by kernel_rfl) (by kernel_rfl) (by kernel_rfl) (fun _ _ _ h => h) (Or.inr ⟨by rfl, rfl⟩) (by assumption) ?_
    try simp only [Act.put, List.getElem_toArray, List.getElem_cons_zero, List.getElem_cons_succ, List.setIfInBounds_toArray, List.set_cons_zero, List.set_cons_succ]
    refine wpAnyH_take (i := 7) (oi := _) (v := _) rfl (by kernel_rfl) (by kernel_rfl) (by kernel_rfl) (fun _ _ _ h => h) (Or.inr ⟨by rfl, rfl⟩) (by assumption) ?_
    try simp only [Act.put, List.getElem_toArray, List.getElem_cons_zero, List.getElem_cons_succ, List.setIfInBounds_toArray, List.set_cons_zero, List.set_cons_succ]
    refine wpAnyH_take (i := 8) (oi := _) (v := _) rfl (by kernel_rfl) (by kernel_rfl) (by kernel_rfl) (fun _ _ _ h => h) (Or.inr ⟨by rfl, rfl⟩) (by assumption) ?_
    try simp only [Act.put, List.getElem_toArray, List.getElem_cons_zero, List.getElem_cons_succ, List.setIfInBounds_toArray, List.set_cons_zero, List.set_cons_succ]
    refine wpAnyH_take (i := 9) (oi := _) (v := _) rfl (by kernel_rfl) (by kernel_rfl) (by kernel_rfl) (fun _ _ _ h => h) (Or.inr ⟨by rfl, rfl⟩) (by assumption) ?_
    try simp only [Act.put, List.getElem_toArray, List.getElem_cons_zero, List.getElem_cons_succ, List.setIfInBounds_toArray, List.set_cons_zero, List.set_cons_succ]
    refine wpAnyH_take (i := 10) (oi := _) (v := _) rfl (by kernel_rfl) (by kernel_rfl) (by kernel_rfl) (fun _ _ _ h => h) (Or.inr ⟨by rfl, rfl⟩) (by assumption) ?_
    try simp only [Act.put, List.getElem_toArray, List.getElem_cons_zero, List.getElem_cons_succ, List.setIfInBounds_toArray, List.set_cons_zero, List.set_cons_succ]
    refine wpAnyH_take (i := 11) (oi := _) (v := _) rfl (by kernel_rfl) (by kernel_rfl) (by kernel_rfl) (fun _ _ _ h => h) (Or.inr ⟨by rfl, rfl⟩) (by assumption) ?_
    try simp only [Act.put, List.getElem_toArray, List.getElem_cons_zero, List.getElem_cons_succ, List.setIfInBounds_toArray, List.set_cons_zero, List.set_cons_succ]
    refine wpAnyH_take (i := 13) (oi := _) (v := _) rfl (by kernel_rfl) (by kernel_rfl) (by kernel_rfl) (fun _ _ _ h => h) (Or.inr ⟨by rfl, rfl⟩) (by assumption) ?_
    try simp only [Act.put, List.getElem_toArray, List.getElem_cons_zero, List.getElem_cons_succ, List.setIfInBounds_toArray, List.set_cons_zero, List.set_cons_succ]
    refine wpAnyH_take (i := 14) (oi := _) (v := _) rfl (by kernel_rfl) (by kernel_rfl) (by kernel_rfl) (fun _ _ _ h => h) (Or.inr ⟨by rfl, rfl⟩) (by assumption) ?_
    try simp only [Act.put, List.getElem_toArray, List.getElem_cons_zero, List.getElem_cons_succ, List.setIfInBounds_toArray, List.set_cons_zero, List.set_cons_succ]
    refine wpAnyH_ready (rs := [12]) (by kernel_rfl) (by simp) ?_
    refine AllReadyH.cons (o := _) rfl (fun K hK => ?_) AllReadyH.nil
    refine ite_off (by rfl) ?_
    refine hK.out _ _ (by assumption) (fun hHeld => ?_)
    clear hK K
    try simp only [Act.put, List.getElem_toArray, List.getElem_cons_zero, List.getElem_cons_succ, List.setIfInBounds_toArray, List.set_cons_zero, List.set_cons_succ]
    refine wpAnyH_ready (rs := [15]) (by kernel_rfl) (by simp) ?_
    refine AllReadyH.cons (o := _) rfl (fun K hK => ?_) AllReadyH.nil
    refine ite_off (by rfl) ?_
    refine hK.out _ _ (by assumption) (fun hHeld => ?_)
    clear hK K
    try simp only [Act.put, List.getElem_toArray, List.getElem_cons_zero, List.getElem_cons_succ, List.setIfInBounds_toArray, List.set_cons_zero, List.set_cons_succ]
    refine wpAnyH_take (i := 16) (oi := _) (v := _) rfl (by kernel_rfl) (by kernel_rfl) (by kernel_rfl) (fun _ _ _ h => h) (Or.inr ⟨by rfl, rfl⟩) (by assumption) ?_
    try simp only [Act.put, List.getElem_toArray, List.getElem_cons_zero, List.getElem_cons_succ, List.setIfInBounds_toArray, List.set_cons_zero, List.set_cons_succ]
    refine wpAnyH_take (i := 17) (oi := _) (v := ?_) rfl (by kernel_rfl) (by kernel_rfl) (by kernel_rfl) (fun _ _ _ h => h) (Or.inl ⟨by rfl, ?_⟩) (by assumption) ?_
    rotate_left
    · first | (intro w' hSw; (try dsimp only at hSw); go_simp; done) | (intro w' hSw; (try dsimp only at hSw); go_simp; with_reducible rfl)
    try simp only [Act.put, List.getElem_toArray, List.getElem_cons_zero, List.getElem_cons_succ, List.setIfInBounds_toArray, List.set_cons_zero, List.set_cons_succ]
    refine wpAnyH_done (by kernel_rfl) ?_ _
    have HE0 := Lib.hid (underM_no (t := t) (e := e) (ps := ps) (u := u) (a := a) (by rw [HPB.out]; simp))
    clear n0 n1 n2 n3 n4 n5 m0 m1 m2 m3 m4 m5
    go_wp2
    refine bodyPost_ret (v := .tuple #[.slice (some ⟨w.heap.size + 2, 0, none⟩) 0 0, .bool false]) (by simp [results, Try.results32, go_sem]) rfl ?_
    rw [HE0.out]
    exact ⟨_, rfl, rsteps_nil _ _, fit_keep HB.out HX1.out⟩
  | true =>
    refine wp_region_held_drew (S := (fun w' => w'.cell? ⟨w.heap.size, 0, none⟩ = some (.int .i64 t.over.sorts) ∧ w'.cell? ⟨w.heap.size, 1, none⟩ = some (.slice Ata t.over.ops.length cta) ∧ w'.cell? ⟨w.heap.size, 2, none⟩ = some (.slice Atb t.eqs.length ctb) ∧ w'.cell? ⟨w.heap.size + 1, 0, none⟩ = some (.slice Aea e.vars.length cea) ∧ w'.cell? ⟨w.heap.size + 1, 1, none⟩ = some (.slice Aeb e.left.length ceb) ∧ w'.cell? ⟨w.heap.size + 1, 2, none⟩ = some (.slice Aec e.right.length cec))) (by kernel_rfl) ?_ (fun hHeld => ?_)
    · exact ⟨n0, n1, n2, n3, n4, n5⟩
    refine wpAnyH_take (i := 0) (oi := _) (v := ?_) rfl (by kernel_rfl) (by kernel_rfl) (by kernel_rfl) (fun _ _ _ h => h) (Or.inl ⟨by rfl, ?_⟩) (by assumption) ?_
    rotate_left
    · first | (intro w' hSw; (try dsimp only at hSw); go_simp; done) | (intro w' hSw; (try dsimp only at hSw); go_simp; with_reducible rfl)
    try simp only [Act.put, List.getElem_toArray, List.getElem_cons_zero, List.getElem_cons_succ, List.setIfInBounds_toArray, List.set_cons_zero, List.set_cons_succ]
    refine wpAnyH_take (i := 1) (oi := _) (v := ?_) rfl (by kernel_rfl) (by kernel_rfl) (by kernel_rfl) (fun _ _ _ h => h) (Or.inl ⟨by rfl, ?_⟩) (by assumption) ?_
    rotate_left
    · first | (intro w' hSw; (try dsimp only at hSw); go_simp; done) | (intro w' hSw; (try dsimp only at hSw); go_simp; with_reducible rfl)
    try simp only [Act.put, List.getElem_toArray, List.getElem_cons_zero, List.getElem_cons_succ, List.setIfInBounds_toArray, List.set_cons_zero, List.set_cons_succ]
    refine wpAnyH_take (i := 2) (oi := _) (v := ?_) rfl (by kernel_rfl) (by kernel_rfl) (by kernel_rfl) (fun _ _ _ h => h) (Or.inl ⟨by rfl, ?_⟩) (by assumption) ?_
    rotate_left
    · first | (intro w' hSw; (try dsimp only at hSw); go_simp; done) | (intro w' hSw; (try dsimp only at hSw); go_simp; with_reducible rfl)
    try simp only [Act.put, List.getElem_toArray, List.getElem_cons_zero, List.getElem_cons_succ, List.setIfInBounds_toArray, List.set_cons_zero, List.set_cons_succ]
    refine wpAnyH_ready (rs := [3]) (by kernel_rfl) (by simp) ?_
    refine AllReadyH.cons (o := _) rfl (fun K hK => ?_) AllReadyH.nil
    go_simp
    refine (specProofOk_any t e ps W2.drew _ _ _ HSP.out (Ht.out.keep (bel_drew HBA.out)) (He.out.keep (bel_drew HBA.out)) (HP.out.keep (bel_drew HBA.out))).mono ?_
    rw [HPB.out]
    rintro x w1 ⟨rfl, hb1⟩
    have hx1 := (show Below W2.heap.size W2 w1 from bel_undrew hb1)
    have HX1 := Lib.hid (fit_keep HBA.out hx1)
    have HO1 := Lib.hid (own_keep HNO.out hx1)
    have m0 := cell_keep hx1 n0
    have m1 := cell_keep hx1 n1
    have m2 := cell_keep hx1 n2
    have m3 := cell_keep hx1 n3
    have m4 := cell_keep hx1 n4
    have m5 := cell_keep hx1 n5
    clear hb1 hx1
    go_wp2_with fail
    refine hK.out _ _ ?_ (fun hHeld => ?_)
    · exact ⟨m0, m1, m2, m3, m4, m5⟩
    clear hK K
    try simp only [Act.put, List.getElem_toArray, List.getElem_cons_zero, List.getElem_cons_succ, List.setIfInBounds_toArray, List.set_cons_zero, List.set_cons_succ]
    refine wpAnyH_take (i := 4) (oi := _) (v := ?_) rfl (by kernel_rfl) (by kernel_rfl) (by kernel_rfl) (fun _ _ _ h => h) (Or.inl ⟨by rfl, ?_⟩) (by assumption) ?_
    rotate_left
    · first | (intro w' hSw; (try dsimp only at hSw); go_simp; done) | (intro w' hSw; (try dsimp only at hSw); go_simp; with_reducible rfl)
    try simp only [Act.put, List.getElem_toArray, List.getElem_cons_zero, List.getElem_cons_succ, List.setIfInBounds_toArray, List.set_cons_zero, List.set_cons_succ]
    refine wpAnyH_take (i := 5) (oi := _) (v := ?_) rfl (by kernel_rfl) (by kernel_rfl) (by kernel_rfl) (fun _ _ _ h => h) (Or.inl ⟨by rfl, ?_⟩) (by assumption) ?_
    rotate_left
    · first | (intro w' hSw; (try dsimp only at hSw); go_simp; done) | (intro w' hSw; (try dsimp only at hSw); go_simp; with_reducible rfl)
    try simp only [Act.put, List.getElem_toArray, List.getElem_cons_zero, List.getElem_cons_succ, List.setIfInBounds_toArray, List.set_cons_zero, List.set_cons_succ]
    refine wpAnyH_take (i := 6) (oi := _) (v := ?_) rfl (by kernel_rfl) (by kernel_rfl) (by kernel_rfl) (fun _ _ _ h => h) (Or.inl ⟨by rfl, ?_⟩) (by assumption) ?_
    rotate_left
    · first | (intro w' hSw; (try dsimp only at hSw); go_simp; done) | (intro w' hSw; (try dsimp only at hSw); go_simp; with_reducible rfl)
    try simp only [Act.put, List.getElem_toArray, List.getElem_cons_zero, List.getElem_cons_succ, List.setIfInBounds_toArray, List.set_cons_zero, List.set_cons_succ]
    refine wpAnyH_take (i := 7) (oi := _) (v := ?_) rfl (by kernel_rfl) (by kernel_rfl) (by kernel_rfl) (fun _ _ _ h => h) (Or.inl ⟨by rfl, ?_⟩) (by assumption) ?_
    rotate_left
    · first | (intro w' hSw; (try dsimp only at hSw); go_simp; done) | (intro w' hSw; (try dsimp only at hSw); go_simp; with_reducible rfl)
    try simp only [Act.put, List.getElem_toArray, List.getElem_cons_zero, List.getElem_cons_succ, List.setIfInBounds_toArray, List.set_cons_zero, List.set_cons_succ]
    refine wpAnyH_take (i := 8) (oi := _) (v := ?_) rfl (by kernel_rfl) (by kernel_rfl) (by kernel_rfl) (fun _ _ _ h => h) (Or.inl ⟨by rfl, ?_⟩) (by assumption) ?_
    rotate_left
    · first | (intro w' hSw; (try dsimp only at hSw); go_simp; done) | (intro w' hSw; (try dsimp only at hSw); go_simp; with_reducible rfl)
    try simp only [Act.put, List.getElem_toArray, List.getElem_cons_zero, List.getElem_cons_succ, List.setIfInBounds_toArray, List.set_cons_zero, List.set_cons_succ]
    refine wpAnyH_take (i := 9) (oi := _) (v := ?_) rfl (by kernel_rfl) (by kernel_rfl) (by kernel_rfl) (fun _ _ _ h => h) (Or.inl ⟨by rfl, ?_⟩) (by assumption) ?_
    rotate_left
    · first | (intro w' hSw; (try dsimp only at hSw); go_simp; done) | (intro w' hSw; (try dsimp only at hSw); go_simp; with_reducible rfl)
    try simp only [Act.put, List.getElem_toArray, List.getElem_cons_zero, List.getElem_cons_succ, List.setIfInBounds_toArray, List.set_cons_zero, List.set_cons_succ]
    refine wpAnyH_take (i := 10) (oi := _) (v := ?_) rfl (by kernel_rfl) (by kernel_rfl) (by kernel_rfl) (fun _ _ _ h => h) (Or.inl ⟨by rfl, ?_⟩) (by assumption) ?_
    rotate_left
    · first | (intro w' hSw; (try dsimp only at hSw); go_simp; done) | (intro w' hSw; (try dsimp only at hSw); go_simp; with_reducible rfl)
    try simp only [Act.put, List.getElem_toArray, List.getElem_cons_zero, List.getElem_cons_succ, List.setIfInBounds_toArray, List.set_cons_zero, List.set_cons_succ]
    refine wpAnyH_take (i := 11) (oi := _) (v := ?_) rfl (by kernel_rfl) (by kernel_rfl) (by kernel_rfl) (fun _ _ _ h => h) (Or.inl ⟨by rfl, ?_⟩) (by assumption) ?_
    rotate_left
    · first | (intro w' hSw; (try dsimp only at hSw); go_simp; done) | (intro w' hSw; (try dsimp only at hSw); go_simp; with_reducible rfl)
    try simp only [Act.put, List.getElem_toArray, List.getElem_cons_zero, List.getElem_cons_succ, List.setIfInBounds_toArray, List.set_cons_zero, List.set_cons_succ]
    refine wpAnyH_take (i := 13) (oi := _) (v := ?_) rfl (by kernel_rfl) (by kernel_rfl) (by kernel_rfl) (fun _ _ _ h => h) (Or.inl ⟨by rfl, ?_⟩) (by assumption) ?_
    rotate_left
    · first | (intro w' hSw; (try dsimp only at hSw); go_simp; done) | (intro w' hSw; (try dsimp only at hSw); go_simp; with_reducible rfl)
    try simp only [Act.put, List.getElem_toArray, List.getElem_cons_zero, List.getElem_cons_succ, List.setIfInBounds_toArray, List.set_cons_zero, List.set_cons_succ]
    refine wpAnyH_take (i := 14) (oi := _) (v := ?_) rfl (by kernel_rfl) (by kernel_rfl) (by kernel_rfl) (fun _ _ _ h => h) (Or.inl ⟨by rfl, ?_⟩) (by assumption) ?_
    rotate_left
    · first | (intro w' hSw; (try dsimp only at hSw); go_simp; done) | (intro w' hSw; (try dsimp only at hSw); go_simp; with_reducible rfl)
    try simp only [Act.put, List.getElem_toArray, List.getElem_cons_zero, List.getElem_cons_succ, List.setIfInBounds_toArray, List.set_cons_zero, List.set_cons_succ]
    refine wpAnyH_ready (rs := [12]) (by kernel_rfl) (by simp) ?_
    refine AllReadyH.cons (o := _) rfl (fun K hK => ?_) AllReadyH.nil
    go_simp
    refine (specTermAt_any t.over e.vars u a w1 _ _ _ (HTS.out.keep HX1.out) (HE.out.1.keep HX1.out) (HU.out.keep HX1.out)).mono ?_
    rw [HY.out]
    rintro x w2 ⟨y, rfl, ho2, hb2⟩
    obtain ⟨Ay, cy, rfl, -⟩ := ho2.reads.form
    have HYR := Lib.hid ho2.reads
    have HX2 := Lib.hid (fit_keep HX1.out hb2)
    have HO2 := Lib.hid (own_keep HO1.out hb2)
    have v0 := cell_keep hb2 m0
    have v1 := cell_keep hb2 m1
    have v2 := cell_keep hb2 m2
    have v3 := cell_keep hb2 m3
    have v4 := cell_keep hb2 m4
    have v5 := cell_keep hb2 m5
    clear ho2 hb2
    go_wp2_with fail
    refine hK.out _ _ ?_ (fun hHeld => ?_)
    · exact ⟨v0, v1, v2, v3, v4, v5⟩
    clear hK K
    try simp only [Act.put, List.getElem_toArray, List.getElem_cons_zero, List.getElem_cons_succ, List.setIfInBounds_toArray, List.set_cons_zero, List.set_cons_succ]
    refine wpAnyH_ready (rs := [15]) (by kernel_rfl) (by simp) ?_
    refine AllReadyH.cons (o := _) rfl (fun K hK => ?_) AllReadyH.nil
    go_simp
    refine (l1Same_any _ _ Y e.left w2 HYR.out (HE.out.2.1.keep HX2.out)).mono ?_
    rw [HQ.out]
    rintro x w3 ⟨rfl, hd⟩
    have HX3 := Lib.hid (fit_keep HX2.out hd.below)
    have HO3 := Lib.hid (own_keep HO2.out hd.below)
    have k0 := cell_keep hd.below v0
    have k1 := cell_keep hd.below v1
    have k2 := cell_keep hd.below v2
    have k3 := cell_keep hd.below v3
    have k4 := cell_keep hd.below v4
    have k5 := cell_keep hd.below v5
    clear hd
    go_wp2_with fail
    refine hK.out _ _ ?_ (fun hHeld => ?_)
    · exact ⟨k0, k1, k2, k3, k4, k5⟩
    clear hK K
    try simp only [Act.put, List.getElem_toArray, List.getElem_cons_zero, List.getElem_cons_succ, List.setIfInBounds_toArray, List.set_cons_zero, List.set_cons_succ]
    refine wpAnyH_take (i := 16) (oi := _) (v := ?_) rfl (by kernel_rfl) (by kernel_rfl) (by kernel_rfl) (fun _ _ _ h => h) (Or.inl ⟨by rfl, ?_⟩) (by assumption) ?_
    rotate_left
    · first | (intro w' hSw; (try dsimp only at hSw); go_simp; done) | (intro w' hSw; (try dsimp only at hSw); go_simp; with_reducible rfl)
    try simp only [Act.put, List.getElem_toArray, List.getElem_cons_zero, List.getElem_cons_succ, List.setIfInBounds_toArray, List.set_cons_zero, List.set_cons_succ]
    refine wpAnyH_take (i := 17) (oi := _) (v := ?_) rfl (by kernel_rfl) (by kernel_rfl) (by kernel_rfl) (fun _ _ _ h => h) (Or.inl ⟨by rfl, ?_⟩) (by assumption) ?_
    rotate_left
    · first | (intro w' hSw; (try dsimp only at hSw); go_simp; done) | (intro w' hSw; (try dsimp only at hSw); go_simp; with_reducible rfl)
    try simp only [Act.put, List.getElem_toArray, List.getElem_cons_zero, List.getElem_cons_succ, List.setIfInBounds_toArray, List.set_cons_zero, List.set_cons_succ]
    refine wpAnyH_done (by kernel_rfl) ?_ _
    have HB3 := Lib.hid (fit_keep HB.out HX3.out)
    clear n0 n1 n2 n3 n4 n5 m0 m1 m2 m3 m4 m5 v0 v1 v2 v3 v4 v5 k0 k1 k2 k3 k4 k5
    cases q with
    | false =>
      have HE0 := Lib.hid (underM_no (t := t) (e := e) (ps := ps) (u := u) (a := a) (by rw [HY.out]; have := HQ.out; simp at this; simp [this]))
      go_wp2
      refine bodyPost_ret (v := .tuple #[.slice (some ⟨w.heap.size + 2, 0, none⟩) 0 0, .bool false]) (by simp [results, Try.results32, go_sem]) rfl ?_
      rw [HE0.out]
      exact ⟨_, rfl, rsteps_nil _ _, HB3.out⟩
    | true =>
      have HYE := Lib.hid (show atM t.over e.vars u a = e.left by have := HQ.out; rw [HY.out]; simpa using this)
      have HBL := Lib.hid (movedM_len ps a)
      simp only [Bool.not_true]
      go_wp2
      go_loopw [12, 13, 14] (fun o i b wr => ∃ (j : Nat) (us : List Value), j ≤ ps.length ∧ i = .int .i64 j ∧ wr.ownsRow (w.heap.size + 2) 82 4 o j us ∧ StepsIn wr (w.heap.size + 2) us ((movedM ps a).take j) ∧ Below W.heap.size W wr) (fun _ i _ _ => ps.length - (intOf i).toNat)
      case atStart => exact ⟨0, [], Nat.zero_le _, rfl, HO3.out, fun i p hp => by simp at hp, HX3.out⟩
      case round =>
        obtain ⟨j, us, hj, rfl, ho, hin, hd⟩ := hrel
        obtain ⟨A9, c9, rfl, -⟩ := wide_reads ho
        have HO := Lib.hid ho
        have HIN := Lib.hid hin
        have HD := Lib.hid hd
        have hsd0 := hd.size
        clear ho hin hd
        by_cases hlt : j < ps.length
        · have hlt' : (j : Int) < (ps.length : Int) := by omega
          obtain ⟨b, o, c', y, ee, c0, c1, c2, c3, q0⟩ := (HP.out.keep HD.out).at_ hlt
          cases ee
          have HFK := Lib.hid (HFP.out.2 _ (List.getElem_mem hlt))
          have HTK := Lib.hid (movedM_take (a := a) hlt)
          have HLN := Lib.hid (show ((movedM ps a).take j).length = j by rw [List.length_take, HBL.out]; omega)
          generalize ps[j] = p at q0 c0 c1 c2 HFK HTK
          generalize (movedM ps a).take j = qs at HIN HTK HLN
          have HI := Lib.hid (show RStep wr (.agg #[.int .i64 p.ax, .bool p.back, .int .i64 p.at_, y]) p from ⟨y, rfl, q0⟩)
          obtain ⟨A0, d0, rfl, -⟩ := q0.form
          obtain ⟨z, hz⟩ : ∃ z, IntKind.i64.wrap (p.at_ + a) = z := ⟨_, rfl⟩
          have hmv : moveP a p = ⟨p.ax, p.back, z, p.terms⟩ := by unfold moveP; rw [Int.add_comm a p.at_, hz]
          rw [hmv] at HTK
          clear q0 hmv
          go_wp2_with fail
          refine (l3Copy_any p wr _ HFK.out HI.out).mono ?_
          rintro x w1 ⟨u1, rfl, ⟨rv, rfl, hor⟩, hb⟩
          obtain ⟨A1, d1, rfl, -⟩ := hor.reads.form
          have hb2 := below_alloc w1 (.cells #[.int .i64 p.ax, .bool p.back, .int .i64 p.at_, .slice A1 p.terms.length d1] 82)
          have hl2 : (w1.alloc (.cells #[.int .i64 p.ax, .bool p.back, .int .i64 p.at_, .slice A1 p.terms.length d1] 82)).heap[w1.heap.size]? = some (.cells #[.int .i64 p.ax, .bool p.back, .int .i64 p.at_, .slice A1 p.terms.length d1] 82 (0, 0)) := heap_alloc_new w1 _
          generalize hW4 : w1.alloc (.cells #[.int .i64 p.ax, .bool p.back, .int .i64 p.at_, .slice A1 p.terms.length d1] 82) = W4 at hb2 hl2
          have x2 := blk_cell hl2 2
          have xf := blk_free hl2 2
          simp at x2
          have hl3 : (W4.setCell ⟨w1.heap.size, 2, none⟩ (.int .i64 z)).heap[w1.heap.size]? = some (.cells #[.int .i64 p.ax, .bool p.back, .int .i64 z, .slice A1 p.terms.length d1] 82 (0, 0)) := blk_set hl2 2 _
          have hb3 : Below w1.heap.size w1 (W4.setCell ⟨w1.heap.size, 2, none⟩ (.int .i64 z)) := hb2.setCell (p := ⟨w1.heap.size, 2, none⟩) (Nat.le_refl _) _
          generalize hW3 : W4.setCell ⟨w1.heap.size, 2, none⟩ (.int .i64 z) = W3 at hl3 hb3
          have y0 := blk_cell hl3 0
          have y1 := blk_cell hl3 1
          have y2 := blk_cell hl3 2
          have y3 := blk_cell hl3 3
          simp at y0 y1 y2 y3
          have hbr := sz_keep hb hb3
          have HOW := Lib.hid (own_keep HO.out hbr)
          have HINW := Lib.hid (HIN.out.keep hbr)
          have HDW := Lib.hid (sz_keep HD.out hbr)
          have hsr := hbr.size
          have HRV := Lib.hid ((hor.keep hb3).base (B' := w.heap.size + 2) (by omega))
          clear hb hb2 hb3 hbr hl2 hl3 hor c0 c1 c2 c3
          have HAL := Lib.hid (below_alloc W3 (.cells #[.int .i64 p.ax, .bool p.back, .int .i64 z, .slice A1 p.terms.length d1] 82))
          have HUL := Lib.hid (show us.length = j * 4 from HO.out.1)
          go_wp2_with (at_builtin; refine wpList_append_own _ rfl _ _ 24 rfl (w.heap.size + 2) 82 i0 (.agg #[.int .i64 0, .bool false, .int .i64 0, .slice none 0 0]) 4 48 Try.underlying24 hi0 hz0 hz1 hz2 rfl (by decide) _ j us rfl (own_keep HOW.out HAL.out) ⟨W3.heap.size, 0, none⟩ 1 1 [.int .i64 p.ax, .bool p.back, .int .i64 z, .slice A1 p.terms.length d1] rfl (by simp) (news4 W3 _ _ _ _ _) (one4 _ _ _) (by rw [maxLen_eq]; omega) (by omega) (by simp; omega) ?_)
          intro v6 w6 hv6 hg6 _
          have HN := Lib.hid ((HINW.out.keep HAL.out).push (p := ⟨p.ax, p.back, z, p.terms⟩) (own_keep HOW.out HAL.out) hg6 (by rw [HUL.out, HLN.out]) (HRV.out.keep HAL.out))
          have HD6 := Lib.hid ((HDW.out.trans (HAL.out.mono HDW.out.size)).grown hg6 (by simp; omega) (fun k e => by have := ((own_keep HOW.out HAL.out).lt k e).1; omega))
          obtain ⟨A6, c6, rfl, -⟩ := wide_reads hv6
          have HV6 := Lib.hid hv6
          clear hv6 hg6 hW4 hW3 x2 xf y0 y1 y2 y3 hz
          go_wp2
          go_roundw
          case rel => exact ⟨j + 1, _, by omega, by go_num, HV6.out, by rw [HTK.out]; exact HN.out, HD6.out⟩
          case measure => simp [intOf]; omega
        · have hlt' : ¬ (j : Int) < (ps.length : Int) := by omega
          have hkn : j = ps.length := by omega
          have HRS := Lib.hid (StepsIn.reads HIN.out HO.out (by rw [List.length_take, HBL.out]; omega))
          have HT := Lib.hid (show (movedM ps a).take j = movedM ps a from take_all (by rw [HBL.out]; omega))
          rw [HT.out] at HRS
          have i0 := cell_keep HD.out HC.out.1
          have i1 := cell_keep HD.out HC.out.2.1
          have i2 := cell_keep HD.out HC.out.2.2.1
          have i3 := cell_keep HD.out HC.out.2.2.2.1
          have i4 := cell_keep HD.out HC.out.2.2.2.2.1
          have i5 := cell_keep HD.out HC.out.2.2.2.2.2
          obtain ⟨R, g, hR⟩ : ∃ R g, runM t e.vars u (movedM ps a) = (R, g) := ⟨_, _, rfl⟩
          have HR := Lib.hid hR
          clear hR hkn
          go_wp2_with fail
          refine (specProofRun_any t e.vars u (movedM ps a) _ _ _ _ _ (movedM_small HSP.out) (Ht.out.keep HD.out) (HE.out.1.keep HD.out) (HU.out.keep HD.out) HRS.out).mono ?_
          rw [HR.out]
          rintro x w6 ⟨y6, rfl, ho6, hb6⟩
          simp only at ho6 ⊢
          have HB6 := Lib.hid hb6
          have HR6 := Lib.hid (HRS.out.keep hb6)
          clear i0 i1 i2 i3 i4 i5 ho6 hb6
          cases g with
          | false =>
            have HE0 := Lib.hid (underM_no (t := t) (e := e) (ps := ps) (u := u) (a := a) (by rw [HR.out]; simp))
            go_wp2
            refine bodyPost_ret (v := .tuple #[.slice (some ⟨w6.heap.size, 0, none⟩) 0 0, .bool false]) (by simp [results, Try.results32, go_sem]) rfl ?_
            rw [HE0.out]
            exact ⟨_, rfl, rsteps_nil _ _, fit_keep (fit_keep (fit_keep HB.out HD.out) HB6.out) (below_alloc _ _)⟩
          | true =>
            have HE0 := Lib.hid (underM_yes (t := t) (e := e) (ps := ps) (u := u) (a := a) ⟨HPB.out, HYE.out, by rw [HR.out]⟩)
            go_wp2
            refine bodyPost_ret (v := .tuple #[.slice A9 j c9, .bool true]) (by simp [results, Try.results32, go_sem]) rfl ?_
            rw [HE0.out]
            exact ⟨_, rfl, HR6.out, fit_keep (fit_keep HB.out HD.out) HB6.out⟩
end
end Go.Proofs.Ytonainidjkcoeac
