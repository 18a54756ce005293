/- The exact laws' marks of lists of steps, to the number: markStepS, heldStepS. -/
import Derived.Test.YtonainidjkcoeacSz2
namespace Go.Proofs.Ytonainidjkcoeac
open Go.RowKit
set_option linter.unusedVariables false

theorem own_cutTo {wr : World} {B M : Nat} {e : TypeId} {size n : Nat} {v : Value} {zs : List Value} (h : wr.ownsRow B e size v n zs) (hv : ∀ g, v.ownBlock = some g → g < M) : (cutTo wr M).ownsRow B e size v n zs := by
  refine ⟨h.1, ?_⟩
  rcases h.2 with h2 | ⟨g, cap, cur, rfl, hg, hh, r⟩
  · exact .inl h2
  · exact .inr ⟨g, cap, cur, rfl, hg, (cut_block (hv g rfl)).trans hh, r⟩
theorem MarkP.cut {w wr : World} {B M : Nat} {v : Value} {us : List Value} {rows : List (List Int)} {k0 : Int} {k : Nat} (h : MarkP w wr B M v us rows k0 k) (hk : k = rows.length) (hv : ∀ g, v.ownBlock = some g → g < M) : ORows (cutTo wr M) B v (marksR k0 rows) := by
  refine ⟨us, by rw [marksR_len]; exact own_cutTo h.own hv, by rw [marksR_len]; exact h.len, fun j u r hu hr => ?_, h.apart⟩
  rw [marksR_at] at hr
  obtain ⟨row, hrow, rfl⟩ := Option.map_eq_some_iff.1 hr
  exact own_cutTo (h.done j u row (by rw [hk]; exact (List.getElem?_eq_some_iff.1 hrow).1) hu hrow) fun g hg => (h.low j u hu g hg).2

set_option maxRecDepth 100000 in
theorem markIntSSc_any (v : Value) (B : Nat) (rows : List (List Int)) (k0 : Int) (w0 w : World) (h : ORows w0 B v rows) (hb : Below w0.heap.size w0 w) (hs : rows.length ≤ 1048576) (hs2 : ∀ row ∈ rows, row.length ≤ 1048576) (h0 : 0 ≤ k0) (h1 : k0 ≤ 100000000000000) :
    Calls Try.prog 31 #[v, .int .i64 k0] w fun e w' => e = .returned (.int .i64 (k0 + (tot rows : Int))) ∧ ORows (cutTo w' w0.heap.size) B v (marksR k0 rows) ∧ Outside B w0.heap.size w w' := by
  obtain ⟨us, hm0⟩ := MarkP.start k0 h hb
  have HVL := Lib.hid (show ∀ g, v.ownBlock = some g → g < w0.heap.size from fun g hg => by obtain ⟨us', q1, -⟩ := h; exact (own_lt q1 g hg).2)
  have HM0 := Lib.hid hm0
  have HS2 := Lib.hid hs2
  obtain ⟨A, c, rfl, -⟩ := own_reads hm0.own
  clear h hb hm0 hs2
  go_enter Try.func31, Try.ntmps31
  go_wp2
  go_loopw [1, 5] (fun l i wr => ∃ k : Nat, k ≤ rows.length ∧ i = .int .i64 k ∧ l = .int .i64 (k0 + (tot (rows.take k) : Int)) ∧ MarkP w wr B w0.heap.size (.slice A rows.length c) us rows k0 k) (fun _ i _ => rows.length - (intOf i).toNat)
  case atStart => exact ⟨0, Nat.zero_le _, rfl, by simp [tot], HM0.out⟩
  case round =>
    obtain ⟨k, hk, rfl, rfl, hm⟩ := hrel
    have HM := Lib.hid hm
    clear hm
    have htt : (tot (rows.take k) : Int) ≤ 1048576 * 1048576 := by
      have := tot_le (rows := rows.take k) (fun row hr => HS2.out row (List.mem_of_mem_take hr))
      rw [List.length_take] at this
      omega
    by_cases hlt : k < rows.length
    · have hul : k < us.length := by rw [HM.out.len]; exact hlt
      have HYO := Lib.hid (HM.out.todo k us[k] rows[k] (Nat.le_refl _) (List.getElem?_eq_getElem hul) (List.getElem?_eq_getElem hlt))
      have hrl := HS2.out _ (List.getElem_mem hlt)
      obtain ⟨A0, c0, e0, -, -, hcells⟩ := own_reads HM.out.own
      cases e0
      obtain ⟨b, o, ea, hcell⟩ := hcells k us[k] (List.getElem?_eq_getElem hul)
      subst ea
      have HU := Lib.hid (List.getElem?_eq_getElem hul)
      have HR := Lib.hid (List.getElem?_eq_getElem hlt)
      have HTT := Lib.hid (tot_take hlt)
      generalize us[k] = u at HYO hcell HU
      generalize rows[k] = row at HYO HR hrl HTT
      obtain ⟨Au, cu, rfl, -⟩ := own_reads HYO.out
      clear hcells hul
      generalize hto : tot (rows.take k) = T at HTT htt
      have HTO := Lib.hid hto
      clear hto
      go_wp2_with fail
      refine (markIntS_any _ B row _ _ HYO.out hrl (by omega) (by omega)).mono ?_
      rintro e w1 ⟨rfl, ho, hg, hz⟩
      have HN := Lib.hid (HM.out.step HU.out HR.out (by rw [HTO.out]; exact ho) hg hz)
      have hyl : (row.length : Int) ≤ 1048576 := by omega
      clear ho hg hz
      go_wp2
      go_roundw
      case rel => exact ⟨k + 1, by omega, by go_num, by rw [HTT.out]; go_num, HN.out⟩
      case measure => simp [intOf]; omega
    · have hkn : k = rows.length := by omega
      have HKN := Lib.hid hkn
      clear hkn
      go_wp2
      go_ret
      have r1 := HM.out.cut HKN.out HVL.out
      have r2 := HM.out.frame
      refine ⟨?_, r1, r2⟩
      have e := HKN.out
      have e2 : tot (rows.take k) = tot rows := by rw [take_all (by omega)]
      exact ret_int (by rw [e2])


/-- the number with which a step's marks begin -/
def mkAt (k0 : Int) (ps : List MStep) (j : Nat) : Int := k0 + 3 * (j : Int) + (totP (ps.take j) : Int)
def markP (k : Int) (p : MStep) : MStep := ⟨k, (k + 1) % 3 == 0, k + 1 + 1, marksR (k + 1 + 1 + 1) p.terms⟩
def marksPs (k : Int) : List MStep → List MStep
  | [] => []
  | p :: ps => markP k p :: marksPs (k + 3 + (tot p.terms : Int)) ps
theorem marksPs_at : ∀ (ps : List MStep) (k : Int) (j : Nat), (marksPs k ps)[j]? = (ps[j]?).map fun p => markP (mkAt k ps j) p
  | [], k, j => by simp [marksPs]
  | p :: ps, k, 0 => by simp [marksPs, mkAt, totP]
  | p :: ps, k, j + 1 => by
    simp only [marksPs, List.getElem?_cons_succ, marksPs_at ps]
    congr 1
    funext x
    congr 1
    simp only [mkAt, List.take_succ_cons, totP]
    omega
theorem marksPs_len : ∀ (ps : List MStep) (k : Int), (marksPs k ps).length = ps.length
  | [], k => rfl
  | p :: ps, k => by simp [marksPs, marksPs_len ps]

structure MarkQ (w wr : World) (B M g c n : Nat) (us : Nat → Value) (rg : Nat → Nat × Nat) (ps : List MStep) (k0 : Int) (k : Nat) : Prop where
  blk : ∃ cur : Array Value, wr.heap[g]? = some (.cells cur 82 (0, 0)) ∧ cur.size = c * 4 ∧ (∀ j, j < n → cur[j * 4 + 3]? = some (us j)) ∧
    ∀ j, j < k → cur[j * 4]? = some (.int .i64 (mkAt k0 ps j)) ∧ cur[j * 4 + 1]? = some (.bool ((mkAt k0 ps j + 1) % 3 == 0)) ∧ cur[j * 4 + 2]? = some (.int .i64 (mkAt k0 ps j + 1 + 1))
  done : ∀ j p, j < k → ps[j]? = some p → InR wr (rg j) (us j) (marksR (mkAt k0 ps j + 1 + 1 + 1) p.terms)
  todo : ∀ j p, k ≤ j → ps[j]? = some p → InR wr (rg j) (us j) p.terms
  rng : ∀ j p, ps[j]? = some p → B ≤ (rg j).1 ∧ (rg j).2 ≤ M ∧ (g < (rg j).1 ∨ (rg j).2 ≤ g)
  frame : Outside B M w wr
section
variable {w wr w1 : World} {B M g c n : Nat} {us : Nat → Value} {rg : Nat → Nat × Nat} {ps : List MStep} {k0 : Int} {k : Nat}
theorem MarkQ.cell (h : MarkQ w wr B M g c n us rg ps k0 k) {j : Nat} (hj : j < c * 4) : ∃ u, wr.cell? ⟨g, j, none⟩ = some u ∧ wr.frozen? ⟨g, j, none⟩ = false := by
  obtain ⟨cur, h1, h2, h3⟩ := h.blk
  exact ⟨cur[j]'(by omega), (blk_cell h1 j).trans (Array.getElem?_eq_getElem (by omega)), blk_free h1 j⟩
/-- a cell of the step at hand is stored -/
theorem MarkQ.set (h : MarkQ w wr B M g c n us rg ps k0 k) (hg : B ≤ g) (hM : g < M) {i : Nat} (hi : i % 4 ≠ 3) (hik : k * 4 ≤ i) (u : Value) : MarkQ w (wr.setCell ⟨g, i, none⟩ u) B M g c n us rg ps k0 k := by
  obtain ⟨cur, h1, h2, h3, h4⟩ := h.blk
  refine ⟨⟨_, blk_set h1 i u, by simpa using h2, fun j hj => ?_, fun j hj => ?_⟩, fun j p hj hp => ?_, fun j p hj hp => ?_, h.rng, h.frame.set hg hM u⟩
  · rw [Array.getElem?_setIfInBounds, if_neg (by omega)]
    exact h3 j hj
  · rw [Array.getElem?_setIfInBounds, if_neg (by omega), Array.getElem?_setIfInBounds, if_neg (by omega), Array.getElem?_setIfInBounds, if_neg (by omega)]
    exact h4 j hj
  · have := h.rng j p hp
    exact (h.done j p hj hp).same fun x x1 x2 => Below.heap_setCell wr ⟨g, i, none⟩ u x (by show x ≠ g; omega)
  · have := h.rng j p hp
    exact (h.todo j p hj hp).same fun x x1 x2 => Below.heap_setCell wr ⟨g, i, none⟩ u x (by show x ≠ g; omega)
theorem MarkQ.step {x : Int} (h : MarkQ w wr B M g c n us rg ps k0 k) (hx : x = mkAt k0 ps k) (hg : B ≤ g) (hM : g < M) (hk : k < ps.length) (hn : n = ps.length) (hc : n ≤ c) (hap : ∀ i j, i < j → j < ps.length → (rg i).2 ≤ (rg j).1 ∨ (rg j).2 ≤ (rg i).1)
    (ho : Outside (rg k).1 (rg k).2 (((wr.setCell ⟨g, k * 4, none⟩ (.int .i64 x)).setCell ⟨g, k * 4 + 1, none⟩ (.bool ((x + 1) % 3 == 0))).setCell ⟨g, k * 4 + 2, none⟩ (.int .i64 (x + 1 + 1))) w1) (hm : InR w1 (rg k) (us k) (marksR (x + 1 + 1 + 1) ps[k].terms)) :
    MarkQ w w1 B M g c n us rg ps k0 (k + 1) := by
  subst hx
  have hf := ((h.set hg hM (i := k * 4) (by omega) (by omega) (.int .i64 (mkAt k0 ps k))).set hg hM (i := k * 4 + 1) (by omega) (by omega) (.bool ((mkAt k0 ps k + 1) % 3 == 0))).set hg hM (i := k * 4 + 2) (by omega) (by omega) (.int .i64 (mkAt k0 ps k + 1 + 1))
  obtain ⟨cur, h1, h2, h3, h4⟩ := h.blk
  have hb := blk_set (blk_set (blk_set h1 (k * 4) (.int .i64 (mkAt k0 ps k))) (k * 4 + 1) (.bool ((mkAt k0 ps k + 1) % 3 == 0))) (k * 4 + 2) (.int .i64 (mkAt k0 ps k + 1 + 1))
  obtain ⟨b, d, e⟩ := h.rng k ps[k] (List.getElem?_eq_getElem hk)
  refine ⟨⟨_, (ho.block g (by omega)).trans hb, by simpa using h2, fun j hj => ?_, fun j hj => ?_⟩, fun j p hj hp => ?_, fun j p hj hp => ?_, h.rng, hf.frame.trans (ho.mono b d)⟩
  · rw [Array.getElem?_setIfInBounds, if_neg (by omega), Array.getElem?_setIfInBounds, if_neg (by omega), Array.getElem?_setIfInBounds, if_neg (by omega)]
    exact h3 j hj
  · by_cases hjk : j = k
    · subst hjk
      refine ⟨?_, ?_, ?_⟩
      · rw [Array.getElem?_setIfInBounds, if_neg (by omega), Array.getElem?_setIfInBounds, if_neg (by omega), Array.getElem?_setIfInBounds, if_pos rfl, if_pos (by omega)]
      · rw [Array.getElem?_setIfInBounds, if_neg (by omega), Array.getElem?_setIfInBounds, if_pos rfl, if_pos (by simp; omega)]
      · rw [Array.getElem?_setIfInBounds, if_pos rfl, if_pos (by simp; omega)]
    · obtain ⟨a1, a2, a3⟩ := h4 j (by omega)
      refine ⟨?_, ?_, ?_⟩ <;> (rw [Array.getElem?_setIfInBounds, if_neg (by omega), Array.getElem?_setIfInBounds, if_neg (by omega), Array.getElem?_setIfInBounds, if_neg (by omega)]; assumption)
  · by_cases hjk : j = k
    · subst hjk
      rw [List.getElem?_eq_getElem hk] at hp
      cases hp
      exact hm
    · refine (hf.done j p (by omega) hp).same fun x x1 x2 => ho.block x ?_
      have := hap j k (by omega) hk
      omega
  · refine (hf.todo j p (by omega) hp).same fun x x1 x2 => ho.block x ?_
    have := hap k j (by omega) (List.getElem?_eq_some_iff.1 hp).1
    omega
theorem MarkQ.all (h : MarkQ w wr B M g c ps.length us rg ps k0 k) (hk : k = ps.length) (hg : B ≤ g) (hc : ps.length ≤ c) (hc2 : c ≤ 9223372036854775807) (hM : M ≤ wr.heap.size) (hap : ∀ i j, i < j → j < ps.length → (rg i).2 ≤ (rg j).1 ∨ (rg j).2 ≤ (rg i).1) :
    OSteps wr B (.slice (some ⟨g, 0, none⟩) ps.length c) (marksPs k0 ps) := by
  obtain ⟨cur, h1, h2, h3, h4⟩ := h.blk
  refine ⟨g, c, cur, rg, by rw [marksPs_len], hg, h1, by rw [marksPs_len]; exact hc, hc2, h2, fun j p hj => ?_, fun i j hij hj => hap i j hij (by rw [marksPs_len] at hj; exact hj)⟩
  rw [marksPs_at] at hj
  obtain ⟨q, hq, rfl⟩ := Option.map_eq_some_iff.1 hj
  have hjl := (List.getElem?_eq_some_iff.1 hq).1
  obtain ⟨a1, a2, a3⟩ := h4 j (by omega)
  obtain ⟨r1, r2, r3⟩ := h.rng j q hq
  exact ⟨us j, a1, a2, a3, h3 j hjl, h.done j q (by omega) hq, r1, by omega, r3⟩
end
end Go.Proofs.Ytonainidjkcoeac
