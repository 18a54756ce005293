/- The marks of a list of rows, to the number: markIntSS, heldIntSS, markSig, heldSig. · The exact laws' marks of a result that lies between others: worlds cut off at a size. No walk. · VarsOk of both packages. · Maps of signatures: how they read, how those that a call has made lie; the exact laws' measure, copy and comparison of one. · The plain functions of maps of signatures. No walk. · raisedRow, OpTakes of both packages. · OpTakes of both packages. · Rows led by a map: ledRow (impl), l4Row, l4Term (spec). · slices.Equal on rows of numbers. · l1Same: rows compared (package spec). · MapOk of both packages. · A local struct whose rows are filled, one after the other, by append. No walk. · slices.Clone of a row of numbers. · A local struct of which a list of rows is filled by append. No walk. · The exact laws' measure, copy and comparison of lists of equations: szEqS, toEqS, eqEqS. · The exact laws' measure, copy and comparison of a theory: szTheory, toTheory, eqTheory. · Models: how they read, how those that a call has made lie; the exact laws' measure, copy and comparison of one. -/
import Derived.Test.YtkhabmoidpgapaaK015ad9ad
import Derived.Deep.RegionHeld3
import Derived.Deep.OwnRows
import Derived.Deep.AppendLies
import Derived.Deep.DeepMust
import Derived.Lib.SliceRun
namespace Go.Proofs.Ytkhabmoidpgapaa
section
open Go.RowKit
set_option linter.unusedVariables false

def tot (rows : List (List Int)) : Nat := (rows.map List.length).sum
theorem tot_take {rows : List (List Int)} {k : Nat} (hk : k < rows.length) : tot (rows.take (k + 1)) = tot (rows.take k) + rows[k].length := by
  unfold tot; rw [List.take_succ_eq_append_getElem hk, List.map_append, List.sum_append]; simp
def marksR (k : Int) : List (List Int) → List (List Int)
  | [] => []
  | r :: rs => marks k r.length :: marksR (k + (r.length : Int)) rs
theorem marksR_at (rows : List (List Int)) : ∀ (k : Int) (j : Nat), (marksR k rows)[j]? = (rows[j]?).map fun r => marks (k + (tot (rows.take j) : Int)) r.length := by
  induction rows with
  | nil => intro k j; simp [marksR]
  | cons r rs ih =>
    intro k j
    cases j with
    | zero => simp [marksR, tot]
    | succ j =>
      simp only [marksR, List.getElem?_cons_succ, ih, List.take_succ_cons]
      congr 1
      funext x
      congr 1
      simp [tot]
      omega
theorem marksR_len (rows : List (List Int)) : ∀ k, (marksR k rows).length = rows.length := by
  induction rows with
  | nil => intro k; rfl
  | cons r rs ih => intro k; simp [marksR, ih]
theorem tot_le {rows : List (List Int)} (h : ∀ row ∈ rows, row.length ≤ 1048576) : tot rows ≤ 1048576 * rows.length := by
  unfold tot
  induction rows with
  | nil => simp
  | cons r rs ih =>
    have h1 := h r (List.mem_cons_self ..)
    have h2 := ih (fun row hr => h row (List.mem_cons_of_mem _ hr))
    simp only [List.map_cons, List.sum_cons, List.length_cons]
    omega

structure MarkP (w wr : World) (B M : Nat) (v : Value) (us : List Value) (rows : List (List Int)) (k0 : Int) (k : Nat) : Prop where
  own : wr.ownsRow B 26 1 v rows.length us
  len : us.length = rows.length
  done : ∀ (j : Nat) (u : Value) (row : List Int), j < k → us[j]? = some u → rows[j]? = some row → OInts wr B u (marks (k0 + (tot (rows.take j) : Int)) row.length)
  todo : ∀ (j : Nat) (u : Value) (row : List Int), k ≤ j → us[j]? = some u → rows[j]? = some row → OInts wr B u row
  apart : ∀ (i j : Nat) (u u' : Value), i < j → us[i]? = some u → us[j]? = some u' → u.ownBlock = none ∨ u.ownBlock ≠ u'.ownBlock
  low : ∀ (j : Nat) (u : Value), us[j]? = some u → ∀ k, u.ownBlock = some k → B ≤ k ∧ k < M
  frame : Outside B M w wr
theorem MarkP.start {w0 w : World} {B : Nat} {v : Value} {rows : List (List Int)} (k0 : Int) (h : ORows w0 B v rows) (hb : Below w0.heap.size w0 w) : ∃ us, MarkP w w B w0.heap.size v us rows k0 0 := by
  obtain ⟨us, h1, h2, h3, h4⟩ := h
  refine ⟨us, own_keep h1 hb, h2, fun j u row hj => by omega, fun j u row _ hu hr => (h3 j u row hu hr).keep hb, h4, fun j u hu k hk => ?_, Outside.refl _ _ _⟩
  have hj : j < rows.length := by rw [← h2]; exact (List.getElem?_eq_some_iff.1 hu).1
  exact own_lt (h3 j u _ hu (List.getElem?_eq_getElem hj)) k hk
theorem MarkP.step {w wr w1 : World} {B M : Nat} {v u : Value} {us : List Value} {rows : List (List Int)} {k0 : Int} {j : Nat} {row0 : List Int} (h : MarkP w wr B M v us rows k0 j) (hu : us[j]? = some u) (hr : rows[j]? = some row0)
    (hy : OInts w1 B u (marks (k0 + (tot (rows.take j) : Int)) row0.length)) (hg : wr.grownBy w1 u.ownBlock) (hz : w1.heap.size = wr.heap.size) : MarkP w w1 B M v us rows k0 (j + 1) := by
  have hxs := h.todo j u row0 (Nat.le_refl _) hu hr
  have other : ∀ {i : Nat} {x : Value} {zs : List Int}, i ≠ j → us[i]? = some x → OInts wr B x zs → OInts w1 B x zs := fun {i x zs} hij hx hz => by
    refine own_grown hz hg ?_
    rcases Nat.lt_or_gt_of_ne hij with hlt | hgt
    · exact h.apart i j x u hlt hx hu
    · rcases h.apart j i u x hgt hu hx with e | e
      · rw [e]
        cases x.ownBlock with
        | none => exact .inl rfl
        | some k => right; simp
      · exact .inr (fun e' => e e'.symm)
  refine ⟨own_grown h.own hg (own_ne h.own hxs (by decide)), h.len, fun i x row hi hx hrow => ?_, fun i x row hi hx hrow => ?_, h.apart, h.low, h.frame.trans ⟨hg.os, hg.tape, hg.output, hz, fun k hk => ?_⟩⟩
  · by_cases hij : i = j
    · subst hij
      rw [hu] at hx
      rw [hr] at hrow
      cases hx
      cases hrow
      exact hy
    · exact other hij hx (h.done i x row (by omega) hx hrow)
  · exact other (by omega) hx (h.todo i x row (by omega) hx hrow)
  · by_cases hkl : k < wr.heap.size
    · exact hg.block k hkl (fun e => by have := h.low j u hu k e.symm; omega)
    · rw [Array.getElem?_eq_none (by omega), Array.getElem?_eq_none (by omega)]
theorem MarkP.all {w wr : World} {B M : Nat} {v : Value} {us : List Value} {rows : List (List Int)} {k0 : Int} {k : Nat} (h : MarkP w wr B M v us rows k0 k) (hk : k = rows.length) : ORows wr B v (marksR k0 rows) ∧ Outside B M w wr := by
  refine ⟨⟨us, by rw [marksR_len]; exact h.own, by rw [marksR_len]; exact h.len, fun j u r hu hr => ?_, h.apart⟩, h.frame⟩
  rw [marksR_at] at hr
  obtain ⟨row, hrow, rfl⟩ := Option.map_eq_some_iff.1 hr
  exact h.done j u row (by rw [hk]; exact (List.getElem?_eq_some_iff.1 hrow).1) hu hrow

theorem markIntSSp_any (v : Value) (B : Nat) (rows : List (List Int)) (k0 : Int) (w0 w : World) (h : ORows w0 B v rows) (hb : Below w0.heap.size w0 w) (hs : rows.length ≤ 1048576) (hs2 : ∀ row ∈ rows, row.length ≤ 1048576) (h0 : 0 ≤ k0) (h1 : k0 ≤ 100000000000000) :
    Calls Try.prog 44 #[v, .int .i64 k0] w fun e w' => e = .returned (.int .i64 (k0 + (tot rows : Int))) ∧ ORows w' B v (marksR k0 rows) ∧ Outside B w0.heap.size w w' := by
  obtain ⟨us, hm0⟩ := MarkP.start k0 h hb
  have HM0 := Lib.hid hm0
  have HS2 := Lib.hid hs2
  obtain ⟨A, c, rfl, -⟩ := own_reads hm0.own
  clear h hb hm0 hs2
  go_enter Try.func44, Try.ntmps44
  go_wp2
  go_loopw [1, 5] (fun l i wr => ∃ k : Nat, k ≤ rows.length ∧ i = .int .i64 k ∧ l = .int .i64 (k0 + (tot (rows.take k) : Int)) ∧ MarkP w wr B w0.heap.size (.slice A rows.length c) us rows k0 k) (fun _ i _ => rows.length - (intOf i).toNat)
  case atStart => exact ⟨0, Nat.zero_le _, rfl, by simp [tot], HM0.out⟩
  case round =>
    obtain ⟨k, hk, rfl, rfl, hm⟩ := hrel
    have HM := Lib.hid hm
    clear hm
    have htt : (tot (rows.take k) : Int) ≤ 1048576 * 1048576 := by
      have := tot_le (rows := rows.take k) (fun row hr => HS2.out row (List.mem_of_mem_take hr))
      rw [List.length_take] at this
      omega
    by_cases hlt : k < rows.length
    · have hul : k < us.length := by rw [HM.out.len]; exact hlt
      have HYO := Lib.hid (HM.out.todo k us[k] rows[k] (Nat.le_refl _) (List.getElem?_eq_getElem hul) (List.getElem?_eq_getElem hlt))
      have hrl := HS2.out _ (List.getElem_mem hlt)
      obtain ⟨A0, c0, e0, -, -, hcells⟩ := own_reads HM.out.own
      cases e0
      obtain ⟨b, o, ea, hcell⟩ := hcells k us[k] (List.getElem?_eq_getElem hul)
      subst ea
      have HU := Lib.hid (List.getElem?_eq_getElem hul)
      have HR := Lib.hid (List.getElem?_eq_getElem hlt)
      have HTT := Lib.hid (tot_take hlt)
      generalize us[k] = u at HYO hcell HU
      generalize rows[k] = row at HYO HR hrl HTT
      obtain ⟨Au, cu, rfl, -⟩ := own_reads HYO.out
      clear hcells hul
      generalize hto : tot (rows.take k) = T at HTT htt
      have HTO := Lib.hid hto
      clear hto
      go_wp2_with fail
      refine (markIntS_any _ B row _ _ HYO.out hrl (by omega) (by omega)).mono ?_
      rintro e w1 ⟨rfl, ho, hg, hz⟩
      have HN := Lib.hid (HM.out.step HU.out HR.out (by rw [HTO.out]; exact ho) hg hz)
      have hyl : (row.length : Int) ≤ 1048576 := by omega
      clear ho hg hz
      go_wp2
      go_roundw
      case rel => exact ⟨k + 1, by omega, by go_num, by rw [HTT.out]; go_num, HN.out⟩
      case measure => simp [intOf]; omega
    · have hkn : k = rows.length := by omega
      have HKN := Lib.hid hkn
      clear hkn
      go_wp2
      go_ret
      obtain ⟨r1, r2⟩ := HM.out.all HKN.out
      refine ⟨?_, r1, r2⟩
      have e := HKN.out
      have e2 : tot (rows.take k) = tot rows := by rw [take_all (by omega)]
      exact ret_int (by rw [e2])

theorem heldIntSS_any (v : Value) (rows : List (List Int)) (k0 : Int) (w : World) (h : RRows w v (marksR k0 rows)) (hs : rows.length ≤ 1048576) (hs2 : ∀ row ∈ rows, row.length ≤ 1048576) (h0 : 0 ≤ k0) (h1 : k0 ≤ 100000000000000) :
    Calls Try.prog 45 #[v, .int .i64 k0] w fun e w' => e = .returned (.int .i64 (k0 + (tot rows : Int))) ∧ Drawn w w' := by
  have H := Lib.hid h
  have HS2 := Lib.hid hs2
  obtain ⟨A, c, e, -⟩ := h.form
  rw [marksR_len] at e
  subst e
  clear h hs2
  go_enter Try.func45, Try.ntmps45
  go_wp2
  go_loopw [1, 5] (fun l i wr => ∃ k : Nat, k ≤ rows.length ∧ i = .int .i64 k ∧ l = .int .i64 (k0 + (tot (rows.take k) : Int)) ∧ Drawn w wr) (fun _ i _ => rows.length - (intOf i).toNat)
  case atStart => exact ⟨0, Nat.zero_le _, rfl, by simp [tot], Drawn.refl _⟩
  case round =>
    obtain ⟨k, hk, rfl, rfl, hd⟩ := hrel
    have HD := Lib.hid hd
    clear hd
    have htt : (tot (rows.take k) : Int) ≤ 1048576 * 1048576 := by
      have := tot_le (rows := rows.take k) (fun row hr => HS2.out row (List.mem_of_mem_take hr))
      rw [List.length_take] at this
      omega
    by_cases hlt : k < rows.length
    · obtain ⟨b, o, c', u, e, hx, hri⟩ := (H.out.keep HD.out.below).at_ (k := k) (by rw [marksR_len]; exact hlt)
      rw [marksR_len] at e
      cases e
      have hrow : (marksR k0 rows)[k]'(by rw [marksR_len]; exact hlt) = marks (k0 + (tot (rows.take k) : Int)) rows[k].length := by
        have := marksR_at rows k0 k
        rw [List.getElem?_eq_getElem (by rw [marksR_len]; exact hlt), List.getElem?_eq_getElem hlt] at this
        simpa using this
      rw [hrow] at hri
      have hrl := HS2.out _ (List.getElem_mem hlt)
      have HTT := Lib.hid (tot_take hlt)
      clear hrow
      generalize rows[k] = row at hri hrl HTT
      obtain ⟨A1, c1, e1, -⟩ := hri.form
      rw [marks_len] at e1
      subst e1
      have HI := Lib.hid hri
      clear hri
      generalize hto : tot (rows.take k) = T at HTT htt HI
      clear hto
      go_wp2_with fail
      refine (heldIntS_any _ row.length _ _ HI.out hrl (by omega) (by omega)).mono ?_
      rintro e w1 ⟨rfl, hd1⟩
      have HD1 := Lib.hid (HD.out.trans hd1)
      have hyl : (row.length : Int) ≤ 1048576 := by omega
      clear hd1
      go_wp2
      go_roundw
      case rel => exact ⟨k + 1, by omega, by go_num, by rw [HTT.out]; go_num, HD1.out⟩
      case measure => simp [intOf]; omega
    · have hkn : k = rows.length := by omega
      have HKN := Lib.hid hkn
      clear hkn
      go_wp2
      go_ret
      have e2 : tot (rows.take k) = tot rows := by have e := HKN.out; rw [take_all (by omega)]
      exact ⟨ret_int (by rw [e2]), HD.out⟩

theorem markSigp_any (v : Value) (B : Nat) (s : MSig) (k0 : Int) (w0 w : World) (h : OSig w0 B v s) (hb : Below w0.heap.size w0 w) (hs : s.ops.length ≤ 1048576) (hs2 : ∀ row ∈ s.ops, row.length ≤ 1048576) (h0 : 0 ≤ k0) (h1 : k0 ≤ 100000000000000) :
    Calls Try.prog 42 #[v, .int .i64 k0] w fun e w' => e = .returned (.int .i64 (k0 + (tot s.ops : Int))) ∧ OSig w' B v ⟨s.sorts, marksR k0 s.ops⟩ ∧ ∃ o, Outside B w0.heap.size (w.alloc o) w' := by
  obtain ⟨u, rfl, ho⟩ := h
  obtain ⟨sorts, ops⟩ := s
  have HO := Lib.hid ho
  have HB := Lib.hid (hb.trans ((below_alloc w (.cells #[.int .i64 sorts, u] 25)).mono hb.size))
  have HS := Lib.hid (And.intro hs hs2)
  obtain ⟨A, c, rfl, -⟩ := ho.reads.form
  clear ho hb hs hs2
  go_enter Try.func42, Try.ntmps42
  go_wp2_with fail
  refine (markIntSSp_any _ B ops _ w0 _ HO.out HB.out HS.out.1 HS.out.2 h0 h1).mono ?_
  rintro e w1 ⟨rfl, hm, hout⟩
  have HOUT := Lib.hid hout
  have HM := Lib.hid hm
  clear hout hm
  go_wp2
  go_ret
  exact ⟨rfl, ⟨_, rfl, HM.out⟩, _, HOUT.out⟩
end

section
open Go.RowKit
set_option linter.unusedVariables false

def cutTo (w : World) (M : Nat) : World := { w with heap := w.heap.extract 0 M }
theorem cut_size {w : World} {M : Nat} (h : M ≤ w.heap.size) : (cutTo w M).heap.size = M := by
  show (w.heap.extract 0 M).size = M
  rw [Array.size_extract]; omega
theorem cut_block {w : World} {M k : Nat} (hk : k < M) : (cutTo w M).heap[k]? = w.heap[k]? := by
  show (w.heap.extract 0 M)[k]? = w.heap[k]?
  rw [Array.getElem?_extract]
  by_cases h : k < w.heap.size
  · rw [if_pos (by omega)]; congr 1; omega
  · rw [if_neg (by omega), Array.getElem?_eq_none (by omega)]
theorem cut_below {w : World} {M : Nat} (h : M ≤ w.heap.size) : Below (cutTo w M).heap.size (cutTo w M) w := by
  rw [cut_size h]
  exact ⟨rfl, rfl, rfl, by rw [cut_size h]; exact h, fun k hk => (cut_block hk).symm⟩

section
variable {w w' : World} {B B' M : Nat} {v u : Value} {xs : List Int} {rows : List (List Int)} {s : MSig}
theorem own_same {e : TypeId} {size n : Nat} {zs : List Value} (h : w.ownsRow B e size v n zs) (hk : ∀ k, B ≤ k → k < w.heap.size → w'.heap[k]? = w.heap[k]?) : w'.ownsRow B e size v n zs := by
  refine ⟨h.1, ?_⟩
  rcases h.2 with h2 | ⟨g, cap, cur, rfl, hg, hh, r⟩
  · exact .inl h2
  · exact .inr ⟨g, cap, cur, rfl, hg, (hk g hg (Array.getElem?_eq_some_iff.1 hh).1).trans hh, r⟩
theorem OInts.same (h : OInts w B v xs) (hk : ∀ k, B ≤ k → k < w.heap.size → w'.heap[k]? = w.heap[k]?) : OInts w' B v xs := own_same h hk
theorem ORows.same (h : ORows w B v rows) (hk : ∀ k, B ≤ k → k < w.heap.size → w'.heap[k]? = w.heap[k]?) : ORows w' B v rows := by
  obtain ⟨us, h1, h2, h3, h4⟩ := h
  exact ⟨us, own_same h1 hk, h2, fun j u row a b => (h3 j u row a b).same hk, h4⟩
theorem OSig.same (h : OSig w B v s) (hk : ∀ k, B ≤ k → k < w.heap.size → w'.heap[k]? = w.heap[k]?) : OSig w' B v s := by
  obtain ⟨u, e, h⟩ := h; exact ⟨u, e, h.same hk⟩
end
/-- of w's blocks those from A on and below its size lie in w' as they were -/
def Keeps (A : Nat) (w w' : World) : Prop := ∀ k, A ≤ k → k < w.heap.size → w'.heap[k]? = w.heap[k]?
theorem Keeps.refl (A : Nat) (w : World) : Keeps A w w := fun _ _ _ => rfl
theorem Keeps.below {A : Nat} {w w1 w2 : World} (h : Keeps A w w1) (hs : w.heap.size ≤ w1.heap.size) (hb : Below w1.heap.size w1 w2) : Keeps A w w2 := fun k h1 h2 => (hb.block k (by omega)).trans (h k h1 h2)
theorem Keeps.outside {A B M : Nat} {w w1 w2 : World} (h : Keeps A w w1) (ho : Outside B M w1 w2) (hM : M ≤ A) : Keeps A w w2 := fun k h1 h2 => (ho.block k (.inr (by omega))).trans (h k h1 h2)
theorem Keeps.cell {A : Nat} {w w' : World} (h : Keeps A w w') {b o : Nat} {u : Value} (hA : A ≤ b) (hc : w.cell? ⟨b, o, none⟩ = some u) : w'.cell? ⟨b, o, none⟩ = some u :=
  (World.cell?_of_block (h b hA (World.block_lt_of_cell? w _ hc))).trans hc
end

section
open Go.RowKit
set_option linter.unusedVariables false

theorem varsB_parts (s : MSig) (vars : List Int) : varsB s vars = (validB s && decide (vars.length ≤ 4) && belowB vars s.sorts) := rfl

set_option maxRecDepth 100000 in
theorem varsOk_any (v vv : Value) (s : MSig) (vars : List Int) (w : World) (h : RSig w v s) (hv : RInts w vv vars) :
    Calls Try.prog 18 #[v, vv] w fun e w' => e = .returned (.bool (varsB s vars)) ∧ Below w.heap.size w w' := by
  obtain ⟨u, rfl, hr⟩ := h
  obtain ⟨sorts, ops⟩ := s
  have hn := hr.len
  obtain ⟨A, c, rfl, -⟩ := hr.form
  have HB := Lib.hid (below_alloc w (.cells #[.int .i64 sorts, .slice A ops.length c] 25))
  have H := Lib.hid (hr.keep HB.out)
  have HVV := Lib.hid (hv.keep HB.out)
  have hbx := Lib.hid (box_cells w (.int .i64 sorts) (.slice A ops.length c) 25)
  have hvn := hv.len
  obtain ⟨A1, c1, rfl, -⟩ := hv.form
  have HP := Lib.hid (varsB_parts ⟨sorts, ops⟩ vars)
  clear hr hv
  cases hvb : validB ⟨sorts, ops⟩ with
  | false =>
    have Hv := Lib.hid hvb
    clear hvb
    go_enter Try.func18, Try.ntmps18
    go_wp2_with (go_at_call 13; refine (sigValid_any _ ⟨sorts, ops⟩ _ ⟨_, rfl, H.out⟩).mono ?_; rw [Hv.out]; rintro e w1 ⟨rfl, hb⟩)
    go_ret
    exact ⟨ret_bool (by rw [HP.out, Hv.out]; rfl), HB.out.trans (hb.mono (by simp))⟩
  | true =>
    have Hv := Lib.hid hvb
    clear hvb
    by_cases h4 : (vars.length : Int) ≤ 4
    · go_enter Try.func18, Try.ntmps18
      go_wp2_with (first
        | (go_at_call 13; refine (sigValid_any _ ⟨sorts, ops⟩ _ ⟨_, rfl, H.out⟩).mono ?_; rw [Hv.out]; rintro e w1 ⟨rfl, hb⟩; have f0 := cell_keep hb hbx.out.1; have HV1 := Lib.hid (HVV.out.keep hb))
        | (go_at_call 52; refine (sortsBelow_any _ _ _ _ HV1.out).mono ?_; rintro e w2 ⟨rfl, rfl⟩))
      go_ret
      exact ⟨ret_bool (by rw [HP.out, Hv.out]; simp; omega), HB.out.trans (hb.mono (by simp))⟩
    · go_enter Try.func18, Try.ntmps18
      go_wp2_with (first
        | (go_at_call 13; refine (sigValid_any _ ⟨sorts, ops⟩ _ ⟨_, rfl, H.out⟩).mono ?_; rw [Hv.out]; rintro e w1 ⟨rfl, hb⟩; have f0 := cell_keep hb hbx.out.1; have HV1 := Lib.hid (HVV.out.keep hb)))
      go_ret
      exact ⟨ret_bool (by rw [HP.out, Hv.out]; simp; omega), HB.out.trans (hb.mono (by simp))⟩

theorem vars_in {sorts q : Int} {ops : List (List Int)} {vars : List Int} (hq : 1 ≤ sorts → sorts ≤ 3 → q = sorts - 1) : varsB ⟨sorts, ops⟩ vars = ((vars.all fun x => inB x 0 q) && (validB ⟨sorts, ops⟩ && decide (vars.length ≤ 4))) := by
  rw [varsB_parts]
  cases hv : validB ⟨sorts, ops⟩ with
  | false => simp
  | true =>
    have hs := valid_sorts hv
    simp only at hs
    rw [show belowB vars sorts = vars.all fun x => inB x 0 q from by unfold belowB; congr 1; funext x; exact (inB_row x sorts q hq hs.1 hs.2.1).symm]
    simp [Bool.and_comm]

set_option maxRecDepth 100000 in
theorem specVarsOk_any (v vv : Value) (s : MSig) (vars : List Int) (w : World) (h : RSig w v s) (hv : RInts w vv vars) :
    Calls Try.prog 56 #[v, vv] w fun e w' => e = .returned (.bool (varsB s vars)) ∧ Below w.heap.size w w' := by
  obtain ⟨u, rfl, hr⟩ := h
  obtain ⟨sorts, ops⟩ := s
  have hn := hr.len
  obtain ⟨A, c, rfl, -⟩ := hr.form
  have HB := Lib.hid (below_alloc w (.cells #[.int .i64 sorts, .slice A ops.length c] 25))
  have H := Lib.hid (hr.keep HB.out)
  have HVV := Lib.hid (hv.keep HB.out)
  have hbx := Lib.hid (box_cells w (.int .i64 sorts) (.slice A ops.length c) 25)
  have hvn := hv.len
  obtain ⟨A1, c1, rfl, -⟩ := hv.form
  have HP : Hid (varsB ⟨sorts, ops⟩ vars = ((vars.all fun x => inB x 0 (IntKind.i64.wrap (sorts - 1))) && (validB ⟨sorts, ops⟩ && decide (vars.length ≤ 4)))) := vars_in (fun h1 h3 => by rw [IntKind.wrap_i64]; omega)
  clear hr hv
  go_enter Try.func56, Try.ntmps56
  go_wp2
  go_loopw [5] (fun i wr => ∃ k : Nat, k ≤ vars.length ∧ i = .int .i64 k ∧ (vars.take k).all (fun x => inB x 0 (IntKind.i64.wrap (sorts - 1))) = true ∧ Drawn (w.alloc (.cells #[.int .i64 sorts, .slice A ops.length c] 25)) wr) (fun i _ => vars.length - (intOf i).toNat)
  case atStart => exact ⟨0, Nat.zero_le _, rfl, rfl, Drawn.refl _⟩
  case round =>
    obtain ⟨k, hk, rfl, hb0, hd⟩ := hrel
    have hb := Lib.hid hb0
    have HD := Lib.hid hd
    clear hb0 hd
    have f0 := (HD.out.cell _).trans hbx.out.1
    have f1 := (HD.out.cell _).trans hbx.out.2
    by_cases hlt : k < vars.length
    · obtain ⟨b, o, c', e, hx⟩ := (HVV.out.keep HD.out.below).at_ hlt
      cases e
      have HA := Lib.hid (all_take (p := fun x => inB x 0 (IntKind.i64.wrap (sorts - 1))) hlt)
      have HN := Lib.hid (all_bad (p := fun x => inB x 0 (IntKind.i64.wrap (sorts - 1))) hlt)
      generalize vars[k] = x at hx HA HN
      have hlt' : (k : Int) < (vars.length : Int) := by omega
      go_wp2_with fail
      cases hbx' : inB x 0 (IntKind.i64.wrap (sorts - 1)) with
      | false =>
        have Hbx := Lib.hid hbx'
        clear hbx'
        go_quiet ((go_at_call 50; exact quiet_left (l1In_is _ _ _ _ _ Hbx.out)))
        go_wp2
        go_ret
        refine ⟨ret_bool ?_, below_drewN (HB.out.trans (HD.out.below.mono (by simp))) _⟩
        rw [HP.out, HN.out Hbx.out]; simp
      | true =>
        have Hbx := Lib.hid hbx'
        clear hbx'
        go_quiet ((go_at_call 50; exact quiet_left (l1In_is _ _ _ _ _ Hbx.out)))
        go_wp2
        go_roundw
        case rel => exact ⟨k + 1, by omega, by go_num, by rw [HA.out, hb.out, Hbx.out]; rfl, HD.out.more _⟩
        case measure => simp [intOf]; omega
    · have HE0 := hb.out
      rw [take_all (by omega)] at HE0
      have HE := Lib.hid HE0
      clear HE0
      cases hvb : validB ⟨sorts, ops⟩ with
      | false =>
        have Hv := Lib.hid hvb
        clear hvb
        go_wp2_with (go_at_call 49; refine (specSigValid_any _ ⟨sorts, ops⟩ _ ⟨_, rfl, H.out.keep HD.out.below⟩).mono ?_; rw [Hv.out]; rintro e w1 ⟨rfl, hb⟩)
        go_ret
        have s1 := HD.out.below.size
        exact ⟨ret_bool (by rw [HP.out, Hv.out]; simp), (HB.out.trans (HD.out.below.mono (by simp))).trans (hb.mono (by simp at s1; omega))⟩
      | true =>
        have Hv := Lib.hid hvb
        clear hvb
        go_wp2_with (go_at_call 49; refine (specSigValid_any _ ⟨sorts, ops⟩ _ ⟨_, rfl, H.out.keep HD.out.below⟩).mono ?_; rw [Hv.out]; rintro e w1 ⟨rfl, hb⟩)
        go_ret
        have s1 := HD.out.below.size
        exact ⟨ret_bool (by rw [HP.out, Hv.out, HE.out]; simp; omega), (HB.out.trans (HD.out.below.mono (by simp))).trans (hb.mono (by simp at s1; omega))⟩
end

section
open Go.RowKit
set_option linter.unusedVariables false
set_option linter.unusedSimpArgs false

structure MMap where
  sorts : List Int
  ops : List Int
def RMap (w : World) (v : Value) (m : MMap) : Prop := ∃ a0 a1, v = .agg #[a0, a1] ∧ RInts w a0 m.sorts ∧ RInts w a1 m.ops
def OMap (w : World) (B : Nat) (v : Value) (m : MMap) : Prop := ∃ a0 a1, v = .agg #[a0, a1] ∧ OInts w B a0 m.sorts ∧ OInts w B a1 m.ops ∧ Apart a0 a1
section
variable {w w' : World} {v : Value} {m : MMap} {B B' : Nat}
theorem RMap.keep (h : RMap w v m) (hb : Below w.heap.size w w') : RMap w' v m := by
  obtain ⟨a0, a1, rfl, h0, h1⟩ := h; exact ⟨a0, a1, rfl, h0.keep hb, h1.keep hb⟩
theorem OMap.keep (h : OMap w B v m) (hb : Below w.heap.size w w') : OMap w' B v m := by
  obtain ⟨a0, a1, rfl, h0, h1, hap⟩ := h; exact ⟨a0, a1, rfl, h0.keep hb, h1.keep hb, hap⟩
theorem OMap.base (h : OMap w B v m) (hB : B' ≤ B) : OMap w B' v m := by
  obtain ⟨a0, a1, rfl, h0, h1, hap⟩ := h; exact ⟨a0, a1, rfl, h0.base hB, h1.base hB, hap⟩
theorem OMap.same (h : OMap w B v m) (hk : ∀ k, B ≤ k → k < w.heap.size → w'.heap[k]? = w.heap[k]?) : OMap w' B v m := by
  obtain ⟨a0, a1, rfl, h0, h1, hap⟩ := h; exact ⟨a0, a1, rfl, h0.same hk, h1.same hk, hap⟩
theorem OMap.reads (h : OMap w B v m) : RMap w v m := by
  obtain ⟨a0, a1, rfl, h0, h1, -⟩ := h; exact ⟨a0, a1, rfl, h0.reads, h1.reads⟩
theorem RMap.form (h : RMap w v m) : ∃ A0 c0 A1 c1, v = .agg #[.slice A0 m.sorts.length c0, .slice A1 m.ops.length c1] := by
  obtain ⟨a0, a1, rfl, h0, h1⟩ := h
  obtain ⟨A0, c0, rfl, -⟩ := h0.form
  obtain ⟨A1, c1, rfl, -⟩ := h1.form
  exact ⟨_, _, _, _, rfl⟩
theorem RMap.of {a0 a1 : Value} (h : RMap w (.agg #[a0, a1]) m) : RInts w a0 m.sorts ∧ RInts w a1 m.ops := by
  obtain ⟨a0', a1', he, h0, h1⟩ := h
  injection he with he
  simp at he
  obtain ⟨rfl, rfl⟩ := he
  exact ⟨h0, h1⟩
theorem OMap.of {a0 a1 : Value} (h : OMap w B (.agg #[a0, a1]) m) : OInts w B a0 m.sorts ∧ OInts w B a1 m.ops ∧ Apart a0 a1 := by
  obtain ⟨a0', a1', he, hr⟩ := h
  injection he with he
  simp at he
  obtain ⟨rfl, rfl⟩ := he
  exact hr
end
def FitsMp (m : MMap) : Prop := m.sorts.length ≤ 1048576 ∧ m.ops.length ≤ 1048576
def SmallMp (m : MMap) : Prop := Small m.sorts ∧ Small m.ops
def sameMp (a b : MMap) : Bool := (sameI a.sorts b.sorts) && sameI a.ops b.ops
theorem sameMp_self (a : MMap) : sameMp a a = true := by unfold sameMp sameI; simp
theorem sameMp_eq {a b : MMap} : sameMp a b = true ↔ a = b := by
  obtain ⟨x0, x1⟩ := a
  obtain ⟨y0, y1⟩ := b
  unfold sameMp sameI
  simp [and_assoc]
end

section
open Go.RowKit
set_option linter.unusedVariables false
set_option linter.unusedSimpArgs false

/-- a row with its numbers replaced by those to which they are led; letters stay -/
def ledM (tq row : List Int) : List Int := row.map fun x => if x < 100 then tq.getD x.toNat 0 else x
def InTo (tq row : List Int) : Prop := ∀ x ∈ row, x < 100 → 0 ≤ x ∧ x < (tq.length : Int)
theorem ledM_len (tq row : List Int) : (ledM tq row).length = row.length := by simp [ledM]
theorem ledM_at {tq row : List Int} {k : Nat} (hk : k < row.length) : (ledM tq row)[k]? = some (if row[k] < 100 then tq.getD (row[k]).toNat 0 else row[k]) := by
  simp [ledM, List.getElem?_eq_getElem hk]
theorem ledM_take {tq row : List Int} {k : Nat} (hk : k < row.length) : ledM tq (row.take (k + 1)) = ledM tq (row.take k) ++ [if row[k] < 100 then tq.getD (row[k]).toNat 0 else row[k]] := by
  rw [List.take_succ_eq_append_getElem hk]; unfold ledM; rw [List.map_append]; rfl
theorem ledM_nil (tq : List Int) : ledM tq [] = [] := rfl
/-- the same of a row of sorts -/
def rowLed (tq row : List Int) : List Int := row.map fun x => tq.getD x.toNat 0
theorem rowLed_len (tq row : List Int) : (rowLed tq row).length = row.length := by simp [rowLed]
theorem rowLed_take {tq row : List Int} {k : Nat} (hk : k < row.length) : rowLed tq (row.take (k + 1)) = rowLed tq (row.take k) ++ [tq.getD (row[k]).toNat 0] := by
  rw [List.take_succ_eq_append_getElem hk]; unfold rowLed; rw [List.map_append]; rfl
theorem rowLed_led {tq row : List Int} (h : ∀ x ∈ row, x < 100) : rowLed tq row = ledM tq row := by
  unfold rowLed ledM
  refine List.map_congr_left fun x hx => ?_
  rw [if_pos (h x hx)]
def ledOp (a b : MSig) (m : MMap) (k : Nat) : Bool := (decide (0 ≤ m.ops.getD k 0) && decide (m.ops.getD k 0 < (b.ops.length : Int))) && decide (ledM m.sorts (a.ops.getD k []) = b.ops.getD (m.ops.getD k 0).toNat [])
def allLed (a b : MSig) (m : MMap) (n : Nat) : Bool := (List.range n).all (ledOp a b m)
theorem allLed_zero (a b : MSig) (m : MMap) : allLed a b m 0 = true := rfl
theorem allLed_succ (a b : MSig) (m : MMap) (n : Nat) : allLed a b m (n + 1) = (allLed a b m n && ledOp a b m n) := by
  unfold allLed; rw [List.range_succ, List.all_append]; simp
theorem allLed_bad {a b : MSig} {m : MMap} {k n : Nat} (hk : k < n) (h : ledOp a b m k = false) : allLed a b m n = false := by
  unfold allLed; rw [List.all_eq_false]; exact ⟨k, List.mem_range.2 hk, by simp [h]⟩
def mapOkB (a b : MSig) (m : MMap) : Bool := ((((validB a && validB b) && decide ((m.sorts.length : Int) = a.sorts)) && decide (m.ops.length = a.ops.length)) && belowB m.sorts b.sorts) && allLed a b m m.ops.length
theorem mapOk_no1 {a b : MSig} {m : MMap} (h : validB a = false) : mapOkB a b m = false := by unfold mapOkB; simp [h]
theorem mapOk_no2 {a b : MSig} {m : MMap} (h : validB b = false) : mapOkB a b m = false := by unfold mapOkB; simp [h]
theorem mapOk_no3 {a b : MSig} {m : MMap} (h : ¬ (m.sorts.length : Int) = a.sorts) : mapOkB a b m = false := by unfold mapOkB; simp [h]
theorem mapOk_no4 {a b : MSig} {m : MMap} (h : ¬ m.ops.length = a.ops.length) : mapOkB a b m = false := by unfold mapOkB; simp [h]
theorem mapOk_no5 {a b : MSig} {m : MMap} (h : belowB m.sorts b.sorts = false) : mapOkB a b m = false := by unfold mapOkB; simp [h]
theorem mapOk_no6 {a b : MSig} {m : MMap} {k : Nat} (hk : k < m.ops.length) (h : ledOp a b m k = false) : mapOkB a b m = false := by unfold mapOkB; simp [allLed_bad hk h]
theorem mapOk_yes {a b : MSig} {m : MMap} (h1 : validB a = true) (h2 : validB b = true) (h3 : (m.sorts.length : Int) = a.sorts) (h4 : m.ops.length = a.ops.length) (h5 : belowB m.sorts b.sorts = true) (h6 : allLed a b m m.ops.length = true) : mapOkB a b m = true := by
  unfold mapOkB; simp [h1, h2, h3, h4, h5]; rw [← h4]; exact h6
structure MapFacts (a b : MSig) (m : MMap) : Prop where
  va : validB a = true
  vb : validB b = true
  sl : (m.sorts.length : Int) = a.sorts
  ol : m.ops.length = a.ops.length
  sb : ∀ x ∈ m.sorts, 0 ≤ x ∧ x < b.sorts
  ob : ∀ x ∈ m.ops, 0 ≤ x ∧ x < (b.ops.length : Int)
  oo : ∀ (k : Nat) (h1 : k < a.ops.length) (h2 : k < m.ops.length), b.ops[(m.ops[k]).toNat]? = some (ledM m.sorts a.ops[k])
theorem mapOk_facts {a b : MSig} {m : MMap} (h : mapOkB a b m = true) : MapFacts a b m := by
  unfold mapOkB at h
  simp only [Bool.and_eq_true, decide_eq_true_eq] at h
  obtain ⟨⟨⟨⟨⟨h1, h2⟩, h3⟩, h4⟩, h5⟩, h6⟩ := h
  have op : ∀ k, (h : k < m.ops.length) → ((0 ≤ m.ops[k] ∧ m.ops[k] < (b.ops.length : Int)) ∧ ledM m.sorts (a.ops.getD k []) = b.ops.getD (m.ops[k]).toNat []) := by
    intro k hk
    unfold allLed at h6
    rw [List.all_eq_true] at h6
    have := h6 k (List.mem_range.2 hk)
    unfold ledOp at this
    rw [getD_at _ hk] at this
    simpa using this
  refine ⟨h1, h2, h3, h4, by simpa [belowB] using h5, fun x hx => ?_, fun k hk1 hk2 => ?_⟩
  · obtain ⟨k, hk, rfl⟩ := List.getElem_of_mem hx
    exact (op k hk).1
  · obtain ⟨⟨p, q⟩, r⟩ := op k hk2
    rw [getD_at _ hk1] at r
    have hl : (m.ops[k]).toNat < b.ops.length := by omega
    rw [getD_at _ hl] at r
    rw [List.getElem?_eq_getElem hl, r]
theorem facts_ok {a b : MSig} {m : MMap} (h : MapFacts a b m) : mapOkB a b m = true := by
  refine mapOk_yes h.va h.vb h.sl h.ol (by simpa [belowB] using h.sb) ?_
  unfold allLed
  rw [List.all_eq_true]
  intro k hk
  have hk := List.mem_range.1 hk
  have hka : k < a.ops.length := by rw [← h.ol]; exact hk
  have hb := h.ob _ (List.getElem_mem hk)
  have ho := h.oo k hka hk
  unfold ledOp
  rw [getD_at _ hk, getD_at _ hka]
  have hl : (m.ops[k]).toNat < b.ops.length := by omega
  rw [getD_at _ hl]
  rw [List.getElem?_eq_getElem hl] at ho
  injection ho with ho
  simp [hb.1, hb.2, ho]
/-- sorts are led -/
theorem MapFacts.sorts_in {a b : MSig} {m : MMap} (h : MapFacts a b m) {row : List Int} (hr : ∀ x ∈ row, 0 ≤ x ∧ x < a.sorts) : InTo m.sorts row := fun x hx _ => by
  have := hr x hx; have := h.sl; omega
theorem MapFacts.op_in {a b : MSig} {m : MMap} (h : MapFacts a b m) {k : Nat} (hk : k < a.ops.length) : InTo m.sorts a.ops[k] := h.sorts_in (valid_row h.va hk).2.2
def noMap : MMap := ⟨[], []⟩
def countM (n : Nat) : List Int := (List.range n).map fun (i : Nat) => (i : Int)
theorem countM_len (n : Nat) : (countM n).length = n := by simp [countM]
theorem countM_at {n k : Nat} (h : k < n) : (countM n)[k]? = some (k : Int) := by simp [countM, h]
theorem countM_succ (n : Nat) : countM (n + 1) = countM n ++ [(n : Int)] := by unfold countM; rw [List.range_succ]; simp
def selfM (s : MSig) : MMap := if validB s then ⟨countM s.sorts.toNat, countM s.ops.length⟩ else noMap
def thenM (a b c : MSig) (m n : MMap) : MMap × Bool := if mapOkB a b m && mapOkB b c n then (⟨ledM n.sorts m.sorts, ledM n.ops m.ops⟩, true) else (noMap, false)
def mapTermM (a b : MSig) (m : MMap) (vars t : List Int) : List Int × List Int × Bool := if mapOkB a b m && decide (0 ≤ sortM a vars t) then (ledM m.sorts vars, ledM m.ops t, true) else ([], [], false)
def noEq : MEq := ⟨[], [], []⟩
def ledE (m : MMap) (e : MEq) : MEq := ⟨ledM m.sorts e.vars, ledM m.ops e.left, ledM m.ops e.right⟩
def mapEqM (a b : MSig) (m : MMap) (e : MEq) : MEq × Bool := if mapOkB a b m && eqOkB a e then (ledE m e, true) else (noEq, false)
end

section
open Go.RowKit
set_option linter.unusedVariables false

def raised (xs : List Int) (d : Int) : List Int := xs.map fun x => wrap64 (x + d)
theorem raised_at {xs : List Int} {d : Int} {k : Nat} (hk : k < xs.length) (h : k < (raised xs d).length) : (raised xs d)[k] = wrap64 (xs[k] + d) := by simp [raised]
end

section
open Go.RowKit
set_option linter.unusedVariables false

theorem RInts.dropLast {w : World} {A : Option Addr} {c : Nat} {row : List Int} (h : RInts w (.slice A row.length c) row) : RInts w (.slice A (row.length - 1) c) row.dropLast := by
  obtain ⟨A', c', e, h1, h2, h3⟩ := h
  cases e
  refine ⟨A, c, by rw [List.length_dropLast], by rw [List.length_dropLast]; omega, h2, fun j x hj => h3 j x ?_⟩
  rw [List.getElem?_dropLast] at hj
  split at hj
  · exact hj
  · cases hj
theorem raised_zero {xs : List Int} (h : ∀ x ∈ xs, 0 ≤ x ∧ x < 4) : raised xs 0 = xs := by
  unfold raised
  rw [List.map_congr_left (g := id) (fun x hx => ?_), List.map_id]
  have := h x hx
  rw [IntWalk.wrap64_in _ ⟨by omega, by omega⟩]; simp

theorem add_spot (b o j : Nat) : (⟨b, o, none⟩ : Addr).add j = ⟨b, o + j, none⟩ := by
  unfold Addr.add
  split
  · rename_i h; subst h; rfl
  · rfl
theorem news_of {w : World} {b o n c : Nat} {xs : List Int} (h : RInts w (.slice (some ⟨b, o, none⟩) n c) xs) : ∀ (j : Nat) (u : Value), (xs.map (Value.int .i64))[j]? = some u → w.cell? ((⟨b, o, none⟩ : Addr).add j) = some u := by
  intro j u hj
  rw [List.getElem?_map] at hj
  obtain ⟨x, hx, rfl⟩ := Option.map_eq_some_iff.1 hj
  obtain ⟨A, c', e, h1, h2, h3⟩ := h
  cases e
  obtain ⟨b', o', e, hc⟩ := h3 j x hx
  cases e
  rw [add_spot]; exact hc
theorem news_any {w : World} {ad : Addr} {n c : Nat} {xs : List Int} (h : RInts w (.slice (some ad) n c) xs) : ∀ (j : Nat) (u : Value), (xs.map (Value.int .i64))[j]? = some u → w.cell? (ad.add j) = some u := by
  intro j u hj
  obtain ⟨b, o, s⟩ := ad
  have hx := hj
  rw [List.getElem?_map] at hx
  obtain ⟨x, hx, -⟩ := Option.map_eq_some_iff.1 hx
  have hh := h
  obtain ⟨A, c', e, h1, h2, h3⟩ := hh
  cases e
  obtain ⟨b', o', e, hc⟩ := h3 j x hx
  cases e
  exact news_of h j u hj
theorem ints_one (xs : List Int) : ∀ u ∈ xs.map (Value.int .i64), u.oneCell' = true := by
  intro u hu; simp at hu; obtain ⟨x, -, rfl⟩ := hu; rfl

theorem bel_grow {w w2 : World} {o : Obj} {A : Option Addr} {n c : Nat} (h : (w.alloc o).drew.grownBy w2 (Value.slice A n c).ownBlock) (hr : ∀ k, (Value.slice A n c).ownBlock = some k → w.heap.size ≤ k) : Below w.heap.size w w2 :=
  (below_alloc w o).trans ⟨h.os, h.tape, h.output, h.size, fun k hk => h.block k (Nat.lt_of_lt_of_le hk (by show w.heap.size ≤ (w.alloc o).heap.size; simp)) (fun e => by have := hr k e.symm; omega)⟩
theorem own_empty (w : World) : OInts (w.alloc (.cells #[] 3)) w.heap.size (.slice (some ⟨w.heap.size, 0, none⟩) 0 0) [] := World.ownsRow_lit w #[] 0 (Nat.le_refl _) (Nat.zero_le _) rfl

theorem step_append_own {P : Program} {ops : Array Oper} {o : Oper} {a : Act} {w : World} {K : Act → World → Prop} {Q : Exit → Act → World → Prop} {E : Prop} (hgd : o.guard = none) (s x : Operand) (t : TypeId)
    (ho : o.op = .call { callee := .builtin .append, args := #[s, x], argTypes := #[t, t] })
    (base : Nat) (e : TypeId) (i : TypeInfo) (z : Value) (size bytes : Nat) (ht : P.underlying t = some (.slice e)) (hi : P.info? e = some i) (hz : i.zero = some z)
    (hsize : i.size = size) (hby : i.bytes = bytes) (hzs : z.cells.size = size) (hsz : 0 < size)
    (v : Value) (n : Nat) (xs : List Value) (hs : a.eval s = v) (hown : w.ownsRow base e size v n xs)
    (ad : Addr) (m c : Nat) (news : List Value) (hx : a.eval x = .slice (some ad) m c) (hl : news.length = m * size) (hnews : ∀ j u, news[j]? = some u → w.cell? (ad.add j) = some u) (h1 : ∀ u ∈ news, u.oneCell' = true)
    (h63 : n + m ≤ maxLen) (hbytes : (n + m) * bytes ≤ 140737488355328) (hbase : base ≤ w.heap.size)
    (h : ∀ v' w', w'.ownsRow base e size v' (n + m) (xs ++ news) → w.grownBy w' v.ownBlock → K (a.put o.dst v') w') :
    if Region.wanted o (yielded ops a.tmps) = true then Oper.wp P o a w K Q else E := by
  have hw : Region.wanted o (yielded ops a.tmps) = true := by simp [Region.wanted, hgd]
  rw [if_pos hw]
  exact wp_append_own w s x t ho base e i z size bytes ht hi hz hsize hby hzs hsz v n xs hs hown ad m c news hx hl hnews h1 h63 hbytes hbase fun v' w' h2 h3 _ => h v' w' h2 h3
end

section
open Go.RowKit
set_option linter.unusedVariables false
set_option linter.unusedSimpArgs false

theorem led_app {w : World} {B m : Nat} {v : Value} {ps rs : List Int} (hm : rs.length = m) (h : w.ownsRow B 3 1 v (ps.length + m) (ps.map (Value.int .i64) ++ rs.map (Value.int .i64))) : OInts w B v (ps ++ rs) := by
  unfold OInts; rw [List.length_append, List.map_append, hm]; exact h
theorem led_new (w : World) (n : Int) : ∀ (j : Nat) (u : Value), ([n].map (Value.int .i64))[j]? = some u → (w.alloc (.cells #[.int .i64 n] 3)).cell? ((⟨w.heap.size, 0, none⟩ : Addr).add j) = some u := by
  intro j u hj
  match j, hj with
  | 0, hj =>
    simp at hj
    subst hj
    rw [show (⟨w.heap.size, 0, none⟩ : Addr).add 0 = ⟨w.heap.size, 0, none⟩ by simp [Addr.add], World.cell?_alloc_at _ _ _ _ rfl]; rfl
theorem filling_below {w wr : World} {zs : List Int} {k : Nat} (h : Filling w wr zs k) : Below w.heap.size w wr := by
  obtain ⟨_, _, _, _, hb⟩ := h; exact hb

theorem led_below {W wr w6 : World} {o : Obj} {A : Option Addr} {n c : Nat} (h : Below W.heap.size W wr) (hg : (wr.alloc o).drew.grownBy w6 (Value.slice A n c).ownBlock) (hr : ∀ k, (Value.slice A n c).ownBlock = some k → W.heap.size ≤ k) : Below W.heap.size W w6 := by
  have h1 := h.alloc h.size o
  have h2 : Below W.heap.size W (wr.alloc o).drew := ⟨h1.os, h1.tape, h1.output, h1.size, h1.block⟩
  exact h2.grown hg h2.size hr

set_option maxRecDepth 100000 in
theorem ledRow_any (v v' : Value) (row tq : List Int) (w : World) (h : RInts w v row) (h' : RInts w v' tq) (hin : InTo tq row) (hs : row.length ≤ 1048576) :
    Calls Try.prog 93 #[v, v'] w fun e w' => ∃ u, e = .returned u ∧ OInts w' w.heap.size u (ledM tq row) ∧ Below w.heap.size w w' := by
  have H := Lib.hid h
  have H' := Lib.hid h'
  have HIN := Lib.hid hin
  have hn' := h'.len
  obtain ⟨A, c, rfl, -⟩ := h.form
  obtain ⟨A', c', rfl, -⟩ := h'.form
  clear h h' hin
  have hmk := run_make_row' (P := Try.prog) 26 3 (.int .i64 0) 8 Try.underlying26 Try.tinfo_int rfl .i64 .i64 row.length (by omega) (by omega)
  go_enter Try.func93, Try.ntmps93
  go_wp2
  go_loopw [6, 7, 13] (fun a b i wr => ∃ k : Nat, k ≤ row.length ∧ i = .int .i64 k ∧ Filling w wr (ledM tq row) k) (fun _ _ i _ => row.length - (intOf i).toNat)
  case atStart => exact ⟨0, Nat.zero_le _, rfl, Filling.start w _ _ (by rw [ledM_len]; simp [madeCells])⟩
  case round =>
    obtain ⟨k, hk, rfl, hf⟩ := hrel
    have HF := Lib.hid hf
    clear hf hmk
    by_cases hlt : k < row.length
    · have hlt' : (k : Int) < (row.length : Int) := by omega
      obtain ⟨b, o, c', e, hx⟩ := (H.out.keep (filling_below HF.out)).at_ hlt
      cases e
      obtain ⟨u, g1, g2⟩ := HF.out.cell (by rw [ledM_len]; exact hlt)
      have HX := Lib.hid (ledM_at (tq := tq) hlt)
      have HI := Lib.hid (HIN.out _ (List.getElem_mem hlt))
      generalize row[k] = x at hx HX HI
      by_cases hl : x < 100
      · obtain ⟨n, rfl⟩ : ∃ n : Nat, x = (n : Int) := ⟨x.toNat, by have := HI.out hl; omega⟩
        have hnl : n < tq.length := by have := HI.out hl; omega
        have hnl' : (n : Int) < (tq.length : Int) := by omega
        have hn0 : (0 : Int) ≤ (n : Int) := by omega
        obtain ⟨b2, o2, c2, e2, hy⟩ := (H'.out.keep (filling_below HF.out)).at_ hnl
        cases e2
        have HY := Lib.hid (show (if (n : Int) < 100 then tq.getD (n : Int).toNat 0 else (n : Int)) = tq[n] by rw [if_pos hl, Int.toNat_natCast, getD_at _ hnl])
        generalize tq[n] = y at hy HY
        go_wp2
        go_roundw
        case rel => exact ⟨k + 1, by omega, by go_num, HF.out.step (by rw [ledM_len]; exact hlt) (by have h := HX.out; rw [HY.out] at h; exact (List.getElem?_eq_some_iff.1 h).2)⟩
        case measure => simp [intOf]; omega
      · have hl' : 100 ≤ x := by omega
        have HY := Lib.hid (show (if x < 100 then tq.getD x.toNat 0 else x) = x by rw [if_neg hl])
        go_wp2
        go_roundw
        case rel => exact ⟨k + 1, by omega, by go_num, HF.out.step (by rw [ledM_len]; exact hlt) (by have h := HX.out; rw [HY.out] at h; exact (List.getElem?_eq_some_iff.1 h).2)⟩
        case measure => simp [intOf]; omega
    · go_wp2
      go_ret
      obtain ⟨r1, r2⟩ := HF.out.done (by rw [ledM_len]; omega) (by omega)
      have hkn : k = row.length := by omega
      subst hkn
      exact ⟨_, rfl, r1, r2⟩
end

section
open Go.RowKit
set_option linter.unusedVariables false
end

section
open Go.RowKit
set_option linter.unusedVariables false
end

section
open Go.RowKit
set_option linter.unusedVariables false
set_option linter.unusedSimpArgs false

theorem map_drew {a w : World} {B : Nat} (h : Below B a w) : Below B a w.drew := ⟨h.os, h.tape, h.output, h.size, h.block⟩
theorem map_undrew {w w' : World} (h : Below w.drew.heap.size w.drew w') : Below w.heap.size w w' := ⟨h.os, h.tape, h.output, h.size, h.block⟩
theorem ledOp_neg {a b : MSig} {m : MMap} {k : Nat} (hk : k < m.ops.length) (h : m.ops[k] < 0) : ledOp a b m k = false := by
  unfold ledOp; rw [getD_at _ hk]; simp; omega
theorem ledOp_big {a b : MSig} {m : MMap} {k : Nat} (hk : k < m.ops.length) (h : (b.ops.length : Int) ≤ m.ops[k]) : ledOp a b m k = false := by
  unfold ledOp; rw [getD_at _ hk]; simp; omega
theorem ledOp_in {a b : MSig} {m : MMap} {k n : Nat} (hk : k < m.ops.length) (ha : k < a.ops.length) (hn : m.ops[k] = (n : Int)) (hb : n < b.ops.length) : ledOp a b m k = decide (ledM m.sorts a.ops[k] = b.ops[n]) := by
  unfold ledOp
  rw [getD_at _ hk, getD_at _ ha, hn, Int.toNat_natCast, getD_at _ hb]
  simp; omega
end

section
open Go.RowKit
set_option linter.unusedVariables false

/-- the struct's box lies at lb, ahead of wv; of it the row u is being filled -/
structure Loc (T : TypeId) (wv wr : World) (lb : Nat) (cs : Array Value) (u : Value) (xs : List Int) : Prop where
  loc : wr.heap[lb]? = some (.cells cs T (0, 0))
  own : OInts wr wv.heap.size u xs
  gr : wv.grownBy wr (some lb)
  lt : lb < wv.heap.size
theorem Loc.start {T : TypeId} {wv : World} {lb : Nat} {cs : Array Value} (h : wv.heap[lb]? = some (.cells cs T (0, 0))) : Loc T wv wv lb cs (.slice none 0 0) [] :=
  ⟨h, OInts.nil _ _, ⟨rfl, rfl, rfl, Nat.le_refl _, fun _ _ _ => rfl⟩, (Array.getElem?_eq_some_iff.1 h).1⟩
theorem Loc.push {T : TypeId} {wv wr w6 : World} {lb : Nat} {cs cs' : Array Value} {u v' : Value} {xs : List Int} {y : Int} {o : Obj} (h : Loc T wv wr lb cs u xs) (hg : (wr.alloc o).grownBy w6 u.ownBlock) (ho : OInts w6 wv.heap.size v' (xs ++ [y])) (i : Nat) (hc : cs.setIfInBounds i v' = cs') :
    Loc T wv (w6.setCell ⟨lb, i, none⟩ v') lb cs' v' (xs ++ [y]) := by
  have hlr : lb < wr.heap.size := (Array.getElem?_eq_some_iff.1 h.loc).1
  have hne : ∀ k, k < wv.heap.size → some k ≠ u.ownBlock := fun k hk e => by have := own_lt h.own k e.symm; omega
  have hl6 : w6.heap[lb]? = some (.cells cs T (0, 0)) := ((hg.block lb (by simp; omega) (hne lb h.lt)).trans (heap_alloc_old wr _ hlr)).trans h.loc
  refine ⟨by rw [← hc]; exact blk_set hl6 i v', ho.setLow h.lt i v', ⟨hg.os.trans h.gr.os, hg.tape.trans h.gr.tape, hg.output.trans h.gr.output, ?_, fun k hk hkl => ?_⟩, h.lt⟩
  · have e : (w6.setCell ⟨lb, i, none⟩ v').heap.size = w6.heap.size := by simp [World.setCell]
    have h2 := h.gr.size
    rw [e]
    have h3 := hg.size
    simp at h3
    omega
  · have hkr : k < wr.heap.size := Nat.lt_of_lt_of_le hk h.gr.size
    exact (((Below.heap_setCell w6 ⟨lb, i, none⟩ v' k (by show k ≠ lb; intro e; exact hkl (by rw [e]))).trans (hg.block k (by simp; omega) (hne k hk))).trans (heap_alloc_old wr _ hkr)).trans (h.gr.block k hk hkl)
theorem Loc.below {T : TypeId} {w2 wv wr : World} {lb : Nat} {cs : Array Value} {u : Value} {xs : List Int} (h : Loc T wv wr lb cs u xs) (hb : Below w2.heap.size w2 wv) (hl : w2.heap.size ≤ lb) : Below w2.heap.size w2 wr :=
  ⟨h.gr.os.trans hb.os, h.gr.tape.trans hb.tape, h.gr.output.trans hb.output, Nat.le_trans hb.size h.gr.size, fun k hk => (h.gr.block k (by have := hb.size; omega) (by intro e; injection e with e; omega)).trans (hb.block k hk)⟩
theorem Loc.grown {T : TypeId} {wv wr w6 : World} {lb : Nat} {cs : Array Value} {u : Value} {xs : List Int} {o : Obj} (h : Loc T wv wr lb cs u xs) (hg : (wr.alloc o).grownBy w6 u.ownBlock) : w6.heap[lb]? = some (.cells cs T (0, 0)) := by
  have hlr : lb < wr.heap.size := (Array.getElem?_eq_some_iff.1 h.loc).1
  exact ((hg.block lb (by simp; omega) (fun e => by have := own_lt h.own lb e.symm; have := h.lt; omega)).trans (heap_alloc_old wr _ hlr)).trans h.loc
theorem Loc.keep {T : TypeId} {wv wr w1 : World} {lb : Nat} {cs : Array Value} {u : Value} {xs : List Int} (h : Loc T wv wr lb cs u xs) (hb : Below wr.heap.size wr w1) : Loc T wv w1 lb cs u xs :=
  ⟨(hb.block _ (Array.getElem?_eq_some_iff.1 h.loc).1).trans h.loc, h.own.keep hb, ⟨hb.os.trans h.gr.os, hb.tape.trans h.gr.tape, hb.output.trans h.gr.output, Nat.le_trans h.gr.size hb.size, fun k hk hn => (hb.block k (Nat.lt_of_lt_of_le hk h.gr.size)).trans (h.gr.block k hk hn)⟩, h.lt⟩
theorem Loc.other {T : TypeId} {wv wr : World} {lb B : Nat} {cs : Array Value} {u v : Value} {xs ys : List Int} (h : Loc T wv wr lb cs u xs) (ho : OInts wv B v ys) (hB : lb < B) : OInts wr B v ys :=
  own_grown ho h.gr (by
    cases hv : v.ownBlock with
    | none => exact .inl rfl
    | some k => right; intro e; injection e with e; have := own_lt ho k hv; omega)
theorem Loc.apart {T : TypeId} {wv wr : World} {lb B : Nat} {cs : Array Value} {u v : Value} {xs ys : List Int} (h : Loc T wv wr lb cs u xs) (ho : OInts wv B v ys) : Apart v u := apart_later ho h.own
theorem grown_undrew {w w' : World} {r : Option Nat} (h : w.drew.grownBy w' r) : w.grownBy w' r := ⟨h.os, h.tape, h.output, h.size, h.block⟩
theorem grown_undrewA {w w' : World} {o : Obj} {r : Option Nat} (h : (w.drew.alloc o).grownBy w' r) : (w.alloc o).grownBy w' r := ⟨h.os, h.tape, h.output, h.size, h.block⟩
end

section
open Go.RowKit
set_option linter.unusedVariables false
set_option linter.unusedSimpArgs false

variable {w w' : World}
theorem own_cut {w w2 : World} {o : Obj} {A : Option Addr} {n c : Nat} (h : (w.alloc o).grownBy w2 (Value.slice A n c).ownBlock) (hr : ∀ k, (Value.slice A n c).ownBlock = some k → w.heap.size ≤ k) : Below w.heap.size w w2 :=
  (below_alloc w o).trans ⟨h.os, h.tape, h.output, h.size, fun k hk => h.block k (Nat.lt_of_lt_of_le hk (by show w.heap.size ≤ (w.alloc o).heap.size; simp)) (fun e => by have := hr k e.symm; omega)⟩

set_option maxRecDepth 100000 in
theorem clone_any (ad : Addr) (n c : Nat) (xs : List Int) (w : World) (h : RInts w (.slice (some ad) n c) xs) (hs : xs.length ≤ 1048576) :
    Calls Try.prog 70 #[.slice (some ad) n c] w fun e w' => ∃ u, e = .returned u ∧ OInts w' w.heap.size u xs ∧ Below w.heap.size w w' := by
  obtain ⟨i0, hi0, hz0, hz1, hz2⟩ := info_parts Try.tinfo_int
  have H := Lib.hid h
  obtain ⟨A, c', e, h1, h2, h3⟩ := h
  cases e
  have HNEWS := Lib.hid (news_any (H.out.keep (below_alloc w (.cells #[] 3))))
  clear h3
  have hcmp := Lib.run_eql_slice_nil (P := Try.prog) w 26 3 (some ad) xs.length c 0 0 Try.underlying26
  simp only [Option.isNone_some] at hcmp
  go_enter Try.func70, Try.ntmps70
  go_wp2_with (at_builtin; refine wpList_append_own _ rfl _ _ 26 rfl w.heap.size 3 i0 (.int .i64 0) 1 8 Try.underlying26 hi0 hz0 hz1 hz2 rfl (by decide) _ 0 [] rfl (own_empty w) ad xs.length c (xs.map (Value.int .i64)) rfl (by simp) HNEWS.out (ints_one _) (by rw [maxLen_eq]; omega) (by omega) (by simp) ?_)
  intro v' w4 hown4 hgrow4 _
  have HO := Lib.hid hown4
  have HG := Lib.hid (own_cut hgrow4 (fun k e => by injection e with e; exact Nat.le_of_eq e))
  clear hown4 hgrow4
  go_wp2
  go_ret
  refine ⟨_, rfl, ?_, HG.out⟩
  have h := HO.out
  unfold OInts
  simpa using h
end

section
open Go.RowKit
set_option linter.unusedVariables false

/-- one row more; w6: ahead of the append's one-place slice; rv: the new row, in a block of its own -/
theorem ORows.pushNew5 {wr w6 w7 : World} {B : Nat} {u v' rv : Value} {rows : List (List Int)} {row : List Int} {us : List Value} (hB : B ≤ wr.heap.size) (hb : Below wr.heap.size wr w6) (hr : OInts w6 wr.heap.size rv row)
    (h1 : wr.ownsRow B 26 1 u rows.length us) (h2 : us.length = rows.length)
    (h3 : ∀ (j : Nat) (u : Value) (row : List Int), us[j]? = some u → rows[j]? = some row → OInts wr B u row) (h4 : ∀ (i j : Nat) (u u' : Value), i < j → us[i]? = some u → us[j]? = some u' → u.ownBlock = none ∨ u.ownBlock ≠ u'.ownBlock)
    (hv' : w7.ownsRow B 26 1 v' (rows.length + 1) (us ++ [rv])) (hg : (w6.alloc (.cells #[rv] 26)).grownBy w7 u.ownBlock) : ORows w7 B v' (rows ++ [row]) := by
  refine ORows.push (w := w6.alloc (.cells #[rv] 26)) ((own_keep h1 hb).alloc _) h2 (fun j x r a b => World.ownsRow.alloc (own_keep (h3 j x r a b) hb) _) h4 (World.ownsRow.alloc (OInts.base hr hB) _) (fun i x hx => ?_) hg hv'
  have hi : i < us.length := (List.getElem?_eq_some_iff.1 hx).1
  have hxo := h3 i x rows[i] hx (List.getElem?_eq_getElem (by omega))
  cases hbx : x.ownBlock with
  | none => exact .inl rfl
  | some k =>
    right
    intro e
    have a := (own_lt hxo k hbx).2
    have b := (own_lt hr k e.symm).1
    omega
theorem news_one5 (w : World) (x : Value) (t : TypeId) : ∀ (j : Nat) (u : Value), [x][j]? = some u → (w.alloc (.cells #[x] t)).cell? ((⟨w.heap.size, 0, none⟩ : Addr).add j) = some u := by
  intro j u hj
  match j, hj with
  | 0, hj =>
    simp at hj
    subst hj
    rw [show (⟨w.heap.size, 0, none⟩ : Addr).add 0 = ⟨w.heap.size, 0, none⟩ from rfl, World.cell?_alloc_at _ _ _ _ rfl]
    rfl
theorem rows_one5 {A : Option Addr} {n c : Nat} (x : Value) (hx : x = .slice A n c := by rfl) : ∀ u ∈ [x], u.oneCell' = true := by
  intro u hu; simp at hu; subst hu; subst hx; rfl

theorem bel_grow5 {w w2 : World} {o : Obj} {A : Option Addr} {n c : Nat} (h : (w.alloc o).grownBy w2 (Value.slice A n c).ownBlock) (hr : ∀ k, (Value.slice A n c).ownBlock = some k → w.heap.size ≤ k) : Below w.heap.size w w2 :=
  (below_alloc w o).trans ⟨h.os, h.tape, h.output, h.size, fun k hk => h.block k (Nat.lt_of_lt_of_le hk (by simp)) (fun e => by have := hr k e.symm; omega)⟩

/-- the struct's box lies at lb, ahead of wv; of it the list of rows u is being filled -/
structure LocR (T : TypeId) (wv wr : World) (lb : Nat) (cs : Array Value) (u : Value) (rows : List (List Int)) : Prop where
  loc : wr.heap[lb]? = some (.cells cs T (0, 0))
  own : ORows wr wv.heap.size u rows
  gr : wv.grownBy wr (some lb)
  lt : lb < wv.heap.size
theorem LocR.start {T : TypeId} {wv : World} {lb : Nat} {cs : Array Value} (h : wv.heap[lb]? = some (.cells cs T (0, 0))) : LocR T wv wv lb cs (.slice none 0 0) [] :=
  ⟨h, ORows.nil _ _, ⟨rfl, rfl, rfl, Nat.le_refl _, fun _ _ _ => rfl⟩, (Array.getElem?_eq_some_iff.1 h).1⟩
theorem LocR.push {T : TypeId} {wv wr w6 w7 : World} {lb : Nat} {cs cs' : Array Value} {u v' rv : Value} {rows : List (List Int)} {row : List Int} {us : List Value} (h : LocR T wv wr lb cs u rows) (hb : Below wr.heap.size wr w6) (hr : OInts w6 wr.heap.size rv row)
    (h1 : wr.ownsRow wv.heap.size 26 1 u rows.length us) (h2 : us.length = rows.length)
    (h3 : ∀ (j : Nat) (u : Value) (row : List Int), us[j]? = some u → rows[j]? = some row → OInts wr wv.heap.size u row) (h4 : ∀ (i j : Nat) (u u' : Value), i < j → us[i]? = some u → us[j]? = some u' → u.ownBlock = none ∨ u.ownBlock ≠ u'.ownBlock)
    (hv' : w7.ownsRow wv.heap.size 26 1 v' (rows.length + 1) (us ++ [rv])) (hg : (w6.alloc (.cells #[rv] 26)).grownBy w7 u.ownBlock) (i : Nat) (hc : cs.setIfInBounds i v' = cs') :
    LocR T wv (w7.setCell ⟨lb, i, none⟩ v') lb cs' v' (rows ++ [row]) ∧ w7.heap[lb]? = some (.cells cs T (0, 0)) := by
  have hlr : lb < wr.heap.size := (Array.getElem?_eq_some_iff.1 h.loc).1
  have hs6 := hb.size
  have hsr := h.gr.size
  have hne : ∀ k, k < wv.heap.size → some k ≠ u.ownBlock := fun k hk e => by have := own_lt h1 k e.symm; omega
  have at7 : ∀ k, k < wv.heap.size → w7.heap[k]? = wr.heap[k]? := fun k hk =>
    ((hg.block k (by simp; omega) (hne k hk)).trans (heap_alloc_old w6 _ (by omega))).trans (hb.block k (by omega))
  have hl7 : w7.heap[lb]? = some (.cells cs T (0, 0)) := (at7 lb h.lt).trans h.loc
  have own7 := ORows.pushNew5 hsr hb hr h1 h2 h3 h4 hv' hg
  refine ⟨⟨by rw [← hc]; exact blk_set hl7 i v', own7.setLow' h.lt i v', ⟨hg.os.trans (hb.os.trans h.gr.os), hg.tape.trans (hb.tape.trans h.gr.tape), hg.output.trans (hb.output.trans h.gr.output), ?_, fun k hk hkl => ?_⟩, h.lt⟩, hl7⟩
  · have e : (w7.setCell ⟨lb, i, none⟩ v').heap.size = w7.heap.size := by simp [World.setCell]
    have h3 := hg.size
    rw [e]
    simp at h3
    omega
  · exact ((Below.heap_setCell w7 ⟨lb, i, none⟩ v' k (by show k ≠ lb; intro e; exact hkl (by rw [e]))).trans (at7 k hk)).trans (h.gr.block k hk hkl)
theorem LocR.below {T : TypeId} {w2 wv wr : World} {lb : Nat} {cs : Array Value} {u : Value} {xs : List (List Int)} (h : LocR T wv wr lb cs u xs) (hb : Below w2.heap.size w2 wv) (hl : w2.heap.size ≤ lb) : Below w2.heap.size w2 wr :=
  ⟨h.gr.os.trans hb.os, h.gr.tape.trans hb.tape, h.gr.output.trans hb.output, Nat.le_trans hb.size h.gr.size, fun k hk => (h.gr.block k (by have := hb.size; omega) (by intro e; injection e with e; omega)).trans (hb.block k hk)⟩
theorem LocR.other {T : TypeId} {wv wr : World} {lb B : Nat} {cs : Array Value} {u v : Value} {xs : List (List Int)} {ys : List Int} (h : LocR T wv wr lb cs u xs) (ho : OInts wv B v ys) (hne : v.ownBlock ≠ some lb) : OInts wr B v ys :=
  own_grown ho h.gr (.inr hne)
theorem LocR.at7 {T : TypeId} {wv wr w6 w7 : World} {lb b i : Nat} {cs : Array Value} {u x : Value} {rows : List (List Int)} {us : List Value} {o : Obj} (h : LocR T wv wr lb cs u rows) (hb : Below wr.heap.size wr w6)
    (h1 : wr.ownsRow wv.heap.size 26 1 u rows.length us) (hg : (w6.alloc o).grownBy w7 u.ownBlock) (hp : wr.cell? ⟨b, i, none⟩ = some x) (hk : b < wv.heap.size) : w7.cell? ⟨b, i, none⟩ = some x := by
  have hs6 := hb.size
  have hsr := h.gr.size
  exact (World.cell?_of_block (((hg.block b (by simp; omega) (fun e => by have := own_lt h1 b e.symm; omega)).trans (heap_alloc_old w6 _ (by omega))).trans (hb.block b (by omega)))).trans hp
theorem blk_held {wc wd : World} {bx : Nat} {o : Obj} (hz : wc.heap[bx]? = some o) (hb : Below wc.heap.size wc wd) : wd.heap[bx]? = some o := (hb.block _ (Array.getElem?_eq_some_iff.1 hz).1).trans hz

set_option maxRecDepth 100000 in
theorem cloneNil (c : Nat) (w : World) :
    Calls Try.prog 70 #[.slice none 0 c] w fun e w' => e = .returned (.slice none 0 0) ∧ Below w.heap.size w w' := by
  have hcmp := Lib.run_eql_slice_nil (P := Try.prog) w 26 3 none 0 c 0 0 Try.underlying26
  simp only [Option.isNone_none] at hcmp
  go_enter Try.func70, Try.ntmps70
  go_wp2
  go_ret
  exact ⟨rfl, Below.refl _ _⟩
theorem cloneAll (v : Value) (xs : List Int) (w : World) (h : RInts w v xs) (hs : xs.length ≤ 1048576) :
    Calls Try.prog 70 #[v] w fun e w' => ∃ u, e = .returned u ∧ OInts w' w.heap.size u xs ∧ Below w.heap.size w w' := by
  obtain ⟨A, c, rfl, h1, h2⟩ := h.form
  cases A with
  | some ad => exact clone_any ad _ c xs w h hs
  | none =>
    have hx : xs = [] := by
      cases xs with
      | nil => rfl
      | cons y ys =>
        obtain ⟨b, o, c', e, -⟩ := h.at_ (k := 0) (by simp)
        cases e
    subst hx
    refine (cloneNil c w).mono ?_
    rintro e w' ⟨rfl, hb⟩
    exact ⟨_, rfl, OInts.nil _ _, hb⟩
end

section
open Go.RowKit
set_option linter.unusedVariables false

/-- the rows of equations, three an equation -/
def rows3 : List MEq → List (List Int)
  | [] => []
  | e :: es => e.vars :: e.left :: e.right :: rows3 es
theorem rows3_len : ∀ es : List MEq, (rows3 es).length = es.length * 3
  | [] => rfl
  | e :: es => by simp only [rows3, List.length_cons, rows3_len es]; omega
theorem rows3_at : ∀ (es : List MEq) (k : Nat) (e : MEq), es[k]? = some e → (rows3 es)[k * 3]? = some e.vars ∧ (rows3 es)[k * 3 + 1]? = some e.left ∧ (rows3 es)[k * 3 + 2]? = some e.right
  | [], k, e, h => by simp at h
  | x :: es, 0, e, h => by simp at h; subst h; simp [rows3]
  | x :: es, k + 1, e, h => by
    have := rows3_at es k e (by simpa using h)
    rw [show (k + 1) * 3 = k * 3 + 3 by omega]
    simpa [rows3] using this
theorem run_make_wide (t e : TypeId) (z : Value) (size bytes : Nat) (ht : Try.prog.underlying t = some (.slice e)) (hinfo : (Try.prog.info? e).map (fun i => (i.zero, i.size, i.bytes)) = some (some z, size, bytes))
    (kl kc : IntKind) (n : Nat) (hbytes : bytes * n ≤ 281474976710656) (h63 : n ≤ 9223372036854775807) (w : World) :
    (Instr.makeSlice t (.int kl (n : Int)) (.int kc (n : Int))).run Try.prog w = .ok (.slice (some ⟨w.heap.size, 0, none⟩) n n) (w.alloc (.cells (madeCells z.cells (n * size)) e)) := by
  obtain ⟨i, hi, hzz⟩ := Option.map_eq_some_iff.1 hinfo
  simp only [Prod.mk.injEq] at hzz
  obtain ⟨hz, hs, hb⟩ := hzz
  have := run_make (P := Try.prog) w t e i z ht hi hz kl kc n n (by omega) (by omega) (by rw [hb]; omega) (by omega)
  simpa [hs] using this
theorem Try.tinfo_Eq : (Try.prog.info? 41).map (fun i => (i.zero, i.size, i.bytes)) = some (some (.agg #[.slice none 0 0, .slice none 0 0, .slice none 0 0]), 3, 72) := by kernel_rfl

/-- a block that is being filled with rows, cell by cell -/
def FillF (T : TypeId) (w wr : World) (rows : List (List Int)) (k : Nat) : Prop :=
  ∃ cur : Array Value, wr.heap[w.heap.size]? = some (.cells cur T (0, 0)) ∧ cur.size = rows.length ∧ (∀ (j : Nat) (row : List Int), j < k → rows[j]? = some row → ∃ u, cur[j]? = some u ∧ OInts wr (w.heap.size + 1) u row) ∧
    (∀ (i j : Nat) (u u' : Value), i < j → j < k → cur[i]? = some u → cur[j]? = some u' → Apart u u') ∧ Below w.heap.size w wr
section
variable {T : TypeId} {w wr w1 : World} {rows : List (List Int)} {k : Nat}
theorem FillF.start (T : TypeId) (w : World) (rows : List (List Int)) (cur : Array Value) (h : cur.size = rows.length) : FillF T w (w.alloc (.cells cur T)) rows 0 :=
  ⟨cur, heap_alloc_new w _, h, fun j row hj => by omega, fun i j u u' _ hj => by omega, below_alloc _ _⟩
theorem FillF.bel (h : FillF T w wr rows k) : Below w.heap.size w wr := by obtain ⟨_, _, _, _, _, hb⟩ := h; exact hb
theorem FillF.lt (h : FillF T w wr rows k) : w.heap.size < wr.heap.size := by obtain ⟨cur, h1, _⟩ := h; exact (Array.getElem?_eq_some_iff.1 h1).1
theorem FillF.keep (h : FillF T w wr rows k) (hb : Below wr.heap.size wr w1) : FillF T w w1 rows k := by
  have hl := h.lt
  obtain ⟨cur, h1, h2, h3, h4, h5⟩ := h
  exact ⟨cur, (hb.block _ hl).trans h1, h2, fun j row hj hr => by obtain ⟨u, a, b⟩ := h3 j row hj hr; exact ⟨u, a, b.keep hb⟩, h4, h5.trans (hb.mono (by omega))⟩
theorem FillF.cell (h : FillF T w wr rows k) {j : Nat} (hj : j < rows.length) : ∃ u, wr.cell? ⟨w.heap.size, j, none⟩ = some u ∧ wr.frozen? ⟨w.heap.size, j, none⟩ = false := by
  obtain ⟨cur, h1, h2, h3, h4, h5⟩ := h
  exact ⟨cur[j]'(by omega), (blk_cell h1 j).trans (Array.getElem?_eq_getElem (by omega)), blk_free h1 j⟩
/-- what stands there -/
theorem FillF.old (h : FillF T w wr rows k) {j : Nat} {x : Value} (hj : j < k) (hk : k ≤ rows.length) (hx : wr.cell? ⟨w.heap.size, j, none⟩ = some x) : ∀ b, x.ownBlock = some b → b < wr.heap.size := by
  obtain ⟨cur, h1, h2, h3, h4, h5⟩ := h
  obtain ⟨u, a, b⟩ := h3 j rows[j] hj (List.getElem?_eq_getElem (by omega))
  rw [blk_cell h1, a] at hx
  cases hx
  exact fun b' hb' => (own_lt b b' hb').2
theorem FillF.put (h : FillF T w wr rows k) (hk : k < rows.length) {u : Value} {row : List Int} (hr : rows[k]? = some row) (hu : OInts wr (w.heap.size + 1) u row) (ha : ∀ (i : Nat) (x : Value), i < k → wr.cell? ⟨w.heap.size, i, none⟩ = some x → Apart x u) :
    FillF T w (wr.setCell ⟨w.heap.size, k, none⟩ u) rows (k + 1) := by
  obtain ⟨cur, h1, h2, h3, h4, h5⟩ := h
  refine ⟨_, blk_set h1 k u, by simpa using h2, fun j row' hj hrow => ?_, fun i j x x' hij hjk hi hj => ?_, h5.setCell (Nat.le_refl _) _⟩
  · by_cases hjk : k = j
    · subst hjk
      rw [hr] at hrow
      cases hrow
      exact ⟨u, by rw [Array.getElem?_setIfInBounds, if_pos rfl, if_pos (by omega)], hu.setLow (by omega) _ _⟩
    · obtain ⟨x, hx, hxo⟩ := h3 j row' (by omega) hrow
      exact ⟨x, by rw [Array.getElem?_setIfInBounds, if_neg hjk]; exact hx, hxo.setLow (by omega) _ _⟩
  · rw [Array.getElem?_setIfInBounds, if_neg (by omega)] at hi
    by_cases hjk' : k = j
    · subst hjk'
      rw [Array.getElem?_setIfInBounds, if_pos rfl, if_pos (by omega)] at hj
      cases hj
      exact ha i x hij (by rw [blk_cell h1]; exact hi)
    · rw [Array.getElem?_setIfInBounds, if_neg hjk'] at hj
      exact h4 i j x x' hij (by omega) hi hj
theorem apart_old {w1 : World} {B : Nat} {x u : Value} {row : List Int} (hx : ∀ b, x.ownBlock = some b → b < B) (hu : OInts w1 B u row) : Apart x u := by
  unfold Apart
  cases hb : x.ownBlock with
  | none => exact .inl rfl
  | some b => right; intro e; have := hx b hb; have := (own_lt hu b e.symm).1; omega
theorem FillF.put3 (h : FillF T w wr rows (k * 3)) (hb : Below wr.heap.size wr w1) {a b c : Value} {e : MEq} (he : OEq w1 wr.heap.size (.agg #[a, b, c]) e) (hk : k * 3 + 3 ≤ rows.length)
    (r0 : rows[k * 3]? = some e.vars) (r1 : rows[k * 3 + 1]? = some e.left) (r2 : rows[k * 3 + 2]? = some e.right) :
    FillF T w (((w1.setCell ⟨w.heap.size, k * 3, none⟩ a).setCell ⟨w.heap.size, k * 3 + 1, none⟩ b).setCell ⟨w.heap.size, k * 3 + 2, none⟩ c) rows (k * 3 + 3) := by
  have hl := h.lt
  obtain ⟨a', b', c', e', h1, h2, h3, p1, p2, p3⟩ := he
  injection e' with e'
  simp at e'
  obtain ⟨rfl, rfl, rfl⟩ := e'
  have h0 := h.keep hb
  have old : ∀ (j : Nat) (x : Value), j < k * 3 → w1.cell? ⟨w.heap.size, j, none⟩ = some x → ∀ b, x.ownBlock = some b → b < wr.heap.size := fun j x hj hx => by
    refine h.old hj (by omega) ?_
    obtain ⟨cur, q1, _⟩ := h
    have q2 := (hb.block _ hl).trans q1
    rw [blk_cell q2] at hx
    rw [blk_cell q1]; exact hx
  have f1 := h0.put (by omega) r0 (h1.base (by omega)) (fun i x hi hx => apart_old (old i x hi hx) h1)
  have c1 : ∀ (i : Nat) (x u : Value), (w1.setCell ⟨w.heap.size, k * 3, none⟩ u).cell? ⟨w.heap.size, i, none⟩ = some x → i < k * 3 → w1.cell? ⟨w.heap.size, i, none⟩ = some x := fun i x u hx hi => by
    rwa [World.cell?_setCell_other _ _ _ _ (by intro e; injection e; omega)] at hx
  have f2 := f1.put (by omega) r1 ((h2.base (by omega)).setLow (by omega) _ _) (fun i x hi hx => by
    by_cases hi3 : i < k * 3
    · exact apart_old (old i x hi3 (c1 i x _ hx hi3)) h2
    · have : i = k * 3 := by omega
      subst this
      obtain ⟨cur, q1, q2, -⟩ := h0
      rw [blk_cell (blk_set q1 (k * 3) a), Array.getElem?_setIfInBounds, if_pos rfl, if_pos (by omega)] at hx
      cases hx
      exact p1)
  have f3 := f2.put (by omega) r2 (((h3.base (by omega)).setLow (by omega) _ _).setLow (by omega) _ _) (fun i x hi hx => by
    obtain ⟨cur, q1, q2, -⟩ := h0
    have s1 := blk_set q1 (k * 3) a
    have s2 := blk_set s1 (k * 3 + 1) b
    rw [blk_cell s2, Array.getElem?_setIfInBounds] at hx
    by_cases hi4 : k * 3 + 1 = i
    · subst hi4
      rw [if_pos rfl, if_pos (by simp; omega)] at hx
      cases hx
      exact p3
    · rw [if_neg hi4, Array.getElem?_setIfInBounds] at hx
      by_cases hi5 : k * 3 = i
      · subst hi5
        rw [if_pos rfl, if_pos (by omega)] at hx
        cases hx
        exact p2
      · rw [if_neg hi5] at hx
        exact apart_old (old i x (by omega) (by rw [blk_cell q1]; exact hx)) h3)
  exact f3
theorem FillF.done {n size : Nat} (h : FillF T w wr rows k) (hk : k = rows.length) (hn : n * size = rows.length) (hm : n ≤ 9223372036854775807) : ORowsT T size n wr w.heap.size (.slice (some ⟨w.heap.size, 0, none⟩) n n) rows ∧ Below w.heap.size w wr := by
  obtain ⟨cur, h1, h2, h3, h4, h5⟩ := h
  subst hk
  refine ⟨⟨cur.toList, ?_, by simpa using h2, fun j u row hu hrow => ?_, fun i j u u' hij hi hj => ?_⟩, h5⟩
  · refine ⟨by simp [h2, hn], .inr ⟨w.heap.size, _, cur, rfl, Nat.le_refl _, h1, Nat.le_refl _, by rw [maxLen_eq]; exact hm, by omega, List.take_of_length_le (by simp; omega)⟩⟩
  · obtain ⟨x, hx, hxo⟩ := h3 j row (List.getElem?_eq_some_iff.1 hrow).1 hrow
    rw [Array.getElem?_toList, hx] at hu
    cases hu
    exact hxo.base (by omega)
  · rw [Array.getElem?_toList] at hi hj
    exact h4 i j u u' hij (by have := (Array.getElem?_eq_some_iff.1 hj).1; omega) hi hj
end

def OEqs (w : World) (B : Nat) (v : Value) (es : List MEq) : Prop := ORowsT 41 3 es.length w B v (rows3 es)
section
variable {T : TypeId} {size n : Nat} {w w' : World} {B B' : Nat} {v : Value} {rows : List (List Int)} {es : List MEq}
theorem ORowsT.keep (h : ORowsT T size n w B v rows) (hb : Below w.heap.size w w') : ORowsT T size n w' B v rows := by
  obtain ⟨us, h1, h2, h3, h4⟩ := h
  exact ⟨us, own_keep h1 hb, h2, fun j u row a b => (h3 j u row a b).keep hb, h4⟩
theorem ORowsT.base (h : ORowsT T size n w B v rows) (hB : B' ≤ B) : ORowsT T size n w B' v rows := by
  obtain ⟨us, h1, h2, h3, h4⟩ := h
  exact ⟨us, own_base h1 hB, h2, fun j u row a b => (h3 j u row a b).base hB, h4⟩
theorem ORowsT.setLow {b : Nat} (h : ORowsT T size n w B v rows) (hb : b < B) (i : Nat) (x : Value) : ORowsT T size n (w.setCell ⟨b, i, none⟩ x) B v rows := by
  obtain ⟨us, h1, h2, h3, h4⟩ := h
  exact ⟨us, ownsRow_setCell_below h1 hb _, h2, fun j u row a b' => (h3 j u row a b').setLow hb _ _, h4⟩
theorem wide_reads {e : TypeId} {zs : List Value} (h : w.ownsRow B e size v n zs) : ∃ A c, v = .slice A n c ∧ n ≤ c ∧ c ≤ maxLen ∧ ∀ j x, zs[j]? = some x → ∃ b, A = some ⟨b, 0, none⟩ ∧ w.cell? ⟨b, j, none⟩ = some x := by
  obtain ⟨hl, h⟩ := h
  rcases h with ⟨rfl, rfl⟩ | ⟨g, cap, cur, rfl, hg, hh, h1, h2, h3, h4⟩
  · refine ⟨none, 0, rfl, Nat.le_refl _, Nat.zero_le _, fun j x hj => ?_⟩
    have : zs = [] := List.eq_nil_of_length_eq_zero (by simpa using hl)
    subst this
    simp at hj
  · refine ⟨_, cap, rfl, h1, h2, fun j x hj => ⟨g, rfl, ?_⟩⟩
    subst h4
    rw [List.getElem?_take] at hj
    split at hj
    · simpa [World.cell?, hh] using hj
    · cases hj
theorem OEqs.reads (h : OEqs w B v es) : REqs w v es := by
  obtain ⟨us, h1, h2, h3, -⟩ := h
  obtain ⟨A, c, e, k1, k2, k3⟩ := wide_reads h1
  refine ⟨A, c, e, k1, k2, fun j q hj => ?_⟩
  obtain ⟨r0, r1, r2⟩ := rows3_at es j q hj
  have hjl := (List.getElem?_eq_some_iff.1 hj).1
  have hl := rows3_len es
  have get : ∀ i, i < es.length * 3 → ∃ u, us[i]? = some u := fun i hi => ⟨us[i]'(by omega), List.getElem?_eq_getElem _⟩
  obtain ⟨x, hx⟩ := get (j * 3) (by omega)
  obtain ⟨y, hy⟩ := get (j * 3 + 1) (by omega)
  obtain ⟨z, hz⟩ := get (j * 3 + 2) (by omega)
  obtain ⟨b, ea, c0⟩ := k3 _ x hx
  obtain ⟨b1, ea1, c1⟩ := k3 _ y hy
  obtain ⟨b2, ea2, c2⟩ := k3 _ z hz
  rw [ea] at ea1 ea2
  cases ea1
  cases ea2
  exact ⟨b, 0, x, y, z, ea, by simpa using c0, by simpa using c1, by simpa using c2, (h3 _ _ _ hx r0).reads, (h3 _ _ _ hy r1).reads, (h3 _ _ _ hz r2).reads⟩
end

theorem eq_drew (w : World) : Below w.heap.size w w.drew := ⟨rfl, rfl, rfl, Nat.le_refl _, fun _ _ => rfl⟩
theorem eq_undrew {w w' : World} (h : Below w.drew.heap.size w.drew w') : Below w.heap.size w w' := ⟨h.os, h.tape, h.output, h.size, h.block⟩
theorem takeE_bad {xs ys : List MEq} {k : Nat} (hx : k < xs.length) (hy : k < ys.length) (he : sameE xs[k] ys[k] = false) : sameEs xs ys = false := by
  cases h : sameEs xs ys with
  | false => rfl
  | true =>
    have := sameEs_eq.1 h
    subst this
    rw [sameE_self] at he
    cases he
end

section
open Go.RowKit
set_option linter.unusedVariables false

/-- a theory that a call has made: the rows of its operations lie apart from those of its axioms -/
def OThy (w : World) (B : Nat) (v : Value) (t : MThy) : Prop := ∃ u x, v = .agg #[.int .i64 t.over.sorts, u, x] ∧ ∃ (wc : World) (B0 : Nat), B ≤ B0 ∧ B0 ≤ wc.heap.size ∧ wc.heap.size ≤ w.heap.size ∧ ORows wc B0 u t.over.ops ∧ (∀ k, B0 ≤ k → k < wc.heap.size → w.heap[k]? = wc.heap[k]?) ∧ OEqs w wc.heap.size x t.eqs
theorem orows_same {w w' : World} {B : Nat} {v : Value} {rows : List (List Int)} (h : ORows w B v rows) (hk : ∀ k, B ≤ k → k < w.heap.size → w'.heap[k]? = w.heap[k]?) : ORows w' B v rows := by
  obtain ⟨us, h1, h2, h3, h4⟩ := h
  have same : ∀ {B2 : Nat} {e : TypeId} {size n : Nat} {v : Value} {zs : List Value}, B ≤ B2 → w.ownsRow B2 e size v n zs → w'.ownsRow B2 e size v n zs := fun hB h => by
    refine ⟨h.1, ?_⟩
    rcases h.2 with h2 | ⟨g, cap, cur, rfl, hg, hh, r⟩
    · exact .inl h2
    · exact .inr ⟨g, cap, cur, rfl, hg, (hk g (by omega) (Array.getElem?_eq_some_iff.1 hh).1).trans hh, r⟩
  exact ⟨us, same (Nat.le_refl _) h1, h2, fun j u row a b => same (Nat.le_refl _) (h3 j u row a b), h4⟩
theorem orowsT_same {T : TypeId} {size n : Nat} {w w' : World} {B : Nat} {v : Value} {rows : List (List Int)} (h : ORowsT T size n w B v rows) (hk : ∀ k, B ≤ k → k < w.heap.size → w'.heap[k]? = w.heap[k]?) : ORowsT T size n w' B v rows := by
  obtain ⟨us, h1, h2, h3, h4⟩ := h
  have same : ∀ {B2 : Nat} {e : TypeId} {size n : Nat} {v : Value} {zs : List Value}, B ≤ B2 → w.ownsRow B2 e size v n zs → w'.ownsRow B2 e size v n zs := fun hB h => by
    refine ⟨h.1, ?_⟩
    rcases h.2 with h2 | ⟨g, cap, cur, rfl, hg, hh, r⟩
    · exact .inl h2
    · exact .inr ⟨g, cap, cur, rfl, hg, (hk g (by omega) (Array.getElem?_eq_some_iff.1 hh).1).trans hh, r⟩
  exact ⟨us, same (Nat.le_refl _) h1, h2, fun j u row a b => same (Nat.le_refl _) (h3 j u row a b), h4⟩
section
variable {w w' : World} {B B' : Nat} {v : Value} {t : MThy}
theorem OThy.same (h : OThy w B v t) (hs : w.heap.size ≤ w'.heap.size) (hk : ∀ k, B ≤ k → k < w.heap.size → w'.heap[k]? = w.heap[k]?) : OThy w' B v t := by
  obtain ⟨u, x, rfl, wc, B0, z, a, b, c, d, e⟩ := h
  exact ⟨u, x, rfl, wc, B0, z, a, by omega, c, fun k h1 h2 => (hk k (by omega) (by omega)).trans (d k h1 h2), orowsT_same e fun k h1 h2 => hk k (by omega) h2⟩
theorem OThy.keep (h : OThy w B v t) (hb : Below w.heap.size w w') : OThy w' B v t := h.same hb.size fun k _ hk => hb.block k hk
theorem OThy.base (h : OThy w B v t) (hB : B' ≤ B) : OThy w B' v t := by
  obtain ⟨u, x, rfl, wc, B0, z, r⟩ := h
  exact ⟨u, x, rfl, wc, B0, by omega, r⟩
theorem OThy.rows (h : OThy w B v t) : ∃ u x, v = .agg #[.int .i64 t.over.sorts, u, x] ∧ ORows w B u t.over.ops ∧ OEqs w B x t.eqs := by
  obtain ⟨u, x, rfl, wc, B0, z, a, b, c, d, e⟩ := h
  exact ⟨u, x, rfl, (orows_same c d).base z, e.base (by omega)⟩
theorem OThy.reads (h : OThy w B v t) : RThy w v t := by
  obtain ⟨u, x, rfl, h1, h2⟩ := h.rows
  exact ⟨u, x, rfl, h1.reads, h2.reads⟩
end
def FitsT (t : MThy) : Prop := Fits t.over.ops ∧ FitsEs t.eqs
def sameT (a b : MThy) : Bool := sameS a.over b.over && sameEs a.eqs b.eqs
theorem sameT_self (a : MThy) : sameT a a = true := by unfold sameT; rw [sameS_self, sameEs_self]; rfl

theorem ORows.setLowT {w : World} {B b : Nat} {v : Value} {rows : List (List Int)} (h : ORows w B v rows) (hb : b < B) (i : Nat) (x : Value) : ORows (w.setCell ⟨b, i, none⟩ x) B v rows := h.setLow' hb i x
end

section
open Go.RowKit
set_option linter.unusedVariables false
set_option linter.unusedSimpArgs false

structure MModel where
  sizes : List Int
  tables : List (List Int)
def RModel (w : World) (v : Value) (m : MModel) : Prop := ∃ a0 a1, v = .agg #[a0, a1] ∧ RInts w a0 m.sizes ∧ RRows w a1 m.tables
/-- the row of the sizes lies below a block number, the tables from there on -/
def OModel (w : World) (B : Nat) (v : Value) (m : MModel) : Prop := ∃ a0 a1, v = .agg #[a0, a1] ∧ OInts w B a0 m.sizes ∧ ∃ C, B ≤ C ∧ (∀ k, a0.ownBlock = some k → k < C) ∧ ORows w C a1 m.tables
section
variable {w w' : World} {v : Value} {m : MModel} {B B' : Nat}
theorem RModel.keep (h : RModel w v m) (hb : Below w.heap.size w w') : RModel w' v m := by
  obtain ⟨a0, a1, rfl, h0, h1⟩ := h; exact ⟨a0, a1, rfl, h0.keep hb, h1.keep hb⟩
theorem OModel.keep (h : OModel w B v m) (hb : Below w.heap.size w w') : OModel w' B v m := by
  obtain ⟨a0, a1, rfl, h0, C, hC, hl, h1⟩ := h; exact ⟨a0, a1, rfl, h0.keep hb, C, hC, hl, h1.keep hb⟩
theorem OModel.base (h : OModel w B v m) (hB : B' ≤ B) : OModel w B' v m := by
  obtain ⟨a0, a1, rfl, h0, C, hC, hl, h1⟩ := h; exact ⟨a0, a1, rfl, h0.base hB, C, by omega, hl, h1⟩
theorem OModel.same (h : OModel w B v m) (hk : ∀ k, B ≤ k → k < w.heap.size → w'.heap[k]? = w.heap[k]?) : OModel w' B v m := by
  obtain ⟨a0, a1, rfl, h0, C, hC, hl, h1⟩ := h; exact ⟨a0, a1, rfl, h0.same hk, C, hC, hl, h1.same fun k q1 q2 => hk k (by omega) q2⟩
theorem OModel.reads (h : OModel w B v m) : RModel w v m := by
  obtain ⟨a0, a1, rfl, h0, C, hC, hl, h1⟩ := h; exact ⟨a0, a1, rfl, h0.reads, h1.reads⟩
theorem RModel.form (h : RModel w v m) : ∃ A0 c0 A1 c1, v = .agg #[.slice A0 m.sizes.length c0, .slice A1 m.tables.length c1] := by
  obtain ⟨a0, a1, rfl, h0, h1⟩ := h
  obtain ⟨A0, c0, rfl, -⟩ := h0.form
  obtain ⟨A1, c1, rfl, -⟩ := h1.form
  exact ⟨_, _, _, _, rfl⟩
theorem RModel.of {a0 a1 : Value} (h : RModel w (.agg #[a0, a1]) m) : RInts w a0 m.sizes ∧ RRows w a1 m.tables := by
  obtain ⟨a0', a1', he, h0, h1⟩ := h
  injection he with he
  simp at he
  obtain ⟨rfl, rfl⟩ := he
  exact ⟨h0, h1⟩
theorem RModel.mk {a0 a1 : Value} (h0 : RInts w a0 m.sizes) (h1 : RRows w a1 m.tables) : RModel w (.agg #[a0, a1]) m := ⟨a0, a1, rfl, h0, h1⟩
end
def FitsMd (m : MModel) : Prop := m.sizes.length ≤ 1048576 ∧ Fits m.tables
def sameMd (a b : MModel) : Bool := (sameI a.sizes b.sizes) && sameR a.tables b.tables
theorem sameMd_self (a : MModel) : sameMd a a = true := by unfold sameMd sameI sameR; simp
theorem sameMd_eq {a b : MModel} : sameMd a b = true ↔ a = b := by
  obtain ⟨x0, x1⟩ := a
  obtain ⟨y0, y1⟩ := b
  unfold sameMd sameI sameR
  simp [and_assoc]
theorem szModel_any (v : Value) (m : MModel) (left : Int) (w : World) (h : RModel w v m) (h0 : 0 ≤ left) (h1 : left ≤ 1048576) :
    Calls Try.prog 34 #[v, .int .i64 left] w fun e' w' => ∃ r : Int, e' = .returned (.int .i64 r) ∧ (r < 0 ∨ (0 ≤ r ∧ r ≤ left ∧ FitsMd m)) ∧ Below w.heap.size w w' := by
  obtain ⟨a0, a1, rfl, k0, k1⟩ := h
  obtain ⟨xs0, xs1⟩ := m
  simp only at k0 k1
  have hb := below_alloc w (.cells #[a0, a1] 55)
  have HB := Lib.hid hb
  have K0 := Lib.hid (k0.keep hb)
  have K1 := Lib.hid (k1.keep hb)
  obtain ⟨A0, c0, rfl, -⟩ := k0.form
  obtain ⟨A1, c1, rfl, -⟩ := k1.form
  clear k0 k1 hb
  go_enter Try.func34, Try.ntmps34
  go_wp2_with fail
  refine (szIntS_any _ xs0 _ _ K0.out h0 h1).mono ?_
  rintro e w1 ⟨r0, rfl, hr, rfl⟩
  by_cases hneg0 : r0 < 0
  · clear hr
    go_wp2
    go_ret
    exact ⟨-1, rfl, .inl (by omega), HB.out⟩
  have hr1 := hr.resolve_left hneg0
  clear hr
  obtain ⟨p0, hr3⟩ := hr1
  have Q0 := Lib.hid hr3
  have s0 : r0 ≤ 1048576 := by omega
  clear hr3
  go_wp2_with fail
  refine (szIntSS_any _ xs1 _ _ K1.out p0 s0).mono ?_
  rintro e w1 ⟨r1, rfl, hr, rfl⟩
  by_cases hneg1 : r1 < 0
  · clear hr
    go_wp2
    go_ret
    exact ⟨-1, rfl, .inl (by omega), HB.out⟩
  have hr1 := hr.resolve_left hneg1
  clear hr
  obtain ⟨p1, hr3, hr4⟩ := hr1
  have Q1 := Lib.hid hr4
  clear hr4
  go_wp2
  go_ret
  have q0 := Q0.out
  exact ⟨r1, rfl, .inr ⟨p1, by omega, ⟨by simp only; omega, Q1.out⟩⟩, HB.out⟩
set_option maxRecDepth 100000 in
theorem toModel_any (v : Value) (m : MModel) (w : World) (h : RModel w v m) (hs : FitsMd m) :
    Calls Try.prog 37 #[v] w fun e' w' => ∃ u, e' = .returned u ∧ OModel w' w.heap.size u m ∧ Below w.heap.size w w' := by
  obtain ⟨x0, x1, rfl, h0, h1⟩ := h
  obtain ⟨xs0, xs1⟩ := m
  obtain ⟨hs0, hs1⟩ := hs
  simp only at h0 h1 hs0 hs1
  obtain ⟨A0, c0, rfl, -⟩ := h0.form
  obtain ⟨A1, c1, rfl, -⟩ := h1.form
  have hm := Mk.start w 55 28 #[.slice A0 xs0.length c0, .slice A1 xs1.length c1] #[.slice none 0 0, .slice none 0 0] #[.slice none 0 0, .slice none 0 0]
  generalize hW : ((w.alloc (.cells #[.slice A0 xs0.length c0, .slice A1 xs1.length c1] 55)).alloc (.cells #[.slice none 0 0, .slice none 0 0] 28)).alloc (.cells #[.slice none 0 0, .slice none 0 0] 28) = W at hm
  have H0 := Lib.hid (h0.keep hm.b)
  have H1 := Lib.hid h1
  have p0 : W.cell? ⟨w.heap.size, 0, none⟩ = some (.slice A0 xs0.length c0) := hm.ca 0
  have HM := Lib.hid hm
  clear h0 h1 hm
  go_enter Try.func37, Try.ntmps37
  go_wp2_with fail
  clear hW
  refine (toIntS_any _ xs0 _ H0.out hs0).mono ?_
  rintro e y0 ⟨u0, rfl, ho, hb⟩
  have hz0 := HM.out.z
  have hm := HM.out.below hb
  obtain ⟨B0, d0, rfl, -⟩ := ho.reads.form
  have q0 : y0.cell? ⟨w.heap.size + 2, 0, none⟩ = some (.slice none 0 0) := hm.co 0
  have q1 := hm.fo 0
  have hmn := hm.setO 0 (.slice B0 xs0.length d0)
  have n0 := ho.setLow (b := w.heap.size + 2) (by omega) 0 (.slice B0 xs0.length d0)
  generalize hW0 : y0.setCell ⟨w.heap.size + 2, 0, none⟩ (.slice B0 xs0.length d0) = Y0 at hmn n0
  have p1 : Y0.cell? ⟨w.heap.size, 1, none⟩ = some (.slice A1 xs1.length c1) := hmn.ca 1
  have O0 := Lib.hid n0
  have H1 := Lib.hid (H1.out.keep hmn.b)
  replace HM := Lib.hid hmn
  clear ho hb hm p0 hmn n0 H0
  go_wp2_with fail
  clear hW0 q0 q1
  refine (toIntSS_any _ xs1 _ H1.out hs1).mono ?_
  rintro e y1 ⟨u1, rfl, ho, hb⟩
  have hz1 := HM.out.z
  have hm := HM.out.below hb
  obtain ⟨B1, d1, rfl, -⟩ := ho.reads.form
  have hlt0 := Lib.hid (fun k e => (own_lt O0.out k e).2)
  have HZ1 := Lib.hid HM.out.z
  have hmn := (((hm.setO 1 (.slice B1 xs1.length d1)).setR 0 (.slice B0 xs0.length d0)).setR 1 (.slice B1 xs1.length d1))
  have n0 := ((((O0.out.keep hb).setLow (b := w.heap.size + 2) (by omega) 1 (.slice B1 xs1.length d1)).setLow (b := w.heap.size + 1) (by omega) 0 (.slice B0 xs0.length d0)).setLow (b := w.heap.size + 1) (by omega) 1 (.slice B1 xs1.length d1))
  have n1 := (((ho.setLowT (b := w.heap.size + 2) (by omega) 1 (.slice B1 xs1.length d1)).setLowT (b := w.heap.size + 1) (by omega) 0 (.slice B0 xs0.length d0)).setLowT (b := w.heap.size + 1) (by omega) 1 (.slice B1 xs1.length d1))
  have HF := Lib.hid (And.intro n0 (And.intro n1 hmn))
  have g0 : y1.cell? ⟨w.heap.size + 2, 0, none⟩ = some (.slice B0 xs0.length d0) := hm.co 0
  have g1 : y1.cell? ⟨w.heap.size + 2, 1, none⟩ = some (.slice none 0 0) := hm.co 1
  have gf := hm.fo 1
  have r0 : y1.cell? ⟨w.heap.size + 1, 0, none⟩ = some (.slice none 0 0) := hm.cr 0
  have f0 := hm.fr 0
  have r1 : y1.cell? ⟨w.heap.size + 1, 1, none⟩ = some (.slice none 0 0) := hm.cr 1
  have f1 := hm.fr 1
  clear ho hb hm hmn n0 n1 O0 H1 p1 HM
  go_wp2
  obtain ⟨n0, n1, hmn⟩ := HF.out
  generalize ((y1.setCell ⟨w.heap.size + 2, 1, none⟩ (.slice B1 xs1.length d1)).setCell ⟨w.heap.size + 1, 0, none⟩ (.slice B0 xs0.length d0)).setCell ⟨w.heap.size + 1, 1, none⟩ (.slice B1 xs1.length d1) = wz at n0 n1 hmn ⊢
  have k0 : wz.cell? ⟨w.heap.size + 1, 0, none⟩ = some (.slice B0 xs0.length d0) := hmn.cr 0
  have k1 : wz.cell? ⟨w.heap.size + 1, 1, none⟩ = some (.slice B1 xs1.length d1) := hmn.cr 1
  clear g0 g1 gf r0 f0 r1 f1
  refine bodyPost_ret (v := .agg #[.slice B0 xs0.length d0, .slice B1 xs1.length d1]) (by simp [results, Try.results37, go_sem, k0, k1]) rfl ?_
  exact ⟨_, rfl, ⟨_, _, rfl, n0.base (by omega), _, by have := HZ1.out; omega, hlt0.out, n1⟩, hmn.b⟩
theorem eqModel_any (v v' : Value) (a b : MModel) (w : World) (h : RModel w v a) (h' : RModel w v' b) :
    Calls Try.prog 41 #[v, v'] w fun e w' => e = .returned (.bool (sameMd a b)) ∧ Below w.heap.size w w' := by
  obtain ⟨x0, x1, rfl, h0, h1⟩ := h
  obtain ⟨y0, y1, rfl, k0, k1⟩ := h'
  have hb2 : Below w.heap.size w ((w.alloc (.cells #[x0, x1] 28)).alloc (.cells #[y0, y1] 28)) := (below_alloc _ _).alloc (by simp) _
  have HB := Lib.hid hb2
  have H0 := Lib.hid (h0.keep hb2)
  have K0 := Lib.hid (k0.keep hb2)
  have H1 := Lib.hid (h1.keep hb2)
  have K1 := Lib.hid (k1.keep hb2)
  obtain ⟨a0, a1⟩ := a
  obtain ⟨b0, b1⟩ := b
  simp only at h0 h1 k0 k1 H0 H1 K0 K1
  obtain ⟨A0, c0, rfl, -⟩ := h0.form
  obtain ⟨D0, d0, rfl, -⟩ := k0.form
  obtain ⟨A1, c1, rfl, -⟩ := h1.form
  obtain ⟨D1, d1, rfl, -⟩ := k1.form
  clear h0 h1 k0 k1 hb2
  have f0 := cell_keep (below_alloc (w.alloc (.cells #[.slice A0 a0.length c0, .slice A1 a1.length c1] 28)) (.cells #[.slice D0 b0.length d0, .slice D1 b1.length d1] 28)) (bx_at w #[.slice A0 a0.length c0, .slice A1 a1.length c1] 28 (k := 0) rfl)
  have f1 := cell_keep (below_alloc (w.alloc (.cells #[.slice A0 a0.length c0, .slice A1 a1.length c1] 28)) (.cells #[.slice D0 b0.length d0, .slice D1 b1.length d1] 28)) (bx_at w #[.slice A0 a0.length c0, .slice A1 a1.length c1] 28 (k := 1) rfl)
  have g0 := bx_at (w.alloc (.cells #[.slice A0 a0.length c0, .slice A1 a1.length c1] 28)) #[.slice D0 b0.length d0, .slice D1 b1.length d1] 28 (k := 0) rfl
  have g1 := bx_at (w.alloc (.cells #[.slice A0 a0.length c0, .slice A1 a1.length c1] 28)) #[.slice D0 b0.length d0, .slice D1 b1.length d1] 28 (k := 1) rfl
  simp only [World.size_alloc] at g0 g1
  generalize hW : (w.alloc (.cells #[.slice A0 a0.length c0, .slice A1 a1.length c1] 28)).alloc (.cells #[.slice D0 b0.length d0, .slice D1 b1.length d1] 28) = W at HB H0 H1 K0 K1 f0 f1 g0 g1
  have HE : Hid (sameMd ⟨a0, a1⟩ ⟨b0, b1⟩ = ((sameI a0 b0) && sameR a1 b1)) := rfl
  cases x0 : sameI a0 b0 with
  | false =>
    rw [x0] at HE
    have X0 := Lib.hid x0
    clear x0
    go_enter Try.func41, Try.ntmps41
    go_wp2_with fail
    clear hW
    refine (eqIntS_is _ _ _ _ _ _ X0.out H0.out K0.out).mono ?_
    rintro e z0 ⟨rfl, hd⟩
    have hb := hd.below
    replace HB := Lib.hid (sz_keep HB.out hb)
    replace f1 := cell_keep hb f1
    replace g1 := cell_keep hb g1
    replace H1 := Lib.hid (H1.out.keep hb)
    replace K1 := Lib.hid (K1.out.keep hb)
    clear hd hb f0 g0 H0 K0
    go_wp2
    go_ret
    exact ⟨ret_bool HE.out.symm, HB.out⟩
  | true =>
    rw [x0] at HE
    have X0 := Lib.hid x0
    clear x0
    cases x1 : sameR a1 b1 with
    | false =>
      rw [x1] at HE
      have X1 := Lib.hid x1
      clear x1
      go_enter Try.func41, Try.ntmps41
      go_wp2_with fail
      clear hW
      refine (eqIntS_is _ _ _ _ _ _ X0.out H0.out K0.out).mono ?_
      rintro e z0 ⟨rfl, hd⟩
      have hb := hd.below
      replace HB := Lib.hid (sz_keep HB.out hb)
      replace f1 := cell_keep hb f1
      replace g1 := cell_keep hb g1
      replace H1 := Lib.hid (H1.out.keep hb)
      replace K1 := Lib.hid (K1.out.keep hb)
      clear hd hb f0 g0 H0 K0
      go_wp2_with fail
      refine (eqIntSS_is _ _ _ _ _ _ X1.out H1.out K1.out).mono ?_
      rintro e z1 ⟨rfl, hd⟩
      have hb := hd.below
      replace HB := Lib.hid (sz_keep HB.out hb)
      clear hd hb f1 g1 H1 K1
      go_wp2
      go_ret
      exact ⟨ret_bool HE.out.symm, HB.out⟩
    | true =>
      rw [x1] at HE
      have X1 := Lib.hid x1
      clear x1
      go_enter Try.func41, Try.ntmps41
      go_wp2_with fail
      clear hW
      refine (eqIntS_is _ _ _ _ _ _ X0.out H0.out K0.out).mono ?_
      rintro e z0 ⟨rfl, hd⟩
      have hb := hd.below
      replace HB := Lib.hid (sz_keep HB.out hb)
      replace f1 := cell_keep hb f1
      replace g1 := cell_keep hb g1
      replace H1 := Lib.hid (H1.out.keep hb)
      replace K1 := Lib.hid (K1.out.keep hb)
      clear hd hb f0 g0 H0 K0
      go_wp2_with fail
      refine (eqIntSS_is _ _ _ _ _ _ X1.out H1.out K1.out).mono ?_
      rintro e z1 ⟨rfl, hd⟩
      have hb := hd.below
      replace HB := Lib.hid (sz_keep HB.out hb)
      clear hd hb f1 g1 H1 K1
      go_wp2
      go_ret
      exact ⟨ret_bool HE.out.symm, HB.out⟩
theorem eqModel_is (v v' : Value) (a b : MModel) (w : World) (r : Bool) (hr : sameMd a b = r) (h : RModel w v a) (h' : RModel w v' b) :
    Calls Try.prog 41 #[v, v'] w fun e w' => e = .returned (.bool r) ∧ Below w.heap.size w w' := by
  subst hr; exact eqModel_any v v' a b w h h'
end
end Go.Proofs.Ytkhabmoidpgapaa
