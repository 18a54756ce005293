/- The marks of a list of rows, to the number: markIntSS, heldIntSS, markSig, heldSig. · The exact laws' marks of a result that lies between others: worlds cut off at a size. No walk. · What the made proofs of the exact laws share (tools/exact.py). No walk. · Terms as trees, and how rows of numbers read as terms. No walk. · The plain functions on rows that read as terms: sorts, parts, what is put there; and what holds of them. No walk. · VarsOk of both packages. · What the proofs of the exact laws share: rows and lists of rows that came in. · How equations, lists of them and theories read in memory. No walk. · The plain functions of equations, theories and steps; small numbers. No walk. · What the proofs of the exact laws share: equations, lists of them and theories that came in. · The exact laws' measure, copy and comparison of an equation: szEq, toEq, eqEq. -/
import Derived.Test.YtmmnamjgpfkababKf608ceec
import Derived.Deep.Slices
import Derived.Deep.Strs
namespace Go.Proofs.Ytmmnamjgpfkabab
section
open Go.RowKit
set_option linter.unusedVariables false

def tot (rows : List (List Int)) : Nat := (rows.map List.length).sum
theorem tot_take {rows : List (List Int)} {k : Nat} (hk : k < rows.length) : tot (rows.take (k + 1)) = tot (rows.take k) + rows[k].length := by
  unfold tot; rw [List.take_succ_eq_append_getElem hk, List.map_append, List.sum_append]; simp
def marksR (k : Int) : List (List Int) → List (List Int)
  | [] => []
  | r :: rs => marks k r.length :: marksR (k + (r.length : Int)) rs
theorem marksR_at (rows : List (List Int)) : ∀ (k : Int) (j : Nat), (marksR k rows)[j]? = (rows[j]?).map fun r => marks (k + (tot (rows.take j) : Int)) r.length := by
  induction rows with
  | nil => intro k j; simp [marksR]
  | cons r rs ih =>
    intro k j
    cases j with
    | zero => simp [marksR, tot]
    | succ j =>
      simp only [marksR, List.getElem?_cons_succ, ih, List.take_succ_cons]
      congr 1
      funext x
      congr 1
      simp [tot]
      omega
theorem marksR_len (rows : List (List Int)) : ∀ k, (marksR k rows).length = rows.length := by
  induction rows with
  | nil => intro k; rfl
  | cons r rs ih => intro k; simp [marksR, ih]
theorem tot_le {rows : List (List Int)} (h : ∀ row ∈ rows, row.length ≤ 1048576) : tot rows ≤ 1048576 * rows.length := by
  unfold tot
  induction rows with
  | nil => simp
  | cons r rs ih =>
    have h1 := h r (List.mem_cons_self ..)
    have h2 := ih (fun row hr => h row (List.mem_cons_of_mem _ hr))
    simp only [List.map_cons, List.sum_cons, List.length_cons]
    omega

structure MarkP (w wr : World) (B M : Nat) (v : Value) (us : List Value) (rows : List (List Int)) (k0 : Int) (k : Nat) : Prop where
  own : wr.ownsRow B 55 1 v rows.length us
  len : us.length = rows.length
  done : ∀ (j : Nat) (u : Value) (row : List Int), j < k → us[j]? = some u → rows[j]? = some row → OInts wr B u (marks (k0 + (tot (rows.take j) : Int)) row.length)
  todo : ∀ (j : Nat) (u : Value) (row : List Int), k ≤ j → us[j]? = some u → rows[j]? = some row → OInts wr B u row
  apart : ∀ (i j : Nat) (u u' : Value), i < j → us[i]? = some u → us[j]? = some u' → u.ownBlock = none ∨ u.ownBlock ≠ u'.ownBlock
  low : ∀ (j : Nat) (u : Value), us[j]? = some u → ∀ k, u.ownBlock = some k → B ≤ k ∧ k < M
  frame : Outside B M w wr
theorem MarkP.start {w0 w : World} {B : Nat} {v : Value} {rows : List (List Int)} (k0 : Int) (h : ORows w0 B v rows) (hb : Below w0.heap.size w0 w) : ∃ us, MarkP w w B w0.heap.size v us rows k0 0 := by
  obtain ⟨us, h1, h2, h3, h4⟩ := h
  refine ⟨us, own_keep h1 hb, h2, fun j u row hj => by omega, fun j u row _ hu hr => (h3 j u row hu hr).keep hb, h4, fun j u hu k hk => ?_, Outside.refl _ _ _⟩
  have hj : j < rows.length := by rw [← h2]; exact (List.getElem?_eq_some_iff.1 hu).1
  exact own_lt (h3 j u _ hu (List.getElem?_eq_getElem hj)) k hk
theorem MarkP.step {w wr w1 : World} {B M : Nat} {v u : Value} {us : List Value} {rows : List (List Int)} {k0 : Int} {j : Nat} {row0 : List Int} (h : MarkP w wr B M v us rows k0 j) (hu : us[j]? = some u) (hr : rows[j]? = some row0)
    (hy : OInts w1 B u (marks (k0 + (tot (rows.take j) : Int)) row0.length)) (hg : wr.grownBy w1 u.ownBlock) (hz : w1.heap.size = wr.heap.size) : MarkP w w1 B M v us rows k0 (j + 1) := by
  have hxs := h.todo j u row0 (Nat.le_refl _) hu hr
  have other : ∀ {i : Nat} {x : Value} {zs : List Int}, i ≠ j → us[i]? = some x → OInts wr B x zs → OInts w1 B x zs := fun {i x zs} hij hx hz => by
    refine own_grown hz hg ?_
    rcases Nat.lt_or_gt_of_ne hij with hlt | hgt
    · exact h.apart i j x u hlt hx hu
    · rcases h.apart j i u x hgt hu hx with e | e
      · rw [e]
        cases x.ownBlock with
        | none => exact .inl rfl
        | some k => right; simp
      · exact .inr (fun e' => e e'.symm)
  refine ⟨own_grown h.own hg (own_ne h.own hxs (by decide)), h.len, fun i x row hi hx hrow => ?_, fun i x row hi hx hrow => ?_, h.apart, h.low, h.frame.trans ⟨hg.os, hg.tape, hg.output, hz, fun k hk => ?_⟩⟩
  · by_cases hij : i = j
    · subst hij
      rw [hu] at hx
      rw [hr] at hrow
      cases hx
      cases hrow
      exact hy
    · exact other hij hx (h.done i x row (by omega) hx hrow)
  · exact other (by omega) hx (h.todo i x row (by omega) hx hrow)
  · by_cases hkl : k < wr.heap.size
    · exact hg.block k hkl (fun e => by have := h.low j u hu k e.symm; omega)
    · rw [Array.getElem?_eq_none (by omega), Array.getElem?_eq_none (by omega)]
theorem MarkP.all {w wr : World} {B M : Nat} {v : Value} {us : List Value} {rows : List (List Int)} {k0 : Int} {k : Nat} (h : MarkP w wr B M v us rows k0 k) (hk : k = rows.length) : ORows wr B v (marksR k0 rows) ∧ Outside B M w wr := by
  refine ⟨⟨us, by rw [marksR_len]; exact h.own, by rw [marksR_len]; exact h.len, fun j u r hu hr => ?_, h.apart⟩, h.frame⟩
  rw [marksR_at] at hr
  obtain ⟨row, hrow, rfl⟩ := Option.map_eq_some_iff.1 hr
  exact h.done j u row (by rw [hk]; exact (List.getElem?_eq_some_iff.1 hrow).1) hu hrow

theorem markIntSSp_any (v : Value) (B : Nat) (rows : List (List Int)) (k0 : Int) (w0 w : World) (h : ORows w0 B v rows) (hb : Below w0.heap.size w0 w) (hs : rows.length ≤ 1048576) (hs2 : ∀ row ∈ rows, row.length ≤ 1048576) (h0 : 0 ≤ k0) (h1 : k0 ≤ 100000000000000) :
    Calls Try.prog 48 #[v, .int .i64 k0] w fun e w' => e = .returned (.int .i64 (k0 + (tot rows : Int))) ∧ ORows w' B v (marksR k0 rows) ∧ Outside B w0.heap.size w w' := by
  obtain ⟨us, hm0⟩ := MarkP.start k0 h hb
  have HM0 := Lib.hid hm0
  have HS2 := Lib.hid hs2
  obtain ⟨A, c, rfl, -⟩ := own_reads hm0.own
  clear h hb hm0 hs2
  go_enter Try.func48, Try.ntmps48
  go_wp2
  go_loopw [1, 5] (fun l i wr => ∃ k : Nat, k ≤ rows.length ∧ i = .int .i64 k ∧ l = .int .i64 (k0 + (tot (rows.take k) : Int)) ∧ MarkP w wr B w0.heap.size (.slice A rows.length c) us rows k0 k) (fun _ i _ => rows.length - (intOf i).toNat)
  case atStart => exact ⟨0, Nat.zero_le _, rfl, by simp [tot], HM0.out⟩
  case round =>
    obtain ⟨k, hk, rfl, rfl, hm⟩ := hrel
    have HM := Lib.hid hm
    clear hm
    have htt : (tot (rows.take k) : Int) ≤ 1048576 * 1048576 := by
      have := tot_le (rows := rows.take k) (fun row hr => HS2.out row (List.mem_of_mem_take hr))
      rw [List.length_take] at this
      omega
    by_cases hlt : k < rows.length
    · have hul : k < us.length := by rw [HM.out.len]; exact hlt
      have HYO := Lib.hid (HM.out.todo k us[k] rows[k] (Nat.le_refl _) (List.getElem?_eq_getElem hul) (List.getElem?_eq_getElem hlt))
      have hrl := HS2.out _ (List.getElem_mem hlt)
      obtain ⟨A0, c0, e0, -, -, hcells⟩ := own_reads HM.out.own
      cases e0
      obtain ⟨b, o, ea, hcell⟩ := hcells k us[k] (List.getElem?_eq_getElem hul)
      subst ea
      have HU := Lib.hid (List.getElem?_eq_getElem hul)
      have HR := Lib.hid (List.getElem?_eq_getElem hlt)
      have HTT := Lib.hid (tot_take hlt)
      generalize us[k] = u at HYO hcell HU
      generalize rows[k] = row at HYO HR hrl HTT
      obtain ⟨Au, cu, rfl, -⟩ := own_reads HYO.out
      clear hcells hul
      generalize hto : tot (rows.take k) = T at HTT htt
      have HTO := Lib.hid hto
      clear hto
      go_wp2_with fail
      refine (markIntS_any _ B row _ _ HYO.out hrl (by omega) (by omega)).mono ?_
      rintro e w1 ⟨rfl, ho, hg, hz⟩
      have HN := Lib.hid (HM.out.step HU.out HR.out (by rw [HTO.out]; exact ho) hg hz)
      have hyl : (row.length : Int) ≤ 1048576 := by omega
      clear ho hg hz
      go_wp2
      go_roundw
      case rel => exact ⟨k + 1, by omega, by go_num, by rw [HTT.out]; go_num, HN.out⟩
      case measure => simp [intOf]; omega
    · have hkn : k = rows.length := by omega
      have HKN := Lib.hid hkn
      clear hkn
      go_wp2
      go_ret
      obtain ⟨r1, r2⟩ := HM.out.all HKN.out
      refine ⟨?_, r1, r2⟩
      have e := HKN.out
      have e2 : tot (rows.take k) = tot rows := by rw [take_all (by omega)]
      exact ret_int (by rw [e2])

theorem heldIntSS_any (v : Value) (rows : List (List Int)) (k0 : Int) (w : World) (h : RRows w v (marksR k0 rows)) (hs : rows.length ≤ 1048576) (hs2 : ∀ row ∈ rows, row.length ≤ 1048576) (h0 : 0 ≤ k0) (h1 : k0 ≤ 100000000000000) :
    Calls Try.prog 88 #[v, .int .i64 k0] w fun e w' => e = .returned (.int .i64 (k0 + (tot rows : Int))) ∧ Drawn w w' := by
  have H := Lib.hid h
  have HS2 := Lib.hid hs2
  obtain ⟨A, c, e, -⟩ := h.form
  rw [marksR_len] at e
  subst e
  clear h hs2
  go_enter Try.func88, Try.ntmps88
  go_wp2
  go_loopw [1, 5] (fun l i wr => ∃ k : Nat, k ≤ rows.length ∧ i = .int .i64 k ∧ l = .int .i64 (k0 + (tot (rows.take k) : Int)) ∧ Drawn w wr) (fun _ i _ => rows.length - (intOf i).toNat)
  case atStart => exact ⟨0, Nat.zero_le _, rfl, by simp [tot], Drawn.refl _⟩
  case round =>
    obtain ⟨k, hk, rfl, rfl, hd⟩ := hrel
    have HD := Lib.hid hd
    clear hd
    have htt : (tot (rows.take k) : Int) ≤ 1048576 * 1048576 := by
      have := tot_le (rows := rows.take k) (fun row hr => HS2.out row (List.mem_of_mem_take hr))
      rw [List.length_take] at this
      omega
    by_cases hlt : k < rows.length
    · obtain ⟨b, o, c', u, e, hx, hri⟩ := (H.out.keep HD.out.below).at_ (k := k) (by rw [marksR_len]; exact hlt)
      rw [marksR_len] at e
      cases e
      have hrow : (marksR k0 rows)[k]'(by rw [marksR_len]; exact hlt) = marks (k0 + (tot (rows.take k) : Int)) rows[k].length := by
        have := marksR_at rows k0 k
        rw [List.getElem?_eq_getElem (by rw [marksR_len]; exact hlt), List.getElem?_eq_getElem hlt] at this
        simpa using this
      rw [hrow] at hri
      have hrl := HS2.out _ (List.getElem_mem hlt)
      have HTT := Lib.hid (tot_take hlt)
      clear hrow
      generalize rows[k] = row at hri hrl HTT
      obtain ⟨A1, c1, e1, -⟩ := hri.form
      rw [marks_len] at e1
      subst e1
      have HI := Lib.hid hri
      clear hri
      generalize hto : tot (rows.take k) = T at HTT htt HI
      clear hto
      go_wp2_with fail
      refine (heldIntS_any _ row.length _ _ HI.out hrl (by omega) (by omega)).mono ?_
      rintro e w1 ⟨rfl, hd1⟩
      have HD1 := Lib.hid (HD.out.trans hd1)
      have hyl : (row.length : Int) ≤ 1048576 := by omega
      clear hd1
      go_wp2
      go_roundw
      case rel => exact ⟨k + 1, by omega, by go_num, by rw [HTT.out]; go_num, HD1.out⟩
      case measure => simp [intOf]; omega
    · have hkn : k = rows.length := by omega
      have HKN := Lib.hid hkn
      clear hkn
      go_wp2
      go_ret
      have e2 : tot (rows.take k) = tot rows := by have e := HKN.out; rw [take_all (by omega)]
      exact ⟨ret_int (by rw [e2]), HD.out⟩

theorem markSigp_any (v : Value) (B : Nat) (s : MSig) (k0 : Int) (w0 w : World) (h : OSig w0 B v s) (hb : Below w0.heap.size w0 w) (hs : s.ops.length ≤ 1048576) (hs2 : ∀ row ∈ s.ops, row.length ≤ 1048576) (h0 : 0 ≤ k0) (h1 : k0 ≤ 100000000000000) :
    Calls Try.prog 17 #[v, .int .i64 k0] w fun e w' => e = .returned (.int .i64 (k0 + (tot s.ops : Int))) ∧ OSig w' B v ⟨s.sorts, marksR k0 s.ops⟩ ∧ ∃ o, Outside B w0.heap.size (w.alloc o) w' := by
  obtain ⟨u, rfl, ho⟩ := h
  obtain ⟨sorts, ops⟩ := s
  have HO := Lib.hid ho
  have HB := Lib.hid (hb.trans ((below_alloc w (.cells #[.int .i64 sorts, u] 33)).mono hb.size))
  have HS := Lib.hid (And.intro hs hs2)
  obtain ⟨A, c, rfl, -⟩ := ho.reads.form
  clear ho hb hs hs2
  go_enter Try.func17, Try.ntmps17
  go_wp2_with fail
  refine (markIntSSp_any _ B ops _ w0 _ HO.out HB.out HS.out.1 HS.out.2 h0 h1).mono ?_
  rintro e w1 ⟨rfl, hm, hout⟩
  have HOUT := Lib.hid hout
  have HM := Lib.hid hm
  clear hout hm
  go_wp2
  go_ret
  exact ⟨rfl, ⟨_, rfl, HM.out⟩, _, HOUT.out⟩

theorem heldSig_any (v : Value) (s : MSig) (k0 : Int) (w : World) (h : RSig w v ⟨s.sorts, marksR k0 s.ops⟩) (hs : s.ops.length ≤ 1048576) (hs2 : ∀ row ∈ s.ops, row.length ≤ 1048576) (h0 : 0 ≤ k0) (h1 : k0 ≤ 100000000000000) :
    Calls Try.prog 93 #[v, .int .i64 k0] w fun e w' => e = .returned (.int .i64 (k0 + (tot s.ops : Int))) ∧ Below w.heap.size w w' := by
  obtain ⟨u, rfl, hr⟩ := h
  obtain ⟨sorts, ops⟩ := s
  simp only at hr
  have HA := Lib.hid (below_alloc w (.cells #[.int .i64 sorts, u] 33))
  have HR := Lib.hid (hr.keep HA.out)
  have HS := Lib.hid (And.intro hs hs2)
  have htt : (tot ops : Int) ≤ 1048576 * 1048576 := by
    have := tot_le (rows := ops) hs2
    simp only at hs
    omega
  obtain ⟨A, c, e, -⟩ := hr.form
  rw [marksR_len] at e
  subst e
  clear hr hs hs2
  go_enter Try.func93, Try.ntmps93
  go_wp2_with fail
  refine (heldIntSS_any _ ops _ _ HR.out HS.out.1 HS.out.2 h0 h1).mono ?_
  rintro e w1 ⟨rfl, hd⟩
  have HD := Lib.hid (HA.out.trans (hd.below.mono (by simp)))
  clear hd
  simp only at htt ⊢
  have hnn : (0 : Int) ≤ (tot ops : Int) := by omega
  go_wp2
  go_ret
  exact ⟨rfl, HD.out⟩
end

section
open Go.RowKit
set_option linter.unusedVariables false

def cutTo (w : World) (M : Nat) : World := { w with heap := w.heap.extract 0 M }
theorem cut_size {w : World} {M : Nat} (h : M ≤ w.heap.size) : (cutTo w M).heap.size = M := by
  show (w.heap.extract 0 M).size = M
  rw [Array.size_extract]; omega
theorem cut_block {w : World} {M k : Nat} (hk : k < M) : (cutTo w M).heap[k]? = w.heap[k]? := by
  show (w.heap.extract 0 M)[k]? = w.heap[k]?
  rw [Array.getElem?_extract]
  by_cases h : k < w.heap.size
  · rw [if_pos (by omega)]; congr 1; omega
  · rw [if_neg (by omega), Array.getElem?_eq_none (by omega)]
theorem cut_below {w : World} {M : Nat} (h : M ≤ w.heap.size) : Below (cutTo w M).heap.size (cutTo w M) w := by
  rw [cut_size h]
  exact ⟨rfl, rfl, rfl, by rw [cut_size h]; exact h, fun k hk => (cut_block hk).symm⟩

section
variable {w w' : World} {B B' M : Nat} {v u : Value} {xs : List Int} {rows : List (List Int)} {s : MSig}
theorem own_same {e : TypeId} {size n : Nat} {zs : List Value} (h : w.ownsRow B e size v n zs) (hk : ∀ k, B ≤ k → k < w.heap.size → w'.heap[k]? = w.heap[k]?) : w'.ownsRow B e size v n zs := by
  refine ⟨h.1, ?_⟩
  rcases h.2 with h2 | ⟨g, cap, cur, rfl, hg, hh, r⟩
  · exact .inl h2
  · exact .inr ⟨g, cap, cur, rfl, hg, (hk g hg (Array.getElem?_eq_some_iff.1 hh).1).trans hh, r⟩
theorem OInts.same (h : OInts w B v xs) (hk : ∀ k, B ≤ k → k < w.heap.size → w'.heap[k]? = w.heap[k]?) : OInts w' B v xs := own_same h hk
theorem ORows.same (h : ORows w B v rows) (hk : ∀ k, B ≤ k → k < w.heap.size → w'.heap[k]? = w.heap[k]?) : ORows w' B v rows := by
  obtain ⟨us, h1, h2, h3, h4⟩ := h
  exact ⟨us, own_same h1 hk, h2, fun j u row a b => (h3 j u row a b).same hk, h4⟩
theorem OSig.same (h : OSig w B v s) (hk : ∀ k, B ≤ k → k < w.heap.size → w'.heap[k]? = w.heap[k]?) : OSig w' B v s := by
  obtain ⟨u, e, h⟩ := h; exact ⟨u, e, h.same hk⟩
end
/-- of w's blocks those from A on and below its size lie in w' as they were -/
def Keeps (A : Nat) (w w' : World) : Prop := ∀ k, A ≤ k → k < w.heap.size → w'.heap[k]? = w.heap[k]?
theorem Keeps.refl (A : Nat) (w : World) : Keeps A w w := fun _ _ _ => rfl
theorem Keeps.below {A : Nat} {w w1 w2 : World} (h : Keeps A w w1) (hs : w.heap.size ≤ w1.heap.size) (hb : Below w1.heap.size w1 w2) : Keeps A w w2 := fun k h1 h2 => (hb.block k (by omega)).trans (h k h1 h2)
theorem Keeps.outside {A B M : Nat} {w w1 w2 : World} (h : Keeps A w w1) (ho : Outside B M w1 w2) (hM : M ≤ A) : Keeps A w w2 := fun k h1 h2 => (ho.block k (.inr (by omega))).trans (h k h1 h2)
theorem Keeps.cell {A : Nat} {w w' : World} (h : Keeps A w w') {b o : Nat} {u : Value} (hA : A ≤ b) (hc : w.cell? ⟨b, o, none⟩ = some u) : w'.cell? ⟨b, o, none⟩ = some u :=
  (World.cell?_of_block (h b hA (World.block_lt_of_cell? w _ hc))).trans hc
end

section
open Go.ChangeShapes Go.WideShapes Go.ChangeAt Go.RowKit
set_option linter.unusedVariables false

theorem ex_keep {w w1 w2 : World} (h : Below w.heap.size w w1) (k : Below w1.heap.size w1 w2) : Below w.heap.size w w2 := h.trans (k.mono h.size)
theorem ex_drew {B : Nat} {a w : World} (h : Below B a w) : Below B a w.drew := ⟨h.os, h.tape, h.output, h.size, h.block⟩
theorem ex_undrew {w w' : World} (h : Below w.drew.heap.size w.drew w') : Below w.heap.size w w' := below_undrew h
theorem sameI_self (xs : List Int) : sameI xs xs = true := by unfold sameI; simp
theorem sameR_self (xs : List (List Int)) : sameR xs xs = true := by unfold sameR; simp
end

section
open Go.RowKit
set_option linter.unusedVariables false

inductive Tm where
  | leaf (k : Nat) (of : Int)
  | node (op : Nat) (lv : Int) (ts : List Tm)

def Tm.sort : Tm → Int
  | .leaf _ of => of
  | .node _ lv _ => lv

mutual
def Tm.row : Tm → List Int
  | .leaf k _ => [100 + (k : Int)]
  | .node op _ ts => (op : Int) :: rowsOf ts
def rowsOf : List Tm → List Int
  | [] => []
  | t :: ts => t.row ++ rowsOf ts
end

def opRow (s : MSig) (n : Nat) : List Int := s.ops.getD n []

mutual
def wfT (s : MSig) (vars : List Int) : Tm → Prop
  | .leaf k of => k < vars.length ∧ of = vars.getD k 0
  | .node op lv ts => op < s.ops.length ∧ lv = (opRow s op).getLastD (-1) ∧ wfTs s vars (opRow s op).dropLast ts
def wfTs (s : MSig) (vars : List Int) : List Int → List Tm → Prop
  | ss, [] => ss = []
  | ss, t :: ts => ∃ x ss', ss = x :: ss' ∧ t.sort = x ∧ wfT s vars t ∧ wfTs s vars ss' ts
end

def argsM (p : List Int → Option (Tm × List Int)) : List Int → List Int → Option (List Tm × List Int)
  | [], r => some ([], r)
  | x :: ss, r =>
    match p r with
    | none => none
    | some (t, b) =>
      if t.sort = x then
        match argsM p ss b with
        | none => none
        | some (ts, b') => some (t :: ts, b')
      else none

def firstM (s : MSig) (vars : List Int) : Nat → List Int → Option (Tm × List Int)
  | 0, _ => none
  | _ + 1, [] => none
  | f + 1, n :: rest =>
    if 0 ≤ n ∧ n < s.ops.length then
      match argsM (firstM s vars f) (opRow s n.toNat).dropLast rest with
      | none => none
      | some (ts, b) => some (.node n.toNat ((opRow s n.toNat).getLastD (-1)) ts, b)
    else if 100 ≤ n ∧ n < 100 + vars.length then some (.leaf (n - 100).toNat (vars.getD (n - 100).toNat 0), rest)
    else none

/-- one more argument, at the end -/
theorem argsM_snoc (p : List Int → Option (Tm × List Int)) (ss : List Int) (x : Int) (r : List Int) :
    argsM p (ss ++ [x]) r = match argsM p ss r with
      | none => none
      | some (ts, b) => match p b with
        | none => none
        | some (t, b') => if t.sort = x then some (ts ++ [t], b') else none := by
  induction ss generalizing r with
  | nil =>
    simp only [List.nil_append, argsM]
  | cons y ss ih =>
    simp only [List.cons_append, argsM]
    cases hp : p r with
    | none => rfl
    | some q =>
      obtain ⟨t, b⟩ := q
      simp only
      by_cases h : t.sort = y
      · rw [if_pos h, if_pos h, ih]
        cases ha : argsM p ss b with
        | none => rfl
        | some q =>
          obtain ⟨ts, b1⟩ := q
          simp only
          cases hq : p b1 with
          | none => rfl
          | some q =>
            obtain ⟨t', b2⟩ := q
            simp only
            by_cases h' : t'.sort = x
            · rw [if_pos h', if_pos h']; rfl
            · rw [if_neg h', if_neg h']
      · rw [if_neg h, if_neg h]
theorem argsM_none (p : List Int → Option (Tm × List Int)) (ss ss' : List Int) (r : List Int) (h : argsM p ss r = none) : argsM p (ss ++ ss') r = none := by
  induction ss generalizing r with
  | nil => cases h
  | cons y ss ih =>
    simp only [List.cons_append, argsM] at h ⊢
    cases hp : p r with
    | none => rfl
    | some q =>
      obtain ⟨t, b⟩ := q
      rw [hp] at h
      simp only at h ⊢
      by_cases ht : t.sort = y
      · rw [if_pos ht] at h ⊢
        cases ha : argsM p ss b with
        | none => rw [ih b ha]
        | some q => obtain ⟨ts, b'⟩ := q; rw [ha] at h; cases h
      · rw [if_neg ht]
theorem argsM_take_none {p : List Int → Option (Tm × List Int)} {ss r : List Int} {k : Nat} (h : argsM p (ss.take k) r = none) : argsM p ss r = none := by
  have := argsM_none p (ss.take k) (ss.drop k) r h
  rwa [List.take_append_drop] at this
theorem argsM_step {p : List Int → Option (Tm × List Int)} {ss r : List Int} {k : Nat} (hk : k < ss.length) {ts : List Tm} {b : List Int} (h : argsM p (ss.take k) r = some (ts, b)) :
    argsM p (ss.take (k + 1)) r = match p b with
        | none => none
        | some (t, b') => if t.sort = ss[k] then some (ts ++ [t], b') else none := by
  rw [List.take_succ_eq_append_getElem hk, argsM_snoc, h]

/-! what is read is the row of the tree, and the tree is one of the signature -/
theorem argsM_sound {s : MSig} {vars : List Int} {p : List Int → Option (Tm × List Int)} (hp : ∀ r tm b, p r = some (tm, b) → r = tm.row ++ b ∧ wfT s vars tm) :
    ∀ (ss r : List Int) (ts : List Tm) (b : List Int), argsM p ss r = some (ts, b) → r = rowsOf ts ++ b ∧ wfTs s vars ss ts := by
  intro ss
  induction ss with
  | nil =>
    intro r ts b h
    simp only [argsM] at h
    cases h
    exact ⟨by simp [rowsOf], by unfold wfTs; rfl⟩
  | cons x ss ih =>
    intro r ts b h
    simp only [argsM] at h
    cases hpr : p r with
    | none => rw [hpr] at h; cases h
    | some q =>
      obtain ⟨t, b1⟩ := q
      rw [hpr] at h
      simp only at h
      by_cases ht : t.sort = x
      · rw [if_pos ht] at h
        cases ha : argsM p ss b1 with
        | none => rw [ha] at h; cases h
        | some q =>
          obtain ⟨ts1, b2⟩ := q
          rw [ha] at h
          simp only at h
          cases h
          obtain ⟨h1, h2⟩ := hp r t b1 hpr
          obtain ⟨h3, h4⟩ := ih b1 ts1 _ ha
          refine ⟨by rw [h1, h3]; simp [rowsOf], ?_⟩
          unfold wfTs
          exact ⟨x, ss, rfl, ht, h2, h4⟩
      · rw [if_neg ht] at h; cases h
theorem firstM_sound {s : MSig} {vars : List Int} : ∀ (f : Nat) (r : List Int) (tm : Tm) (b : List Int), firstM s vars f r = some (tm, b) → r = tm.row ++ b ∧ wfT s vars tm := by
  intro f
  induction f with
  | zero => intro r tm b h; simp [firstM] at h
  | succ f ih =>
    intro r tm b h
    cases r with
    | nil => simp [firstM] at h
    | cons n rest =>
      simp only [firstM] at h
      by_cases h1 : 0 ≤ n ∧ n < s.ops.length
      · rw [if_pos h1] at h
        cases ha : argsM (firstM s vars f) (opRow s n.toNat).dropLast rest with
        | none => rw [ha] at h; cases h
        | some q =>
          obtain ⟨ts, b1⟩ := q
          rw [ha] at h
          simp only at h
          cases h
          obtain ⟨h3, h4⟩ := argsM_sound ih _ _ _ _ ha
          refine ⟨?_, ?_⟩
          · unfold Tm.row
            rw [h3, Int.toNat_of_nonneg h1.1]; rfl
          · unfold wfT
            exact ⟨by omega, rfl, h4⟩
      · rw [if_neg h1] at h
        by_cases h2 : 100 ≤ n ∧ n < 100 + vars.length
        · rw [if_pos h2] at h
          cases h
          refine ⟨?_, ?_⟩
          · unfold Tm.row
            rw [show (100 : Int) + ((n - 100).toNat : Int) = n by omega]; rfl
          · unfold wfT
            exact ⟨by omega, rfl⟩
        · rw [if_neg h2] at h; cases h

theorem row_pos : ∀ t : Tm, 1 ≤ t.row.length
  | .leaf k of => by simp [Tm.row]
  | .node op lv ts => by simp [Tm.row]

mutual
theorem firstM_full {s : MSig} {vars : List Int} (hs : s.ops.length ≤ 100) : ∀ (tm : Tm) (f : Nat) (b : List Int), wfT s vars tm → tm.row.length ≤ f → firstM s vars f (tm.row ++ b) = some (tm, b)
  | .leaf k of, f, b, hw, hf => by
    unfold wfT at hw
    obtain ⟨f, rfl⟩ : ∃ g, f = g + 1 := ⟨f - 1, by simp [Tm.row] at hf; omega⟩
    simp only [Tm.row, List.cons_append, List.nil_append, firstM]
    rw [if_neg (by omega), if_pos (by omega), show ((100 : Int) + (k : Int) - 100).toNat = k by omega, hw.2]
  | .node op lv ts, f, b, hw, hf => by
    unfold wfT at hw
    obtain ⟨f, rfl⟩ : ∃ g, f = g + 1 := ⟨f - 1, by simp [Tm.row] at hf; omega⟩
    simp only [Tm.row, List.length_cons] at hf
    simp only [Tm.row, List.cons_append, firstM]
    rw [if_pos (by omega), Int.toNat_natCast, argsM_full hs ts f b _ hw.2.2 (by omega)]
    rw [hw.2.1]
theorem argsM_full {s : MSig} {vars : List Int} (hs : s.ops.length ≤ 100) : ∀ (ts : List Tm) (f : Nat) (b ss : List Int), wfTs s vars ss ts → (rowsOf ts).length ≤ f → argsM (firstM s vars f) ss (rowsOf ts ++ b) = some (ts, b)
  | [], f, b, ss, hw, hf => by
    unfold wfTs at hw
    subst hw
    simp [argsM, rowsOf]
  | t :: ts, f, b, ss, hw, hf => by
    unfold wfTs at hw
    obtain ⟨x, ss', rfl, h1, h2, h3⟩ := hw
    simp only [rowsOf, List.length_append] at hf
    simp only [rowsOf, List.append_assoc, argsM]
    rw [firstM_full hs t f _ h2 (by omega)]
    simp only
    rw [if_pos h1, argsM_full hs ts f b ss' h3 (by omega)]
end
end

section
open Go.RowKit
set_option linter.unusedVariables false

/-- numbers that an int holds -/
def Small (r : List Int) : Prop := ∀ x ∈ r, x ≤ 9223372036854775807
def varsB (s : MSig) (vars : List Int) : Bool := validB s && decide (vars.length ≤ 4) && belowB vars s.sorts
def termM (s : MSig) (vars t : List Int) : Option Tm :=
  if varsB s vars = true ∧ t.length ≤ 30 then
    match firstM s vars 30 t with
    | some (tm, []) => some tm
    | _ => none
  else none
def sortM (s : MSig) (vars t : List Int) : Int :=
  match termM s vars t with
  | some tm => tm.sort
  | none => -1
def fitM (s : MSig) (vars : List Int) (terms : List (List Int)) (sorts : List Int) : Bool :=
  decide (terms.length = sorts.length) && (terms.zip sorts).all fun q => decide (0 ≤ q.2) && decide (sortM s vars q.1 = q.2)
def fitsB (s : MSig) (vars : List Int) (terms : List (List Int)) (sorts : List Int) : Bool := varsB s vars && fitM s vars terms sorts
def putRow (terms : List (List Int)) (t : List Int) : List Int := t.flatMap fun n => if 100 ≤ n then terms.getD (n - 100).toNat [] else [n]
def partM (s : MSig) (vars t : List Int) (k : Nat) : List Int :=
  match firstM s vars 30 (t.drop k) with
  | some (tm, _) => tm.row
  | none => []
def atM (s : MSig) (vars t : List Int) (at_ : Int) : List Int :=
  if 0 ≤ sortM s vars t ∧ 0 ≤ at_ ∧ at_ < t.length then partM s vars t at_.toNat else []

theorem vars_valid {s : MSig} {vars : List Int} (h : varsB s vars = true) : validB s = true ∧ vars.length ≤ 4 ∧ ∀ k (hk : k < vars.length), 0 ≤ vars[k] ∧ vars[k] < s.sorts := by
  unfold varsB belowB at h
  simp only [Bool.and_eq_true, decide_eq_true_eq, List.all_eq_true] at h
  exact ⟨h.1.1, h.1.2, fun k hk => h.2 _ (List.getElem_mem hk)⟩
theorem opRow_at {s : MSig} {k : Nat} (hk : k < s.ops.length) : opRow s k = s.ops[k] := getD_at _ hk
theorem opRow_valid {s : MSig} (h : validB s = true) {k : Nat} (hk : k < s.ops.length) : 1 ≤ (opRow s k).length ∧ (opRow s k).length ≤ 3 ∧ ∀ x ∈ opRow s k, 0 ≤ x ∧ x < s.sorts := by
  rw [opRow_at hk]; exact valid_row h hk
theorem ops_few {s : MSig} (h : validB s = true) : s.ops.length ≤ 100 := by have := valid_sorts h; omega
/-- the sort of a tree is one of the signature -/
theorem sort_ok {s : MSig} {vars : List Int} (h : varsB s vars = true) {tm : Tm} (hw : wfT s vars tm) : 0 ≤ tm.sort ∧ tm.sort < s.sorts := by
  obtain ⟨h1, h2, h3⟩ := vars_valid h
  cases tm with
  | leaf k of =>
    unfold wfT at hw
    obtain ⟨hk, rfl⟩ := hw
    simp only [Tm.sort]
    rw [getD_at _ hk]; exact h3 k hk
  | node op lv ts =>
    unfold wfT at hw
    obtain ⟨hk, rfl, -⟩ := hw
    simp only [Tm.sort]
    obtain ⟨a, b, c⟩ := opRow_valid h1 hk
    rw [last_at (by omega)]
    exact c _ (List.getElem_mem _)

theorem termM_to {s : MSig} {vars t : List Int} {tm : Tm} (h : termM s vars t = some tm) : varsB s vars = true ∧ t.length ≤ 30 ∧ wfT s vars tm ∧ tm.row = t := by
  unfold termM at h
  by_cases h1 : varsB s vars = true ∧ t.length ≤ 30
  · rw [if_pos h1] at h
    cases hf : firstM s vars 30 t with
    | none => rw [hf] at h; cases h
    | some q =>
      obtain ⟨tm', b⟩ := q
      rw [hf] at h
      cases b with
      | nil =>
        simp only at h
        cases h
        obtain ⟨h2, h3⟩ := firstM_sound _ _ _ _ hf
        exact ⟨h1.1, h1.2, h3, by rw [h2]; simp⟩
      | cons a b => cases h
  · rw [if_neg h1] at h; cases h
theorem termM_of {s : MSig} {vars : List Int} {tm : Tm} (h1 : varsB s vars = true) (h2 : tm.row.length ≤ 30) (h3 : wfT s vars tm) : termM s vars tm.row = some tm := by
  unfold termM
  rw [if_pos ⟨h1, h2⟩]
  have := firstM_full (ops_few (vars_valid h1).1) tm 30 [] h3 h2
  rw [List.append_nil] at this
  rw [this]
theorem sortM_to {s : MSig} {vars t : List Int} (h : 0 ≤ sortM s vars t) : ∃ tm, varsB s vars = true ∧ t.length ≤ 30 ∧ wfT s vars tm ∧ tm.row = t ∧ sortM s vars t = tm.sort := by
  unfold sortM at h ⊢
  cases ht : termM s vars t with
  | none => rw [ht] at h; simp at h
  | some tm =>
    obtain ⟨a, b, c, d⟩ := termM_to ht
    exact ⟨tm, a, b, c, d, rfl⟩
theorem sortM_of {s : MSig} {vars : List Int} {tm : Tm} (h1 : varsB s vars = true) (h2 : tm.row.length ≤ 30) (h3 : wfT s vars tm) : sortM s vars tm.row = tm.sort := by
  unfold sortM; rw [termM_of h1 h2 h3]
theorem sortM_neg {s : MSig} {vars t : List Int} (h : sortM s vars t < 0) : sortM s vars t = -1 := by
  unfold sortM at h ⊢
  cases ht : termM s vars t with
  | none => rfl
  | some tm =>
    obtain ⟨a, b, c, d⟩ := termM_to ht
    rw [ht] at h
    have := sort_ok a c
    simp only at h
    omega
theorem sortM_lt {s : MSig} {vars t : List Int} (h : validB s = true) : sortM s vars t < s.sorts ∧ -1 ≤ sortM s vars t := by
  have hv := valid_sorts h
  unfold sortM
  cases ht : termM s vars t with
  | none => simp only; omega
  | some tm =>
    obtain ⟨a, b, c, d⟩ := termM_to ht
    have := sort_ok a c
    simp only
    omega

/-! a part, and what is put there -/
mutual
theorem hole_t {s : MSig} {vars : List Int} : ∀ (tm : Tm) (at_ : Nat), wfT s vars tm → at_ < tm.row.length →
    ∃ (pre : List Int) (sub : Tm) (post : List Int), tm.row = pre ++ sub.row ++ post ∧ pre.length = at_ ∧ wfT s vars sub ∧ ∀ u : Tm, wfT s vars u → u.sort = sub.sort → ∃ tm' : Tm, wfT s vars tm' ∧ tm'.sort = tm.sort ∧ tm'.row = pre ++ u.row ++ post
  | .leaf k of, at_, hw, ha => by
    simp only [Tm.row, List.length_singleton] at ha
    refine ⟨[], .leaf k of, [], by simp, by simp; omega, hw, fun u hu hs => ⟨u, hu, hs, by simp⟩⟩
  | .node op lv ts, 0, hw, ha => ⟨[], .node op lv ts, [], by simp, rfl, hw, fun u hu hs => ⟨u, hu, hs, by simp⟩⟩
  | .node op lv ts, n + 1, hw, ha => by
    unfold wfT at hw
    simp only [Tm.row, List.length_cons] at ha
    obtain ⟨pre, sub, post, h1, h2, h3, h4⟩ := hole_ts ts n _ hw.2.2 (by omega)
    refine ⟨(op : Int) :: pre, sub, post, by simp only [Tm.row]; rw [h1]; simp, by simp [h2], h3, fun u hu hs => ?_⟩
    obtain ⟨ts', a, b⟩ := h4 u hu hs
    refine ⟨.node op lv ts', ?_, rfl, by simp only [Tm.row]; rw [b]; simp⟩
    unfold wfT
    exact ⟨hw.1, hw.2.1, a⟩
theorem hole_ts {s : MSig} {vars : List Int} : ∀ (ts : List Tm) (at_ : Nat) (ss : List Int), wfTs s vars ss ts → at_ < (rowsOf ts).length →
    ∃ (pre : List Int) (sub : Tm) (post : List Int), rowsOf ts = pre ++ sub.row ++ post ∧ pre.length = at_ ∧ wfT s vars sub ∧ ∀ u : Tm, wfT s vars u → u.sort = sub.sort → ∃ ts' : List Tm, wfTs s vars ss ts' ∧ rowsOf ts' = pre ++ u.row ++ post
  | [], at_, ss, hw, ha => by simp [rowsOf] at ha
  | t :: ts, at_, ss, hw, ha => by
    unfold wfTs at hw
    obtain ⟨x, ss', rfl, h1, h2, h3⟩ := hw
    by_cases hlt : at_ < t.row.length
    · obtain ⟨pre, sub, post, a, b, c, d⟩ := hole_t t at_ h2 hlt
      refine ⟨pre, sub, post ++ rowsOf ts, by simp only [rowsOf]; rw [a]; simp, b, c, fun u hu hs => ?_⟩
      obtain ⟨t', e1, e2, e3⟩ := d u hu hs
      refine ⟨t' :: ts, ?_, by simp only [rowsOf]; rw [e3]; simp⟩
      unfold wfTs
      exact ⟨x, ss', rfl, by rw [e2, h1], e1, h3⟩
    · simp only [rowsOf, List.length_append] at ha
      obtain ⟨pre, sub, post, a, b, c, d⟩ := hole_ts ts (at_ - t.row.length) ss' h3 (by omega)
      refine ⟨t.row ++ pre, sub, post, by simp only [rowsOf]; rw [a]; simp, by simp [b]; omega, c, fun u hu hs => ?_⟩
      obtain ⟨ts', e1, e2⟩ := d u hu hs
      refine ⟨t :: ts', ?_, by simp only [rowsOf]; rw [e2]; simp⟩
      unfold wfTs
      exact ⟨x, ss', rfl, h1, h2, e1⟩
end

/-- of a term: the part at k, what lies ahead of it and behind, and what comes of another part -/
theorem part_of {s : MSig} {vars t : List Int} {k : Nat} (h : 0 ≤ sortM s vars t) (hk : k < t.length) :
    ∃ (pre : List Int) (sub : Tm) (post : List Int), t = pre ++ sub.row ++ post ∧ pre.length = k ∧ wfT s vars sub ∧ firstM s vars 30 (t.drop k) = some (sub, post) ∧ partM s vars t k = sub.row ∧ sortM s vars sub.row = sub.sort ∧ 0 ≤ sub.sort ∧
      ∀ u : Tm, wfT s vars u → u.sort = sub.sort → (pre ++ u.row ++ post).length ≤ 30 → sortM s vars (pre ++ u.row ++ post) = sortM s vars t := by
  obtain ⟨tm, h1, h2, h3, h4, h5⟩ := sortM_to h
  subst h4
  obtain ⟨pre, sub, post, a, b, c, d⟩ := hole_t tm k h3 hk
  have hl : pre.length + sub.row.length + post.length = tm.row.length := by rw [a]; simp; omega
  have hd : tm.row.drop k = sub.row ++ post := by rw [a, List.append_assoc, ← b]; simp
  have hf : firstM s vars 30 (tm.row.drop k) = some (sub, post) := by
    rw [hd]; exact firstM_full (ops_few (vars_valid h1).1) sub 30 post c (by omega)
  refine ⟨pre, sub, post, a, b, c, hf, by unfold partM; rw [hf], sortM_of h1 (by omega) c, (sort_ok h1 c).1, fun u hu hs hlen => ?_⟩
  obtain ⟨tm', e1, e2, e3⟩ := d u hu hs
  rw [← e3, sortM_of h1 (by rw [e3]; exact hlen) e1, h5, e2]

/-! letters replaced -/
mutual
theorem put_t {s : MSig} {vars others : List Int} {terms : List (List Int)} (hop : s.ops.length ≤ 100)
    (hσ : ∀ k, k < vars.length → ∃ u : Tm, wfT s others u ∧ u.sort = vars.getD k 0 ∧ u.row = terms.getD k []) : ∀ tm : Tm, wfT s vars tm → ∃ tm' : Tm, wfT s others tm' ∧ tm'.sort = tm.sort ∧ tm'.row = putRow terms tm.row
  | .leaf k of, hw => by
    unfold wfT at hw
    obtain ⟨u, a, b, c⟩ := hσ k hw.1
    refine ⟨u, a, by rw [b]; exact hw.2.symm, ?_⟩
    rw [c]
    simp only [Tm.row, putRow, List.flatMap_cons, List.flatMap_nil, List.append_nil]
    rw [if_pos (by omega), show ((100 : Int) + (k : Int) - 100).toNat = k by omega]
  | .node op lv ts, hw => by
    unfold wfT at hw
    obtain ⟨ts', a, b⟩ := put_ts hop hσ ts _ hw.2.2
    refine ⟨.node op lv ts', ?_, rfl, ?_⟩
    · unfold wfT; exact ⟨hw.1, hw.2.1, a⟩
    · simp only [Tm.row]
      rw [b]
      simp only [putRow, List.flatMap_cons]
      rw [if_neg (by omega)]
      rfl
theorem put_ts {s : MSig} {vars others : List Int} {terms : List (List Int)} (hop : s.ops.length ≤ 100)
    (hσ : ∀ k, k < vars.length → ∃ u : Tm, wfT s others u ∧ u.sort = vars.getD k 0 ∧ u.row = terms.getD k []) : ∀ (ts : List Tm) (ss : List Int), wfTs s vars ss ts → ∃ ts' : List Tm, wfTs s others ss ts' ∧ rowsOf ts' = putRow terms (rowsOf ts)
  | [], ss, hw => by
    unfold wfTs at hw
    subst hw
    exact ⟨[], by unfold wfTs; rfl, by simp [rowsOf, putRow]⟩
  | t :: ts, ss, hw => by
    unfold wfTs at hw
    obtain ⟨x, ss', rfl, h1, h2, h3⟩ := hw
    obtain ⟨t', a, b, c⟩ := put_t hop hσ t h2
    obtain ⟨ts', d, e⟩ := put_ts hop hσ ts ss' h3
    refine ⟨t' :: ts', ?_, by simp only [rowsOf]; rw [c, e]; simp [putRow]⟩
    unfold wfTs
    exact ⟨x, ss', rfl, by rw [b, h1], a, d⟩
end

/-! the numbers of a term: operations, and letters that there are -/
mutual
theorem nums_t {s : MSig} {vars : List Int} (hop : s.ops.length ≤ 100) : ∀ tm : Tm, wfT s vars tm → ∀ n ∈ tm.row, (0 ≤ n ∧ n < s.ops.length) ∨ (100 ≤ n ∧ n < 100 + vars.length)
  | .leaf k of, hw, n, hn => by
    unfold wfT at hw
    simp only [Tm.row, List.mem_singleton] at hn
    omega
  | .node op lv ts, hw, n, hn => by
    unfold wfT at hw
    simp only [Tm.row, List.mem_cons] at hn
    rcases hn with rfl | hn
    · omega
    · exact nums_ts hop ts _ hw.2.2 n hn
theorem nums_ts {s : MSig} {vars : List Int} (hop : s.ops.length ≤ 100) : ∀ (ts : List Tm) (ss : List Int), wfTs s vars ss ts → ∀ n ∈ rowsOf ts, (0 ≤ n ∧ n < s.ops.length) ∨ (100 ≤ n ∧ n < 100 + vars.length)
  | [], ss, hw, n, hn => by simp [rowsOf] at hn
  | t :: ts, ss, hw, n, hn => by
    unfold wfTs at hw
    obtain ⟨x, ss', rfl, h1, h2, h3⟩ := hw
    simp only [rowsOf, List.mem_append] at hn
    rcases hn with hn | hn
    · exact nums_t hop t h2 n hn
    · exact nums_ts hop ts ss' h3 n hn
end
end

section
open Go.RowKit
set_option linter.unusedVariables false

theorem varsB_parts (s : MSig) (vars : List Int) : varsB s vars = (validB s && decide (vars.length ≤ 4) && belowB vars s.sorts) := rfl

set_option maxRecDepth 100000 in
theorem varsOk_any (v vv : Value) (s : MSig) (vars : List Int) (w : World) (h : RSig w v s) (hv : RInts w vv vars) :
    Calls Try.prog 111 #[v, vv] w fun e w' => e = .returned (.bool (varsB s vars)) ∧ Below w.heap.size w w' := by
  obtain ⟨u, rfl, hr⟩ := h
  obtain ⟨sorts, ops⟩ := s
  have hn := hr.len
  obtain ⟨A, c, rfl, -⟩ := hr.form
  have HB := Lib.hid (below_alloc w (.cells #[.int .i64 sorts, .slice A ops.length c] 33))
  have H := Lib.hid (hr.keep HB.out)
  have HVV := Lib.hid (hv.keep HB.out)
  have hbx := Lib.hid (box_cells w (.int .i64 sorts) (.slice A ops.length c) 33)
  have hvn := hv.len
  obtain ⟨A1, c1, rfl, -⟩ := hv.form
  have HP := Lib.hid (varsB_parts ⟨sorts, ops⟩ vars)
  clear hr hv
  cases hvb : validB ⟨sorts, ops⟩ with
  | false =>
    have Hv := Lib.hid hvb
    clear hvb
    go_enter Try.func111, Try.ntmps111
    go_wp2_with (go_at_call 56; refine (sigValid_any _ ⟨sorts, ops⟩ _ ⟨_, rfl, H.out⟩).mono ?_; rw [Hv.out]; rintro e w1 ⟨rfl, hb⟩)
    go_ret
    exact ⟨ret_bool (by rw [HP.out, Hv.out]; rfl), HB.out.trans (hb.mono (by simp))⟩
  | true =>
    have Hv := Lib.hid hvb
    clear hvb
    by_cases h4 : (vars.length : Int) ≤ 4
    · go_enter Try.func111, Try.ntmps111
      go_wp2_with (first
        | (go_at_call 56; refine (sigValid_any _ ⟨sorts, ops⟩ _ ⟨_, rfl, H.out⟩).mono ?_; rw [Hv.out]; rintro e w1 ⟨rfl, hb⟩; have f0 := cell_keep hb hbx.out.1; have HV1 := Lib.hid (HVV.out.keep hb))
        | (go_at_call 91; refine (sortsBelow_any _ _ _ _ HV1.out).mono ?_; rintro e w2 ⟨rfl, rfl⟩))
      go_ret
      exact ⟨ret_bool (by rw [HP.out, Hv.out]; simp; omega), HB.out.trans (hb.mono (by simp))⟩
    · go_enter Try.func111, Try.ntmps111
      go_wp2_with (first
        | (go_at_call 56; refine (sigValid_any _ ⟨sorts, ops⟩ _ ⟨_, rfl, H.out⟩).mono ?_; rw [Hv.out]; rintro e w1 ⟨rfl, hb⟩; have f0 := cell_keep hb hbx.out.1; have HV1 := Lib.hid (HVV.out.keep hb)))
      go_ret
      exact ⟨ret_bool (by rw [HP.out, Hv.out]; simp; omega), HB.out.trans (hb.mono (by simp))⟩

theorem vars_in {sorts q : Int} {ops : List (List Int)} {vars : List Int} (hq : 1 ≤ sorts → sorts ≤ 3 → q = sorts - 1) : varsB ⟨sorts, ops⟩ vars = ((vars.all fun x => inB x 0 q) && (validB ⟨sorts, ops⟩ && decide (vars.length ≤ 4))) := by
  rw [varsB_parts]
  cases hv : validB ⟨sorts, ops⟩ with
  | false => simp
  | true =>
    have hs := valid_sorts hv
    simp only at hs
    rw [show belowB vars sorts = vars.all fun x => inB x 0 q from by unfold belowB; congr 1; funext x; exact (inB_row x sorts q hq hs.1 hs.2.1).symm]
    simp [Bool.and_comm]

set_option maxRecDepth 100000 in
theorem specVarsOk_any (v vv : Value) (s : MSig) (vars : List Int) (w : World) (h : RSig w v s) (hv : RInts w vv vars) :
    Calls Try.prog 105 #[v, vv] w fun e w' => e = .returned (.bool (varsB s vars)) ∧ Below w.heap.size w w' := by
  obtain ⟨u, rfl, hr⟩ := h
  obtain ⟨sorts, ops⟩ := s
  have hn := hr.len
  obtain ⟨A, c, rfl, -⟩ := hr.form
  have HB := Lib.hid (below_alloc w (.cells #[.int .i64 sorts, .slice A ops.length c] 33))
  have H := Lib.hid (hr.keep HB.out)
  have HVV := Lib.hid (hv.keep HB.out)
  have hbx := Lib.hid (box_cells w (.int .i64 sorts) (.slice A ops.length c) 33)
  have hvn := hv.len
  obtain ⟨A1, c1, rfl, -⟩ := hv.form
  have HP : Hid (varsB ⟨sorts, ops⟩ vars = ((vars.all fun x => inB x 0 (IntKind.i64.wrap (sorts - 1))) && (validB ⟨sorts, ops⟩ && decide (vars.length ≤ 4)))) := vars_in (fun h1 h3 => by rw [IntKind.wrap_i64]; omega)
  clear hr hv
  go_enter Try.func105, Try.ntmps105
  go_wp2
  go_loopw [5] (fun i wr => ∃ k : Nat, k ≤ vars.length ∧ i = .int .i64 k ∧ (vars.take k).all (fun x => inB x 0 (IntKind.i64.wrap (sorts - 1))) = true ∧ Drawn (w.alloc (.cells #[.int .i64 sorts, .slice A ops.length c] 33)) wr) (fun i _ => vars.length - (intOf i).toNat)
  case atStart => exact ⟨0, Nat.zero_le _, rfl, rfl, Drawn.refl _⟩
  case round =>
    obtain ⟨k, hk, rfl, hb0, hd⟩ := hrel
    have hb := Lib.hid hb0
    have HD := Lib.hid hd
    clear hb0 hd
    have f0 := (HD.out.cell _).trans hbx.out.1
    have f1 := (HD.out.cell _).trans hbx.out.2
    by_cases hlt : k < vars.length
    · obtain ⟨b, o, c', e, hx⟩ := (HVV.out.keep HD.out.below).at_ hlt
      cases e
      have HA := Lib.hid (all_take (p := fun x => inB x 0 (IntKind.i64.wrap (sorts - 1))) hlt)
      have HN := Lib.hid (all_bad (p := fun x => inB x 0 (IntKind.i64.wrap (sorts - 1))) hlt)
      generalize vars[k] = x at hx HA HN
      have hlt' : (k : Int) < (vars.length : Int) := by omega
      go_wp2_with fail
      cases hbx' : inB x 0 (IntKind.i64.wrap (sorts - 1)) with
      | false =>
        have Hbx := Lib.hid hbx'
        clear hbx'
        go_quiet ((go_at_call 64; exact quiet_left (l1In_is _ _ _ _ _ Hbx.out)))
        go_wp2
        go_ret
        refine ⟨ret_bool ?_, below_drewN (HB.out.trans (HD.out.below.mono (by simp))) _⟩
        rw [HP.out, HN.out Hbx.out]; simp
      | true =>
        have Hbx := Lib.hid hbx'
        clear hbx'
        go_quiet ((go_at_call 64; exact quiet_left (l1In_is _ _ _ _ _ Hbx.out)))
        go_wp2
        go_roundw
        case rel => exact ⟨k + 1, by omega, by go_num, by rw [HA.out, hb.out, Hbx.out]; rfl, HD.out.more _⟩
        case measure => simp [intOf]; omega
    · have HE0 := hb.out
      rw [take_all (by omega)] at HE0
      have HE := Lib.hid HE0
      clear HE0
      cases hvb : validB ⟨sorts, ops⟩ with
      | false =>
        have Hv := Lib.hid hvb
        clear hvb
        go_wp2_with (go_at_call 22; refine (specSigValid_any _ ⟨sorts, ops⟩ _ ⟨_, rfl, H.out.keep HD.out.below⟩).mono ?_; rw [Hv.out]; rintro e w1 ⟨rfl, hb⟩)
        go_ret
        have s1 := HD.out.below.size
        exact ⟨ret_bool (by rw [HP.out, Hv.out]; simp), (HB.out.trans (HD.out.below.mono (by simp))).trans (hb.mono (by simp at s1; omega))⟩
      | true =>
        have Hv := Lib.hid hvb
        clear hvb
        go_wp2_with (go_at_call 22; refine (specSigValid_any _ ⟨sorts, ops⟩ _ ⟨_, rfl, H.out.keep HD.out.below⟩).mono ?_; rw [Hv.out]; rintro e w1 ⟨rfl, hb⟩)
        go_ret
        have s1 := HD.out.below.size
        exact ⟨ret_bool (by rw [HP.out, Hv.out, HE.out]; simp; omega), (HB.out.trans (HD.out.below.mono (by simp))).trans (hb.mono (by simp at s1; omega))⟩
end

section
open Go.ChangeShapes Go.WideShapes Go.ChangeAt Go.RowKit Go.Deep Go.Joins
set_option linter.unusedVariables false

def SmallR (rows : List (List Int)) : Prop := ∀ row ∈ rows, Small row
theorem small_nil : Small [] := fun x hx => by simp at hx
theorem small_wf {zs : List Int} (h : ∀ n ∈ zs, (Lit.int .i64 n).wf = true) : Small zs := fun x hx => by
  have hw := h x hx
  have : -9223372036854775808 ≤ x ∧ x ≤ 9223372036854775807 := by simpa [Lit.wf, IntKind.min, IntKind.max, IntKind.signed, IntKind.bits] using hw
  exact this.2
theorem small_take {zs : List Int} (h : Small zs) (n : Nat) : Small (zs.take n) := fun x hx => h x (List.mem_of_mem_take hx)
theorem plain_cell {w : World} {x : Addr} {zs : List Int} {i : Nat} (hcell : ∀ i, i < zs.length → w.cell? (x.add i) = some (.int .i64 (zs.getD i 0))) (hi : i < zs.length) : ∃ b o, x = ⟨b, o, none⟩ ∧ w.cell? ⟨b, o + i, none⟩ = some (.int .i64 zs[i]) := by
  have hc := hcell i hi
  rw [getD_at _ hi] at hc
  obtain ⟨b, off, spot⟩ := x
  have h0 := hcell 0 (by omega)
  have hspot : spot = none := by simpa [Addr.add] using World.cell?_spot h0
  subst hspot
  rw [add_plain] at hc
  exact ⟨b, off, rfl, hc⟩
set_option maxRecDepth 100000 in
theorem ints_of {H : Type} {enc : TypeId × Value → H} {W : World} {base : Nat} {v : Value} {d : DataW H} {p : List MemPlace} (hv : Value.okWide Try.prog W .any base 55 v)
    (h : DataW.Trod enc Try.prog W 0 (fun _ => true) true 55 v d p) : ∃ xs, RInts W v xs ∧ Small xs := by
  obtain ⟨a0, len0, cap0, rfl⟩ := okWide_slice Try.underlying55 hv
  obtain ⟨fuel, hf⟩ := h
  rcases open_ints Try.underlying55 Try.underlying3 (by kernel_rfl) hf with ⟨hcs, _⟩ | ⟨x, l, c, zs, hcs, _, hl, hm, hz, _, hcell, hwz⟩
  · simp [Value.cells] at hcs
    obtain ⟨rfl, rfl, rfl⟩ := hcs
    exact ⟨[], RInts.nil _, small_nil⟩
  · simp [Value.cells] at hcs
    obtain ⟨rfl, rfl, rfl⟩ := hcs
    simp only [if_true] at hz
    have ht : (zs.take len0).length = len0 := by rw [List.length_take]; omega
    refine ⟨zs.take len0, ⟨some x, cap0, by rw [ht], by rw [ht]; exact hl, hm, fun j y hj => ?_⟩, small_take (small_wf hwz) _⟩
    rw [List.getElem?_take] at hj
    split at hj
    · obtain ⟨hjl, rfl⟩ := List.getElem?_eq_some_iff.1 hj
      obtain ⟨b, o, rfl, hc⟩ := plain_cell hcell hjl
      exact ⟨b, o, rfl, hc⟩
    · cases hj
set_option maxRecDepth 100000 in
theorem rows_of {H : Type} {enc : TypeId × Value → H} {W : World} {base : Nat} {v : Value} {d : DataW H} {p : List MemPlace} (hv : Value.okWide Try.prog W .any base 22 v)
    (h : DataW.Trod enc Try.prog W 0 (fun _ => true) true 22 v d p) : ∃ xs, RRows W v xs ∧ SmallR xs := by
  obtain ⟨a0, len0, cap0, rfl⟩ := okWide_slice Try.underlying22 hv
  obtain ⟨fuel, hf⟩ := h
  rcases open_int_rows Try.underlying22 Try.underlying55 Try.underlying3 (by kernel_rfl) (by kernel_rfl) hf with ⟨hcs, -⟩ | ⟨ad, len, cap, A, L, C, Z, hcs, -, hl, hm, -, hr⟩
  · simp [Value.cells] at hcs
    obtain ⟨rfl, rfl, rfl⟩ := hcs
    exact ⟨[], RRows.nil _, fun row hr => by simp at hr⟩
  · simp [Value.cells] at hcs
    obtain ⟨rfl, rfl, rfl⟩ := hcs
    refine ⟨(List.range len0).map fun r => (Z r).take (L r), ?_, fun row hrow => ?_⟩
    · refine ⟨some ad, cap0, by simp, by simpa using hl, hm, fun j row hj => ?_⟩
      simp only [List.getElem?_map] at hj
      obtain ⟨r, hr', rfl⟩ := Option.map_eq_some_iff.1 hj
      obtain ⟨hjl, hrj⟩ := List.getElem?_eq_some_iff.1 hr'
      simp at hjl hrj
      subst hrj
      obtain ⟨hc, h1, h2, h3, h4, h5, h6⟩ := hr j (by omega)
      obtain ⟨b, o, sp⟩ := ad
      have hsp : sp = none := by
        have := spot_none (hr 0 (by omega)).1
        simpa [Addr.add] using this
      subst hsp
      rw [add_plain] at hc
      refine ⟨b, o, _, rfl, hc, A j, C j, by rw [List.length_take]; congr 1; omega, by rw [List.length_take]; omega, h2, fun i x hx => ?_⟩
      rw [List.getElem?_take] at hx
      split at hx
      · obtain ⟨hil, rfl⟩ := List.getElem?_eq_some_iff.1 hx
        cases hA : A j with
        | none => have := h5 hA; omega
        | some a' =>
          obtain ⟨-, hcell⟩ := h6 a' hA
          obtain ⟨b', o', rfl, hc'⟩ := plain_cell (by rw [h3]; exact hcell) hil
          exact ⟨b', o', rfl, hc'⟩
      · cases hx
    · obtain ⟨r, hr', rfl⟩ := List.mem_map.1 hrow
      simp at hr'
      obtain ⟨hc, h1, h2, h3, h4, h5, h6⟩ := hr r (by omega)
      exact small_take (small_wf h4) _
end

section
open Go.RowKit
set_option linter.unusedVariables false

structure MEq where
  vars : List Int
  left : List Int
  right : List Int
structure MThy where
  over : MSig
  eqs : List MEq

def REq (w : World) (v : Value) (e : MEq) : Prop := ∃ a b c, v = .agg #[a, b, c] ∧ RInts w a e.vars ∧ RInts w b e.left ∧ RInts w c e.right
/-- a list of equations: three cells an element -/
def REqs (w : World) (v : Value) (es : List MEq) : Prop :=
  ∃ A c, v = .slice A es.length c ∧ es.length ≤ c ∧ c ≤ maxLen ∧ ∀ j e, es[j]? = some e → ∃ b o x y z, A = some ⟨b, o, none⟩ ∧
    w.cell? ⟨b, o + j * 3, none⟩ = some x ∧ w.cell? ⟨b, o + j * 3 + 1, none⟩ = some y ∧ w.cell? ⟨b, o + j * 3 + 2, none⟩ = some z ∧ RInts w x e.vars ∧ RInts w y e.left ∧ RInts w z e.right
def RThy (w : World) (v : Value) (t : MThy) : Prop := ∃ u x, v = .agg #[.int .i64 t.over.sorts, u, x] ∧ RRows w u t.over.ops ∧ REqs w x t.eqs

section
variable {w w' : World} {v : Value} {e : MEq} {es : List MEq} {t : MThy}
theorem REq.keep (h : REq w v e) (hb : Below w.heap.size w w') : REq w' v e := by
  obtain ⟨a, b, c, rfl, h1, h2, h3⟩ := h; exact ⟨a, b, c, rfl, h1.keep hb, h2.keep hb, h3.keep hb⟩
theorem REqs.keep (h : REqs w v es) (hb : Below w.heap.size w w') : REqs w' v es := by
  obtain ⟨A, c, e, h1, h2, h3⟩ := h
  refine ⟨A, c, e, h1, h2, fun j x hj => ?_⟩
  obtain ⟨b, o, x, y, z, e, c1, c2, c3, r1, r2, r3⟩ := h3 j x hj
  exact ⟨b, o, x, y, z, e, cell_keep hb c1, cell_keep hb c2, cell_keep hb c3, r1.keep hb, r2.keep hb, r3.keep hb⟩
theorem RThy.keep (h : RThy w v t) (hb : Below w.heap.size w w') : RThy w' v t := by
  obtain ⟨u, x, rfl, h1, h2⟩ := h; exact ⟨u, x, rfl, h1.keep hb, h2.keep hb⟩
theorem REqs.len (h : REqs w v es) : es.length ≤ 9223372036854775807 := by
  obtain ⟨A, c, e, h1, h2, h3⟩ := h; rw [maxLen_eq] at h2; omega
theorem REqs.nil (w : World) : REqs w (.slice none 0 0) [] := ⟨none, 0, rfl, Nat.le_refl _, Nat.zero_le _, fun j x h => by simp at h⟩
theorem REqs.form (h : REqs w v es) : ∃ A c, v = .slice A es.length c ∧ es.length ≤ c ∧ c ≤ 9223372036854775807 := by
  obtain ⟨A, c, e, h1, h2, h3⟩ := h; exact ⟨A, c, e, h1, h2⟩
theorem REqs.at_ (h : REqs w v es) {k : Nat} (hk : k < es.length) : ∃ b o c x y z, v = .slice (some ⟨b, o, none⟩) es.length c ∧
    w.cell? ⟨b, o + k * 3, none⟩ = some x ∧ w.cell? ⟨b, o + k * 3 + 1, none⟩ = some y ∧ w.cell? ⟨b, o + k * 3 + 2, none⟩ = some z ∧ RInts w x es[k].vars ∧ RInts w y es[k].left ∧ RInts w z es[k].right := by
  obtain ⟨A, c, e, h1, h2, h3⟩ := h
  obtain ⟨b, o, x, y, z, rfl, r⟩ := h3 k es[k] (List.getElem?_eq_getElem hk)
  exact ⟨b, o, c, x, y, z, e, r⟩
theorem REq.form (h : REq w v e) : ∃ A a B b C c, v = .agg #[.slice A e.vars.length a, .slice B e.left.length b, .slice C e.right.length c] := by
  obtain ⟨a, b, c, rfl, h1, h2, h3⟩ := h
  obtain ⟨A, a, rfl, -⟩ := h1.form
  obtain ⟨B, b, rfl, -⟩ := h2.form
  obtain ⟨C, c, rfl, -⟩ := h3.form
  exact ⟨_, _, _, _, _, _, rfl⟩
theorem RThy.form (h : RThy w v t) : ∃ A a B b, v = .agg #[.int .i64 t.over.sorts, .slice A t.over.ops.length a, .slice B t.eqs.length b] := by
  obtain ⟨a, b, rfl, h1, h2⟩ := h
  obtain ⟨A, a, rfl, -⟩ := h1.form
  obtain ⟨B, b, rfl, -⟩ := h2.form
  exact ⟨_, _, _, _, rfl⟩
theorem RSig.form {s : MSig} (h : RSig w v s) : ∃ A a, v = .agg #[.int .i64 s.sorts, .slice A s.ops.length a] := by
  obtain ⟨a, rfl, h1⟩ := h
  obtain ⟨A, a, rfl, -⟩ := h1.form
  exact ⟨_, _, rfl⟩
theorem REq.of {a b c : Value} (h : REq w (.agg #[a, b, c]) e) : RInts w a e.vars ∧ RInts w b e.left ∧ RInts w c e.right := by
  obtain ⟨a', b', c', he, h1, h2, h3⟩ := h
  injection he with he
  simp at he
  obtain ⟨rfl, rfl, rfl⟩ := he
  exact ⟨h1, h2, h3⟩
theorem RThy.of {n a b : Value} (h : RThy w (.agg #[n, a, b]) t) : n = .int .i64 t.over.sorts ∧ RRows w a t.over.ops ∧ REqs w b t.eqs := by
  obtain ⟨a', b', he, h1, h2⟩ := h
  injection he with he
  simp at he
  obtain ⟨rfl, rfl, rfl⟩ := he
  exact ⟨rfl, h1, h2⟩
theorem RSig.of {n a : Value} {s : MSig} (h : RSig w (.agg #[n, a]) s) : n = .int .i64 s.sorts ∧ RRows w a s.ops := by
  obtain ⟨a', he, h1⟩ := h
  injection he with he
  simp at he
  obtain ⟨rfl, rfl⟩ := he
  exact ⟨rfl, h1⟩
end

/-- an operation that its guard leaves out -/
theorem ite_off {c : Bool} {A B : Prop} (h : c = false) (hb : B) : if c = true then A else B := by rw [h]; simpa using hb
/-- the cells of a box, the newest block -/
theorem bx_at (w : World) (cs : Array Value) (t : TypeId) {k : Nat} {u : Value} (h : cs[k]? = some u) : (w.alloc (.cells cs t)).cell? ⟨w.heap.size, k, none⟩ = some u := by
  rw [World.cell?_alloc_at _ _ _ _ rfl]; exact h
theorem bx3 (w : World) (a b c : Value) (t : TypeId) : (w.alloc (.cells #[a, b, c] t)).cell? ⟨w.heap.size, 0, none⟩ = some a ∧ (w.alloc (.cells #[a, b, c] t)).cell? ⟨w.heap.size, 1, none⟩ = some b ∧ (w.alloc (.cells #[a, b, c] t)).cell? ⟨w.heap.size, 2, none⟩ = some c :=
  ⟨bx_at w _ _ rfl, bx_at w _ _ rfl, bx_at w _ _ rfl⟩
theorem bx4 (w : World) (a b c d : Value) (t : TypeId) : (w.alloc (.cells #[a, b, c, d] t)).cell? ⟨w.heap.size, 0, none⟩ = some a ∧ (w.alloc (.cells #[a, b, c, d] t)).cell? ⟨w.heap.size, 1, none⟩ = some b ∧ (w.alloc (.cells #[a, b, c, d] t)).cell? ⟨w.heap.size, 2, none⟩ = some c ∧ (w.alloc (.cells #[a, b, c, d] t)).cell? ⟨w.heap.size, 3, none⟩ = some d :=
  ⟨bx_at w _ _ rfl, bx_at w _ _ rfl, bx_at w _ _ rfl, bx_at w _ _ rfl⟩

/-- lists of rows that a call has made, in whatever cells of a block -/
def ORowsT (T : TypeId) (size n : Nat) (w : World) (B : Nat) (v : Value) (rows : List (List Int)) : Prop :=
  ∃ us : List Value, w.ownsRow B T size v n us ∧ us.length = rows.length ∧
    (∀ (j : Nat) (u : Value) (row : List Int), us[j]? = some u → rows[j]? = some row → OInts w B u row) ∧
    (∀ (i j : Nat) (u u' : Value), i < j → us[i]? = some u → us[j]? = some u' → u.ownBlock = none ∨ u.ownBlock ≠ u'.ownBlock)
end

section
open Go.RowKit
set_option linter.unusedVariables false

def eqOkB (s : MSig) (e : MEq) : Bool := decide (0 ≤ sortM s e.vars e.left) && decide (sortM s e.vars e.right = sortM s e.vars e.left)
def thyB (t : MThy) : Bool := (validB t.over && decide (t.eqs.length ≤ 6)) && t.eqs.all (eqOkB t.over)
def SmallE (e : MEq) : Prop := Small e.left ∧ Small e.right
def SmallT (t : MThy) : Prop := ∀ e ∈ t.eqs, SmallE e
/-- rows of an equation that are not too long -/
def FitsE (e : MEq) : Prop := e.vars.length ≤ 1048576 ∧ e.left.length ≤ 1048576 ∧ e.right.length ≤ 1048576
def FitsEs (es : List MEq) : Prop := es.length ≤ 1048576 ∧ ∀ e ∈ es, FitsE e
def sameE (a b : MEq) : Bool := (sameI a.vars b.vars && sameI a.left b.left) && sameI a.right b.right
theorem sameE_self (a : MEq) : sameE a a = true := by unfold sameE sameI; simp
theorem sameE_eq {a b : MEq} : sameE a b = true ↔ a = b := by
  obtain ⟨a1, a2, a3⟩ := a
  obtain ⟨b1, b2, b3⟩ := b
  unfold sameE sameI
  simp [and_assoc]
def sameEs : List MEq → List MEq → Bool
  | [], [] => true
  | a :: xs, b :: ys => sameE a b && sameEs xs ys
  | _, _ => false
theorem sameEs_eq {xs bs : List MEq} : sameEs xs bs = true ↔ xs = bs := by
  induction xs generalizing bs with
  | nil => cases bs <;> simp [sameEs]
  | cons a xs ih => cases bs with
    | nil => simp [sameEs]
    | cons b bs => simp [sameEs, sameE_eq, ih]
theorem sameEs_self (xs : List MEq) : sameEs xs xs = true := sameEs_eq.2 rfl
theorem eqOkB_bad {s : MSig} {e : MEq} (h : validB s = false) : eqOkB s e = false := by
  unfold eqOkB
  have : ¬ 0 ≤ sortM s e.vars e.left := fun hh => by
    obtain ⟨tm, hv, -⟩ := sortM_to hh
    rw [(vars_valid hv).1] at h
    cases h
  simp [this]
end

section
open Go.ChangeShapes Go.WideShapes Go.ChangeAt Go.RowKit Go.Deep Go.Joins
set_option linter.unusedVariables false

set_option maxRecDepth 100000 in
theorem ints_cell {H : Type} {enc : TypeId × Value → H} {W : World} {fuel : Nat} {u : Value} {x : DataW H × List MemPlace} (h : DataW.trod enc Try.prog W 0 (fun _ => true) true fuel 55 [u] = some x) : ∃ xs, RInts W u xs ∧ Small xs := by
  rcases open_ints Try.underlying55 Try.underlying3 (by kernel_rfl) h with ⟨hcs, _⟩ | ⟨x, l, c, zs, hcs, _, hl, hm, hz, _, hcell, hwz⟩
  · simp at hcs
    subst hcs
    exact ⟨[], RInts.nil _, small_nil⟩
  · simp at hcs
    subst hcs
    simp only [if_true] at hz
    have ht : (zs.take l).length = l := by rw [List.length_take]; omega
    refine ⟨zs.take l, ⟨some x, c, by rw [ht], by rw [ht]; exact hl, hm, fun j y hj => ?_⟩, small_take (small_wf hwz) _⟩
    rw [List.getElem?_take] at hj
    split at hj
    · obtain ⟨hjl, rfl⟩ := List.getElem?_eq_some_iff.1 hj
      obtain ⟨b, o, rfl, hc⟩ := plain_cell hcell hjl
      exact ⟨b, o, rfl, hc⟩
    · cases hj
set_option maxRecDepth 100000 in
theorem rows_cell {H : Type} {enc : TypeId × Value → H} {W : World} {fuel : Nat} {u : Value} {x : DataW H × List MemPlace} (hf : DataW.trod enc Try.prog W 0 (fun _ => true) true fuel 22 [u] = some x) : ∃ xs, RRows W u xs ∧ SmallR xs := by
  rcases open_int_rows Try.underlying22 Try.underlying55 Try.underlying3 (by kernel_rfl) (by kernel_rfl) hf with ⟨hcs, -⟩ | ⟨ad, len, cap, A, L, C, Z, hcs, -, hl, hm, -, hr⟩
  · simp at hcs
    subst hcs
    exact ⟨[], RRows.nil _, fun row hr => by simp at hr⟩
  · simp at hcs
    subst hcs
    refine ⟨(List.range len).map fun r => (Z r).take (L r), ?_, fun row hrow => ?_⟩
    · refine ⟨some ad, cap, by simp, by simpa using hl, hm, fun j row hj => ?_⟩
      simp only [List.getElem?_map] at hj
      obtain ⟨r, hr', rfl⟩ := Option.map_eq_some_iff.1 hj
      obtain ⟨hjl, hrj⟩ := List.getElem?_eq_some_iff.1 hr'
      simp at hjl hrj
      subst hrj
      obtain ⟨hc, h1, h2, h3, h4, h5, h6⟩ := hr j (by omega)
      obtain ⟨b, o, sp⟩ := ad
      have hsp : sp = none := by
        have := spot_none (hr 0 (by omega)).1
        simpa [Addr.add] using this
      subst hsp
      rw [add_plain] at hc
      refine ⟨b, o, _, rfl, hc, A j, C j, by rw [List.length_take]; congr 1; omega, by rw [List.length_take]; omega, h2, fun i x hx => ?_⟩
      rw [List.getElem?_take] at hx
      split at hx
      · obtain ⟨hil, rfl⟩ := List.getElem?_eq_some_iff.1 hx
        cases hA : A j with
        | none => have := h5 hA; omega
        | some a' =>
          obtain ⟨-, hcell⟩ := h6 a' hA
          obtain ⟨b', o', rfl, hc'⟩ := plain_cell (by rw [h3]; exact hcell) hil
          exact ⟨b', o', rfl, hc'⟩
      · cases hx
    · obtain ⟨r, hr', rfl⟩ := List.mem_map.1 hrow
      simp at hr'
      obtain ⟨hc, h1, h2, h3, h4, h5, h6⟩ := hr r (by omega)
      exact small_take (small_wf h4) _

instance : Inhabited MEq := ⟨⟨[], [], []⟩⟩
instance : Inhabited MSig := ⟨⟨0, []⟩⟩

set_option maxRecDepth 100000 in
theorem cells_Eq : Try.prog.cellsOf 61 = 3 := by kernel_rfl
set_option maxRecDepth 100000 in
theorem eqs_cell {H : Type} {enc : TypeId × Value → H} {W : World} {fuel : Nat} {u : Value} {x : DataW H × List MemPlace} (hf : DataW.trod enc Try.prog W 0 (fun _ => true) true fuel 25 [u] = some x) : ∃ es, REqs W u es ∧ ∀ e ∈ es, SmallE e := by
  rcases open_slice Try.underlying25 hf with ⟨hcs, -⟩ | ⟨a, len, cap, m, n, D, Pl, hcs, hb, hl, hm, hmm, -, hx⟩
  · simp at hcs
    subst hcs
    exact ⟨[], REqs.nil _, fun e he => by simp at he⟩
  · simp at hcs
    subst hcs
    have hlm : len ≤ m := by rw [hmm]; split <;> omega
    have each : ∀ i, i < len → ∃ q : MEq, (∃ b o x y z, a = ⟨b, o, none⟩ ∧ W.cell? ⟨b, o + i * 3, none⟩ = some x ∧ W.cell? ⟨b, o + i * 3 + 1, none⟩ = some y ∧ W.cell? ⟨b, o + i * 3 + 2, none⟩ = some z ∧ RInts W x q.vars ∧ RInts W y q.left ∧ RInts W z q.right) ∧ SmallE q := by
      intro i hi
      obtain ⟨cs', h1, h2⟩ := hx i (by omega)
      rw [cells_Eq] at h1
      obtain ⟨-, hlen, hcell⟩ := World.cells?_some h1
      obtain ⟨y0, y1, y2, n', -, -, g0, g1, g2⟩ := trod_struct3 Try.underlying61 h2
      match cs', hlen with
      | [v0, v1, v2], _ =>
        have c0 := hcell 0 (by omega)
        have c1 := hcell 1 (by omega)
        have c2 := hcell 2 (by omega)
        have hsp0 : a.spot = none := by
          obtain ⟨cs0, k1, -⟩ := hx 0 (by omega)
          rw [cells_Eq] at k1
          obtain ⟨-, hl0, hc0⟩ := World.cells?_some k1
          have c := hc0 0 (by omega)
          rw [List.getElem?_eq_getElem (by omega)] at c
          have := spot_none c
          simpa [Addr.add] using this
        obtain ⟨b, o, sp⟩ := a
        simp only at hsp0
        subst hsp0
        rw [add_add, add_plain] at c0 c1 c2
        have k1 : Try.prog.cellsOf 55 = 1 := by kernel_rfl
        simp [k1] at g0 g1 g2
        obtain ⟨xs0, r0, -⟩ := ints_cell (u := v0) (by simpa using g0)
        obtain ⟨xs1, r1, s1⟩ := ints_cell (u := v1) (by simpa using g1)
        obtain ⟨xs2, r2, s2⟩ := ints_cell (u := v2) (by simpa using g2)
        exact ⟨⟨xs0, xs1, xs2⟩, ⟨b, o, v0, v1, v2, rfl, by simpa using c0, by simpa [Nat.add_assoc] using c1, by simpa [Nat.add_assoc] using c2, r0, r1, r2⟩, s1, s2⟩
    obtain ⟨q, hq⟩ := choose_lt each
    refine ⟨(List.range len).map q, ⟨some a, cap, by simp, by simpa using hl, hm, fun j e hj => ?_⟩, fun e he => ?_⟩
    · simp only [List.getElem?_map] at hj
      obtain ⟨r, hr', rfl⟩ := Option.map_eq_some_iff.1 hj
      obtain ⟨hjl, hrj⟩ := List.getElem?_eq_some_iff.1 hr'
      simp at hjl hrj
      subst hrj
      obtain ⟨⟨b, o, x, y, z, rfl, r⟩, -⟩ := hq j hjl
      exact ⟨b, o, x, y, z, rfl, r⟩
    · obtain ⟨r, hr', rfl⟩ := List.mem_map.1 he
      simp at hr'
      exact (hq r hr').2

set_option maxRecDepth 100000 in
theorem eq_of {H : Type} {enc : TypeId × Value → H} {W : World} {base : Nat} {v : Value} {d : DataW H} {p : List MemPlace} (hv : Value.okWide Try.prog W .any base 61 v)
    (h : DataW.Trod enc Try.prog W 0 (fun _ => true) true 61 v d p) : ∃ e, REq W v e ∧ SmallE e := by
  obtain ⟨v0, v1, v2, y0, y1, y2, n, rfl, -, -, h0, h1, h2⟩ := open_agg3 Try.underlying61 (by kernel_rfl) cells_Eq hv h
  obtain ⟨xs0, r0, -⟩ := ints_cell h0
  obtain ⟨xs1, r1, s1⟩ := ints_cell h1
  obtain ⟨xs2, r2, s2⟩ := ints_cell h2
  exact ⟨⟨xs0, xs1, xs2⟩, ⟨v0, v1, v2, rfl, r0, r1, r2⟩, s1, s2⟩

set_option maxRecDepth 100000 in
theorem cells_Thy : Try.prog.cellsOf 27 = 3 := by kernel_rfl
set_option maxRecDepth 100000 in
theorem thy_of {H : Type} {enc : TypeId × Value → H} {W : World} {base : Nat} {v : Value} {d : DataW H} {p : List MemPlace} (hv : Value.okWide Try.prog W .any base 27 v)
    (h : DataW.Trod enc Try.prog W 0 (fun _ => true) true 27 v d p) : ∃ t, RThy W v t ∧ SmallT t := by
  obtain ⟨cs, rfl, hsz⟩ := okWide_struct Try.underlying27 hv
  obtain ⟨c0, c1, c2, rfl⟩ := array3 (hsz.trans cells_Thy)
  obtain ⟨fuel, hf⟩ := h
  obtain ⟨y0, y1, n, -, -, h0, h1⟩ := trod_struct2 Try.underlying27 hf
  have k2 : Try.prog.cellsOf 24 = 2 := by kernel_rfl
  have k1 : Try.prog.cellsOf 25 = 1 := by kernel_rfl
  simp [Value.cells, k1, k2] at h0 h1
  obtain ⟨z0, z1, n', -, -, g0, g1⟩ := trod_struct2 Try.underlying24 h0
  have k3 : Try.prog.cellsOf 3 = 1 := by kernel_rfl
  have k4 : Try.prog.cellsOf 22 = 1 := by kernel_rfl
  simp [k3, k4] at g0 g1
  obtain ⟨a, e0, -, wa⟩ := DataW.trod_int Try.underlying3 g0
  simp at e0
  subst e0
  obtain ⟨rows, r1, -⟩ := rows_cell g1
  obtain ⟨es, r2, s2⟩ := eqs_cell h1
  exact ⟨⟨⟨a, rows⟩, es⟩, ⟨_, _, rfl, r1, r2⟩, s2⟩
end

section
open Go.RowKit
set_option linter.unusedVariables false

def Apart (a b : Value) : Prop := a.ownBlock = none ∨ a.ownBlock ≠ b.ownBlock
def OEq (w : World) (B : Nat) (v : Value) (e : MEq) : Prop := ∃ a b c, v = .agg #[a, b, c] ∧ OInts w B a e.vars ∧ OInts w B b e.left ∧ OInts w B c e.right ∧ Apart a b ∧ Apart a c ∧ Apart b c
theorem OEq.keep {w w' : World} {B : Nat} {v : Value} {e : MEq} (h : OEq w B v e) (hb : Below w.heap.size w w') : OEq w' B v e := by
  obtain ⟨a, b, c, rfl, h1, h2, h3, h4⟩ := h; exact ⟨a, b, c, rfl, h1.keep hb, h2.keep hb, h3.keep hb, h4⟩
theorem OEq.base {w : World} {B B' : Nat} {v : Value} {e : MEq} (h : OEq w B v e) (hB : B' ≤ B) : OEq w B' v e := by
  obtain ⟨a, b, c, rfl, h1, h2, h3, h4⟩ := h; exact ⟨a, b, c, rfl, h1.base hB, h2.base hB, h3.base hB, h4⟩
theorem OEq.reads {w : World} {B : Nat} {v : Value} {e : MEq} (h : OEq w B v e) : REq w v e := by
  obtain ⟨a, b, c, rfl, h1, h2, h3, h4⟩ := h; exact ⟨a, b, c, rfl, h1.reads, h2.reads, h3.reads⟩
/-- what was made later lies in another block -/
theorem apart_later {w w' : World} {B : Nat} {a b : Value} {xs ys : List Int} (h : OInts w B a xs) (k : OInts w' w.heap.size b ys) : Apart a b := by
  unfold Apart
  cases ha : a.ownBlock with
  | none => exact .inl rfl
  | some x =>
    right
    intro e
    have p := (own_lt h x ha).2
    have q := (own_lt k x e.symm).1
    omega
theorem sz_keep {w w1 w2 : World} (h : Below w.heap.size w w1) (k : Below w1.heap.size w1 w2) : Below w.heap.size w w2 := h.trans (k.mono h.size)

theorem szEq_any (v : Value) (e : MEq) (left : Int) (w : World) (h : REq w v e) (h0 : 0 ≤ left) (h1 : left ≤ 1048576) :
    Calls Try.prog 29 #[v, .int .i64 left] w fun e' w' => ∃ r : Int, e' = .returned (.int .i64 r) ∧ (r < 0 ∨ (0 ≤ r ∧ r ≤ left ∧ FitsE e)) ∧ Below w.heap.size w w' := by
  obtain ⟨a, b, c, rfl, k0, k1, k2⟩ := h
  obtain ⟨xs, ys, zs⟩ := e
  simp only at k0 k1 k2
  have hb := below_alloc w (.cells #[a, b, c] 61)
  have HB := Lib.hid hb
  have K0 := Lib.hid (k0.keep hb)
  have K1 := Lib.hid (k1.keep hb)
  have K2 := Lib.hid (k2.keep hb)
  obtain ⟨A0, c0, rfl, -⟩ := k0.form
  obtain ⟨A1, c1, rfl, -⟩ := k1.form
  obtain ⟨A2, c2, rfl, -⟩ := k2.form
  clear k0 k1 k2 hb
  go_enter Try.func29, Try.ntmps29
  go_wp2_with fail
  refine (szIntS_any _ xs _ _ K0.out h0 h1).mono ?_
  rintro e w1 ⟨r, rfl, hr, rfl⟩
  by_cases hneg : r < 0
  · clear hr
    go_wp2
    go_ret
    exact ⟨-1, rfl, .inl (by omega), HB.out⟩
  have hr1 := hr.resolve_left hneg
  clear hr
  obtain ⟨hr2, hr3⟩ := hr1
  have HR := Lib.hid hr3
  have hr4 : r ≤ 1048576 := by omega
  clear hr3
  go_wp2_with fail
  refine (szIntS_any _ ys _ _ K1.out hr2 hr4).mono ?_
  rintro e w1 ⟨q, rfl, hr, rfl⟩
  by_cases hneg2 : q < 0
  · clear hr
    go_wp2
    go_ret
    exact ⟨-1, rfl, .inl (by omega), HB.out⟩
  have hr5 := hr.resolve_left hneg2
  clear hr
  obtain ⟨hr6, hr7⟩ := hr5
  have HQ := Lib.hid hr7
  have hr8 : q ≤ 1048576 := by omega
  clear hr7
  go_wp2_with fail
  refine (szIntS_any _ zs _ _ K2.out hr6 hr8).mono ?_
  rintro e w1 ⟨p, rfl, hr, rfl⟩
  by_cases hneg3 : p < 0
  · clear hr
    go_wp2
    go_ret
    exact ⟨-1, rfl, .inl (by omega), HB.out⟩
  have hr9 := hr.resolve_left hneg3
  clear hr
  obtain ⟨hr10, hr11⟩ := hr9
  have HP := Lib.hid hr11
  clear hr11
  go_wp2
  go_ret
  have a1 := HR.out
  have a2 := HQ.out
  have a3 := HP.out
  refine ⟨p, rfl, .inr ⟨hr10, by omega, ⟨?_, ?_, ?_⟩⟩, HB.out⟩ <;> simp only <;> omega

/-- a copy under way: the argument's box (a), the result's (r), and 'out' (cur), the first three new blocks -/
structure Mk (w wr : World) (Ta T : TypeId) (a r cur : Array Value) : Prop where
  ba : wr.heap[w.heap.size]? = some (.cells a Ta (0, 0))
  br : wr.heap[w.heap.size + 1]? = some (.cells r T (0, 0))
  bo : wr.heap[w.heap.size + 2]? = some (.cells cur T (0, 0))
  b : Below w.heap.size w wr
  z : w.heap.size + 3 ≤ wr.heap.size
theorem Mk.start (w : World) (Ta T : TypeId) (a r cur : Array Value) : Mk w (((w.alloc (.cells a Ta)).alloc (.cells r T)).alloc (.cells cur T)) Ta T a r cur := by
  refine ⟨?_, ?_, ?_, ((below_alloc _ _).alloc (by simp) _).alloc (by simp; omega) _, by simp⟩
  · rw [heap_alloc_old _ _ (by simp; omega), heap_alloc_old _ _ (by simp)]
    exact heap_alloc_new w _
  · rw [heap_alloc_old _ _ (by simp)]
    exact (congrArg (fun i => ((w.alloc (.cells a Ta)).alloc (.cells r T)).heap[i]?) (by simp)).trans (heap_alloc_new (w.alloc (.cells a Ta)) _)
  · exact (congrArg (fun i => (((w.alloc (.cells a Ta)).alloc (.cells r T)).alloc (.cells cur T)).heap[i]?) (by simp)).trans (heap_alloc_new ((w.alloc (.cells a Ta)).alloc (.cells r T)) _)
section
variable {w wr w2 : World} {Ta T : TypeId} {a r cur : Array Value}
theorem Mk.below (h : Mk w wr Ta T a r cur) (hb : Below wr.heap.size wr w2) : Mk w w2 Ta T a r cur :=
  ⟨(hb.block _ (by have := h.z; omega)).trans h.ba, (hb.block _ (by have := h.z; omega)).trans h.br, (hb.block _ (by have := h.z; omega)).trans h.bo, h.b.trans (hb.mono (by have := h.z; omega)), Nat.le_trans h.z hb.size⟩
theorem Mk.setO (h : Mk w wr Ta T a r cur) (i : Nat) (u : Value) : Mk w (wr.setCell ⟨w.heap.size + 2, i, none⟩ u) Ta T a r (cur.setIfInBounds i u) :=
  ⟨(Below.heap_setCell wr ⟨w.heap.size + 2, i, none⟩ u w.heap.size (by show w.heap.size ≠ w.heap.size + 2; omega)).trans h.ba, (Below.heap_setCell wr ⟨w.heap.size + 2, i, none⟩ u (w.heap.size + 1) (by show w.heap.size + 1 ≠ w.heap.size + 2; omega)).trans h.br, blk_set h.bo i u,
    h.b.setCell (p := ⟨w.heap.size + 2, i, none⟩) (by show w.heap.size ≤ w.heap.size + 2; omega) u, by have := h.z; simpa [World.setCell] using this⟩
theorem Mk.setR (h : Mk w wr Ta T a r cur) (i : Nat) (u : Value) : Mk w (wr.setCell ⟨w.heap.size + 1, i, none⟩ u) Ta T a (r.setIfInBounds i u) cur :=
  ⟨(Below.heap_setCell wr ⟨w.heap.size + 1, i, none⟩ u w.heap.size (by show w.heap.size ≠ w.heap.size + 1; omega)).trans h.ba, blk_set h.br i u, (Below.heap_setCell wr ⟨w.heap.size + 1, i, none⟩ u (w.heap.size + 2) (by show w.heap.size + 2 ≠ w.heap.size + 1; omega)).trans h.bo,
    h.b.setCell (p := ⟨w.heap.size + 1, i, none⟩) (by show w.heap.size ≤ w.heap.size + 1; omega) u, by have := h.z; simpa [World.setCell] using this⟩
theorem Mk.ca (h : Mk w wr Ta T a r cur) (i : Nat) : wr.cell? ⟨w.heap.size, i, none⟩ = a[i]? := blk_cell h.ba i
theorem Mk.co (h : Mk w wr Ta T a r cur) (i : Nat) : wr.cell? ⟨w.heap.size + 2, i, none⟩ = cur[i]? := blk_cell h.bo i
theorem Mk.fo (h : Mk w wr Ta T a r cur) (i : Nat) : wr.frozen? ⟨w.heap.size + 2, i, none⟩ = false := blk_free h.bo i
theorem Mk.cr (h : Mk w wr Ta T a r cur) (i : Nat) : wr.cell? ⟨w.heap.size + 1, i, none⟩ = r[i]? := blk_cell h.br i
theorem Mk.fr (h : Mk w wr Ta T a r cur) (i : Nat) : wr.frozen? ⟨w.heap.size + 1, i, none⟩ = false := blk_free h.br i
theorem OInts.setLow {B b : Nat} {v : Value} {xs : List Int} (h : OInts wr B v xs) (hb : b < B) (i : Nat) (x : Value) : OInts (wr.setCell ⟨b, i, none⟩ x) B v xs := ownsRow_setCell_below h hb _
end

set_option maxRecDepth 100000 in
theorem toEq_any (v : Value) (e : MEq) (w : World) (h : REq w v e) (hs : FitsE e) :
    Calls Try.prog 34 #[v] w fun e' w' => ∃ u, e' = .returned u ∧ OEq w' w.heap.size u e ∧ Below w.heap.size w w' := by
  obtain ⟨x0, x1, x2, rfl, h0, h1, h2⟩ := h
  obtain ⟨xs, ys, zs⟩ := e
  obtain ⟨hs0, hs1, hs2⟩ := hs
  simp only at h0 h1 h2 hs0 hs1 hs2
  obtain ⟨A0, c0, rfl, -⟩ := h0.form
  obtain ⟨A1, c1, rfl, -⟩ := h1.form
  obtain ⟨A2, c2, rfl, -⟩ := h2.form
  have hm := Mk.start w 61 71 #[.slice A0 xs.length c0, .slice A1 ys.length c1, .slice A2 zs.length c2] #[.slice none 0 0, .slice none 0 0, .slice none 0 0] #[.slice none 0 0, .slice none 0 0, .slice none 0 0]
  generalize hW : ((w.alloc (.cells #[.slice A0 xs.length c0, .slice A1 ys.length c1, .slice A2 zs.length c2] 61)).alloc (.cells #[.slice none 0 0, .slice none 0 0, .slice none 0 0] 71)).alloc (.cells #[.slice none 0 0, .slice none 0 0, .slice none 0 0] 71) = W at hm
  have H0 := Lib.hid (h0.keep hm.b)
  have H1 := Lib.hid h1
  have H2 := Lib.hid h2
  have p0 : W.cell? ⟨w.heap.size, 0, none⟩ = some (.slice A0 xs.length c0) := hm.ca 0
  have HM := Lib.hid hm
  clear h0 h1 h2 hm
  go_enter Try.func34, Try.ntmps34
  go_wp2_with fail
  clear hW
  refine (toIntS_any _ xs _ H0.out hs0).mono ?_
  rintro e w4 ⟨u0, rfl, ho, hb⟩
  have hz := HM.out.z
  have hm := HM.out.below hb
  obtain ⟨B0, d0, rfl, -⟩ := ho.reads.form
  have q0 : w4.cell? ⟨w.heap.size + 2, 0, none⟩ = some (.slice none 0 0) := hm.co 0
  have q1 := hm.fo 0
  have hm5 := hm.setO 0 (.slice B0 xs.length d0)
  have ho5 := ho.setLow (b := w.heap.size + 2) (by omega) 0 (.slice B0 xs.length d0)
  generalize hW5 : w4.setCell ⟨w.heap.size + 2, 0, none⟩ (.slice B0 xs.length d0) = w5 at hm5 ho5
  have p1 : w5.cell? ⟨w.heap.size, 1, none⟩ = some (.slice A1 ys.length c1) := hm5.ca 1
  have HO5 := Lib.hid ho5
  have HM5 := Lib.hid hm5
  have H1 := Lib.hid (H1.out.keep hm5.b)
  clear ho hb hm p0 hm5 ho5 H0
  go_wp2_with fail
  clear hW5 q0 q1
  refine (toIntS_any _ ys _ H1.out hs1).mono ?_
  rintro e w6 ⟨u1, rfl, ho, hb⟩
  have hz5 := HM5.out.z
  have hm := HM5.out.below hb
  obtain ⟨B1, d1, rfl, -⟩ := ho.reads.form
  have q0 : w6.cell? ⟨w.heap.size + 2, 1, none⟩ = some (.slice none 0 0) := hm.co 1
  have q1 := hm.fo 1
  have ha1 := apart_later HO5.out ho
  have hm7 := hm.setO 1 (.slice B1 ys.length d1)
  have ho7 := ho.setLow (b := w.heap.size + 2) (by omega) 1 (.slice B1 ys.length d1)
  have hn7 := (HO5.out.keep hb).setLow (b := w.heap.size + 2) (by omega) 1 (.slice B1 ys.length d1)
  generalize hW7 : w6.setCell ⟨w.heap.size + 2, 1, none⟩ (.slice B1 ys.length d1) = w7 at hm7 ho7 hn7
  have p2 : w7.cell? ⟨w.heap.size, 2, none⟩ = some (.slice A2 zs.length c2) := hm7.ca 2
  have HO7 := Lib.hid ho7
  have HN7 := Lib.hid hn7
  have HA1 := Lib.hid ha1
  have HM7 := Lib.hid hm7
  have H2 := Lib.hid (H2.out.keep hm7.b)
  clear ho hb hm p1 hm7 ho7 hn7 ha1 H1 HO5
  go_wp2_with fail
  clear hW7 q0 q1
  refine (toIntS_any _ zs _ H2.out hs2).mono ?_
  rintro e w8 ⟨u2, rfl, ho, hb⟩
  have hz7 := HM7.out.z
  have hm := HM7.out.below hb
  obtain ⟨B2, d2, rfl, -⟩ := ho.reads.form
  have ha2 := apart_later HN7.out ho
  have ha3 := apart_later HO7.out ho
  have hm9 := (((hm.setO 2 (.slice B2 zs.length d2)).setR 0 (.slice B0 xs.length d0)).setR 1 (.slice B1 ys.length d1)).setR 2 (.slice B2 zs.length d2)
  have o0 := ((((HN7.out.keep hb).setLow (b := w.heap.size + 2) (by omega) 2 (.slice B2 zs.length d2)).setLow (b := w.heap.size + 1) (by omega) 0 (.slice B0 xs.length d0)).setLow (b := w.heap.size + 1) (by omega) 1 (.slice B1 ys.length d1)).setLow (b := w.heap.size + 1) (by omega) 2 (.slice B2 zs.length d2)
  have o1 := ((((HO7.out.keep hb).setLow (b := w.heap.size + 2) (by omega) 2 (.slice B2 zs.length d2)).setLow (b := w.heap.size + 1) (by omega) 0 (.slice B0 xs.length d0)).setLow (b := w.heap.size + 1) (by omega) 1 (.slice B1 ys.length d1)).setLow (b := w.heap.size + 1) (by omega) 2 (.slice B2 zs.length d2)
  have o2 := (((ho.setLow (b := w.heap.size + 2) (by omega) 2 (.slice B2 zs.length d2)).setLow (b := w.heap.size + 1) (by omega) 0 (.slice B0 xs.length d0)).setLow (b := w.heap.size + 1) (by omega) 1 (.slice B1 ys.length d1)).setLow (b := w.heap.size + 1) (by omega) 2 (.slice B2 zs.length d2)
  have HF := Lib.hid (And.intro o0 (And.intro o1 (And.intro o2 (And.intro HA1.out (And.intro ha2 ha3)))))
  have HM9 := Lib.hid hm9
  have q0 : w8.cell? ⟨w.heap.size + 2, 0, none⟩ = some (.slice B0 xs.length d0) := hm.co 0
  have q1 : w8.cell? ⟨w.heap.size + 2, 1, none⟩ = some (.slice B1 ys.length d1) := hm.co 1
  have q2 : w8.cell? ⟨w.heap.size + 2, 2, none⟩ = some (.slice none 0 0) := hm.co 2
  have q3 := hm.fo 2
  have q4 : w8.cell? ⟨w.heap.size + 1, 0, none⟩ = some (.slice none 0 0) := hm.cr 0
  have q5 : w8.cell? ⟨w.heap.size + 1, 1, none⟩ = some (.slice none 0 0) := hm.cr 1
  have q6 : w8.cell? ⟨w.heap.size + 1, 2, none⟩ = some (.slice none 0 0) := hm.cr 2
  have q7 := hm.fr 0
  have q8 := hm.fr 1
  have q9 := hm.fr 2
  clear ho hb hm hm9 o0 o1 o2 ha2 ha3 HO7 HN7 HA1 H2 p2
  go_wp2
  obtain ⟨o0, o1, o2, a1, a2, a3⟩ := HF.out
  have hm9 := HM9.out
  generalize (((w8.setCell ⟨w.heap.size + 2, 2, none⟩ (.slice B2 zs.length d2)).setCell ⟨w.heap.size + 1, 0, none⟩ (.slice B0 xs.length d0)).setCell ⟨w.heap.size + 1, 1, none⟩ (.slice B1 ys.length d1)).setCell ⟨w.heap.size + 1, 2, none⟩ (.slice B2 zs.length d2) = w9 at o0 o1 o2 hm9 ⊢
  have k0 : w9.cell? ⟨w.heap.size + 1, 0, none⟩ = some (.slice B0 xs.length d0) := hm9.cr 0
  have k1 : w9.cell? ⟨w.heap.size + 1, 1, none⟩ = some (.slice B1 ys.length d1) := hm9.cr 1
  have k2 : w9.cell? ⟨w.heap.size + 1, 2, none⟩ = some (.slice B2 zs.length d2) := hm9.cr 2
  clear q0 q1 q2 q3 q4 q5 q6 q7 q8 q9
  refine bodyPost_ret (v := .agg #[.slice B0 xs.length d0, .slice B1 ys.length d1, .slice B2 zs.length d2]) (by simp [results, Try.results34, go_sem, k0, k1, k2]) rfl ?_
  exact ⟨_, rfl, ⟨_, _, _, rfl, o0.base (by omega), o1.base (by omega), o2.base (by omega), a1, a2, a3⟩, hm9.b⟩

theorem eqEq_any (v v' : Value) (a b : MEq) (w : World) (h : REq w v a) (h' : REq w v' b) :
    Calls Try.prog 41 #[v, v'] w fun e w' => e = .returned (.bool (sameE a b)) ∧ Below w.heap.size w w' := by
  obtain ⟨x0, x1, x2, rfl, h0, h1, h2⟩ := h
  obtain ⟨y0, y1, y2, rfl, k0, k1, k2⟩ := h'
  have hb2 : Below w.heap.size w ((w.alloc (.cells #[x0, x1, x2] 71)).alloc (.cells #[y0, y1, y2] 71)) := (below_alloc _ _).alloc (by simp) _
  have HB := Lib.hid hb2
  have H0 := Lib.hid (h0.keep hb2)
  have H1 := Lib.hid (h1.keep hb2)
  have H2 := Lib.hid (h2.keep hb2)
  have K0 := Lib.hid (k0.keep hb2)
  have K1 := Lib.hid (k1.keep hb2)
  have K2 := Lib.hid (k2.keep hb2)
  obtain ⟨a0, a1, a2⟩ := a
  obtain ⟨b0, b1, b2⟩ := b
  simp only at h0 h1 h2 k0 k1 k2 H0 H1 H2 K0 K1 K2
  obtain ⟨A0, c0, rfl, -⟩ := h0.form
  obtain ⟨A1, c1, rfl, -⟩ := h1.form
  obtain ⟨A2, c2, rfl, -⟩ := h2.form
  obtain ⟨D0, d0, rfl, -⟩ := k0.form
  obtain ⟨D1, d1, rfl, -⟩ := k1.form
  obtain ⟨D2, d2, rfl, -⟩ := k2.form
  clear h0 h1 h2 k0 k1 k2 hb2
  have c0' := cell_keep (below_alloc (w.alloc (.cells #[.slice A0 a0.length c0, .slice A1 a1.length c1, .slice A2 a2.length c2] 71)) (.cells #[.slice D0 b0.length d0, .slice D1 b1.length d1, .slice D2 b2.length d2] 71)) (bx_at w #[.slice A0 a0.length c0, .slice A1 a1.length c1, .slice A2 a2.length c2] 71 (k := 0) rfl)
  have c1' := cell_keep (below_alloc (w.alloc (.cells #[.slice A0 a0.length c0, .slice A1 a1.length c1, .slice A2 a2.length c2] 71)) (.cells #[.slice D0 b0.length d0, .slice D1 b1.length d1, .slice D2 b2.length d2] 71)) (bx_at w #[.slice A0 a0.length c0, .slice A1 a1.length c1, .slice A2 a2.length c2] 71 (k := 1) rfl)
  have c2' := cell_keep (below_alloc (w.alloc (.cells #[.slice A0 a0.length c0, .slice A1 a1.length c1, .slice A2 a2.length c2] 71)) (.cells #[.slice D0 b0.length d0, .slice D1 b1.length d1, .slice D2 b2.length d2] 71)) (bx_at w #[.slice A0 a0.length c0, .slice A1 a1.length c1, .slice A2 a2.length c2] 71 (k := 2) rfl)
  have d0' := bx_at (w.alloc (.cells #[.slice A0 a0.length c0, .slice A1 a1.length c1, .slice A2 a2.length c2] 71)) #[.slice D0 b0.length d0, .slice D1 b1.length d1, .slice D2 b2.length d2] 71 (k := 0) rfl
  have d1' := bx_at (w.alloc (.cells #[.slice A0 a0.length c0, .slice A1 a1.length c1, .slice A2 a2.length c2] 71)) #[.slice D0 b0.length d0, .slice D1 b1.length d1, .slice D2 b2.length d2] 71 (k := 1) rfl
  have d2' := bx_at (w.alloc (.cells #[.slice A0 a0.length c0, .slice A1 a1.length c1, .slice A2 a2.length c2] 71)) #[.slice D0 b0.length d0, .slice D1 b1.length d1, .slice D2 b2.length d2] 71 (k := 2) rfl
  simp only [World.size_alloc] at d0' d1' d2'
  generalize hW : (w.alloc (.cells #[.slice A0 a0.length c0, .slice A1 a1.length c1, .slice A2 a2.length c2] 71)).alloc (.cells #[.slice D0 b0.length d0, .slice D1 b1.length d1, .slice D2 b2.length d2] 71) = W at HB H0 H1 H2 K0 K1 K2 c0' c1' c2' d0' d1' d2'
  have HE : Hid (sameE ⟨a0, a1, a2⟩ ⟨b0, b1, b2⟩ = ((sameI a0 b0 && sameI a1 b1) && sameI a2 b2)) := rfl
  cases x0 : sameI a0 b0 with
  | false =>
    rw [x0] at HE
    have X0 := Lib.hid x0
    clear x0
    go_enter Try.func41, Try.ntmps41
    go_wp2_with (go_at_call 42; refine (eqIntS_is _ _ _ _ _ _ X0.out H0.out K0.out).mono ?_; rintro e w1 ⟨rfl, hd⟩)
    go_ret
    exact ⟨ret_bool HE.out.symm, sz_keep HB.out hd.below⟩
  | true =>
    rw [x0] at HE
    have X0 := Lib.hid x0
    clear x0
    cases x1 : sameI a1 b1 with
    | false =>
      rw [x1] at HE
      have X1 := Lib.hid x1
      clear x1
      go_enter Try.func41, Try.ntmps41
      go_wp2_with fail
      clear hW
      refine (eqIntS_is _ _ _ _ _ _ X0.out H0.out K0.out).mono ?_
      rintro e w1 ⟨rfl, hd⟩
      have hb := hd.below
      have HB1 := Lib.hid (sz_keep HB.out hb)
      have m1 := cell_keep hb c1'
      have m2 := cell_keep hb d1'
      have H1' := Lib.hid (H1.out.keep hb)
      have K1' := Lib.hid (K1.out.keep hb)
      clear hd hb c0' c1' c2' d0' d1' d2' H0 H1 H2 K0 K1 K2
      go_wp2_with fail
      refine (eqIntS_is _ _ _ _ _ _ X1.out H1'.out K1'.out).mono ?_
      rintro e w2 ⟨rfl, hd⟩
      go_wp2
      go_ret
      exact ⟨ret_bool HE.out.symm, sz_keep HB1.out hd.below⟩
    | true =>
      rw [x1] at HE
      have X1 := Lib.hid x1
      clear x1
      cases x2 : sameI a2 b2 with
      | false =>
        rw [x2] at HE
        have X2 := Lib.hid x2
        clear x2
        go_enter Try.func41, Try.ntmps41
        go_wp2_with fail
        clear hW
        refine (eqIntS_is _ _ _ _ _ _ X0.out H0.out K0.out).mono ?_
        rintro e w1 ⟨rfl, hd⟩
        have hb := hd.below
        have HB1 := Lib.hid (sz_keep HB.out hb)
        have m1 := cell_keep hb c1'
        have m2 := cell_keep hb d1'
        have m3 := cell_keep hb c2'
        have m4 := cell_keep hb d2'
        have H1' := Lib.hid (H1.out.keep hb)
        have K1' := Lib.hid (K1.out.keep hb)
        have H2' := Lib.hid (H2.out.keep hb)
        have K2' := Lib.hid (K2.out.keep hb)
        clear hd hb c0' c1' c2' d0' d1' d2' H0 H1 H2 K0 K1 K2
        go_wp2_with fail
        refine (eqIntS_is _ _ _ _ _ _ X1.out H1'.out K1'.out).mono ?_
        rintro e w2 ⟨rfl, hd⟩
        have hb := hd.below
        have HB2 := Lib.hid (sz_keep HB1.out hb)
        have n3 := cell_keep hb m3
        have n4 := cell_keep hb m4
        have H2'' := Lib.hid (H2'.out.keep hb)
        have K2'' := Lib.hid (K2'.out.keep hb)
        clear hd hb m1 m2 m3 m4 H1' K1' H2' K2'
        go_wp2_with fail
        refine (eqIntS_is _ _ _ _ _ _ X2.out H2''.out K2''.out).mono ?_
        rintro e w3 ⟨rfl, hd⟩
        go_wp2
        go_ret
        exact ⟨ret_bool HE.out.symm, sz_keep HB2.out hd.below⟩
      | true =>
        rw [x2] at HE
        have X2 := Lib.hid x2
        clear x2
        go_enter Try.func41, Try.ntmps41
        go_wp2_with fail
        clear hW
        refine (eqIntS_is _ _ _ _ _ _ X0.out H0.out K0.out).mono ?_
        rintro e w1 ⟨rfl, hd⟩
        have hb := hd.below
        have HB1 := Lib.hid (sz_keep HB.out hb)
        have m1 := cell_keep hb c1'
        have m2 := cell_keep hb d1'
        have m3 := cell_keep hb c2'
        have m4 := cell_keep hb d2'
        have H1' := Lib.hid (H1.out.keep hb)
        have K1' := Lib.hid (K1.out.keep hb)
        have H2' := Lib.hid (H2.out.keep hb)
        have K2' := Lib.hid (K2.out.keep hb)
        clear hd hb c0' c1' c2' d0' d1' d2' H0 H1 H2 K0 K1 K2
        go_wp2_with fail
        refine (eqIntS_is _ _ _ _ _ _ X1.out H1'.out K1'.out).mono ?_
        rintro e w2 ⟨rfl, hd⟩
        have hb := hd.below
        have HB2 := Lib.hid (sz_keep HB1.out hb)
        have n3 := cell_keep hb m3
        have n4 := cell_keep hb m4
        have H2'' := Lib.hid (H2'.out.keep hb)
        have K2'' := Lib.hid (K2'.out.keep hb)
        clear hd hb m1 m2 m3 m4 H1' K1' H2' K2'
        go_wp2_with fail
        refine (eqIntS_is _ _ _ _ _ _ X2.out H2''.out K2''.out).mono ?_
        rintro e w3 ⟨rfl, hd⟩
        go_wp2
        go_ret
        exact ⟨ret_bool HE.out.symm, sz_keep HB2.out hd.below⟩
theorem eqEq_is (v v' : Value) (a b : MEq) (w : World) (r : Bool) (hr : sameE a b = r) (h : REq w v a) (h' : REq w v' b) :
    Calls Try.prog 41 #[v, v'] w fun e w' => e = .returned (.bool r) ∧ Below w.heap.size w w' := by
  subst hr; exact eqEq_any v v' a b w h h'
end
end Go.Proofs.Ytmmnamjgpfkabab
