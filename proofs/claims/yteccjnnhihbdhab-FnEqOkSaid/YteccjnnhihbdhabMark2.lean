/- The marks of a list of rows, to the number: markIntSS, heldIntSS, markSig, heldSig. -/
import Derived.Test.YteccjnnhihbdhabMark
namespace Go.Proofs.Yteccjnnhihbdhab
open Go.RowKit
set_option linter.unusedVariables false

def tot (rows : List (List Int)) : Nat := (rows.map List.length).sum
theorem tot_take {rows : List (List Int)} {k : Nat} (hk : k < rows.length) : tot (rows.take (k + 1)) = tot (rows.take k) + rows[k].length := by
  unfold tot; rw [List.take_succ_eq_append_getElem hk, List.map_append, List.sum_append]; simp
def marksR (k : Int) : List (List Int) → List (List Int)
  | [] => []
  | r :: rs => marks k r.length :: marksR (k + (r.length : Int)) rs
theorem marksR_at (rows : List (List Int)) : ∀ (k : Int) (j : Nat), (marksR k rows)[j]? = (rows[j]?).map fun r => marks (k + (tot (rows.take j) : Int)) r.length := by
  induction rows with
  | nil => intro k j; simp [marksR]
  | cons r rs ih =>
    intro k j
    cases j with
    | zero => simp [marksR, tot]
    | succ j =>
      simp only [marksR, List.getElem?_cons_succ, ih, List.take_succ_cons]
      congr 1
      funext x
      congr 1
      simp [tot]
      omega
theorem marksR_len (rows : List (List Int)) : ∀ k, (marksR k rows).length = rows.length := by
  induction rows with
  | nil => intro k; rfl
  | cons r rs ih => intro k; simp [marksR, ih]
theorem tot_le {rows : List (List Int)} (h : ∀ row ∈ rows, row.length ≤ 1048576) : tot rows ≤ 1048576 * rows.length := by
  unfold tot
  induction rows with
  | nil => simp
  | cons r rs ih =>
    have h1 := h r (List.mem_cons_self ..)
    have h2 := ih (fun row hr => h row (List.mem_cons_of_mem _ hr))
    simp only [List.map_cons, List.sum_cons, List.length_cons]
    omega

structure MarkP (w wr : World) (B M : Nat) (v : Value) (us : List Value) (rows : List (List Int)) (k0 : Int) (k : Nat) : Prop where
  own : wr.ownsRow B 25 1 v rows.length us
  len : us.length = rows.length
  done : ∀ (j : Nat) (u : Value) (row : List Int), j < k → us[j]? = some u → rows[j]? = some row → OInts wr B u (marks (k0 + (tot (rows.take j) : Int)) row.length)
  todo : ∀ (j : Nat) (u : Value) (row : List Int), k ≤ j → us[j]? = some u → rows[j]? = some row → OInts wr B u row
  apart : ∀ (i j : Nat) (u u' : Value), i < j → us[i]? = some u → us[j]? = some u' → u.ownBlock = none ∨ u.ownBlock ≠ u'.ownBlock
  low : ∀ (j : Nat) (u : Value), us[j]? = some u → ∀ k, u.ownBlock = some k → B ≤ k ∧ k < M
  frame : Outside B M w wr
theorem MarkP.start {w0 w : World} {B : Nat} {v : Value} {rows : List (List Int)} (k0 : Int) (h : ORows w0 B v rows) (hb : Below w0.heap.size w0 w) : ∃ us, MarkP w w B w0.heap.size v us rows k0 0 := by
  obtain ⟨us, h1, h2, h3, h4⟩ := h
  refine ⟨us, own_keep h1 hb, h2, fun j u row hj => by omega, fun j u row _ hu hr => (h3 j u row hu hr).keep hb, h4, fun j u hu k hk => ?_, Outside.refl _ _ _⟩
  have hj : j < rows.length := by rw [← h2]; exact (List.getElem?_eq_some_iff.1 hu).1
  exact own_lt (h3 j u _ hu (List.getElem?_eq_getElem hj)) k hk
theorem MarkP.step {w wr w1 : World} {B M : Nat} {v u : Value} {us : List Value} {rows : List (List Int)} {k0 : Int} {j : Nat} {row0 : List Int} (h : MarkP w wr B M v us rows k0 j) (hu : us[j]? = some u) (hr : rows[j]? = some row0)
    (hy : OInts w1 B u (marks (k0 + (tot (rows.take j) : Int)) row0.length)) (hg : wr.grownBy w1 u.ownBlock) (hz : w1.heap.size = wr.heap.size) : MarkP w w1 B M v us rows k0 (j + 1) := by
  have hxs := h.todo j u row0 (Nat.le_refl _) hu hr
  have other : ∀ {i : Nat} {x : Value} {zs : List Int}, i ≠ j → us[i]? = some x → OInts wr B x zs → OInts w1 B x zs := fun {i x zs} hij hx hz => by
    refine own_grown hz hg ?_
    rcases Nat.lt_or_gt_of_ne hij with hlt | hgt
    · exact h.apart i j x u hlt hx hu
    · rcases h.apart j i u x hgt hu hx with e | e
      · rw [e]
        cases x.ownBlock with
        | none => exact .inl rfl
        | some k => right; simp
      · exact .inr (fun e' => e e'.symm)
  refine ⟨own_grown h.own hg (own_ne h.own hxs (by decide)), h.len, fun i x row hi hx hrow => ?_, fun i x row hi hx hrow => ?_, h.apart, h.low, h.frame.trans ⟨hg.os, hg.tape, hg.output, hz, fun k hk => ?_⟩⟩
  · by_cases hij : i = j
    · subst hij
      rw [hu] at hx
      rw [hr] at hrow
      cases hx
      cases hrow
      exact hy
    · exact other hij hx (h.done i x row (by omega) hx hrow)
  · exact other (by omega) hx (h.todo i x row (by omega) hx hrow)
  · by_cases hkl : k < wr.heap.size
    · exact hg.block k hkl (fun e => by have := h.low j u hu k e.symm; omega)
    · rw [Array.getElem?_eq_none (by omega), Array.getElem?_eq_none (by omega)]
theorem MarkP.all {w wr : World} {B M : Nat} {v : Value} {us : List Value} {rows : List (List Int)} {k0 : Int} {k : Nat} (h : MarkP w wr B M v us rows k0 k) (hk : k = rows.length) : ORows wr B v (marksR k0 rows) ∧ Outside B M w wr := by
  refine ⟨⟨us, by rw [marksR_len]; exact h.own, by rw [marksR_len]; exact h.len, fun j u r hu hr => ?_, h.apart⟩, h.frame⟩
  rw [marksR_at] at hr
  obtain ⟨row, hrow, rfl⟩ := Option.map_eq_some_iff.1 hr
  exact h.done j u row (by rw [hk]; exact (List.getElem?_eq_some_iff.1 hrow).1) hu hrow

theorem markIntSSp_any (v : Value) (B : Nat) (rows : List (List Int)) (k0 : Int) (w0 w : World) (h : ORows w0 B v rows) (hb : Below w0.heap.size w0 w) (hs : rows.length ≤ 1048576) (hs2 : ∀ row ∈ rows, row.length ≤ 1048576) (h0 : 0 ≤ k0) (h1 : k0 ≤ 100000000000000) :
    Calls Try.prog 55 #[v, .int .i64 k0] w fun e w' => e = .returned (.int .i64 (k0 + (tot rows : Int))) ∧ ORows w' B v (marksR k0 rows) ∧ Outside B w0.heap.size w w' := by
  obtain ⟨us, hm0⟩ := MarkP.start k0 h hb
  have HM0 := Lib.hid hm0
  have HS2 := Lib.hid hs2
  obtain ⟨A, c, rfl, -⟩ := own_reads hm0.own
  clear h hb hm0 hs2
  go_enter Try.func55, Try.ntmps55
  go_wp2
  go_loopw [1, 5] (fun l i wr => ∃ k : Nat, k ≤ rows.length ∧ i = .int .i64 k ∧ l = .int .i64 (k0 + (tot (rows.take k) : Int)) ∧ MarkP w wr B w0.heap.size (.slice A rows.length c) us rows k0 k) (fun _ i _ => rows.length - (intOf i).toNat)
  case atStart => exact ⟨0, Nat.zero_le _, rfl, by simp [tot], HM0.out⟩
  case round =>
    obtain ⟨k, hk, rfl, rfl, hm⟩ := hrel
    have HM := Lib.hid hm
    clear hm
    have htt : (tot (rows.take k) : Int) ≤ 1048576 * 1048576 := by
      have := tot_le (rows := rows.take k) (fun row hr => HS2.out row (List.mem_of_mem_take hr))
      rw [List.length_take] at this
      omega
    by_cases hlt : k < rows.length
    · have hul : k < us.length := by rw [HM.out.len]; exact hlt
      have HYO := Lib.hid (HM.out.todo k us[k] rows[k] (Nat.le_refl _) (List.getElem?_eq_getElem hul) (List.getElem?_eq_getElem hlt))
      have hrl := HS2.out _ (List.getElem_mem hlt)
      obtain ⟨A0, c0, e0, -, -, hcells⟩ := own_reads HM.out.own
      cases e0
      obtain ⟨b, o, ea, hcell⟩ := hcells k us[k] (List.getElem?_eq_getElem hul)
      subst ea
      have HU := Lib.hid (List.getElem?_eq_getElem hul)
      have HR := Lib.hid (List.getElem?_eq_getElem hlt)
      have HTT := Lib.hid (tot_take hlt)
      generalize us[k] = u at HYO hcell HU
      generalize rows[k] = row at HYO HR hrl HTT
      obtain ⟨Au, cu, rfl, -⟩ := own_reads HYO.out
      clear hcells hul
      generalize hto : tot (rows.take k) = T at HTT htt
      have HTO := Lib.hid hto
      clear hto
      go_wp2_with fail
      refine (markIntS_any _ B row _ _ HYO.out hrl (by omega) (by omega)).mono ?_
      rintro e w1 ⟨rfl, ho, hg, hz⟩
      have HN := Lib.hid (HM.out.step HU.out HR.out (by rw [HTO.out]; exact ho) hg hz)
      have hyl : (row.length : Int) ≤ 1048576 := by omega
      clear ho hg hz
      go_wp2
      go_roundw
      case rel => exact ⟨k + 1, by omega, by go_num, by rw [HTT.out]; go_num, HN.out⟩
      case measure => simp [intOf]; omega
    · have hkn : k = rows.length := by omega
      have HKN := Lib.hid hkn
      clear hkn
      go_wp2
      go_ret
      obtain ⟨r1, r2⟩ := HM.out.all HKN.out
      refine ⟨?_, r1, r2⟩
      have e := HKN.out
      have e2 : tot (rows.take k) = tot rows := by rw [take_all (by omega)]
      exact ret_int (by rw [e2])

theorem heldIntSS_any (v : Value) (rows : List (List Int)) (k0 : Int) (w : World) (h : RRows w v (marksR k0 rows)) (hs : rows.length ≤ 1048576) (hs2 : ∀ row ∈ rows, row.length ≤ 1048576) (h0 : 0 ≤ k0) (h1 : k0 ≤ 100000000000000) :
    Calls Try.prog 58 #[v, .int .i64 k0] w fun e w' => e = .returned (.int .i64 (k0 + (tot rows : Int))) ∧ Drawn w w' := by
  have H := Lib.hid h
  have HS2 := Lib.hid hs2
  obtain ⟨A, c, e, -⟩ := h.form
  rw [marksR_len] at e
  subst e
  clear h hs2
  go_enter Try.func58, Try.ntmps58
  go_wp2
  go_loopw [1, 5] (fun l i wr => ∃ k : Nat, k ≤ rows.length ∧ i = .int .i64 k ∧ l = .int .i64 (k0 + (tot (rows.take k) : Int)) ∧ Drawn w wr) (fun _ i _ => rows.length - (intOf i).toNat)
  case atStart => exact ⟨0, Nat.zero_le _, rfl, by simp [tot], Drawn.refl _⟩
  case round =>
    obtain ⟨k, hk, rfl, rfl, hd⟩ := hrel
    have HD := Lib.hid hd
    clear hd
    have htt : (tot (rows.take k) : Int) ≤ 1048576 * 1048576 := by
      have := tot_le (rows := rows.take k) (fun row hr => HS2.out row (List.mem_of_mem_take hr))
      rw [List.length_take] at this
      omega
    by_cases hlt : k < rows.length
    · obtain ⟨b, o, c', u, e, hx, hri⟩ := (H.out.keep HD.out.below).at_ (k := k) (by rw [marksR_len]; exact hlt)
      rw [marksR_len] at e
      cases e
      have hrow : (marksR k0 rows)[k]'(by rw [marksR_len]; exact hlt) = marks (k0 + (tot (rows.take k) : Int)) rows[k].length := by
        have := marksR_at rows k0 k
        rw [List.getElem?_eq_getElem (by rw [marksR_len]; exact hlt), List.getElem?_eq_getElem hlt] at this
        simpa using this
      rw [hrow] at hri
      have hrl := HS2.out _ (List.getElem_mem hlt)
      have HTT := Lib.hid (tot_take hlt)
      clear hrow
      generalize rows[k] = row at hri hrl HTT
      obtain ⟨A1, c1, e1, -⟩ := hri.form
      rw [marks_len] at e1
      subst e1
      have HI := Lib.hid hri
      clear hri
      generalize hto : tot (rows.take k) = T at HTT htt HI
      clear hto
      go_wp2_with fail
      refine (heldIntS_any _ row.length _ _ HI.out hrl (by omega) (by omega)).mono ?_
      rintro e w1 ⟨rfl, hd1⟩
      have HD1 := Lib.hid (HD.out.trans hd1)
      have hyl : (row.length : Int) ≤ 1048576 := by omega
      clear hd1
      go_wp2
      go_roundw
      case rel => exact ⟨k + 1, by omega, by go_num, by rw [HTT.out]; go_num, HD1.out⟩
      case measure => simp [intOf]; omega
    · have hkn : k = rows.length := by omega
      have HKN := Lib.hid hkn
      clear hkn
      go_wp2
      go_ret
      have e2 : tot (rows.take k) = tot rows := by have e := HKN.out; rw [take_all (by omega)]
      exact ⟨ret_int (by rw [e2]), HD.out⟩

theorem markSigp_any (v : Value) (B : Nat) (s : MSig) (k0 : Int) (w0 w : World) (h : OSig w0 B v s) (hb : Below w0.heap.size w0 w) (hs : s.ops.length ≤ 1048576) (hs2 : ∀ row ∈ s.ops, row.length ≤ 1048576) (h0 : 0 ≤ k0) (h1 : k0 ≤ 100000000000000) :
    Calls Try.prog 20 #[v, .int .i64 k0] w fun e w' => e = .returned (.int .i64 (k0 + (tot s.ops : Int))) ∧ OSig w' B v ⟨s.sorts, marksR k0 s.ops⟩ ∧ ∃ o, Outside B w0.heap.size (w.alloc o) w' := by
  obtain ⟨u, rfl, ho⟩ := h
  obtain ⟨sorts, ops⟩ := s
  have HO := Lib.hid ho
  have HB := Lib.hid (hb.trans ((below_alloc w (.cells #[.int .i64 sorts, u] 35)).mono hb.size))
  have HS := Lib.hid (And.intro hs hs2)
  obtain ⟨A, c, rfl, -⟩ := ho.reads.form
  clear ho hb hs hs2
  go_enter Try.func20, Try.ntmps20
  go_wp2_with fail
  refine (markIntSSp_any _ B ops _ w0 _ HO.out HB.out HS.out.1 HS.out.2 h0 h1).mono ?_
  rintro e w1 ⟨rfl, hm, hout⟩
  have HOUT := Lib.hid hout
  have HM := Lib.hid hm
  clear hout hm
  go_wp2
  go_ret
  exact ⟨rfl, ⟨_, rfl, HM.out⟩, _, HOUT.out⟩

end Go.Proofs.Yteccjnnhihbdhab
