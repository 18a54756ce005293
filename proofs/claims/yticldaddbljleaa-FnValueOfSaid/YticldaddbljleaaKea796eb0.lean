/- The exact laws' marks: markIntS, heldIntS, markIntSS, markSig. · The marks of a list of rows, to the number: markIntSS, heldIntSS, markSig, heldSig. · The exact laws' marks of a result that lies between others: worlds cut off at a size. No walk. · VarsOk of both packages. · Maps of signatures: how they read, how those that a call has made lie; the exact laws' measure, copy and comparison of one. · The plain functions of maps of signatures. No walk. · raisedRow, OpTakes of both packages. · OpTakes of both packages. · Rows led by a map: ledRow (impl), l4Row, l4Term (spec). · slices.Equal on rows of numbers. · l1Same: rows compared (package spec). -/
import Derived.Test.YticldaddbljleaaK05633005
import Derived.Deep.RegionHeld3
import Derived.Deep.OwnRows
import Derived.Deep.AppendLies
import Derived.Deep.DeepMust
namespace Go.Proofs.Yticldaddbljleaa
section
open Go.RowKit
set_option linter.unusedVariables false

def marks (k : Int) (n : Nat) : List Int := (List.range n).map fun (i : Nat) => k + (i : Int)
theorem marks_len (k : Int) (n : Nat) : (marks k n).length = n := by simp [marks]
theorem marks_at {k : Int} {n j : Nat} (h : j < (marks k n).length) : (marks k n)[j] = k + (j : Int) := by simp [marks]

/-- of w's blocks only those from B on and below M may have turned, and none is new -/
structure Outside (B M : Nat) (w w' : World) : Prop where
  os : w'.os = w.os
  tape : w'.tape = w.tape
  output : w'.output = w.output
  size : w'.heap.size = w.heap.size
  block : ∀ k, k < B ∨ M ≤ k → w'.heap[k]? = w.heap[k]?
theorem Outside.refl (B M : Nat) (w : World) : Outside B M w w := ⟨rfl, rfl, rfl, rfl, fun _ _ => rfl⟩
theorem Outside.trans {B M : Nat} {a b c : World} (h : Outside B M a b) (k : Outside B M b c) : Outside B M a c :=
  ⟨k.os.trans h.os, k.tape.trans h.tape, k.output.trans h.output, k.size.trans h.size, fun i hi => (k.block i hi).trans (h.block i hi)⟩
theorem Outside.below {B M : Nat} {w w' : World} (h : Outside B M w w') : Below B w w' := ⟨h.os, h.tape, h.output, Nat.le_of_eq h.size.symm, fun k hk => h.block k (.inl hk)⟩
theorem Outside.mono {B M B' M' : Nat} {w w' : World} (h : Outside B M w w') (hB : B' ≤ B) (hM : M ≤ M') : Outside B' M' w w' := ⟨h.os, h.tape, h.output, h.size, fun k hk => h.block k (by omega)⟩
theorem own_outside {w w' : World} {B M C : Nat} {e : TypeId} {size n : Nat} {v : Value} {zs : List Value} (h : w.ownsRow C e size v n zs) (ho : Outside B M w w') (hC : ∀ k, v.ownBlock = some k → k < B ∨ M ≤ k) : w'.ownsRow C e size v n zs := by
  refine ⟨h.1, ?_⟩
  rcases h.2 with h2 | ⟨g, cap, cur, rfl, hg, hh, r⟩
  · exact .inl h2
  · exact .inr ⟨g, cap, cur, rfl, hg, (ho.block g (hC g rfl)).trans hh, r⟩

/-- a row of the call's own whose first k places bear marks -/
def Marking (w wr : World) (B : Nat) (v : Value) (xs : List Int) (k0 : Int) (k : Nat) : Prop :=
  (∃ ys : List Int, ys.length = xs.length ∧ OInts wr B v ys ∧ ∀ j, j < k → ys[j]? = some (k0 + (j : Int))) ∧ w.grownBy wr v.ownBlock ∧ wr.heap.size = w.heap.size

theorem Marking.start {w : World} {B : Nat} {v : Value} {xs : List Int} (k0 : Int) (h : OInts w B v xs) : Marking w w B v xs k0 0 := ⟨⟨xs, rfl, h, fun j hj => by omega⟩, ⟨rfl, rfl, rfl, Nat.le_refl _, fun _ _ _ => rfl⟩, rfl⟩
theorem Marking.cell {w wr : World} {B g c : Nat} {n : Nat} {xs : List Int} {k0 : Int} {k : Nat} (h : Marking w wr B (.slice (some ⟨g, 0, none⟩) n c) xs k0 k) (hk : k < xs.length) : ∃ u, wr.cell? ⟨g, k, none⟩ = some u ∧ wr.frozen? ⟨g, k, none⟩ = false := by
  obtain ⟨⟨ys, h1, h2, h3⟩, h4⟩ := h
  rcases h2.2 with ⟨e, _⟩ | ⟨g', cap, cur, e, hg, hh, a1, a2, a3, a4⟩
  · cases e
  · injection e with e1 e2
    injection e1 with e1
    injection e1 with e1
    subst e1
    exact ⟨cur[k]'(by omega), (blk_cell hh k).trans (Array.getElem?_eq_getElem (by omega)), blk_free hh k⟩
theorem Marking.step {w wr : World} {B g c : Nat} {n : Nat} {xs : List Int} {k0 : Int} {k : Nat} (h : Marking w wr B (.slice (some ⟨g, 0, none⟩) n c) xs k0 k) (hk : k < xs.length) :
    Marking w (wr.setCell ⟨g, k, none⟩ (.int .i64 (k0 + (k : Int)))) B (.slice (some ⟨g, 0, none⟩) n c) xs k0 (k + 1) := by
  obtain ⟨⟨ys, h1, h2, h3⟩, h4⟩ := h
  have hgl := own_lt h2 g rfl
  have hn : n = ys.length := by
    obtain ⟨A, c', e, _⟩ := own_reads h2
    injection e
  subst hn
  have hst := h2.stored k (.int .i64 (k0 + (k : Int)))
  refine ⟨⟨ys.set k (k0 + (k : Int)), by simpa using h1, ?_, fun j hj => ?_⟩, ⟨h4.1.os, h4.1.tape, h4.1.output, by simpa [World.setCell] using h4.1.size, fun i hi hne => (hst.2.block i (by rw [h4.2]; exact hi) hne).trans (h4.1.block i hi hne)⟩, by simpa [World.setCell] using h4.2⟩
  · unfold OInts
    rw [List.length_set, List.map_set]
    exact hst.1
  · by_cases hjk : k = j
    · subst hjk
      rw [List.getElem?_set_self (by omega)]
    · rw [List.getElem?_set_ne hjk]
      exact h3 j (by omega)
theorem Marking.done {w wr : World} {B : Nat} {v : Value} {xs : List Int} {k0 : Int} {k : Nat} (h : Marking w wr B v xs k0 k) (hk : k = xs.length) : OInts wr B v (marks k0 xs.length) ∧ w.grownBy wr v.ownBlock ∧ wr.heap.size = w.heap.size := by
  obtain ⟨⟨ys, h1, h2, h3⟩, h4⟩ := h
  have e : ys = marks k0 xs.length := by
    apply List.ext_getElem?
    intro j
    by_cases hj : j < xs.length
    · rw [h3 j (by omega), List.getElem?_eq_getElem (by rw [marks_len]; exact hj), marks_at]
    · rw [List.getElem?_eq_none (by omega), List.getElem?_eq_none (by rw [marks_len]; omega)]
  rw [← e]; exact ⟨h2, h4⟩

theorem markIntS_any (v : Value) (B : Nat) (xs : List Int) (k0 : Int) (w : World) (h : OInts w B v xs) (hs : xs.length ≤ 1048576) (h0 : 0 ≤ k0) (h1 : k0 ≤ 1000000000000000) :
    Calls Try.prog 55 #[v, .int .i64 k0] w fun e w' => e = .returned (.int .i64 (k0 + (xs.length : Int))) ∧ OInts w' B v (marks k0 xs.length) ∧ w.grownBy w' v.ownBlock ∧ w'.heap.size = w.heap.size := by
  have H := Lib.hid (Marking.start k0 h)
  obtain ⟨A, c, rfl, hc, -⟩ := h.reads.form
  have hA : xs.length ≠ 0 → ∃ g, A = some ⟨g, 0, none⟩ := fun hne => by
    rcases h.2 with ⟨e, e2⟩ | ⟨g, cap, cur, e, -⟩
    · exact absurd e2 hne
    · injection e with e; exact ⟨g, e⟩
  have HA := Lib.hid hA
  clear h hA
  go_enter Try.func55, Try.ntmps55
  go_wp2
  go_loopw [1, 5] (fun l i wr => ∃ k : Nat, k ≤ xs.length ∧ i = .int .i64 k ∧ l = .int .i64 (k0 + (k : Int)) ∧ Marking w wr B (.slice A xs.length c) xs k0 k) (fun _ i _ => xs.length - (intOf i).toNat)
  case atStart => exact ⟨0, Nat.zero_le _, rfl, by simp, H.out⟩
  case round =>
    obtain ⟨k, hk, rfl, rfl, hm⟩ := hrel
    have HM := Lib.hid hm
    clear hm
    by_cases hlt : k < xs.length
    · obtain ⟨g, rfl⟩ := HA.out (by omega)
      obtain ⟨u, g1, g2⟩ := HM.out.cell hlt
      go_wp2
      go_roundw
      case rel => exact ⟨k + 1, by omega, by go_num, by go_num, HM.out.step hlt⟩
      case measure => simp [intOf]; omega
    · go_wp2
      go_ret
      obtain ⟨r1, r2⟩ := HM.out.done (by omega)
      have hkn : k = xs.length := by omega
      subst hkn
      exact ⟨rfl, r1, r2⟩

theorem heldIntS_any (v : Value) (n : Nat) (k0 : Int) (w : World) (h : RInts w v (marks k0 n)) (hs : n ≤ 1048576) (h0 : 0 ≤ k0) (h1 : k0 ≤ 1000000000000000) :
    Calls Try.prog 100 #[v, .int .i64 k0] w fun e w' => e = .returned (.int .i64 (k0 + (n : Int))) ∧ Drawn w w' := by
  have H := Lib.hid h
  obtain ⟨A, c, e, -⟩ := h.form
  rw [marks_len] at e
  subst e
  clear h
  go_enter Try.func100, Try.ntmps100
  go_wp2
  go_loopw [1, 5] (fun l i wr => ∃ k : Nat, k ≤ n ∧ i = .int .i64 k ∧ l = .int .i64 (k0 + (k : Int)) ∧ Drawn w wr) (fun _ i _ => n - (intOf i).toNat)
  case atStart => exact ⟨0, Nat.zero_le _, rfl, by simp, Drawn.refl _⟩
  case round =>
    obtain ⟨k, hk, rfl, rfl, hd⟩ := hrel
    have HD := Lib.hid hd
    clear hd
    by_cases hlt : k < n
    · obtain ⟨b, o, c', e, hx⟩ := (H.out.keep HD.out.below).at_ (k := k) (by rw [marks_len]; exact hlt)
      rw [marks_len] at e
      cases e
      rw [marks_at] at hx
      have e1 : (k0 + (k : Int) != k0 + (k : Int)) = false := by simp
      go_wp2
      go_roundw
      case rel => exact ⟨k + 1, by omega, by go_num, by go_num, HD.out⟩
      case measure => simp [intOf]; omega
    · go_wp2
      go_ret
      have hkn : k = n := by omega
      subst hkn
      exact ⟨rfl, HD.out⟩

/-- a list of rows of the call's own, whose rows bear whatever numbers; us: where they lie -/
structure MarkR (w wr : World) (B M : Nat) (v : Value) (us : List Value) (rows : List (List Int)) : Prop where
  own : wr.ownsRow B 26 1 v rows.length us
  len : us.length = rows.length
  row : ∀ (j : Nat) (u : Value) (row : List Int), us[j]? = some u → rows[j]? = some row → ∃ ys : List Int, ys.length = row.length ∧ OInts wr B u ys
  apart : ∀ (i j : Nat) (u u' : Value), i < j → us[i]? = some u → us[j]? = some u' → u.ownBlock = none ∨ u.ownBlock ≠ u'.ownBlock
  low : ∀ (j : Nat) (u : Value), us[j]? = some u → ∀ k, u.ownBlock = some k → B ≤ k ∧ k < M
  frame : Outside B M w wr
theorem MarkR.start {w0 w : World} {B : Nat} {v : Value} {rows : List (List Int)} (h : ORows w0 B v rows) (hb : Below w0.heap.size w0 w) : ∃ us, MarkR w w B w0.heap.size v us rows := by
  obtain ⟨us, h1, h2, h3, h4⟩ := h
  refine ⟨us, own_keep h1 hb, h2, fun j u row hu hr => ⟨row, rfl, (h3 j u row hu hr).keep hb⟩, h4, fun j u hu k hk => ?_, Outside.refl _ _ _⟩
  have hj : j < rows.length := by rw [← h2]; exact (List.getElem?_eq_some_iff.1 hu).1
  exact own_lt (h3 j u _ hu (List.getElem?_eq_getElem hj)) k hk
theorem MarkR.step {w wr w1 : World} {B M : Nat} {v u : Value} {us : List Value} {rows : List (List Int)} {j : Nat} {ys : List Int} (h : MarkR w wr B M v us rows) (hu : us[j]? = some u) (hy : OInts w1 B u ys) (hyl : ∀ row, rows[j]? = some row → ys.length = row.length)
    (hxs : ∃ xs, OInts wr B u xs) (hg : wr.grownBy w1 u.ownBlock) (hz : w1.heap.size = wr.heap.size) : MarkR w w1 B M v us rows := by
  obtain ⟨xs, hxs⟩ := hxs
  refine ⟨own_grown h.own hg (own_ne h.own hxs (by decide)), h.len, fun i x row hx hr => ?_, h.apart, h.low, h.frame.trans ⟨hg.os, hg.tape, hg.output, hz, fun k hk => ?_⟩⟩
  · by_cases hij : i = j
    · subst hij
      rw [hu] at hx
      cases hx
      exact ⟨ys, hyl row hr, hy⟩
    · obtain ⟨zs, z1, z2⟩ := h.row i x row hx hr
      refine ⟨zs, z1, own_grown z2 hg ?_⟩
      rcases Nat.lt_or_gt_of_ne hij with hlt | hgt
      · exact h.apart i j x u hlt hx hu
      · rcases h.apart j i u x hgt hu hx with e | e
        · rw [e]
          cases x.ownBlock with
          | none => exact .inl rfl
          | some k => right; simp
        · exact .inr (fun e' => e e'.symm)
  · by_cases hkl : k < wr.heap.size
    · exact hg.block k hkl (fun e => by have := h.low j u hu k e.symm; omega)
    · rw [Array.getElem?_eq_none (by omega), Array.getElem?_eq_none (by omega)]

theorem markIntSS_any (v : Value) (B : Nat) (rows : List (List Int)) (k0 : Int) (w0 w : World) (h : ORows w0 B v rows) (hb : Below w0.heap.size w0 w) (hs : rows.length ≤ 1048576) (hs2 : ∀ row ∈ rows, row.length ≤ 1048576) (h0 : 0 ≤ k0) (h1 : k0 ≤ 100) :
    Calls Try.prog 35 #[v, .int .i64 k0] w fun e w' => ∃ k : Int, e = .returned (.int .i64 k) ∧ 0 ≤ k ∧ k ≤ 10000000000000 ∧ Outside B w0.heap.size w w' := by
  obtain ⟨us, hm0⟩ := MarkR.start h hb
  have HM0 := Lib.hid hm0
  have HS2 := Lib.hid hs2
  obtain ⟨A, c, rfl, -⟩ := own_reads hm0.own
  clear h hb hm0 hs2
  go_enter Try.func35, Try.ntmps35
  go_wp2
  go_loopw [1, 5] (fun l i wr => ∃ k : Nat, ∃ x : Int, k ≤ rows.length ∧ i = .int .i64 k ∧ l = .int .i64 x ∧ 0 ≤ x ∧ x ≤ 100 + 1048576 * (k : Int) ∧ MarkR w wr B w0.heap.size (.slice A rows.length c) us rows) (fun _ i _ => rows.length - (intOf i).toNat)
  case atStart => exact ⟨0, k0, Nat.zero_le _, rfl, rfl, h0, by omega, HM0.out⟩
  case round =>
    obtain ⟨k, x, hk, rfl, rfl, hx0, hx1, hm⟩ := hrel
    have HM := Lib.hid hm
    clear hm
    by_cases hlt : k < rows.length
    · have hul : k < us.length := by rw [HM.out.len]; exact hlt
      obtain ⟨ys, hyl, hyo⟩ := HM.out.row k us[k] rows[k] (List.getElem?_eq_getElem hul) (List.getElem?_eq_getElem hlt)
      have hrl := HS2.out _ (List.getElem_mem hlt)
      obtain ⟨A0, c0, e0, -, -, hcells⟩ := own_reads HM.out.own
      cases e0
      obtain ⟨b, o, ea, hcell⟩ := hcells k us[k] (List.getElem?_eq_getElem hul)
      subst ea
      have HU := Lib.hid (List.getElem?_eq_getElem hul)
      have HYL := Lib.hid (And.intro hyl hrl)
      have HR := Lib.hid (List.getElem?_eq_getElem hlt)
      generalize us[k] = u at hyo hcell HU
      have HYO := Lib.hid hyo
      obtain ⟨Au, cu, rfl, -⟩ := own_reads hyo
      clear hyo hyl hrl hcells hul
      go_wp2_with fail
      refine (markIntS_any _ B ys _ _ HYO.out (by have := HYL.out; omega) hx0 (by omega)).mono ?_
      rintro e w1 ⟨rfl, ho, hg, hz⟩
      have HN := Lib.hid (HM.out.step HU.out ho (fun row hr => by rw [marks_len]; have h := HR.out; rw [h] at hr; cases hr; exact HYL.out.1) ⟨ys, HYO.out⟩ hg hz)
      have hyl : (ys.length : Int) ≤ 1048576 := by have := HYL.out; omega
      clear ho hg hz
      go_wp2
      go_roundw
      case rel => exact ⟨k + 1, _, by omega, by go_num, rfl, by omega, by omega, HN.out⟩
      case measure => simp [intOf]; omega
    · go_wp2
      go_ret
      exact ⟨x, rfl, hx0, by omega, HM.out.frame⟩

theorem markSig_any (v : Value) (B : Nat) (s : MSig) (k0 : Int) (w0 w : World) (h : OSig w0 B v s) (hb : Below w0.heap.size w0 w) (hs : s.ops.length ≤ 1048576) (hs2 : ∀ row ∈ s.ops, row.length ≤ 1048576) (h0 : 0 ≤ k0) (h1 : k0 ≤ 100) :
    Calls Try.prog 33 #[v, .int .i64 k0] w fun e w' => ∃ k : Int, e = .returned (.int .i64 k) ∧ 0 ≤ k ∧ k ≤ 10000000000000 ∧ ∃ o, Outside B w0.heap.size (w.alloc o) w' := by
  obtain ⟨u, rfl, ho⟩ := h
  obtain ⟨sorts, ops⟩ := s
  have HO := Lib.hid ho
  have HB := Lib.hid (hb.trans ((below_alloc w (.cells #[.int .i64 sorts, u] 25)).mono hb.size))
  have HS := Lib.hid (And.intro hs hs2)
  obtain ⟨A, c, rfl, -⟩ := ho.reads.form
  clear ho hb hs hs2
  go_enter Try.func33, Try.ntmps33
  go_wp2_with fail
  refine (markIntSS_any _ B ops _ w0 _ HO.out HB.out HS.out.1 HS.out.2 h0 h1).mono ?_
  rintro e w1 ⟨k, rfl, hk0, hk1, hout⟩
  have HOUT := Lib.hid hout
  clear hout
  go_wp2
  go_ret
  exact ⟨k, rfl, hk0, hk1, _, HOUT.out⟩
end

section
open Go.RowKit
set_option linter.unusedVariables false

def tot (rows : List (List Int)) : Nat := (rows.map List.length).sum
theorem tot_take {rows : List (List Int)} {k : Nat} (hk : k < rows.length) : tot (rows.take (k + 1)) = tot (rows.take k) + rows[k].length := by
  unfold tot; rw [List.take_succ_eq_append_getElem hk, List.map_append, List.sum_append]; simp
def marksR (k : Int) : List (List Int) → List (List Int)
  | [] => []
  | r :: rs => marks k r.length :: marksR (k + (r.length : Int)) rs
theorem marksR_at (rows : List (List Int)) : ∀ (k : Int) (j : Nat), (marksR k rows)[j]? = (rows[j]?).map fun r => marks (k + (tot (rows.take j) : Int)) r.length := by
  induction rows with
  | nil => intro k j; simp [marksR]
  | cons r rs ih =>
    intro k j
    cases j with
    | zero => simp [marksR, tot]
    | succ j =>
      simp only [marksR, List.getElem?_cons_succ, ih, List.take_succ_cons]
      congr 1
      funext x
      congr 1
      simp [tot]
      omega
theorem marksR_len (rows : List (List Int)) : ∀ k, (marksR k rows).length = rows.length := by
  induction rows with
  | nil => intro k; rfl
  | cons r rs ih => intro k; simp [marksR, ih]
theorem tot_le {rows : List (List Int)} (h : ∀ row ∈ rows, row.length ≤ 1048576) : tot rows ≤ 1048576 * rows.length := by
  unfold tot
  induction rows with
  | nil => simp
  | cons r rs ih =>
    have h1 := h r (List.mem_cons_self ..)
    have h2 := ih (fun row hr => h row (List.mem_cons_of_mem _ hr))
    simp only [List.map_cons, List.sum_cons, List.length_cons]
    omega

structure MarkP (w wr : World) (B M : Nat) (v : Value) (us : List Value) (rows : List (List Int)) (k0 : Int) (k : Nat) : Prop where
  own : wr.ownsRow B 26 1 v rows.length us
  len : us.length = rows.length
  done : ∀ (j : Nat) (u : Value) (row : List Int), j < k → us[j]? = some u → rows[j]? = some row → OInts wr B u (marks (k0 + (tot (rows.take j) : Int)) row.length)
  todo : ∀ (j : Nat) (u : Value) (row : List Int), k ≤ j → us[j]? = some u → rows[j]? = some row → OInts wr B u row
  apart : ∀ (i j : Nat) (u u' : Value), i < j → us[i]? = some u → us[j]? = some u' → u.ownBlock = none ∨ u.ownBlock ≠ u'.ownBlock
  low : ∀ (j : Nat) (u : Value), us[j]? = some u → ∀ k, u.ownBlock = some k → B ≤ k ∧ k < M
  frame : Outside B M w wr
theorem MarkP.start {w0 w : World} {B : Nat} {v : Value} {rows : List (List Int)} (k0 : Int) (h : ORows w0 B v rows) (hb : Below w0.heap.size w0 w) : ∃ us, MarkP w w B w0.heap.size v us rows k0 0 := by
  obtain ⟨us, h1, h2, h3, h4⟩ := h
  refine ⟨us, own_keep h1 hb, h2, fun j u row hj => by omega, fun j u row _ hu hr => (h3 j u row hu hr).keep hb, h4, fun j u hu k hk => ?_, Outside.refl _ _ _⟩
  have hj : j < rows.length := by rw [← h2]; exact (List.getElem?_eq_some_iff.1 hu).1
  exact own_lt (h3 j u _ hu (List.getElem?_eq_getElem hj)) k hk
theorem MarkP.step {w wr w1 : World} {B M : Nat} {v u : Value} {us : List Value} {rows : List (List Int)} {k0 : Int} {j : Nat} {row0 : List Int} (h : MarkP w wr B M v us rows k0 j) (hu : us[j]? = some u) (hr : rows[j]? = some row0)
    (hy : OInts w1 B u (marks (k0 + (tot (rows.take j) : Int)) row0.length)) (hg : wr.grownBy w1 u.ownBlock) (hz : w1.heap.size = wr.heap.size) : MarkP w w1 B M v us rows k0 (j + 1) := by
  have hxs := h.todo j u row0 (Nat.le_refl _) hu hr
  have other : ∀ {i : Nat} {x : Value} {zs : List Int}, i ≠ j → us[i]? = some x → OInts wr B x zs → OInts w1 B x zs := fun {i x zs} hij hx hz => by
    refine own_grown hz hg ?_
    rcases Nat.lt_or_gt_of_ne hij with hlt | hgt
    · exact h.apart i j x u hlt hx hu
    · rcases h.apart j i u x hgt hu hx with e | e
      · rw [e]
        cases x.ownBlock with
        | none => exact .inl rfl
        | some k => right; simp
      · exact .inr (fun e' => e e'.symm)
  refine ⟨own_grown h.own hg (own_ne h.own hxs (by decide)), h.len, fun i x row hi hx hrow => ?_, fun i x row hi hx hrow => ?_, h.apart, h.low, h.frame.trans ⟨hg.os, hg.tape, hg.output, hz, fun k hk => ?_⟩⟩
  · by_cases hij : i = j
    · subst hij
      rw [hu] at hx
      rw [hr] at hrow
      cases hx
      cases hrow
      exact hy
    · exact other hij hx (h.done i x row (by omega) hx hrow)
  · exact other (by omega) hx (h.todo i x row (by omega) hx hrow)
  · by_cases hkl : k < wr.heap.size
    · exact hg.block k hkl (fun e => by have := h.low j u hu k e.symm; omega)
    · rw [Array.getElem?_eq_none (by omega), Array.getElem?_eq_none (by omega)]
theorem MarkP.all {w wr : World} {B M : Nat} {v : Value} {us : List Value} {rows : List (List Int)} {k0 : Int} {k : Nat} (h : MarkP w wr B M v us rows k0 k) (hk : k = rows.length) : ORows wr B v (marksR k0 rows) ∧ Outside B M w wr := by
  refine ⟨⟨us, by rw [marksR_len]; exact h.own, by rw [marksR_len]; exact h.len, fun j u r hu hr => ?_, h.apart⟩, h.frame⟩
  rw [marksR_at] at hr
  obtain ⟨row, hrow, rfl⟩ := Option.map_eq_some_iff.1 hr
  exact h.done j u row (by rw [hk]; exact (List.getElem?_eq_some_iff.1 hrow).1) hu hrow

theorem markIntSSp_any (v : Value) (B : Nat) (rows : List (List Int)) (k0 : Int) (w0 w : World) (h : ORows w0 B v rows) (hb : Below w0.heap.size w0 w) (hs : rows.length ≤ 1048576) (hs2 : ∀ row ∈ rows, row.length ≤ 1048576) (h0 : 0 ≤ k0) (h1 : k0 ≤ 100000000000000) :
    Calls Try.prog 35 #[v, .int .i64 k0] w fun e w' => e = .returned (.int .i64 (k0 + (tot rows : Int))) ∧ ORows w' B v (marksR k0 rows) ∧ Outside B w0.heap.size w w' := by
  obtain ⟨us, hm0⟩ := MarkP.start k0 h hb
  have HM0 := Lib.hid hm0
  have HS2 := Lib.hid hs2
  obtain ⟨A, c, rfl, -⟩ := own_reads hm0.own
  clear h hb hm0 hs2
  go_enter Try.func35, Try.ntmps35
  go_wp2
  go_loopw [1, 5] (fun l i wr => ∃ k : Nat, k ≤ rows.length ∧ i = .int .i64 k ∧ l = .int .i64 (k0 + (tot (rows.take k) : Int)) ∧ MarkP w wr B w0.heap.size (.slice A rows.length c) us rows k0 k) (fun _ i _ => rows.length - (intOf i).toNat)
  case atStart => exact ⟨0, Nat.zero_le _, rfl, by simp [tot], HM0.out⟩
  case round =>
    obtain ⟨k, hk, rfl, rfl, hm⟩ := hrel
    have HM := Lib.hid hm
    clear hm
    have htt : (tot (rows.take k) : Int) ≤ 1048576 * 1048576 := by
      have := tot_le (rows := rows.take k) (fun row hr => HS2.out row (List.mem_of_mem_take hr))
      rw [List.length_take] at this
      omega
    by_cases hlt : k < rows.length
    · have hul : k < us.length := by rw [HM.out.len]; exact hlt
      have HYO := Lib.hid (HM.out.todo k us[k] rows[k] (Nat.le_refl _) (List.getElem?_eq_getElem hul) (List.getElem?_eq_getElem hlt))
      have hrl := HS2.out _ (List.getElem_mem hlt)
      obtain ⟨A0, c0, e0, -, -, hcells⟩ := own_reads HM.out.own
      cases e0
      obtain ⟨b, o, ea, hcell⟩ := hcells k us[k] (List.getElem?_eq_getElem hul)
      subst ea
      have HU := Lib.hid (List.getElem?_eq_getElem hul)
      have HR := Lib.hid (List.getElem?_eq_getElem hlt)
      have HTT := Lib.hid (tot_take hlt)
      generalize us[k] = u at HYO hcell HU
      generalize rows[k] = row at HYO HR hrl HTT
      obtain ⟨Au, cu, rfl, -⟩ := own_reads HYO.out
      clear hcells hul
      generalize hto : tot (rows.take k) = T at HTT htt
      have HTO := Lib.hid hto
      clear hto
      go_wp2_with fail
      refine (markIntS_any _ B row _ _ HYO.out hrl (by omega) (by omega)).mono ?_
      rintro e w1 ⟨rfl, ho, hg, hz⟩
      have HN := Lib.hid (HM.out.step HU.out HR.out (by rw [HTO.out]; exact ho) hg hz)
      have hyl : (row.length : Int) ≤ 1048576 := by omega
      clear ho hg hz
      go_wp2
      go_roundw
      case rel => exact ⟨k + 1, by omega, by go_num, by rw [HTT.out]; go_num, HN.out⟩
      case measure => simp [intOf]; omega
    · have hkn : k = rows.length := by omega
      have HKN := Lib.hid hkn
      clear hkn
      go_wp2
      go_ret
      obtain ⟨r1, r2⟩ := HM.out.all HKN.out
      refine ⟨?_, r1, r2⟩
      have e := HKN.out
      have e2 : tot (rows.take k) = tot rows := by rw [take_all (by omega)]
      exact ret_int (by rw [e2])

theorem heldIntSS_any (v : Value) (rows : List (List Int)) (k0 : Int) (w : World) (h : RRows w v (marksR k0 rows)) (hs : rows.length ≤ 1048576) (hs2 : ∀ row ∈ rows, row.length ≤ 1048576) (h0 : 0 ≤ k0) (h1 : k0 ≤ 100000000000000) :
    Calls Try.prog 36 #[v, .int .i64 k0] w fun e w' => e = .returned (.int .i64 (k0 + (tot rows : Int))) ∧ Drawn w w' := by
  have H := Lib.hid h
  have HS2 := Lib.hid hs2
  obtain ⟨A, c, e, -⟩ := h.form
  rw [marksR_len] at e
  subst e
  clear h hs2
  go_enter Try.func36, Try.ntmps36
  go_wp2
  go_loopw [1, 5] (fun l i wr => ∃ k : Nat, k ≤ rows.length ∧ i = .int .i64 k ∧ l = .int .i64 (k0 + (tot (rows.take k) : Int)) ∧ Drawn w wr) (fun _ i _ => rows.length - (intOf i).toNat)
  case atStart => exact ⟨0, Nat.zero_le _, rfl, by simp [tot], Drawn.refl _⟩
  case round =>
    obtain ⟨k, hk, rfl, rfl, hd⟩ := hrel
    have HD := Lib.hid hd
    clear hd
    have htt : (tot (rows.take k) : Int) ≤ 1048576 * 1048576 := by
      have := tot_le (rows := rows.take k) (fun row hr => HS2.out row (List.mem_of_mem_take hr))
      rw [List.length_take] at this
      omega
    by_cases hlt : k < rows.length
    · obtain ⟨b, o, c', u, e, hx, hri⟩ := (H.out.keep HD.out.below).at_ (k := k) (by rw [marksR_len]; exact hlt)
      rw [marksR_len] at e
      cases e
      have hrow : (marksR k0 rows)[k]'(by rw [marksR_len]; exact hlt) = marks (k0 + (tot (rows.take k) : Int)) rows[k].length := by
        have := marksR_at rows k0 k
        rw [List.getElem?_eq_getElem (by rw [marksR_len]; exact hlt), List.getElem?_eq_getElem hlt] at this
        simpa using this
      rw [hrow] at hri
      have hrl := HS2.out _ (List.getElem_mem hlt)
      have HTT := Lib.hid (tot_take hlt)
      clear hrow
      generalize rows[k] = row at hri hrl HTT
      obtain ⟨A1, c1, e1, -⟩ := hri.form
      rw [marks_len] at e1
      subst e1
      have HI := Lib.hid hri
      clear hri
      generalize hto : tot (rows.take k) = T at HTT htt HI
      clear hto
      go_wp2_with fail
      refine (heldIntS_any _ row.length _ _ HI.out hrl (by omega) (by omega)).mono ?_
      rintro e w1 ⟨rfl, hd1⟩
      have HD1 := Lib.hid (HD.out.trans hd1)
      have hyl : (row.length : Int) ≤ 1048576 := by omega
      clear hd1
      go_wp2
      go_roundw
      case rel => exact ⟨k + 1, by omega, by go_num, by rw [HTT.out]; go_num, HD1.out⟩
      case measure => simp [intOf]; omega
    · have hkn : k = rows.length := by omega
      have HKN := Lib.hid hkn
      clear hkn
      go_wp2
      go_ret
      have e2 : tot (rows.take k) = tot rows := by have e := HKN.out; rw [take_all (by omega)]
      exact ⟨ret_int (by rw [e2]), HD.out⟩

theorem markSigp_any (v : Value) (B : Nat) (s : MSig) (k0 : Int) (w0 w : World) (h : OSig w0 B v s) (hb : Below w0.heap.size w0 w) (hs : s.ops.length ≤ 1048576) (hs2 : ∀ row ∈ s.ops, row.length ≤ 1048576) (h0 : 0 ≤ k0) (h1 : k0 ≤ 100000000000000) :
    Calls Try.prog 33 #[v, .int .i64 k0] w fun e w' => e = .returned (.int .i64 (k0 + (tot s.ops : Int))) ∧ OSig w' B v ⟨s.sorts, marksR k0 s.ops⟩ ∧ ∃ o, Outside B w0.heap.size (w.alloc o) w' := by
  obtain ⟨u, rfl, ho⟩ := h
  obtain ⟨sorts, ops⟩ := s
  have HO := Lib.hid ho
  have HB := Lib.hid (hb.trans ((below_alloc w (.cells #[.int .i64 sorts, u] 25)).mono hb.size))
  have HS := Lib.hid (And.intro hs hs2)
  obtain ⟨A, c, rfl, -⟩ := ho.reads.form
  clear ho hb hs hs2
  go_enter Try.func33, Try.ntmps33
  go_wp2_with fail
  refine (markIntSSp_any _ B ops _ w0 _ HO.out HB.out HS.out.1 HS.out.2 h0 h1).mono ?_
  rintro e w1 ⟨rfl, hm, hout⟩
  have HOUT := Lib.hid hout
  have HM := Lib.hid hm
  clear hout hm
  go_wp2
  go_ret
  exact ⟨rfl, ⟨_, rfl, HM.out⟩, _, HOUT.out⟩
end

section
open Go.RowKit
set_option linter.unusedVariables false

def cutTo (w : World) (M : Nat) : World := { w with heap := w.heap.extract 0 M }
theorem cut_size {w : World} {M : Nat} (h : M ≤ w.heap.size) : (cutTo w M).heap.size = M := by
  show (w.heap.extract 0 M).size = M
  rw [Array.size_extract]; omega
theorem cut_block {w : World} {M k : Nat} (hk : k < M) : (cutTo w M).heap[k]? = w.heap[k]? := by
  show (w.heap.extract 0 M)[k]? = w.heap[k]?
  rw [Array.getElem?_extract]
  by_cases h : k < w.heap.size
  · rw [if_pos (by omega)]; congr 1; omega
  · rw [if_neg (by omega), Array.getElem?_eq_none (by omega)]
theorem cut_below {w : World} {M : Nat} (h : M ≤ w.heap.size) : Below (cutTo w M).heap.size (cutTo w M) w := by
  rw [cut_size h]
  exact ⟨rfl, rfl, rfl, by rw [cut_size h]; exact h, fun k hk => (cut_block hk).symm⟩

section
variable {w w' : World} {B B' M : Nat} {v u : Value} {xs : List Int} {rows : List (List Int)} {s : MSig}
theorem own_same {e : TypeId} {size n : Nat} {zs : List Value} (h : w.ownsRow B e size v n zs) (hk : ∀ k, B ≤ k → k < w.heap.size → w'.heap[k]? = w.heap[k]?) : w'.ownsRow B e size v n zs := by
  refine ⟨h.1, ?_⟩
  rcases h.2 with h2 | ⟨g, cap, cur, rfl, hg, hh, r⟩
  · exact .inl h2
  · exact .inr ⟨g, cap, cur, rfl, hg, (hk g hg (Array.getElem?_eq_some_iff.1 hh).1).trans hh, r⟩
theorem OInts.same (h : OInts w B v xs) (hk : ∀ k, B ≤ k → k < w.heap.size → w'.heap[k]? = w.heap[k]?) : OInts w' B v xs := own_same h hk
theorem ORows.same (h : ORows w B v rows) (hk : ∀ k, B ≤ k → k < w.heap.size → w'.heap[k]? = w.heap[k]?) : ORows w' B v rows := by
  obtain ⟨us, h1, h2, h3, h4⟩ := h
  exact ⟨us, own_same h1 hk, h2, fun j u row a b => (h3 j u row a b).same hk, h4⟩
theorem OSig.same (h : OSig w B v s) (hk : ∀ k, B ≤ k → k < w.heap.size → w'.heap[k]? = w.heap[k]?) : OSig w' B v s := by
  obtain ⟨u, e, h⟩ := h; exact ⟨u, e, h.same hk⟩
end
/-- of w's blocks those from A on and below its size lie in w' as they were -/
def Keeps (A : Nat) (w w' : World) : Prop := ∀ k, A ≤ k → k < w.heap.size → w'.heap[k]? = w.heap[k]?
theorem Keeps.refl (A : Nat) (w : World) : Keeps A w w := fun _ _ _ => rfl
theorem Keeps.below {A : Nat} {w w1 w2 : World} (h : Keeps A w w1) (hs : w.heap.size ≤ w1.heap.size) (hb : Below w1.heap.size w1 w2) : Keeps A w w2 := fun k h1 h2 => (hb.block k (by omega)).trans (h k h1 h2)
theorem Keeps.outside {A B M : Nat} {w w1 w2 : World} (h : Keeps A w w1) (ho : Outside B M w1 w2) (hM : M ≤ A) : Keeps A w w2 := fun k h1 h2 => (ho.block k (.inr (by omega))).trans (h k h1 h2)
theorem Keeps.cell {A : Nat} {w w' : World} (h : Keeps A w w') {b o : Nat} {u : Value} (hA : A ≤ b) (hc : w.cell? ⟨b, o, none⟩ = some u) : w'.cell? ⟨b, o, none⟩ = some u :=
  (World.cell?_of_block (h b hA (World.block_lt_of_cell? w _ hc))).trans hc
end

section
open Go.RowKit
set_option linter.unusedVariables false

theorem varsB_parts (s : MSig) (vars : List Int) : varsB s vars = (validB s && decide (vars.length ≤ 4) && belowB vars s.sorts) := rfl

set_option maxRecDepth 100000 in
theorem varsOk_any (v vv : Value) (s : MSig) (vars : List Int) (w : World) (h : RSig w v s) (hv : RInts w vv vars) :
    Calls Try.prog 128 #[v, vv] w fun e w' => e = .returned (.bool (varsB s vars)) ∧ Below w.heap.size w w' := by
  obtain ⟨u, rfl, hr⟩ := h
  obtain ⟨sorts, ops⟩ := s
  have hn := hr.len
  obtain ⟨A, c, rfl, -⟩ := hr.form
  have HB := Lib.hid (below_alloc w (.cells #[.int .i64 sorts, .slice A ops.length c] 25))
  have H := Lib.hid (hr.keep HB.out)
  have HVV := Lib.hid (hv.keep HB.out)
  have hbx := Lib.hid (box_cells w (.int .i64 sorts) (.slice A ops.length c) 25)
  have hvn := hv.len
  obtain ⟨A1, c1, rfl, -⟩ := hv.form
  have HP := Lib.hid (varsB_parts ⟨sorts, ops⟩ vars)
  clear hr hv
  cases hvb : validB ⟨sorts, ops⟩ with
  | false =>
    have Hv := Lib.hid hvb
    clear hvb
    go_enter Try.func128, Try.ntmps128
    go_wp2_with (go_at_call 70; refine (sigValid_any _ ⟨sorts, ops⟩ _ ⟨_, rfl, H.out⟩).mono ?_; rw [Hv.out]; rintro e w1 ⟨rfl, hb⟩)
    go_ret
    exact ⟨ret_bool (by rw [HP.out, Hv.out]; rfl), HB.out.trans (hb.mono (by simp))⟩
  | true =>
    have Hv := Lib.hid hvb
    clear hvb
    by_cases h4 : (vars.length : Int) ≤ 4
    · go_enter Try.func128, Try.ntmps128
      go_wp2_with (first
        | (go_at_call 70; refine (sigValid_any _ ⟨sorts, ops⟩ _ ⟨_, rfl, H.out⟩).mono ?_; rw [Hv.out]; rintro e w1 ⟨rfl, hb⟩; have f0 := cell_keep hb hbx.out.1; have HV1 := Lib.hid (HVV.out.keep hb))
        | (go_at_call 130; refine (sortsBelow_any _ _ _ _ HV1.out).mono ?_; rintro e w2 ⟨rfl, rfl⟩))
      go_ret
      exact ⟨ret_bool (by rw [HP.out, Hv.out]; simp; omega), HB.out.trans (hb.mono (by simp))⟩
    · go_enter Try.func128, Try.ntmps128
      go_wp2_with (first
        | (go_at_call 70; refine (sigValid_any _ ⟨sorts, ops⟩ _ ⟨_, rfl, H.out⟩).mono ?_; rw [Hv.out]; rintro e w1 ⟨rfl, hb⟩; have f0 := cell_keep hb hbx.out.1; have HV1 := Lib.hid (HVV.out.keep hb)))
      go_ret
      exact ⟨ret_bool (by rw [HP.out, Hv.out]; simp; omega), HB.out.trans (hb.mono (by simp))⟩

theorem vars_in {sorts q : Int} {ops : List (List Int)} {vars : List Int} (hq : 1 ≤ sorts → sorts ≤ 3 → q = sorts - 1) : varsB ⟨sorts, ops⟩ vars = ((vars.all fun x => inB x 0 q) && (validB ⟨sorts, ops⟩ && decide (vars.length ≤ 4))) := by
  rw [varsB_parts]
  cases hv : validB ⟨sorts, ops⟩ with
  | false => simp
  | true =>
    have hs := valid_sorts hv
    simp only at hs
    rw [show belowB vars sorts = vars.all fun x => inB x 0 q from by unfold belowB; congr 1; funext x; exact (inB_row x sorts q hq hs.1 hs.2.1).symm]
    simp [Bool.and_comm]

set_option maxRecDepth 100000 in
theorem specVarsOk_any (v vv : Value) (s : MSig) (vars : List Int) (w : World) (h : RSig w v s) (hv : RInts w vv vars) :
    Calls Try.prog 71 #[v, vv] w fun e w' => e = .returned (.bool (varsB s vars)) ∧ Below w.heap.size w w' := by
  obtain ⟨u, rfl, hr⟩ := h
  obtain ⟨sorts, ops⟩ := s
  have hn := hr.len
  obtain ⟨A, c, rfl, -⟩ := hr.form
  have HB := Lib.hid (below_alloc w (.cells #[.int .i64 sorts, .slice A ops.length c] 25))
  have H := Lib.hid (hr.keep HB.out)
  have HVV := Lib.hid (hv.keep HB.out)
  have hbx := Lib.hid (box_cells w (.int .i64 sorts) (.slice A ops.length c) 25)
  have hvn := hv.len
  obtain ⟨A1, c1, rfl, -⟩ := hv.form
  have HP : Hid (varsB ⟨sorts, ops⟩ vars = ((vars.all fun x => inB x 0 (IntKind.i64.wrap (sorts - 1))) && (validB ⟨sorts, ops⟩ && decide (vars.length ≤ 4)))) := vars_in (fun h1 h3 => by rw [IntKind.wrap_i64]; omega)
  clear hr hv
  go_enter Try.func71, Try.ntmps71
  go_wp2
  go_loopw [5] (fun i wr => ∃ k : Nat, k ≤ vars.length ∧ i = .int .i64 k ∧ (vars.take k).all (fun x => inB x 0 (IntKind.i64.wrap (sorts - 1))) = true ∧ Drawn (w.alloc (.cells #[.int .i64 sorts, .slice A ops.length c] 25)) wr) (fun i _ => vars.length - (intOf i).toNat)
  case atStart => exact ⟨0, Nat.zero_le _, rfl, rfl, Drawn.refl _⟩
  case round =>
    obtain ⟨k, hk, rfl, hb0, hd⟩ := hrel
    have hb := Lib.hid hb0
    have HD := Lib.hid hd
    clear hb0 hd
    have f0 := (HD.out.cell _).trans hbx.out.1
    have f1 := (HD.out.cell _).trans hbx.out.2
    by_cases hlt : k < vars.length
    · obtain ⟨b, o, c', e, hx⟩ := (HVV.out.keep HD.out.below).at_ hlt
      cases e
      have HA := Lib.hid (all_take (p := fun x => inB x 0 (IntKind.i64.wrap (sorts - 1))) hlt)
      have HN := Lib.hid (all_bad (p := fun x => inB x 0 (IntKind.i64.wrap (sorts - 1))) hlt)
      generalize vars[k] = x at hx HA HN
      have hlt' : (k : Int) < (vars.length : Int) := by omega
      go_wp2_with fail
      cases hbx' : inB x 0 (IntKind.i64.wrap (sorts - 1)) with
      | false =>
        have Hbx := Lib.hid hbx'
        clear hbx'
        go_quiet ((go_at_call 90; exact quiet_left (l1In_is _ _ _ _ _ Hbx.out)))
        go_wp2
        go_ret
        refine ⟨ret_bool ?_, below_drewN (HB.out.trans (HD.out.below.mono (by simp))) _⟩
        rw [HP.out, HN.out Hbx.out]; simp
      | true =>
        have Hbx := Lib.hid hbx'
        clear hbx'
        go_quiet ((go_at_call 90; exact quiet_left (l1In_is _ _ _ _ _ Hbx.out)))
        go_wp2
        go_roundw
        case rel => exact ⟨k + 1, by omega, by go_num, by rw [HA.out, hb.out, Hbx.out]; rfl, HD.out.more _⟩
        case measure => simp [intOf]; omega
    · have HE0 := hb.out
      rw [take_all (by omega)] at HE0
      have HE := Lib.hid HE0
      clear HE0
      cases hvb : validB ⟨sorts, ops⟩ with
      | false =>
        have Hv := Lib.hid hvb
        clear hvb
        go_wp2_with (go_at_call 77; refine (specSigValid_any _ ⟨sorts, ops⟩ _ ⟨_, rfl, H.out.keep HD.out.below⟩).mono ?_; rw [Hv.out]; rintro e w1 ⟨rfl, hb⟩)
        go_ret
        have s1 := HD.out.below.size
        exact ⟨ret_bool (by rw [HP.out, Hv.out]; simp), (HB.out.trans (HD.out.below.mono (by simp))).trans (hb.mono (by simp at s1; omega))⟩
      | true =>
        have Hv := Lib.hid hvb
        clear hvb
        go_wp2_with (go_at_call 77; refine (specSigValid_any _ ⟨sorts, ops⟩ _ ⟨_, rfl, H.out.keep HD.out.below⟩).mono ?_; rw [Hv.out]; rintro e w1 ⟨rfl, hb⟩)
        go_ret
        have s1 := HD.out.below.size
        exact ⟨ret_bool (by rw [HP.out, Hv.out, HE.out]; simp; omega), (HB.out.trans (HD.out.below.mono (by simp))).trans (hb.mono (by simp at s1; omega))⟩
end

section
open Go.RowKit
set_option linter.unusedVariables false
set_option linter.unusedSimpArgs false

structure MMap where
  sorts : List Int
  ops : List Int
def RMap (w : World) (v : Value) (m : MMap) : Prop := ∃ a0 a1, v = .agg #[a0, a1] ∧ RInts w a0 m.sorts ∧ RInts w a1 m.ops
def OMap (w : World) (B : Nat) (v : Value) (m : MMap) : Prop := ∃ a0 a1, v = .agg #[a0, a1] ∧ OInts w B a0 m.sorts ∧ OInts w B a1 m.ops ∧ Apart a0 a1
section
variable {w w' : World} {v : Value} {m : MMap} {B B' : Nat}
theorem RMap.keep (h : RMap w v m) (hb : Below w.heap.size w w') : RMap w' v m := by
  obtain ⟨a0, a1, rfl, h0, h1⟩ := h; exact ⟨a0, a1, rfl, h0.keep hb, h1.keep hb⟩
theorem OMap.keep (h : OMap w B v m) (hb : Below w.heap.size w w') : OMap w' B v m := by
  obtain ⟨a0, a1, rfl, h0, h1, hap⟩ := h; exact ⟨a0, a1, rfl, h0.keep hb, h1.keep hb, hap⟩
theorem OMap.base (h : OMap w B v m) (hB : B' ≤ B) : OMap w B' v m := by
  obtain ⟨a0, a1, rfl, h0, h1, hap⟩ := h; exact ⟨a0, a1, rfl, h0.base hB, h1.base hB, hap⟩
theorem OMap.same (h : OMap w B v m) (hk : ∀ k, B ≤ k → k < w.heap.size → w'.heap[k]? = w.heap[k]?) : OMap w' B v m := by
  obtain ⟨a0, a1, rfl, h0, h1, hap⟩ := h; exact ⟨a0, a1, rfl, h0.same hk, h1.same hk, hap⟩
theorem OMap.reads (h : OMap w B v m) : RMap w v m := by
  obtain ⟨a0, a1, rfl, h0, h1, -⟩ := h; exact ⟨a0, a1, rfl, h0.reads, h1.reads⟩
theorem RMap.form (h : RMap w v m) : ∃ A0 c0 A1 c1, v = .agg #[.slice A0 m.sorts.length c0, .slice A1 m.ops.length c1] := by
  obtain ⟨a0, a1, rfl, h0, h1⟩ := h
  obtain ⟨A0, c0, rfl, -⟩ := h0.form
  obtain ⟨A1, c1, rfl, -⟩ := h1.form
  exact ⟨_, _, _, _, rfl⟩
theorem RMap.of {a0 a1 : Value} (h : RMap w (.agg #[a0, a1]) m) : RInts w a0 m.sorts ∧ RInts w a1 m.ops := by
  obtain ⟨a0', a1', he, h0, h1⟩ := h
  injection he with he
  simp at he
  obtain ⟨rfl, rfl⟩ := he
  exact ⟨h0, h1⟩
theorem OMap.of {a0 a1 : Value} (h : OMap w B (.agg #[a0, a1]) m) : OInts w B a0 m.sorts ∧ OInts w B a1 m.ops ∧ Apart a0 a1 := by
  obtain ⟨a0', a1', he, hr⟩ := h
  injection he with he
  simp at he
  obtain ⟨rfl, rfl⟩ := he
  exact hr
end
def FitsMp (m : MMap) : Prop := m.sorts.length ≤ 1048576 ∧ m.ops.length ≤ 1048576
def SmallMp (m : MMap) : Prop := Small m.sorts ∧ Small m.ops
def sameMp (a b : MMap) : Bool := (sameI a.sorts b.sorts) && sameI a.ops b.ops
theorem sameMp_self (a : MMap) : sameMp a a = true := by unfold sameMp sameI; simp
theorem sameMp_eq {a b : MMap} : sameMp a b = true ↔ a = b := by
  obtain ⟨x0, x1⟩ := a
  obtain ⟨y0, y1⟩ := b
  unfold sameMp sameI
  simp [and_assoc]
end

section
open Go.RowKit
set_option linter.unusedVariables false
set_option linter.unusedSimpArgs false

/-- a row with its numbers replaced by those to which they are led; letters stay -/
def ledM (tq row : List Int) : List Int := row.map fun x => if x < 100 then tq.getD x.toNat 0 else x
def InTo (tq row : List Int) : Prop := ∀ x ∈ row, x < 100 → 0 ≤ x ∧ x < (tq.length : Int)
theorem ledM_len (tq row : List Int) : (ledM tq row).length = row.length := by simp [ledM]
theorem ledM_at {tq row : List Int} {k : Nat} (hk : k < row.length) : (ledM tq row)[k]? = some (if row[k] < 100 then tq.getD (row[k]).toNat 0 else row[k]) := by
  simp [ledM, List.getElem?_eq_getElem hk]
theorem ledM_take {tq row : List Int} {k : Nat} (hk : k < row.length) : ledM tq (row.take (k + 1)) = ledM tq (row.take k) ++ [if row[k] < 100 then tq.getD (row[k]).toNat 0 else row[k]] := by
  rw [List.take_succ_eq_append_getElem hk]; unfold ledM; rw [List.map_append]; rfl
theorem ledM_nil (tq : List Int) : ledM tq [] = [] := rfl
/-- the same of a row of sorts -/
def rowLed (tq row : List Int) : List Int := row.map fun x => tq.getD x.toNat 0
theorem rowLed_len (tq row : List Int) : (rowLed tq row).length = row.length := by simp [rowLed]
theorem rowLed_take {tq row : List Int} {k : Nat} (hk : k < row.length) : rowLed tq (row.take (k + 1)) = rowLed tq (row.take k) ++ [tq.getD (row[k]).toNat 0] := by
  rw [List.take_succ_eq_append_getElem hk]; unfold rowLed; rw [List.map_append]; rfl
theorem rowLed_led {tq row : List Int} (h : ∀ x ∈ row, x < 100) : rowLed tq row = ledM tq row := by
  unfold rowLed ledM
  refine List.map_congr_left fun x hx => ?_
  rw [if_pos (h x hx)]
def ledOp (a b : MSig) (m : MMap) (k : Nat) : Bool := (decide (0 ≤ m.ops.getD k 0) && decide (m.ops.getD k 0 < (b.ops.length : Int))) && decide (ledM m.sorts (a.ops.getD k []) = b.ops.getD (m.ops.getD k 0).toNat [])
def allLed (a b : MSig) (m : MMap) (n : Nat) : Bool := (List.range n).all (ledOp a b m)
theorem allLed_zero (a b : MSig) (m : MMap) : allLed a b m 0 = true := rfl
theorem allLed_succ (a b : MSig) (m : MMap) (n : Nat) : allLed a b m (n + 1) = (allLed a b m n && ledOp a b m n) := by
  unfold allLed; rw [List.range_succ, List.all_append]; simp
theorem allLed_bad {a b : MSig} {m : MMap} {k n : Nat} (hk : k < n) (h : ledOp a b m k = false) : allLed a b m n = false := by
  unfold allLed; rw [List.all_eq_false]; exact ⟨k, List.mem_range.2 hk, by simp [h]⟩
def mapOkB (a b : MSig) (m : MMap) : Bool := ((((validB a && validB b) && decide ((m.sorts.length : Int) = a.sorts)) && decide (m.ops.length = a.ops.length)) && belowB m.sorts b.sorts) && allLed a b m m.ops.length
theorem mapOk_no1 {a b : MSig} {m : MMap} (h : validB a = false) : mapOkB a b m = false := by unfold mapOkB; simp [h]
theorem mapOk_no2 {a b : MSig} {m : MMap} (h : validB b = false) : mapOkB a b m = false := by unfold mapOkB; simp [h]
theorem mapOk_no3 {a b : MSig} {m : MMap} (h : ¬ (m.sorts.length : Int) = a.sorts) : mapOkB a b m = false := by unfold mapOkB; simp [h]
theorem mapOk_no4 {a b : MSig} {m : MMap} (h : ¬ m.ops.length = a.ops.length) : mapOkB a b m = false := by unfold mapOkB; simp [h]
theorem mapOk_no5 {a b : MSig} {m : MMap} (h : belowB m.sorts b.sorts = false) : mapOkB a b m = false := by unfold mapOkB; simp [h]
theorem mapOk_no6 {a b : MSig} {m : MMap} {k : Nat} (hk : k < m.ops.length) (h : ledOp a b m k = false) : mapOkB a b m = false := by unfold mapOkB; simp [allLed_bad hk h]
theorem mapOk_yes {a b : MSig} {m : MMap} (h1 : validB a = true) (h2 : validB b = true) (h3 : (m.sorts.length : Int) = a.sorts) (h4 : m.ops.length = a.ops.length) (h5 : belowB m.sorts b.sorts = true) (h6 : allLed a b m m.ops.length = true) : mapOkB a b m = true := by
  unfold mapOkB; simp [h1, h2, h3, h4, h5]; rw [← h4]; exact h6
structure MapFacts (a b : MSig) (m : MMap) : Prop where
  va : validB a = true
  vb : validB b = true
  sl : (m.sorts.length : Int) = a.sorts
  ol : m.ops.length = a.ops.length
  sb : ∀ x ∈ m.sorts, 0 ≤ x ∧ x < b.sorts
  ob : ∀ x ∈ m.ops, 0 ≤ x ∧ x < (b.ops.length : Int)
  oo : ∀ (k : Nat) (h1 : k < a.ops.length) (h2 : k < m.ops.length), b.ops[(m.ops[k]).toNat]? = some (ledM m.sorts a.ops[k])
theorem mapOk_facts {a b : MSig} {m : MMap} (h : mapOkB a b m = true) : MapFacts a b m := by
  unfold mapOkB at h
  simp only [Bool.and_eq_true, decide_eq_true_eq] at h
  obtain ⟨⟨⟨⟨⟨h1, h2⟩, h3⟩, h4⟩, h5⟩, h6⟩ := h
  have op : ∀ k, (h : k < m.ops.length) → ((0 ≤ m.ops[k] ∧ m.ops[k] < (b.ops.length : Int)) ∧ ledM m.sorts (a.ops.getD k []) = b.ops.getD (m.ops[k]).toNat []) := by
    intro k hk
    unfold allLed at h6
    rw [List.all_eq_true] at h6
    have := h6 k (List.mem_range.2 hk)
    unfold ledOp at this
    rw [getD_at _ hk] at this
    simpa using this
  refine ⟨h1, h2, h3, h4, by simpa [belowB] using h5, fun x hx => ?_, fun k hk1 hk2 => ?_⟩
  · obtain ⟨k, hk, rfl⟩ := List.getElem_of_mem hx
    exact (op k hk).1
  · obtain ⟨⟨p, q⟩, r⟩ := op k hk2
    rw [getD_at _ hk1] at r
    have hl : (m.ops[k]).toNat < b.ops.length := by omega
    rw [getD_at _ hl] at r
    rw [List.getElem?_eq_getElem hl, r]
theorem facts_ok {a b : MSig} {m : MMap} (h : MapFacts a b m) : mapOkB a b m = true := by
  refine mapOk_yes h.va h.vb h.sl h.ol (by simpa [belowB] using h.sb) ?_
  unfold allLed
  rw [List.all_eq_true]
  intro k hk
  have hk := List.mem_range.1 hk
  have hka : k < a.ops.length := by rw [← h.ol]; exact hk
  have hb := h.ob _ (List.getElem_mem hk)
  have ho := h.oo k hka hk
  unfold ledOp
  rw [getD_at _ hk, getD_at _ hka]
  have hl : (m.ops[k]).toNat < b.ops.length := by omega
  rw [getD_at _ hl]
  rw [List.getElem?_eq_getElem hl] at ho
  injection ho with ho
  simp [hb.1, hb.2, ho]
/-- sorts are led -/
theorem MapFacts.sorts_in {a b : MSig} {m : MMap} (h : MapFacts a b m) {row : List Int} (hr : ∀ x ∈ row, 0 ≤ x ∧ x < a.sorts) : InTo m.sorts row := fun x hx _ => by
  have := hr x hx; have := h.sl; omega
theorem MapFacts.op_in {a b : MSig} {m : MMap} (h : MapFacts a b m) {k : Nat} (hk : k < a.ops.length) : InTo m.sorts a.ops[k] := h.sorts_in (valid_row h.va hk).2.2
def noMap : MMap := ⟨[], []⟩
def countM (n : Nat) : List Int := (List.range n).map fun (i : Nat) => (i : Int)
theorem countM_len (n : Nat) : (countM n).length = n := by simp [countM]
theorem countM_at {n k : Nat} (h : k < n) : (countM n)[k]? = some (k : Int) := by simp [countM, h]
theorem countM_succ (n : Nat) : countM (n + 1) = countM n ++ [(n : Int)] := by unfold countM; rw [List.range_succ]; simp
def selfM (s : MSig) : MMap := if validB s then ⟨countM s.sorts.toNat, countM s.ops.length⟩ else noMap
def thenM (a b c : MSig) (m n : MMap) : MMap × Bool := if mapOkB a b m && mapOkB b c n then (⟨ledM n.sorts m.sorts, ledM n.ops m.ops⟩, true) else (noMap, false)
def mapTermM (a b : MSig) (m : MMap) (vars t : List Int) : List Int × List Int × Bool := if mapOkB a b m && decide (0 ≤ sortM a vars t) then (ledM m.sorts vars, ledM m.ops t, true) else ([], [], false)
def noEq : MEq := ⟨[], [], []⟩
def ledE (m : MMap) (e : MEq) : MEq := ⟨ledM m.sorts e.vars, ledM m.ops e.left, ledM m.ops e.right⟩
def mapEqM (a b : MSig) (m : MMap) (e : MEq) : MEq × Bool := if mapOkB a b m && eqOkB a e then (ledE m e, true) else (noEq, false)
end

section
open Go.RowKit
set_option linter.unusedVariables false

def raised (xs : List Int) (d : Int) : List Int := xs.map fun x => wrap64 (x + d)
theorem raised_at {xs : List Int} {d : Int} {k : Nat} (hk : k < xs.length) (h : k < (raised xs d).length) : (raised xs d)[k] = wrap64 (xs[k] + d) := by simp [raised]
end

section
open Go.RowKit
set_option linter.unusedVariables false

theorem RInts.dropLast {w : World} {A : Option Addr} {c : Nat} {row : List Int} (h : RInts w (.slice A row.length c) row) : RInts w (.slice A (row.length - 1) c) row.dropLast := by
  obtain ⟨A', c', e, h1, h2, h3⟩ := h
  cases e
  refine ⟨A, c, by rw [List.length_dropLast], by rw [List.length_dropLast]; omega, h2, fun j x hj => h3 j x ?_⟩
  rw [List.getElem?_dropLast] at hj
  split at hj
  · exact hj
  · cases hj
theorem raised_zero {xs : List Int} (h : ∀ x ∈ xs, 0 ≤ x ∧ x < 4) : raised xs 0 = xs := by
  unfold raised
  rw [List.map_congr_left (g := id) (fun x hx => ?_), List.map_id]
  have := h x hx
  rw [IntWalk.wrap64_in _ ⟨by omega, by omega⟩]; simp

theorem add_spot (b o j : Nat) : (⟨b, o, none⟩ : Addr).add j = ⟨b, o + j, none⟩ := by
  unfold Addr.add
  split
  · rename_i h; subst h; rfl
  · rfl
theorem news_of {w : World} {b o n c : Nat} {xs : List Int} (h : RInts w (.slice (some ⟨b, o, none⟩) n c) xs) : ∀ (j : Nat) (u : Value), (xs.map (Value.int .i64))[j]? = some u → w.cell? ((⟨b, o, none⟩ : Addr).add j) = some u := by
  intro j u hj
  rw [List.getElem?_map] at hj
  obtain ⟨x, hx, rfl⟩ := Option.map_eq_some_iff.1 hj
  obtain ⟨A, c', e, h1, h2, h3⟩ := h
  cases e
  obtain ⟨b', o', e, hc⟩ := h3 j x hx
  cases e
  rw [add_spot]; exact hc
theorem news_any {w : World} {ad : Addr} {n c : Nat} {xs : List Int} (h : RInts w (.slice (some ad) n c) xs) : ∀ (j : Nat) (u : Value), (xs.map (Value.int .i64))[j]? = some u → w.cell? (ad.add j) = some u := by
  intro j u hj
  obtain ⟨b, o, s⟩ := ad
  have hx := hj
  rw [List.getElem?_map] at hx
  obtain ⟨x, hx, -⟩ := Option.map_eq_some_iff.1 hx
  have hh := h
  obtain ⟨A, c', e, h1, h2, h3⟩ := hh
  cases e
  obtain ⟨b', o', e, hc⟩ := h3 j x hx
  cases e
  exact news_of h j u hj
theorem ints_one (xs : List Int) : ∀ u ∈ xs.map (Value.int .i64), u.oneCell' = true := by
  intro u hu; simp at hu; obtain ⟨x, -, rfl⟩ := hu; rfl

theorem bel_grow {w w2 : World} {o : Obj} {A : Option Addr} {n c : Nat} (h : (w.alloc o).drew.grownBy w2 (Value.slice A n c).ownBlock) (hr : ∀ k, (Value.slice A n c).ownBlock = some k → w.heap.size ≤ k) : Below w.heap.size w w2 :=
  (below_alloc w o).trans ⟨h.os, h.tape, h.output, h.size, fun k hk => h.block k (Nat.lt_of_lt_of_le hk (by show w.heap.size ≤ (w.alloc o).heap.size; simp)) (fun e => by have := hr k e.symm; omega)⟩
theorem own_empty (w : World) : OInts (w.alloc (.cells #[] 3)) w.heap.size (.slice (some ⟨w.heap.size, 0, none⟩) 0 0) [] := World.ownsRow_lit w #[] 0 (Nat.le_refl _) (Nat.zero_le _) rfl

theorem step_append_own {P : Program} {ops : Array Oper} {o : Oper} {a : Act} {w : World} {K : Act → World → Prop} {Q : Exit → Act → World → Prop} {E : Prop} (hgd : o.guard = none) (s x : Operand) (t : TypeId)
    (ho : o.op = .call { callee := .builtin .append, args := #[s, x], argTypes := #[t, t] })
    (base : Nat) (e : TypeId) (i : TypeInfo) (z : Value) (size bytes : Nat) (ht : P.underlying t = some (.slice e)) (hi : P.info? e = some i) (hz : i.zero = some z)
    (hsize : i.size = size) (hby : i.bytes = bytes) (hzs : z.cells.size = size) (hsz : 0 < size)
    (v : Value) (n : Nat) (xs : List Value) (hs : a.eval s = v) (hown : w.ownsRow base e size v n xs)
    (ad : Addr) (m c : Nat) (news : List Value) (hx : a.eval x = .slice (some ad) m c) (hl : news.length = m * size) (hnews : ∀ j u, news[j]? = some u → w.cell? (ad.add j) = some u) (h1 : ∀ u ∈ news, u.oneCell' = true)
    (h63 : n + m ≤ maxLen) (hbytes : (n + m) * bytes ≤ 140737488355328) (hbase : base ≤ w.heap.size)
    (h : ∀ v' w', w'.ownsRow base e size v' (n + m) (xs ++ news) → w.grownBy w' v.ownBlock → K (a.put o.dst v') w') :
    if Region.wanted o (yielded ops a.tmps) = true then Oper.wp P o a w K Q else E := by
  have hw : Region.wanted o (yielded ops a.tmps) = true := by simp [Region.wanted, hgd]
  rw [if_pos hw]
  exact wp_append_own w s x t ho base e i z size bytes ht hi hz hsize hby hzs hsz v n xs hs hown ad m c news hx hl hnews h1 h63 hbytes hbase fun v' w' h2 h3 _ => h v' w' h2 h3
end

section
open Go.RowKit
set_option linter.unusedVariables false
set_option linter.unusedSimpArgs false

theorem led_app {w : World} {B m : Nat} {v : Value} {ps rs : List Int} (hm : rs.length = m) (h : w.ownsRow B 3 1 v (ps.length + m) (ps.map (Value.int .i64) ++ rs.map (Value.int .i64))) : OInts w B v (ps ++ rs) := by
  unfold OInts; rw [List.length_append, List.map_append, hm]; exact h
theorem led_new (w : World) (n : Int) : ∀ (j : Nat) (u : Value), ([n].map (Value.int .i64))[j]? = some u → (w.alloc (.cells #[.int .i64 n] 3)).cell? ((⟨w.heap.size, 0, none⟩ : Addr).add j) = some u := by
  intro j u hj
  match j, hj with
  | 0, hj =>
    simp at hj
    subst hj
    rw [show (⟨w.heap.size, 0, none⟩ : Addr).add 0 = ⟨w.heap.size, 0, none⟩ by simp [Addr.add], World.cell?_alloc_at _ _ _ _ rfl]; rfl
theorem filling_below {w wr : World} {zs : List Int} {k : Nat} (h : Filling w wr zs k) : Below w.heap.size w wr := by
  obtain ⟨_, _, _, _, hb⟩ := h; exact hb

theorem led_below {W wr w6 : World} {o : Obj} {A : Option Addr} {n c : Nat} (h : Below W.heap.size W wr) (hg : (wr.alloc o).drew.grownBy w6 (Value.slice A n c).ownBlock) (hr : ∀ k, (Value.slice A n c).ownBlock = some k → W.heap.size ≤ k) : Below W.heap.size W w6 := by
  have h1 := h.alloc h.size o
  have h2 : Below W.heap.size W (wr.alloc o).drew := ⟨h1.os, h1.tape, h1.output, h1.size, h1.block⟩
  exact h2.grown hg h2.size hr

set_option maxRecDepth 100000 in
theorem ledRow_any (v v' : Value) (row tq : List Int) (w : World) (h : RInts w v row) (h' : RInts w v' tq) (hin : InTo tq row) (hs : row.length ≤ 1048576) :
    Calls Try.prog 87 #[v, v'] w fun e w' => ∃ u, e = .returned u ∧ OInts w' w.heap.size u (ledM tq row) ∧ Below w.heap.size w w' := by
  have H := Lib.hid h
  have H' := Lib.hid h'
  have HIN := Lib.hid hin
  have hn' := h'.len
  obtain ⟨A, c, rfl, -⟩ := h.form
  obtain ⟨A', c', rfl, -⟩ := h'.form
  clear h h' hin
  have hmk := run_make_row' (P := Try.prog) 26 3 (.int .i64 0) 8 Try.underlying26 Try.tinfo_int rfl .i64 .i64 row.length (by omega) (by omega)
  go_enter Try.func87, Try.ntmps87
  go_wp2
  go_loopw [6, 7, 13] (fun a b i wr => ∃ k : Nat, k ≤ row.length ∧ i = .int .i64 k ∧ Filling w wr (ledM tq row) k) (fun _ _ i _ => row.length - (intOf i).toNat)
  case atStart => exact ⟨0, Nat.zero_le _, rfl, Filling.start w _ _ (by rw [ledM_len]; simp [madeCells])⟩
  case round =>
    obtain ⟨k, hk, rfl, hf⟩ := hrel
    have HF := Lib.hid hf
    clear hf hmk
    by_cases hlt : k < row.length
    · have hlt' : (k : Int) < (row.length : Int) := by omega
      obtain ⟨b, o, c', e, hx⟩ := (H.out.keep (filling_below HF.out)).at_ hlt
      cases e
      obtain ⟨u, g1, g2⟩ := HF.out.cell (by rw [ledM_len]; exact hlt)
      have HX := Lib.hid (ledM_at (tq := tq) hlt)
      have HI := Lib.hid (HIN.out _ (List.getElem_mem hlt))
      generalize row[k] = x at hx HX HI
      by_cases hl : x < 100
      · obtain ⟨n, rfl⟩ : ∃ n : Nat, x = (n : Int) := ⟨x.toNat, by have := HI.out hl; omega⟩
        have hnl : n < tq.length := by have := HI.out hl; omega
        have hnl' : (n : Int) < (tq.length : Int) := by omega
        have hn0 : (0 : Int) ≤ (n : Int) := by omega
        obtain ⟨b2, o2, c2, e2, hy⟩ := (H'.out.keep (filling_below HF.out)).at_ hnl
        cases e2
        have HY := Lib.hid (show (if (n : Int) < 100 then tq.getD (n : Int).toNat 0 else (n : Int)) = tq[n] by rw [if_pos hl, Int.toNat_natCast, getD_at _ hnl])
        generalize tq[n] = y at hy HY
        go_wp2
        go_roundw
        case rel => exact ⟨k + 1, by omega, by go_num, HF.out.step (by rw [ledM_len]; exact hlt) (by have h := HX.out; rw [HY.out] at h; exact (List.getElem?_eq_some_iff.1 h).2)⟩
        case measure => simp [intOf]; omega
      · have hl' : 100 ≤ x := by omega
        have HY := Lib.hid (show (if x < 100 then tq.getD x.toNat 0 else x) = x by rw [if_neg hl])
        go_wp2
        go_roundw
        case rel => exact ⟨k + 1, by omega, by go_num, HF.out.step (by rw [ledM_len]; exact hlt) (by have h := HX.out; rw [HY.out] at h; exact (List.getElem?_eq_some_iff.1 h).2)⟩
        case measure => simp [intOf]; omega
    · go_wp2
      go_ret
      obtain ⟨r1, r2⟩ := HF.out.done (by rw [ledM_len]; omega) (by omega)
      have hkn : k = row.length := by omega
      subst hkn
      exact ⟨_, rfl, r1, r2⟩

set_option maxHeartbeats 800000 in
set_option maxRecDepth 100000 in
theorem l4Row_any (v v' : Value) (row : List Int) (m : MMap) (w : World) (h : RMap w v m) (h' : RInts w v' row) (hin : ∀ x ∈ row, 0 ≤ x ∧ x < (m.sorts.length : Int)) (hs : row.length ≤ 1048576) :
    Calls Try.prog 83 #[v, v'] w fun e w' => ∃ u, e = .returned u ∧ OInts w' w.heap.size u (rowLed m.sorts row) ∧ Below w.heap.size w w' := by
  obtain ⟨i0, hi0, hz0, hz1, hz2⟩ := info_parts Try.tinfo_int
  obtain ⟨Ama, cma, Amb, cmb, rfl⟩ := h.form
  have hb : Below w.heap.size w (w.alloc (.cells #[.slice Ama m.sorts.length cma, .slice Amb m.ops.length cmb] 39)) := below_alloc _ _
  have HB := Lib.hid hb
  have hsz : (w.alloc (.cells #[.slice Ama m.sorts.length cma, .slice Amb m.ops.length cmb] 39)).heap.size = w.heap.size + 1 := by simp
  have Hm := Lib.hid (h.keep hb)
  have m0 := bx_at (w) #[.slice Ama m.sorts.length cma, .slice Amb m.ops.length cmb] 39 (k := 0) rfl
  have m1 := bx_at (w) #[.slice Ama m.sorts.length cma, .slice Amb m.ops.length cmb] 39 (k := 1) rfl
  generalize hW : w.alloc (.cells #[.slice Ama m.sorts.length cma, .slice Amb m.ops.length cmb] 39) = W at HB hsz Hm m0 m1
  clear hb h
  have HV := Lib.hid (h'.keep HB.out)
  have HIN := Lib.hid hin
  obtain ⟨r0, r1⟩ := Hm.out.of
  have R0 := Lib.hid r0
  have hm0 := r0.len
  obtain ⟨A', c', rfl, -⟩ := h'.form
  have HC := Lib.hid m0
  have HSZ := Lib.hid hsz
  clear h' hin r0 r1 m0 m1 hsz
  go_enter Try.func83, Try.ntmps83
  go_wp2
  clear hW
  go_loopw [5, 6] (fun p i wr => ∃ k : Nat, k ≤ row.length ∧ i = .int .i64 k ∧ OInts wr W.heap.size p (rowLed m.sorts (row.take k)) ∧ Below W.heap.size W wr) (fun _ i _ => row.length - (intOf i).toNat)
  case atStart => exact ⟨0, Nat.zero_le _, rfl, by first | exact own_empty W | (have h := own_empty W; rw [HSZ.out] at h ⊢; exact h), below_alloc _ _⟩
  case round =>
    obtain ⟨k, hk, rfl, ho, hb⟩ := hrel
    obtain ⟨A9, c9, rfl, -⟩ := own_reads ho
    have HO := Lib.hid ho
    have HBW := Lib.hid hb
    have f0 := cell_keep hb HC.out
    clear ho hb
    by_cases hlt : k < row.length
    · have hlt' : (k : Int) < (row.length : Int) := by omega
      obtain ⟨b, o, c4, e, hx⟩ := HV.out.at_ hlt
      cases e
      have HTK := Lib.hid (rowLed_take (tq := m.sorts) hlt)
      have HI := Lib.hid (HIN.out _ (List.getElem_mem hlt))
      generalize row[k] = x at hx HTK HI
      obtain ⟨n, rfl⟩ : ∃ n : Nat, x = (n : Int) := ⟨x.toNat, by have := HI.out; omega⟩
      have hnl : n < m.sorts.length := by have := HI.out; omega
      have hnl' : (n : Int) < (m.sorts.length : Int) := by omega
      have hn0 : (0 : Int) ≤ (n : Int) := by omega
      obtain ⟨b2, o2, c2, e2, hy⟩ := R0.out.at_ hnl
      cases e2
      have HY := Lib.hid (show m.sorts.getD (n : Int).toNat 0 = m.sorts[n] by rw [Int.toNat_natCast, getD_at _ hnl])
      generalize m.sorts[n] = y at hy HY
      have HXY := Lib.hid (And.intro hx hy)
      replace hx := cell_keep HBW.out hx
      replace hy := cell_keep HBW.out hy
      have hlen : (rowLed m.sorts (row.take k)).length = k := by rw [rowLed_len, List.length_take]; omega
      have HLEN := Lib.hid hlen
      generalize hps : rowLed m.sorts (row.take k) = ps at HO HTK HLEN
      clear hps hlen
      have hs1 := HBW.out.size
      have hp1 : ps.length + 1 ≤ maxLen := by rw [HLEN.out, maxLen_eq]; omega
      have hp2 : (ps.length + 1) * 8 ≤ 140737488355328 := by rw [HLEN.out]; omega
      have HP := Lib.hid (And.intro hp1 hp2)
      have hs3 : W.heap.size ≤ (wr.alloc (.cells #[.int .i64 y] 3)).heap.size := by simp; omega
      have HS3 := Lib.hid hs3
      have HO1 := Lib.hid (own_keep HO.out (below_alloc wr (.cells #[.int .i64 y] 3)))
      have HN1 := Lib.hid (led_new wr y)
      have ea := World.new_ne wr _ f0
      have eb := World.new_ne wr _ hx
      have ec := World.new_ne wr _ hy
      clear hp1 hp2 hs3
      go_wp2_with fail
      go_region_held3 (fun w' => w'.cell? ⟨w.heap.size, 0, none⟩ = some (.slice (some ⟨b2, o2, none⟩) m.sorts.length cma) ∧ w'.cell? ⟨b, o + k, none⟩ = some (.int .i64 (n : Int)) ∧ w'.cell? ⟨b2, o2 + n, none⟩ = some (.int .i64 y)) (first | go_keep | exact ⟨cell_keep HB6.out HC.out, cell_keep HB6.out HXY.out.1, cell_keep HB6.out HXY.out.2⟩)
        (first
          | (refine step_append_own rfl (.tmp 14) (.tmp 23) 26 rfl W.heap.size 3 i0 (.int .i64 0) 1 8 Try.underlying26 hi0 hz0 hz1 hz2 rfl (by omega) _ ps.length (ps.map (Value.int .i64)) rfl HO1.out.drew ⟨wr.heap.size, 0, none⟩ 1 1 ([y].map (Value.int .i64)) rfl (by simp) HN1.out (ints_one _) HP.out.1 HP.out.2 HS3.out ?_; intro v6 w6 hv6 hg6; have HB6 := Lib.hid (led_below HBW.out hg6 (fun k e => (own_lt HO.out k e).1)); have HO6 := Lib.hid (led_app (rs := [y]) rfl hv6); clear hv6 hg6))
      have hsl : (ps ++ [y]).length = k + 1 := by rw [List.length_append, HLEN.out]; rfl
      clear f0 hx hy ea eb ec hsl
      obtain ⟨A6, c6, rfl, -⟩ := own_reads HO6.out
      go_wp2
      go_roundw
      case rel => exact ⟨k + 1, by omega, by go_num, by rw [HTK.out, HY.out]; exact HO6.out, HB6.out⟩
      case measure => simp [intOf]; omega
    · have hkn : k = row.length := by omega
      have hlt' : ¬ (k : Int) < (row.length : Int) := by omega
      have HTA := Lib.hid (show row.take k = row from take_all (by omega))
      rw [HTA.out] at HO
      go_wp2
      go_ret
      exact ⟨_, rfl, HO.out.base HB.out.size, HB.out.trans (HBW.out.mono HB.out.size)⟩
set_option maxHeartbeats 800000 in
set_option maxRecDepth 100000 in
theorem l4Term_any (v v' : Value) (row : List Int) (m : MMap) (w : World) (h : RMap w v m) (h' : RInts w v' row) (hin : InTo m.ops row) (hs : row.length ≤ 1048576) :
    Calls Try.prog 84 #[v, v'] w fun e w' => ∃ u, e = .returned u ∧ OInts w' w.heap.size u (ledM m.ops row) ∧ Below w.heap.size w w' := by
  obtain ⟨i0, hi0, hz0, hz1, hz2⟩ := info_parts Try.tinfo_int
  obtain ⟨Ama, cma, Amb, cmb, rfl⟩ := h.form
  have hb : Below w.heap.size w (w.alloc (.cells #[.slice Ama m.sorts.length cma, .slice Amb m.ops.length cmb] 39)) := below_alloc _ _
  have HB := Lib.hid hb
  have hsz : (w.alloc (.cells #[.slice Ama m.sorts.length cma, .slice Amb m.ops.length cmb] 39)).heap.size = w.heap.size + 1 := by simp
  have Hm := Lib.hid (h.keep hb)
  have m0 := bx_at (w) #[.slice Ama m.sorts.length cma, .slice Amb m.ops.length cmb] 39 (k := 0) rfl
  have m1 := bx_at (w) #[.slice Ama m.sorts.length cma, .slice Amb m.ops.length cmb] 39 (k := 1) rfl
  generalize hW : w.alloc (.cells #[.slice Ama m.sorts.length cma, .slice Amb m.ops.length cmb] 39) = W at HB hsz Hm m0 m1
  clear hb h
  have HV := Lib.hid (h'.keep HB.out)
  have HIN := Lib.hid hin
  obtain ⟨r0, r1⟩ := Hm.out.of
  have R0 := Lib.hid r1
  have hm0 := r1.len
  obtain ⟨A', c', rfl, -⟩ := h'.form
  have HC := Lib.hid m1
  have HSZ := Lib.hid hsz
  clear h' hin r0 r1 m0 m1 hsz
  go_enter Try.func84, Try.ntmps84
  go_wp2
  clear hW
  go_loopw [5, 6] (fun p i wr => ∃ k : Nat, k ≤ row.length ∧ i = .int .i64 k ∧ OInts wr W.heap.size p (ledM m.ops (row.take k)) ∧ Below W.heap.size W wr) (fun _ i _ => row.length - (intOf i).toNat)
  case atStart => exact ⟨0, Nat.zero_le _, rfl, by first | exact own_empty W | (have h := own_empty W; rw [HSZ.out] at h ⊢; exact h), below_alloc _ _⟩
  case round =>
    obtain ⟨k, hk, rfl, ho, hb⟩ := hrel
    obtain ⟨A9, c9, rfl, -⟩ := own_reads ho
    have HO := Lib.hid ho
    have HBW := Lib.hid hb
    have f0 := cell_keep hb HC.out
    clear ho hb
    by_cases hlt : k < row.length
    · have hlt' : (k : Int) < (row.length : Int) := by omega
      obtain ⟨b, o, c4, e, hx⟩ := HV.out.at_ hlt
      cases e
      have HTK := Lib.hid (ledM_take (tq := m.ops) hlt)
      have HI := Lib.hid (HIN.out _ (List.getElem_mem hlt))
      generalize row[k] = x at hx HTK HI
      by_cases hl : x < 100
      · obtain ⟨n, rfl⟩ : ∃ n : Nat, x = (n : Int) := ⟨x.toNat, by have := HI.out hl; omega⟩
        have hnl : n < m.ops.length := by have := HI.out hl; omega
        have hnl' : (n : Int) < (m.ops.length : Int) := by omega
        have hn0 : (0 : Int) ≤ (n : Int) := by omega
        obtain ⟨b2, o2, c2, e2, hy⟩ := R0.out.at_ hnl
        cases e2
        have HY := Lib.hid (show (if (n : Int) < 100 then m.ops.getD (n : Int).toNat 0 else (n : Int)) = m.ops[n] by rw [if_pos hl, Int.toNat_natCast, getD_at _ hnl])
        generalize m.ops[n] = y at hy HY
        have HXY := Lib.hid (And.intro hx hy)
        replace hx := cell_keep HBW.out hx
        replace hy := cell_keep HBW.out hy
        have hlen : (ledM m.ops (row.take k)).length = k := by rw [ledM_len, List.length_take]; omega
        have HLEN := Lib.hid hlen
        generalize hps : ledM m.ops (row.take k) = ps at HO HTK HLEN
        clear hps hlen
        have hs1 := HBW.out.size
        have hp1 : ps.length + 1 ≤ maxLen := by rw [HLEN.out, maxLen_eq]; omega
        have hp2 : (ps.length + 1) * 8 ≤ 140737488355328 := by rw [HLEN.out]; omega
        have HP := Lib.hid (And.intro hp1 hp2)
        have hs3 : W.heap.size ≤ (wr.alloc (.cells #[.int .i64 y] 3)).heap.size := by simp; omega
        have HS3 := Lib.hid hs3
        have HO1 := Lib.hid (own_keep HO.out (below_alloc wr (.cells #[.int .i64 y] 3)))
        have HN1 := Lib.hid (led_new wr y)
        have ea := World.new_ne wr _ f0
        have eb := World.new_ne wr _ hx
        have ec := World.new_ne wr _ hy
        clear hp1 hp2 hs3
        go_wp2_with fail
        go_region_held3 (fun w' => w'.cell? ⟨w.heap.size, 1, none⟩ = some (.slice (some ⟨b2, o2, none⟩) m.ops.length cmb) ∧ w'.cell? ⟨b, o + k, none⟩ = some (.int .i64 (n : Int)) ∧ w'.cell? ⟨b2, o2 + n, none⟩ = some (.int .i64 y)) (first | go_keep | exact ⟨cell_keep HB6.out HC.out, cell_keep HB6.out HXY.out.1, cell_keep HB6.out HXY.out.2⟩)
          (first
            | (refine step_append_own rfl (.tmp 26) (.tmp 35) 26 rfl W.heap.size 3 i0 (.int .i64 0) 1 8 Try.underlying26 hi0 hz0 hz1 hz2 rfl (by omega) _ ps.length (ps.map (Value.int .i64)) rfl HO1.out.drew ⟨wr.heap.size, 0, none⟩ 1 1 ([y].map (Value.int .i64)) rfl (by simp) HN1.out (ints_one _) HP.out.1 HP.out.2 HS3.out ?_; intro v6 w6 hv6 hg6; have HB6 := Lib.hid (led_below HBW.out hg6 (fun k e => (own_lt HO.out k e).1)); have HO6 := Lib.hid (led_app (rs := [y]) rfl hv6); clear hv6 hg6))
        have hsl : (ps ++ [y]).length = k + 1 := by rw [List.length_append, HLEN.out]; rfl
        clear f0 hx hy ea eb ec hsl
        obtain ⟨A6, c6, rfl, -⟩ := own_reads HO6.out
        go_wp2
        go_roundw
        case rel => exact ⟨k + 1, by omega, by go_num, by rw [HTK.out, HY.out]; exact HO6.out, HB6.out⟩
        case measure => simp [intOf]; omega
      · have hl' : 100 ≤ x := by omega
        have HY := Lib.hid (show (if x < 100 then m.ops.getD x.toNat 0 else x) = x by rw [if_neg hl])
        replace hx := cell_keep HBW.out hx
        have hlen : (ledM m.ops (row.take k)).length = k := by rw [ledM_len, List.length_take]; omega
        have HLEN := Lib.hid hlen
        generalize hps : ledM m.ops (row.take k) = ps at HO HTK HLEN
        clear hps hlen
        have hs1 := HBW.out.size
        go_wp2_with (at_builtin; refine wpList_append_own _ rfl _ _ 26 rfl W.heap.size 3 i0 (.int .i64 0) 1 8 Try.underlying26 hi0 hz0 hz1 hz2 rfl (by decide) _ ps.length (ps.map (Value.int .i64)) rfl (own_keep HO.out (below_alloc wr _)) ⟨wr.heap.size, 0, none⟩ 1 1 ([x].map (Value.int .i64)) rfl (by simp) (led_new wr x) (ints_one _) (by rw [HLEN.out, maxLen_eq]; omega) (by rw [HLEN.out]; omega) (by simp; omega) ?_)
        intro v6 w6 hv6 hg6 _
        have HO6 := Lib.hid (led_app (rs := [x]) rfl hv6)
        have HB6 := Lib.hid ((HBW.out.alloc hs1 (.cells #[.int .i64 x] 3)).grown hg6 (by simp; omega) (fun k e => (own_lt HO.out k e).1))
        clear hv6 hg6
        obtain ⟨A6, c6, rfl, -⟩ := own_reads HO6.out
        clear f0 hx
        go_wp2
        go_roundw
        case rel => exact ⟨k + 1, by omega, by go_num, by rw [HTK.out, HY.out]; exact HO6.out, HB6.out⟩
        case measure => simp [intOf]; omega
    · have hkn : k = row.length := by omega
      have hlt' : ¬ (k : Int) < (row.length : Int) := by omega
      have HTA := Lib.hid (show row.take k = row from take_all (by omega))
      rw [HTA.out] at HO
      go_wp2
      go_ret
      exact ⟨_, rfl, HO.out.base HB.out.size, HB.out.trans (HBW.out.mono HB.out.size)⟩
end

section
open Go.RowKit
set_option linter.unusedVariables false

theorem slEqual_any (v v' : Value) (xs ys : List Int) (w : World) (h : RInts w v xs) (h' : RInts w v' ys) :
    Calls Try.prog 136 #[v, v'] w fun e w' => e = .returned (.bool (decide (xs = ys))) ∧ Drawn w w' := by
  have H := Lib.hid h
  have H' := Lib.hid h'
  have hn := h.len
  have hn' := h'.len
  obtain ⟨A, c, rfl, -⟩ := h.form
  obtain ⟨A', c', rfl, -⟩ := h'.form
  clear h h'
  by_cases hl : xs.length = ys.length
  · have hl' : ((xs.length : Int) != (ys.length : Int)) = false := by simp [hl]
    have HL := Lib.hid hl
    have hle : xs.length ≤ ys.length := by omega
    have hge : ys.length ≤ xs.length := by omega
    clear hl
    go_enter Try.func136, Try.ntmps136
    go_wp2
    go_loopw [13] (fun i wr => ∃ k : Nat, k ≤ xs.length ∧ i = .int .i64 k ∧ xs.take k = ys.take k ∧ Drawn w wr) (fun i _ => xs.length - (intOf i).toNat)
    case atStart => exact ⟨0, Nat.zero_le _, rfl, rfl, Drawn.refl _⟩
    case round =>
      obtain ⟨k, hk, rfl, hb0, hd⟩ := hrel
      have hb := Lib.hid hb0
      have HD := Lib.hid hd
      clear hb0 hd
      by_cases hlt : k < xs.length
      · obtain ⟨b, o, c3, e, hx⟩ := (H.out.keep HD.out.below).at_ hlt
        cases e
        obtain ⟨b', o', c4, e, hy⟩ := (H'.out.keep HD.out.below).at_ (show k < ys.length by omega)
        cases e
        have hs1 : (k : Int) < (xs.length : Int) := by omega
        have hs2 : (k : Int) < (ys.length : Int) := by omega
        have HT := Lib.hid (take_succ_eq hlt (show k < ys.length by omega) hb.out)
        have HN := Lib.hid (ne_of_at hlt (show k < ys.length by omega))
        generalize xs[k] = x at hx HT HN
        generalize ys[k]'(by omega) = y at hy HT HN
        by_cases hxy : x = y
        · subst hxy
          have e1 : (x != x) = false := by simp
          have e2 : (x == x) = true := by simp
          go_wp2_with fail
          go_quiet (fail)
          go_wp2
          go_roundw
          case rel => exact ⟨k + 1, by omega, by go_num, HT.out (by simp), HD.out.more _⟩
          case measure => simp [intOf]; omega
        · have e1 : (x != y) = true := by simpa using hxy
          have e2 : (x == y) = false := by simpa using hxy
          have HXY := Lib.hid hxy
          clear hxy
          go_wp2_with fail
          go_quiet (fail)
          go_wp2
          go_ret
          exact ⟨ret_bool (by simpa using (HN.out HXY.out)), HD.out.more _⟩
      · go_wp2
        go_ret
        have h := hb.out
        rw [take_all (by omega), take_all (by omega)] at h
        exact ⟨ret_bool (by simpa using h), HD.out⟩
  · have hl' : ((xs.length : Int) != (ys.length : Int)) = true := by simp; omega
    have HL := Lib.hid hl
    clear hl
    go_enter Try.func136, Try.ntmps136
    go_wp2
    go_ret
    exact ⟨ret_bool (by simp; rintro rfl; exact HL.out rfl), Drawn.refl _⟩
end

section
open Go.RowKit
set_option linter.unusedVariables false

theorem l1Same_any (v v' : Value) (xs ys : List Int) (w : World) (h : RInts w v xs) (h' : RInts w v' ys) :
    Calls Try.prog 137 #[v, v'] w fun e w' => e = .returned (.bool (decide (xs = ys))) ∧ Drawn w w' := by
  have H := Lib.hid h
  have H' := Lib.hid h'
  have hn := h.len
  have hn' := h'.len
  obtain ⟨A, c, rfl, -⟩ := h.form
  obtain ⟨A', c', rfl, -⟩ := h'.form
  clear h h'
  go_enter Try.func137, Try.ntmps137
  go_wp2
  go_loopw [5] (fun i wr => ∃ k : Nat, k ≤ xs.length ∧ k ≤ ys.length ∧ i = .int .i64 k ∧ xs.take k = ys.take k ∧ Drawn w wr) (fun i _ => xs.length - (intOf i).toNat)
  case atStart => exact ⟨0, Nat.zero_le _, Nat.zero_le _, rfl, rfl, Drawn.refl _⟩
  case round =>
    obtain ⟨k, hk, hk2, rfl, hb0, hd⟩ := hrel
    have hb := Lib.hid hb0
    have HD := Lib.hid hd
    clear hb0 hd
    by_cases hlt : k < xs.length
    · have hs1 : (k : Int) < (xs.length : Int) := by omega
      by_cases hlt2 : k < ys.length
      · have hs2 : (k : Int) < (ys.length : Int) := by omega
        obtain ⟨b, o, c3, e, hx⟩ := (H.out.keep HD.out.below).at_ hlt
        cases e
        obtain ⟨b', o', c4, e, hy⟩ := (H'.out.keep HD.out.below).at_ hlt2
        cases e
        have HT := Lib.hid (take_succ_eq hlt hlt2 hb.out)
        have HN := Lib.hid (ne_of_at hlt hlt2)
        generalize xs[k] = x at hx HT HN
        generalize ys[k] = y at hy HT HN
        by_cases hxy : x = y
        · subst hxy
          have e1 : (x != x) = false := by simp
          have e2 : (x == x) = true := by simp
          go_wp2_with fail
          go_quiet (fail)
          go_wp2
          go_roundw
          case rel => exact ⟨k + 1, by omega, by omega, by go_num, HT.out (by simp), HD.out.more _⟩
          case measure => simp [intOf]; omega
        · have e1 : (x != y) = true := by simpa using hxy
          have e2 : (x == y) = false := by simpa using hxy
          have HXY := Lib.hid hxy
          clear hxy
          go_wp2_with fail
          go_quiet (fail)
          go_wp2
          go_ret
          exact ⟨ret_bool (by simpa using (HN.out HXY.out)), HD.out.more _⟩
      · have hs2 : ¬ (k : Int) < (ys.length : Int) := by omega
        have e3 : ((xs.length : Int) == (ys.length : Int)) = false := by rw [beq_eq_false_iff_ne]; omega
        have HNE := Lib.hid (show decide (xs = ys) = false by simp; rintro rfl; omega)
        go_wp2
        go_ret
        exact ⟨ret_bool HNE.out.symm, HD.out⟩
    · have hs1 : ¬ (k : Int) < (xs.length : Int) := by omega
      by_cases hle : xs.length = ys.length
      · have e3 : ((xs.length : Int) == (ys.length : Int)) = true := by rw [beq_iff_eq]; omega
        have HEQ := Lib.hid (show decide (xs = ys) = true by
          have h := hb.out
          rw [take_all (by omega), take_all (by omega)] at h
          simpa using h)
        clear hle
        go_wp2
        go_ret
        exact ⟨ret_bool HEQ.out.symm, HD.out⟩
      · have e3 : ((xs.length : Int) == (ys.length : Int)) = false := by rw [beq_eq_false_iff_ne]; omega
        have HNE := Lib.hid (show decide (xs = ys) = false by simp; rintro rfl; omega)
        clear hle
        go_wp2
        go_ret
        exact ⟨ret_bool HNE.out.symm, HD.out⟩
end
end Go.Proofs.Yticldaddbljleaa
