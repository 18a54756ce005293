/- The first places of values in rows; kernels and images of maps of models (plain). No walk. · slices.Index, placesIn, hasValue of package impl. · KernelOf of package impl. · A row that a call has made, at the end of an own row of rows. · Rows of rows that grow: what all walks with append of a row need. No walk. · KernelOf of package spec. -/
import Derived.Test.YtfomeommkfemkaaK1337dff9
namespace Go.Proofs.Ytfomeommkfemkaa
section
open Go.RowKit
set_option linter.unusedVariables false
set_option linter.unusedSimpArgs false

def firstIx (row : List Int) (v : Int) : Int := if v ∈ row then (row.idxOf v : Int) else -1
theorem firstIx_hit {row : List Int} {v : Int} {k : Nat} (hk : k < row.length) (hn : v ∉ row.take k) (he : row[k] = v) : firstIx row v = k := by
  have hm : v ∈ row := he ▸ List.getElem_mem hk
  unfold firstIx
  rw [if_pos hm]
  have hs : row = row.take k ++ (v :: row.drop (k + 1)) := by
    rw [← he, ← List.drop_eq_getElem_cons hk, List.take_append_drop]
  have : row.idxOf v = k := by
    conv => lhs; rw [hs]
    rw [List.idxOf_append, if_neg hn, List.idxOf_cons_self, List.length_take]
    omega
  rw [this]
theorem firstIx_none {row : List Int} {v : Int} (hn : v ∉ row) : firstIx row v = -1 := by unfold firstIx; rw [if_neg hn]
theorem not_take {row : List Int} {v : Int} {k : Nat} (hk : k < row.length) (hn : v ∉ row.take k) (he : row[k] ≠ v) : v ∉ row.take (k + 1) := by
  rw [List.take_succ_eq_append_getElem hk]
  simp only [List.mem_append, List.mem_singleton, not_or]
  exact ⟨hn, fun e => he e.symm⟩
def placesM (row vals : List Int) : List Int := vals.map (firstIx row)
theorem placesM_len (row vals : List Int) : (placesM row vals).length = vals.length := by simp [placesM]
theorem placesM_at {row vals : List Int} {k : Nat} (hk : k < vals.length) (h : k < (placesM row vals).length) : (placesM row vals)[k] = firstIx row vals[k] := by simp [placesM]
theorem placesM_take {row vals : List Int} {k : Nat} (hk : k < vals.length) : placesM row (vals.take (k + 1)) = placesM row (vals.take k) ++ [firstIx row vals[k]] := by
  unfold placesM; rw [List.take_succ_eq_append_getElem hk, List.map_append]; rfl
def kernelM (s : MSig) (a b : MModel) (h : List (List Int)) : List (List Int) := if homB s a b h then h.map (fun r => placesM r r) else []
theorem kernel_no {s : MSig} {a b : MModel} {h : List (List Int)} (e : homB s a b h = false) : kernelM s a b h = [] := by unfold kernelM; rw [e]; rfl
theorem kernel_yes {s : MSig} {a b : MModel} {h : List (List Int)} (e : homB s a b h = true) : kernelM s a b h = h.map (fun r => placesM r r) := by unfold kernelM; rw [e]; rfl

/-- a set and one value more -/
def addV (set v : Int) : Int := if set / 2 ^ v.toNat % 2 = 0 then set + 2 ^ v.toNat else set
theorem shl_pow {v : Int} (h0 : 0 ≤ v) (h3 : v ≤ 3) : wrap64 (2 ^ min v.toNat 64) = 2 ^ v.toNat := by
  rcases (show v = 0 ∨ v = 1 ∨ v = 2 ∨ v = 3 by omega) with rfl | rfl | rfl | rfl <;> simp [wrap64]
theorem shl_wrap {v : Int} (h0 : 0 ≤ v) (h3 : v ≤ 3) : IntKind.i64.wrap (2 ^ min v.toNat 64) = 2 ^ v.toNat := by
  rcases (show v = 0 ∨ v = 1 ∨ v = 2 ∨ v = 3 by omega) with rfl | rfl | rfl | rfl <;> simp [IntKind.wrap_i64]
def setM (row : List Int) : Int := row.foldl addV 0
theorem setM_take {row : List Int} {k : Nat} (hk : k < row.length) : setM (row.take (k + 1)) = addV (setM (row.take k)) row[k] := by
  unfold setM; rw [List.take_succ_eq_append_getElem hk, List.foldl_append]; rfl
theorem val3 {v : Int} (h0 : 0 ≤ v) (h1 : v < 3) : v = 0 ∨ v = 1 ∨ v = 2 := by omega
theorem set8 {x : Int} (h0 : 0 ≤ x) (h1 : x < 8) : x = 0 ∨ x = 1 ∨ x = 2 ∨ x = 3 ∨ x = 4 ∨ x = 5 ∨ x = 6 ∨ x = 7 := by omega
theorem addV_in {x v : Int} (h0 : 0 ≤ x) (h1 : x < 8) (h2 : 0 ≤ v) (h3 : v < 3) : 0 ≤ addV x v ∧ addV x v < 8 := by
  rcases val3 h2 h3 with rfl | rfl | rfl <;> rcases set8 h0 h1 with rfl | rfl | rfl | rfl | rfl | rfl | rfl | rfl <;> decide
theorem setM_in {row : List Int} (h : ∀ x ∈ row, 0 ≤ x ∧ x < 3) : 0 ≤ setM row ∧ setM row < 8 := by
  have : ∀ (row : List Int) (x : Int), (∀ y ∈ row, 0 ≤ y ∧ y < 3) → 0 ≤ x → x < 8 → 0 ≤ row.foldl addV x ∧ row.foldl addV x < 8 := by
    intro row
    induction row with
    | nil => intro x _ a b; exact ⟨a, b⟩
    | cons y row ih =>
      intro x hx a b
      have hy := hx y (List.mem_cons_self ..)
      have := addV_in a b hy.1 hy.2
      exact ih _ (fun z hz => hx z (List.mem_cons_of_mem _ hz)) this.1 this.2
  exact this row 0 h (by omega) (by omega)
def imageM (s : MSig) (a b : MModel) (h : List (List Int)) : List Int := if homB s a b h then h.map setM else []
theorem image_no {s : MSig} {a b : MModel} {h : List (List Int)} (e : homB s a b h = false) : imageM s a b h = [] := by unfold imageM; rw [e]; rfl
theorem image_yes {s : MSig} {a b : MModel} {h : List (List Int)} (e : homB s a b h = true) : imageM s a b h = h.map setM := by unfold imageM; rw [e]; rfl
/-- what a map of models is made of -/
structure HomUse (s : MSig) (b : MModel) (h : List (List Int)) : Prop where
  sor : (h.length : Int) = s.sorts
  few : h.length ≤ 3
  row : ∀ (k : Nat) (hk : k < h.length), (h[k]).length ≤ 3 ∧ ∀ x ∈ h[k], 0 ≤ x ∧ x < 3
theorem hom_use {s : MSig} {a b : MModel} {h : List (List Int)} (e : homB s a b h = true) : HomUse s b h := by
  obtain ⟨r, -⟩ := hom_facts e
  have h1 := r.fa.sl
  have h2 := r.le.1
  have h3 := r.fa.sorts
  refine ⟨by omega, by omega, fun k hk => ?_⟩
  have hka : k < a.sizes.length := by omega
  have hkb : k < b.sizes.length := by have := r.fb.sl; omega
  have l := r.le.2 k hka
  have v := r.va k hk
  rw [getD_at _ hk] at l v
  rw [getD_at _ hkb] at v
  have za := r.fa.sz _ (List.getElem_mem hka)
  have zb := r.fb.sz _ (List.getElem_mem hkb)
  exact ⟨by omega, fun x hx => by have := v x hx; omega⟩
end

section
open Go.RowKit
set_option linter.unusedVariables false
set_option linter.unusedSimpArgs false

set_option maxRecDepth 100000 in
theorem index_any (row : List Int) (x : Int) (w : World) (v : Value) (h : RInts w v row) (hs : row.length ≤ 1000000) :
    Calls Try.prog 69 #[v, .int .i64 x] w fun e w' => e = .returned (.int .i64 (firstIx row x)) ∧ w = w' := by
  have H := Lib.hid h
  obtain ⟨A, c, rfl, -⟩ := h.form
  clear h
  go_enter Try.func69, Try.ntmps69
  go_wp2
  go_loopw [5, 8] (fun _ i wr => ∃ k : Nat, k ≤ row.length ∧ i = .int .i64 k ∧ x ∉ row.take k ∧ w = wr) (fun _ i _ => row.length - (intOf i).toNat)
  case atStart => exact ⟨0, Nat.zero_le _, rfl, by simp, rfl⟩
  case round =>
    obtain ⟨k, hk, rfl, hn, rfl⟩ := hrel
    have HN := Lib.hid hn
    clear hn
    by_cases hlt : k < row.length
    · have hlt' : (k : Int) < (row.length : Int) := by omega
      obtain ⟨b, o, c', e, hx⟩ := H.out.at_ hlt
      cases e
      have HH := Lib.hid (fun e => firstIx_hit hlt HN.out e)
      have HT := Lib.hid (fun e => not_take hlt HN.out e)
      generalize row[k] = y at hx HH HT
      by_cases hxy : x = y
      · have HF := Lib.hid (HH.out hxy.symm)
        have e1 : (x == y) = true := by simp [hxy]
        clear hxy
        go_wp2
        go_ret
        exact ⟨ret_int HF.out.symm, rfl⟩
      · have HF := Lib.hid (HT.out (fun e => hxy e.symm))
        have e1 : (x == y) = false := by simpa using hxy
        clear hxy
        go_wp2
        go_roundw
        case rel => exact ⟨k + 1, by omega, by go_num, HF.out, by first | trivial | rfl⟩
        case measure => simp [intOf]; omega
    · have hkn : k = row.length := by omega
      have hlt' : ¬ (k : Int) < (row.length : Int) := by omega
      have HT := Lib.hid (show row.take k = row from take_all (by omega))
      rw [HT.out] at HN
      have HF := Lib.hid (firstIx_none HN.out)
      go_wp2
      go_ret
      exact ⟨ret_int HF.out.symm, rfl⟩

set_option maxRecDepth 100000 in
theorem placesIn_any (row vals : List Int) (w : World) (v v' : Value) (h : RInts w v row) (h' : RInts w v' vals) (hs : row.length ≤ 1000000) (hs' : vals.length ≤ 1000000) :
    Calls Try.prog 48 #[v, v'] w fun e w' => ∃ u, e = .returned u ∧ OInts w' w.heap.size u (placesM row vals) ∧ Below w.heap.size w w' := by
  have H := Lib.hid h
  have H2 := Lib.hid h'
  obtain ⟨A, c, rfl, -⟩ := h.form
  obtain ⟨A2, c2, rfl, -⟩ := h'.form
  have HRL := Lib.hid (placesM_len row vals)
  clear h h'
  have hmk := run_make_row' (P := Try.prog) 25 3 (.int .i64 0) 8 Try.underlying25 Try.tinfo_int rfl .i64 .i64 vals.length (by omega) (by omega)
  go_enter Try.func48, Try.ntmps48
  go_wp2
  go_loopw [6, 7, 13] (fun a b i wr => ∃ k : Nat, k ≤ vals.length ∧ i = .int .i64 k ∧ Filling w wr (placesM row vals) k) (fun _ _ i _ => vals.length - (intOf i).toNat)
  case atStart => exact ⟨0, Nat.zero_le _, rfl, Filling.start w _ _ (by rw [HRL.out]; simp [madeCells])⟩
  case round =>
    obtain ⟨k, hk, rfl, hf⟩ := hrel
    have HF := Lib.hid hf
    have HB := Lib.hid (filling_below hf)
    clear hf hmk
    by_cases hlt : k < vals.length
    · have hlt' : (k : Int) < (vals.length : Int) := by omega
      obtain ⟨b, o, c', e, hx⟩ := (H2.out.keep HB.out).at_ hlt
      cases e
      obtain ⟨u, g1, g2⟩ := HF.out.cell (by rw [HRL.out]; exact hlt)
      have HX := Lib.hid (placesM_at (row := row) hlt (by rw [HRL.out]; exact hlt))
      generalize vals[k] = x at hx HX
      go_wp2_with fail
      refine (index_any row x _ _ (H.out.keep HB.out) hs).mono ?_
      rintro e w7 ⟨rfl, rfl⟩
      generalize firstIx row x = q at HX
      go_wp2
      go_roundw
      case rel => exact ⟨k + 1, by omega, by go_num, HF.out.step (by rw [HRL.out]; exact hlt) HX.out⟩
      case measure => simp [intOf]; omega
    · go_wp2
      go_ret
      obtain ⟨r1, r2⟩ := HF.out.done (by rw [HRL.out]; omega) (by omega)
      have hkn : k = vals.length := by omega
      subst hkn
      exact ⟨_, rfl, r1, r2⟩

set_option maxRecDepth 100000 in
theorem hasValue_any (set x : Int) (w : World) (h0 : 0 ≤ set) (h1 : set < 8) (h2 : 0 ≤ x) (h3 : x < 3) :
    Calls Try.prog 70 #[.int .i64 set, .int .i64 x] w fun e w' => e = .returned (.bool (decide (set / 2 ^ x.toNat % 2 = 1))) ∧ w = w' := by
  go_enter Try.func70, Try.ntmps70
  go_wp2
  go_ret
  refine ⟨ret_bool ?_, rfl⟩
  rcases val3 h2 h3 with rfl | rfl | rfl <;> rcases set8 h0 h1 with rfl | rfl | rfl | rfl | rfl | rfl | rfl | rfl <;> decide
end

section
open Go.RowKit
set_option linter.unusedVariables false
set_option linter.unusedSimpArgs false

set_option maxHeartbeats 1600000 in
set_option maxRecDepth 100000 in
theorem kernelOf_any (s : MSig) (m n : MModel) (h : List (List Int)) (w : World) (v va vb vh : Value) (h1 : RSig w v s) (h2 : RModel w va m) (h3 : RModel w vb n) (h4 : RRows w vh h) :
    Calls Try.prog 21 #[v, va, vb, vh] w fun e w' => ∃ u, e = .returned u ∧ ORows w' w.heap.size u (kernelM s m n h) ∧ Below w.heap.size w w' := by
  obtain ⟨Asa, csa, rfl⟩ := h1.form
  obtain ⟨Ama, cma, Amb, cmb, rfl⟩ := h2.form
  obtain ⟨Ana, cna, Anb, cnb, rfl⟩ := h3.form
  have hb : Below w.heap.size w (((w.alloc (.cells #[.int .i64 s.sorts, .slice Asa s.ops.length csa] 32)).alloc (.cells #[.slice Ama m.sizes.length cma, .slice Amb m.tables.length cmb] 34)).alloc (.cells #[.slice Ana n.sizes.length cna, .slice Anb n.tables.length cnb] 34)) := ((below_alloc _ _).alloc (by simp) _).alloc (by simp; omega) _
  have HB := Lib.hid hb
  have hsz : (((w.alloc (.cells #[.int .i64 s.sorts, .slice Asa s.ops.length csa] 32)).alloc (.cells #[.slice Ama m.sizes.length cma, .slice Amb m.tables.length cmb] 34)).alloc (.cells #[.slice Ana n.sizes.length cna, .slice Anb n.tables.length cnb] 34)).heap.size = w.heap.size + 3 := by simp
  have Hs := Lib.hid (h1.keep hb)
  have s0 := cell_keep (below_alloc ((w.alloc (.cells #[.int .i64 s.sorts, .slice Asa s.ops.length csa] 32)).alloc (.cells #[.slice Ama m.sizes.length cma, .slice Amb m.tables.length cmb] 34)) (.cells #[.slice Ana n.sizes.length cna, .slice Anb n.tables.length cnb] 34)) (cell_keep (below_alloc (w.alloc (.cells #[.int .i64 s.sorts, .slice Asa s.ops.length csa] 32)) (.cells #[.slice Ama m.sizes.length cma, .slice Amb m.tables.length cmb] 34)) (bx_at (w) #[.int .i64 s.sorts, .slice Asa s.ops.length csa] 32 (k := 0) rfl))
  have s1 := cell_keep (below_alloc ((w.alloc (.cells #[.int .i64 s.sorts, .slice Asa s.ops.length csa] 32)).alloc (.cells #[.slice Ama m.sizes.length cma, .slice Amb m.tables.length cmb] 34)) (.cells #[.slice Ana n.sizes.length cna, .slice Anb n.tables.length cnb] 34)) (cell_keep (below_alloc (w.alloc (.cells #[.int .i64 s.sorts, .slice Asa s.ops.length csa] 32)) (.cells #[.slice Ama m.sizes.length cma, .slice Amb m.tables.length cmb] 34)) (bx_at (w) #[.int .i64 s.sorts, .slice Asa s.ops.length csa] 32 (k := 1) rfl))
  have Hm := Lib.hid (h2.keep hb)
  have m0 := cell_keep (below_alloc ((w.alloc (.cells #[.int .i64 s.sorts, .slice Asa s.ops.length csa] 32)).alloc (.cells #[.slice Ama m.sizes.length cma, .slice Amb m.tables.length cmb] 34)) (.cells #[.slice Ana n.sizes.length cna, .slice Anb n.tables.length cnb] 34)) (bx_at (w.alloc (.cells #[.int .i64 s.sorts, .slice Asa s.ops.length csa] 32)) #[.slice Ama m.sizes.length cma, .slice Amb m.tables.length cmb] 34 (k := 0) rfl)
  have m1 := cell_keep (below_alloc ((w.alloc (.cells #[.int .i64 s.sorts, .slice Asa s.ops.length csa] 32)).alloc (.cells #[.slice Ama m.sizes.length cma, .slice Amb m.tables.length cmb] 34)) (.cells #[.slice Ana n.sizes.length cna, .slice Anb n.tables.length cnb] 34)) (bx_at (w.alloc (.cells #[.int .i64 s.sorts, .slice Asa s.ops.length csa] 32)) #[.slice Ama m.sizes.length cma, .slice Amb m.tables.length cmb] 34 (k := 1) rfl)
  have Hn := Lib.hid (h3.keep hb)
  have n0 := bx_at ((w.alloc (.cells #[.int .i64 s.sorts, .slice Asa s.ops.length csa] 32)).alloc (.cells #[.slice Ama m.sizes.length cma, .slice Amb m.tables.length cmb] 34)) #[.slice Ana n.sizes.length cna, .slice Anb n.tables.length cnb] 34 (k := 0) rfl
  have n1 := bx_at ((w.alloc (.cells #[.int .i64 s.sorts, .slice Asa s.ops.length csa] 32)).alloc (.cells #[.slice Ama m.sizes.length cma, .slice Amb m.tables.length cmb] 34)) #[.slice Ana n.sizes.length cna, .slice Anb n.tables.length cnb] 34 (k := 1) rfl
  simp only [World.size_alloc] at m0 m1 n0 n1
  generalize hW : ((w.alloc (.cells #[.int .i64 s.sorts, .slice Asa s.ops.length csa] 32)).alloc (.cells #[.slice Ama m.sizes.length cma, .slice Amb m.tables.length cmb] 34)).alloc (.cells #[.slice Ana n.sizes.length cna, .slice Anb n.tables.length cnb] 34) = W at HB hsz Hs s0 s1 Hm m0 m1 Hn n0 n1
  clear hb h1 h2 h3
  have HH := Lib.hid (h4.keep HB.out)
  have hhl := h4.len
  obtain ⟨Ah, ch, rfl, -⟩ := h4.form
  clear h4
  cases hma : homB s m n h with
  | false =>
    have HMA := Lib.hid hma
    have HE := Lib.hid (kernel_no hma)
    clear hma
    go_enter Try.func21, Try.ntmps21
    go_wp2_with fail
    clear hW
    refine (homOk_any s m n h _ _ _ _ _ Hs.out Hm.out Hn.out HH.out).mono ?_
    rw [HMA.out]
    rintro x w1 ⟨rfl, hb⟩
    replace HB := Lib.hid (sz_keep HB.out hb)
    replace s0 := cell_keep hb s0
    replace s1 := cell_keep hb s1
    replace m0 := cell_keep hb m0
    replace m1 := cell_keep hb m1
    replace n0 := cell_keep hb n0
    replace n1 := cell_keep hb n1
    replace Hs := Lib.hid (Hs.out.keep hb)
    replace Hm := Lib.hid (Hm.out.keep hb)
    replace Hn := Lib.hid (Hn.out.keep hb)
    replace HH := Lib.hid (HH.out.keep hb)
    clear hb
    go_wp2
    go_ret
    rw [HE.out]
    exact ⟨_, rfl, ORows.nil _ _, HB.out⟩
  | true =>
    have HMA := Lib.hid hma
    have HE := Lib.hid (kernel_yes hma)
    have HU := Lib.hid (hom_use hma)
    clear hma
    go_enter Try.func21, Try.ntmps21
    go_wp2_with fail
    clear hW
    refine (homOk_any s m n h _ _ _ _ _ Hs.out Hm.out Hn.out HH.out).mono ?_
    rw [HMA.out]
    rintro x w1 ⟨rfl, hb⟩
    replace HB := Lib.hid (sz_keep HB.out hb)
    replace s0 := cell_keep hb s0
    replace s1 := cell_keep hb s1
    replace m0 := cell_keep hb m0
    replace m1 := cell_keep hb m1
    replace n0 := cell_keep hb n0
    replace n1 := cell_keep hb n1
    replace Hs := Lib.hid (Hs.out.keep hb)
    replace Hm := Lib.hid (Hm.out.keep hb)
    replace Hn := Lib.hid (Hn.out.keep hb)
    replace HH := Lib.hid (HH.out.keep hb)
    clear hb
    have e0 := HU.out.sor
    simp only [List.getElem_toArray, List.getElem_cons_zero, ← e0] at s0
    have hfew := HU.out.few
    have hmk := run_make_row' (P := Try.prog) 22 25 (.slice none 0 0) 24 Try.underlying22 Try.tinfo_ints rfl .i64 .i64 h.length (by omega) (by omega)
    have HKL := Lib.hid (show (h.map (fun r => placesM r r)).length = h.length by simp)
    clear e0
    go_wp2
    clear hmk s0 s1 m0 m1 n0 n1
    go_loopw [10, 11, 23] (fun _ _ i wr => ∃ k : Nat, k ≤ h.length ∧ i = .int .i64 k ∧ FillingR w1 wr (h.map (fun r => placesM r r)) k) (fun _ _ i _ => h.length - (intOf i).toNat)
    case atStart => exact ⟨0, Nat.zero_le _, rfl, FillingR.start w1 _ _ (by simp [madeCells])⟩
    case round =>
      obtain ⟨k, hk, rfl, hf⟩ := hrel
      have HF := Lib.hid hf
      have HD : Hid (Below w1.heap.size w1 wr) := by obtain ⟨_, _, _, _, _, hb⟩ := hf; exact hb
      clear hf
      by_cases hlt : k < h.length
      · have hlt' : (k : Int) < (h.length : Int) := by omega
        obtain ⟨b, o, c', u, e, hx, hri⟩ := (HH.out.keep HD.out).at_ hlt
        cases e
        have HRW := Lib.hid (HU.out.row k hlt)
        have HAT := Lib.hid (show (h.map (fun r => placesM r r))[k]? = some (placesM h[k] h[k]) by rw [List.getElem?_map, List.getElem?_eq_getElem hlt]; rfl)
        generalize h[k] = row at hx hri HRW HAT
        have HI := Lib.hid hri
        obtain ⟨A', c'', rfl, -⟩ := hri.form
        clear hri
        go_wp2_with fail
        refine (placesIn_any row row _ _ _ HI.out HI.out (by have := HRW.out.1; omega) (by have := HRW.out.1; omega)).mono ?_
        rintro e w7 ⟨u, rfl, ho, hb⟩
        obtain ⟨u0, g1, g2⟩ := HF.out.cell (by rw [HKL.out]; exact hlt) hb
        have HN := Lib.hid (HF.out.step (u := u) (by rw [HKL.out]; exact hlt) hb (by
          have e : (h.map (fun r => placesM r r))[k]'(by rw [HKL.out]; exact hlt) = placesM row row := by
            have := HAT.out
            rw [List.getElem?_eq_getElem (by rw [HKL.out]; exact hlt)] at this
            injection this
          rw [e]; exact ho))
        obtain ⟨A1, c1, rfl, -⟩ := ho.reads.form
        clear ho hb hx
        go_wp2
        go_roundw
        case rel => exact ⟨k + 1, by omega, by go_num, HN.out⟩
        case measure => simp [intOf]; omega
      · have hlt' : ¬ (k : Int) < (h.length : Int) := by omega
        go_wp2
        go_ret
        obtain ⟨r1, r2⟩ := HF.out.done (by rw [HKL.out]; omega) (by omega)
        have hkn : k = h.length := by omega
        subst hkn
        rw [HE.out]
        exact ⟨_, rfl, r1.base HB.out.size, sz_keep HB.out r2⟩
end

section
open Go.RowKit
set_option linter.unusedVariables false

theorem rows_made {wr w6 w7 : World} {B : Nat} {u v' rv : Value} {rows : List (List Int)} {row : List Int} {us : List Value} (hB : B ≤ wr.heap.size) (hb : Below wr.heap.size wr w6) (hr : OInts w6 wr.heap.size rv row)
    (h1 : wr.ownsRow B 25 1 u rows.length us) (h2 : us.length = rows.length)
    (h3 : ∀ (j : Nat) (u : Value) (row : List Int), us[j]? = some u → rows[j]? = some row → OInts wr B u row) (h4 : ∀ (i j : Nat) (u u' : Value), i < j → us[i]? = some u → us[j]? = some u' → u.ownBlock = none ∨ u.ownBlock ≠ u'.ownBlock)
    (hv' : w7.ownsRow B 25 1 v' (rows.length + 1) (us ++ [rv])) (hg : (w6.alloc (.cells #[rv] 25)).grownBy w7 u.ownBlock) : ORows w7 B v' (rows ++ [row]) := by
  refine ORows.push (w := w6.alloc (.cells #[rv] 25)) ((own_keep h1 hb).alloc _) h2 (fun j x r a b => World.ownsRow.alloc (own_keep (h3 j x r a b) hb) _) h4 (World.ownsRow.alloc (OInts.base hr hB) _) (fun i x hx => ?_) hg hv'
  have hi : i < us.length := (List.getElem?_eq_some_iff.1 hx).1
  have hxo := h3 i x rows[i] hx (List.getElem?_eq_getElem (by omega))
  cases hbx : x.ownBlock with
  | none => exact .inl rfl
  | some k =>
    right
    intro e
    have a := (own_lt hxo k hbx).2
    have b := (own_lt hr k e.symm).1
    omega
theorem below_made {w wr w6 w7 : World} {B : Nat} {u rv : Value} {n : Nat} {us : List Value} (hw : Below B w wr) (hB : B ≤ w.heap.size) (hb : Below wr.heap.size wr w6) (h1 : wr.ownsRow B 25 1 u n us)
    (hg : (w6.alloc (.cells #[rv] 25)).grownBy w7 u.ownBlock) : Below B w w7 := by
  have s1 := hw.size
  have s2 := hb.size
  exact ((hw.trans (hb.mono (by omega))).alloc (by omega) _).grown hg (by simp; omega) (fun k e => (own_lt h1 k e).1)
end

section
open Go.RowKit
set_option linter.unusedVariables false

theorem news_one2 (w : World) (x : Value) (t : TypeId) : ∀ (j : Nat) (u : Value), [x][j]? = some u → (w.alloc (.cells #[x] t)).cell? ((⟨w.heap.size, 0, none⟩ : Addr).add j) = some u := by
  intro j u hj
  match j, hj with
  | 0, hj =>
    simp at hj
    subst hj
    rw [show (⟨w.heap.size, 0, none⟩ : Addr).add 0 = ⟨w.heap.size, 0, none⟩ from rfl, World.cell?_alloc_at _ _ _ _ rfl]
    rfl
theorem rows_one2 {A : Option Addr} {n c : Nat} (x : Value) (hx : x = .slice A n c := by rfl) : ∀ u ∈ [x], u.oneCell' = true := by
  intro u hu; simp at hu; subst hu; subst hx; rfl
theorem own_emptyR2 (w : World) : w.alloc (.cells #[] 25) |>.ownsRow w.heap.size 25 1 (.slice (some ⟨w.heap.size, 0, none⟩) 0 0) 0 [] := World.ownsRow_lit w #[] 0 (Nat.le_refl _) (Nat.zero_le _) rfl
theorem ORows.empty2 (w : World) : ORows (w.alloc (.cells #[] 25)) w.heap.size (.slice (some ⟨w.heap.size, 0, none⟩) 0 0) [] := ⟨[], own_emptyR2 w, rfl, fun j u row h => by simp at h, fun i j u u' _ h => by simp at h⟩

theorem bel_grow2 {w w2 : World} {o : Obj} {A : Option Addr} {n c : Nat} (h : (w.alloc o).grownBy w2 (Value.slice A n c).ownBlock) (hr : ∀ k, (Value.slice A n c).ownBlock = some k → w.heap.size ≤ k) : Below w.heap.size w w2 :=
  (below_alloc w o).trans ⟨h.os, h.tape, h.output, h.size, fun k hk => h.block k (Nat.lt_of_lt_of_le hk (by simp)) (fun e => by have := hr k e.symm; omega)⟩
end

section
open Go.RowKit
set_option linter.unusedVariables false
set_option linter.unusedSimpArgs false

theorem map_take_succ {α β : Type} {xs : List α} {f : α → β} {k : Nat} (hk : k < xs.length) : (xs.take (k + 1)).map f = (xs.take k).map f ++ [f xs[k]] := by
  rw [List.take_succ_eq_append_getElem hk, List.map_append]; rfl
theorem firstIx_lt {row : List Int} {t a : Nat} (ht : t < row.length) (ha : a ≤ t) (hn : row[t] ∉ row.take a) (hlt : a < row.length) (hne : row[a] ≠ row[t]) : a + 1 ≤ t := by
  by_cases e : a = t
  · subst e; exact absurd rfl hne
  · omega

set_option maxHeartbeats 3200000 in
set_option maxRecDepth 100000 in
theorem specKernelOf_any (s : MSig) (m n : MModel) (h : List (List Int)) (w : World) (v va vb vh : Value) (h1 : RSig w v s) (h2 : RModel w va m) (h3 : RModel w vb n) (h4 : RRows w vh h) :
    Calls Try.prog 20 #[v, va, vb, vh] w fun e w' => ∃ u, e = .returned u ∧ ORows w' w.heap.size u (kernelM s m n h) ∧ Below w.heap.size w w' := by
  obtain ⟨i0, hi0, hz0, hz1, hz2⟩ := info_parts Try.tinfo_int
  obtain ⟨i1, hj, hy0, hy1, hy2⟩ := info_parts Try.tinfo_ints
  obtain ⟨Asa, csa, rfl⟩ := h1.form
  obtain ⟨Ama, cma, Amb, cmb, rfl⟩ := h2.form
  obtain ⟨Ana, cna, Anb, cnb, rfl⟩ := h3.form
  have hb : Below w.heap.size w (((w.alloc (.cells #[.int .i64 s.sorts, .slice Asa s.ops.length csa] 32)).alloc (.cells #[.slice Ama m.sizes.length cma, .slice Amb m.tables.length cmb] 34)).alloc (.cells #[.slice Ana n.sizes.length cna, .slice Anb n.tables.length cnb] 34)) := ((below_alloc _ _).alloc (by simp) _).alloc (by simp; omega) _
  have HB := Lib.hid hb
  have hsz : (((w.alloc (.cells #[.int .i64 s.sorts, .slice Asa s.ops.length csa] 32)).alloc (.cells #[.slice Ama m.sizes.length cma, .slice Amb m.tables.length cmb] 34)).alloc (.cells #[.slice Ana n.sizes.length cna, .slice Anb n.tables.length cnb] 34)).heap.size = w.heap.size + 3 := by simp
  have Hs := Lib.hid (h1.keep hb)
  have s0 := cell_keep (below_alloc ((w.alloc (.cells #[.int .i64 s.sorts, .slice Asa s.ops.length csa] 32)).alloc (.cells #[.slice Ama m.sizes.length cma, .slice Amb m.tables.length cmb] 34)) (.cells #[.slice Ana n.sizes.length cna, .slice Anb n.tables.length cnb] 34)) (cell_keep (below_alloc (w.alloc (.cells #[.int .i64 s.sorts, .slice Asa s.ops.length csa] 32)) (.cells #[.slice Ama m.sizes.length cma, .slice Amb m.tables.length cmb] 34)) (bx_at (w) #[.int .i64 s.sorts, .slice Asa s.ops.length csa] 32 (k := 0) rfl))
  have s1 := cell_keep (below_alloc ((w.alloc (.cells #[.int .i64 s.sorts, .slice Asa s.ops.length csa] 32)).alloc (.cells #[.slice Ama m.sizes.length cma, .slice Amb m.tables.length cmb] 34)) (.cells #[.slice Ana n.sizes.length cna, .slice Anb n.tables.length cnb] 34)) (cell_keep (below_alloc (w.alloc (.cells #[.int .i64 s.sorts, .slice Asa s.ops.length csa] 32)) (.cells #[.slice Ama m.sizes.length cma, .slice Amb m.tables.length cmb] 34)) (bx_at (w) #[.int .i64 s.sorts, .slice Asa s.ops.length csa] 32 (k := 1) rfl))
  have Hm := Lib.hid (h2.keep hb)
  have m0 := cell_keep (below_alloc ((w.alloc (.cells #[.int .i64 s.sorts, .slice Asa s.ops.length csa] 32)).alloc (.cells #[.slice Ama m.sizes.length cma, .slice Amb m.tables.length cmb] 34)) (.cells #[.slice Ana n.sizes.length cna, .slice Anb n.tables.length cnb] 34)) (bx_at (w.alloc (.cells #[.int .i64 s.sorts, .slice Asa s.ops.length csa] 32)) #[.slice Ama m.sizes.length cma, .slice Amb m.tables.length cmb] 34 (k := 0) rfl)
  have m1 := cell_keep (below_alloc ((w.alloc (.cells #[.int .i64 s.sorts, .slice Asa s.ops.length csa] 32)).alloc (.cells #[.slice Ama m.sizes.length cma, .slice Amb m.tables.length cmb] 34)) (.cells #[.slice Ana n.sizes.length cna, .slice Anb n.tables.length cnb] 34)) (bx_at (w.alloc (.cells #[.int .i64 s.sorts, .slice Asa s.ops.length csa] 32)) #[.slice Ama m.sizes.length cma, .slice Amb m.tables.length cmb] 34 (k := 1) rfl)
  have Hn := Lib.hid (h3.keep hb)
  have n0 := bx_at ((w.alloc (.cells #[.int .i64 s.sorts, .slice Asa s.ops.length csa] 32)).alloc (.cells #[.slice Ama m.sizes.length cma, .slice Amb m.tables.length cmb] 34)) #[.slice Ana n.sizes.length cna, .slice Anb n.tables.length cnb] 34 (k := 0) rfl
  have n1 := bx_at ((w.alloc (.cells #[.int .i64 s.sorts, .slice Asa s.ops.length csa] 32)).alloc (.cells #[.slice Ama m.sizes.length cma, .slice Amb m.tables.length cmb] 34)) #[.slice Ana n.sizes.length cna, .slice Anb n.tables.length cnb] 34 (k := 1) rfl
  simp only [World.size_alloc] at m0 m1 n0 n1
  generalize hW : ((w.alloc (.cells #[.int .i64 s.sorts, .slice Asa s.ops.length csa] 32)).alloc (.cells #[.slice Ama m.sizes.length cma, .slice Amb m.tables.length cmb] 34)).alloc (.cells #[.slice Ana n.sizes.length cna, .slice Anb n.tables.length cnb] 34) = W at HB hsz Hs s0 s1 Hm m0 m1 Hn n0 n1
  clear hb h1 h2 h3
  have HH := Lib.hid (h4.keep HB.out)
  have hhl := h4.len
  obtain ⟨Ah, ch, rfl, -⟩ := h4.form
  have HE0 := Lib.hid (ORows.empty2 W)
  have HB0 := Lib.hid (below_alloc W (.cells #[] 25))
  have HSZ := Lib.hid hsz
  clear hsz
  have HCX := Lib.hid (And.intro s0 (And.intro s1 (And.intro m0 (And.intro m1 (And.intro n0 n1)))))
  clear h4
  cases hma : homB s m n h with
  | false =>
    have HMA := Lib.hid hma
    have HE := Lib.hid (kernel_no hma)
    clear hma
    go_enter Try.func20, Try.ntmps20
    go_wp2
    clear hW s0 s1 m0 m1 n0 n1
    go_loopw [9, 10, 11, 12, 13] (fun q i _ _ _ wr => i = .int .i64 (0 : Nat) ∧ ORows wr W.heap.size q [] ∧ Below W.heap.size W wr) (fun _ _ _ _ _ _ => 0)
    case atStart => exact ⟨rfl, HE0.out, HB0.out⟩
    case round =>
      obtain ⟨rfl, ho, hd⟩ := hrel
      have HO := Lib.hid ho
      have HD := Lib.hid hd
      obtain ⟨A9, c9, rfl, -⟩ := ho.reads.form
      have f0 := cell_keep hd HCX.out.1
      have f1 := cell_keep hd HCX.out.2.1
      have f2 := cell_keep hd HCX.out.2.2.1
      have f3 := cell_keep hd HCX.out.2.2.2.1
      have f4 := cell_keep hd HCX.out.2.2.2.2.1
      have f5 := cell_keep hd HCX.out.2.2.2.2.2
      clear ho hd
      by_cases hlt : 0 < h.length
      · have hlt' : ((0 : Nat) : Int) < (h.length : Int) := by omega
        go_wp2_with fail
        refine (specHomOk_any s m n h _ _ _ _ _ (Hs.out.keep HD.out) (Hm.out.keep HD.out) (Hn.out.keep HD.out) (HH.out.keep HD.out)).mono ?_
        rw [HMA.out]
        rintro x w1 ⟨rfl, hb⟩
        have HX := Lib.hid hb
        clear hb f0 f1 f2 f3 f4 f5
        go_wp2
        go_ret
        rw [HE.out]
        exact ⟨_, rfl, (HO.out.keep HX.out).base HB.out.size, sz_keep HB.out (sz_keep HD.out HX.out)⟩
      · have hlt' : ¬ ((0 : Nat) : Int) < (h.length : Int) := by omega
        go_wp2
        go_ret
        rw [HE.out]
        exact ⟨_, rfl, HO.out.base HB.out.size, sz_keep HB.out HD.out⟩
  | true =>
    have HMA := Lib.hid hma
    have HE := Lib.hid (kernel_yes hma)
    have HU := Lib.hid (hom_use hma)
    have hfew := HU.out.few
    clear hma
    go_enter Try.func20, Try.ntmps20
    go_wp2
    clear hW s0 s1 m0 m1 n0 n1
    go_loopw [9, 10, 11, 12, 13] (fun q i _ _ _ wr => ∃ k : Nat, k ≤ h.length ∧ i = .int .i64 k ∧ ORows wr W.heap.size q ((h.take k).map (fun r => placesM r r)) ∧ Below W.heap.size W wr) (fun _ i _ _ _ _ => h.length - (intOf i).toNat)
    case atStart => exact ⟨0, Nat.zero_le _, rfl, HE0.out, HB0.out⟩
    case round =>
      obtain ⟨k, hk, rfl, ho, hd⟩ := hrel
      have HD := Lib.hid hd
      have HKL := Lib.hid (show ((h.take k).map (fun r => placesM r r)).length = k by rw [List.length_map, List.length_take]; omega)
      have f0 := cell_keep hd HCX.out.1
      have f1 := cell_keep hd HCX.out.2.1
      have f2 := cell_keep hd HCX.out.2.2.1
      have f3 := cell_keep hd HCX.out.2.2.2.1
      have f4 := cell_keep hd HCX.out.2.2.2.2.1
      have f5 := cell_keep hd HCX.out.2.2.2.2.2
      by_cases hlt : k < h.length
      · have hlt' : (k : Int) < (h.length : Int) := by omega
        obtain ⟨us, hu1, hu2, hu3, hu4⟩ := ho
        have HMS := Lib.hid (map_take_succ (f := fun r => placesM r r) hlt)
        have HRW := Lib.hid (HU.out.row k hlt)
        generalize hrows : (h.take k).map (fun r => placesM r r) = rows at hu1 hu2 hu3 hu4 HKL HMS
        have HU1 := Lib.hid hu1
        have HU2 := Lib.hid hu2
        have HU3 := Lib.hid hu3
        have HU4 := Lib.hid hu4
        rw [HKL.out] at hu1
        obtain ⟨A9, c9, rfl, -⟩ := own_reads hu1
        have HUJ := Lib.hid hu1
        obtain ⟨wo, hwo⟩ : ∃ x : World, x = wr := ⟨_, rfl⟩
        subst hwo
        obtain ⟨b, o, c', ur, e, hx, hri⟩ := (HH.out.keep HD.out).at_ hlt
        cases e
        generalize h[k] = row at hx hri HRW HMS
        have HRI := Lib.hid hri
        obtain ⟨A', c'', rfl, -⟩ := hri.form
        have hr3 := HRW.out.1
        clear hri hu1 hu2 hu3 hu4 hd hrows
        go_wp2_with fail
        refine (specHomOk_any s m n h _ _ _ _ _ (Hs.out.keep HD.out) (Hm.out.keep HD.out) (Hn.out.keep HD.out) (HH.out.keep HD.out)).mono ?_
        rw [HMA.out]
        rintro x w1 ⟨rfl, hb⟩
        have HX1 := Lib.hid hb
        have HX := Lib.hid (cell_keep hb hx)
        have HR1 := Lib.hid (HRI.out.keep hb)
        clear hb f0 f1 f2 f3 f4 f5 hx
        go_wp2
        go_loopw [11, 12, 13] (fun q i _ wi => ∃ t : Nat, t ≤ row.length ∧ i = .int .i64 t ∧ OInts wi w1.heap.size q (placesM row (row.take t)) ∧ Below w1.heap.size w1 wi) (fun _ i _ _ => row.length - (intOf i).toNat)
        case atStart => exact ⟨0, Nat.zero_le _, rfl, own_empty w1, below_alloc _ _⟩
        case round =>
          obtain ⟨t, ht, rfl, hoi, hbi⟩ := hrel
          obtain ⟨wi, hwi⟩ : ∃ x : World, x = wr := ⟨_, rfl⟩
          subst hwi
          have HBI := Lib.hid hbi
          have hx := cell_keep hbi HX.out
          by_cases htl : t < row.length
          · have htl' : (t : Int) < (row.length : Int) := by omega
            obtain ⟨A8, c8, rfl, -⟩ := own_reads hoi
            have HOI := Lib.hid hoi
            obtain ⟨b7, o7, c7, e, hv7⟩ := (HR1.out.keep hbi).at_ htl
            cases e
            have HTK := Lib.hid (placesM_take (row := row) htl)
            have HFI := Lib.hid (fun (a : Nat) (ha : a < row.length) q1 q2 => firstIx_hit (row := row) (v := row[t]'htl) (k := a) ha q1 q2)
            have HNT := Lib.hid (fun (a : Nat) (ha : a < row.length) q1 q2 => not_take (row := row) (v := row[t]'htl) (k := a) ha q1 q2)
            have HLT := Lib.hid (fun (a : Nat) (q0 : a ≤ t) q1 (ha : a < row.length) q2 => firstIx_lt htl q0 q1 ha q2)
            have hpl : (placesM row (row.take t)).length = t := by rw [placesM_len, List.length_take]; omega
            have HLEN := Lib.hid hpl
            generalize placesM row (row.take t) = ps at HOI HTK HLEN
            generalize hrt : row[t] = y at hv7 HTK HFI HNT HLT
            have HRT := Lib.hid hrt
            have HC2 := Lib.hid (And.intro hx hv7)
            clear hoi hbi hpl hrt
            go_wp2
            clear hx hv7
            go_loopw [13] (fun i wj => ∃ a : Nat, a ≤ t ∧ i = .int .i64 a ∧ y ∉ row.take a ∧ Below wi.heap.size wi wj) (fun i _ => row.length - (intOf i).toNat)
            case atStart => exact ⟨0, Nat.zero_le _, rfl, by simp, Below.refl _ _⟩
            case round =>
              obtain ⟨a, ha, rfl, hna, hbj⟩ := hrel
              obtain ⟨wj, hwj⟩ : ∃ x : World, x = wr := ⟨_, rfl⟩
              subst hwj
              have HNA := Lib.hid hna
              have HBJ := Lib.hid hbj
              have hx := cell_keep hbj HC2.out.1
              have hv7 := cell_keep hbj HC2.out.2
              have hal : a < row.length := by omega
              have hal' : (a : Int) < (row.length : Int) := by omega
              obtain ⟨b6, o6, c6, e, hv6⟩ := (((HR1.out.keep HBI.out)).keep hbj).at_ hal
              cases e
              have HG := Lib.hid (fun e => HFI.out a hal HNA.out e)
              have HG2 := Lib.hid (fun e => HNT.out a hal HNA.out e)
              have HG3 := Lib.hid (fun e => HLT.out a ha HNA.out hal e)
              clear hna hbj
              generalize row[a] = z at hv6 HG HG2 HG3
              go_wp2_with fail
              refine wp_region_held_drew (S := (fun w' => w'.cell? ⟨b, o + k, none⟩ = some (.slice (some ⟨b7, o7, none⟩) row.length c'') ∧ w'.cell? ⟨b7, o7 + t, none⟩ = some (.int .i64 y) ∧ w'.cell? ⟨b7, o7 + a, none⟩ = some (.int .i64 z))) (by kernel_rfl) ?_ (fun hHeld => ?_)
              · exact ⟨hx, hv7, hv6⟩
              refine wpAnyH_take (i := 0) (oi := _) (v := ?_) rfl (by kernel_rfl) (by kernel_rfl) (by kernel_rfl) (fun _ _ _ h => h) (Or.inl ⟨by rfl, ?_⟩) (by assumption) ?_
              rotate_left
              · first | (intro w' hSw; (try dsimp only at hSw); go_simp; done) | (intro w' hSw; (try dsimp only at hSw); go_simp; with_reducible rfl)
              try simp only [Act.put, List.getElem_toArray, List.getElem_cons_zero, List.getElem_cons_succ, List.setIfInBounds_toArray, List.set_cons_zero, List.set_cons_succ]
              refine wpAnyH_take (i := 1) (oi := _) (v := ?_) rfl (by kernel_rfl) (by kernel_rfl) (by kernel_rfl) (fun _ _ _ h => h) (Or.inl ⟨by rfl, ?_⟩) (by assumption) ?_
              rotate_left
              · first | (intro w' hSw; (try dsimp only at hSw); go_simp; done) | (intro w' hSw; (try dsimp only at hSw); go_simp; with_reducible rfl)
              try simp only [Act.put, List.getElem_toArray, List.getElem_cons_zero, List.getElem_cons_succ, List.setIfInBounds_toArray, List.set_cons_zero, List.set_cons_succ]
              refine wpAnyH_take (i := 2) (oi := _) (v := ?_) rfl (by kernel_rfl) (by kernel_rfl) (by kernel_rfl) (fun _ _ _ h => h) (Or.inl ⟨by rfl, ?_⟩) (by assumption) ?_
              rotate_left
              · first | (intro w' hSw; (try dsimp only at hSw); go_simp; done) | (intro w' hSw; (try dsimp only at hSw); go_simp; with_reducible rfl)
              try simp only [Act.put, List.getElem_toArray, List.getElem_cons_zero, List.getElem_cons_succ, List.setIfInBounds_toArray, List.set_cons_zero, List.set_cons_succ]
              refine wpAnyH_take (i := 3) (oi := _) (v := ?_) rfl (by kernel_rfl) (by kernel_rfl) (by kernel_rfl) (fun _ _ _ h => h) (Or.inl ⟨by rfl, ?_⟩) (by assumption) ?_
              rotate_left
              · first | (intro w' hSw; (try dsimp only at hSw); go_simp; done) | (intro w' hSw; (try dsimp only at hSw); go_simp; with_reducible rfl)
              try simp only [Act.put, List.getElem_toArray, List.getElem_cons_zero, List.getElem_cons_succ, List.setIfInBounds_toArray, List.set_cons_zero, List.set_cons_succ]
              refine wpAnyH_take (i := 4) (oi := _) (v := ?_) rfl (by kernel_rfl) (by kernel_rfl) (by kernel_rfl) (fun _ _ _ h => h) (Or.inl ⟨by rfl, ?_⟩) (by assumption) ?_
              rotate_left
              · first | (intro w' hSw; (try dsimp only at hSw); go_simp; done) | (intro w' hSw; (try dsimp only at hSw); go_simp; with_reducible rfl)
              try simp only [Act.put, List.getElem_toArray, List.getElem_cons_zero, List.getElem_cons_succ, List.setIfInBounds_toArray, List.set_cons_zero, List.set_cons_succ]
              refine wpAnyH_take (i := 5) (oi := _) (v := ?_) rfl (by kernel_rfl) (by kernel_rfl) (by kernel_rfl) (fun _ _ _ h => h) (Or.inl ⟨by rfl, ?_⟩) (by assumption) ?_
              rotate_left
              · first | (intro w' hSw; (try dsimp only at hSw); go_simp; done) | (intro w' hSw; (try dsimp only at hSw); go_simp; with_reducible rfl)
              try simp only [Act.put, List.getElem_toArray, List.getElem_cons_zero, List.getElem_cons_succ, List.setIfInBounds_toArray, List.set_cons_zero, List.set_cons_succ]
              refine wpAnyH_take (i := 6) (oi := _) (v := ?_) rfl (by kernel_rfl) (by kernel_rfl) (by kernel_rfl) (fun _ _ _ h => h) (Or.inl ⟨by rfl, ?_⟩) (by assumption) ?_
              rotate_left
              · first | (intro w' hSw; (try dsimp only at hSw); go_simp; done) | (intro w' hSw; (try dsimp only at hSw); go_simp; with_reducible rfl)
              try simp only [Act.put, List.getElem_toArray, List.getElem_cons_zero, List.getElem_cons_succ, List.setIfInBounds_toArray, List.set_cons_zero, List.set_cons_succ]
              refine wpAnyH_take (i := 7) (oi := _) (v := ?_) rfl (by kernel_rfl) (by kernel_rfl) (by kernel_rfl) (fun _ _ _ h => h) (Or.inl ⟨by rfl, ?_⟩) (by assumption) ?_
              rotate_left
              · first | (intro w' hSw; (try dsimp only at hSw); go_simp; done) | (intro w' hSw; (try dsimp only at hSw); go_simp; with_reducible rfl)
              try simp only [Act.put, List.getElem_toArray, List.getElem_cons_zero, List.getElem_cons_succ, List.setIfInBounds_toArray, List.set_cons_zero, List.set_cons_succ]
              refine wpAnyH_take (i := 8) (oi := _) (v := ?_) rfl (by kernel_rfl) (by kernel_rfl) (by kernel_rfl) (fun _ _ _ h => h) (Or.inl ⟨by rfl, ?_⟩) (by assumption) ?_
              rotate_left
              · first | (intro w' hSw; (try dsimp only at hSw); go_simp; done) | (intro w' hSw; (try dsimp only at hSw); go_simp; with_reducible rfl)
              try simp only [Act.put, List.getElem_toArray, List.getElem_cons_zero, List.getElem_cons_succ, List.setIfInBounds_toArray, List.set_cons_zero, List.set_cons_succ]
              refine wpAnyH_take (i := 9) (oi := _) (v := ?_) rfl (by kernel_rfl) (by kernel_rfl) (by kernel_rfl) (fun _ _ _ h => h) (Or.inl ⟨by rfl, ?_⟩) (by assumption) ?_
              rotate_left
              · first | (intro w' hSw; (try dsimp only at hSw); go_simp; done) | (intro w' hSw; (try dsimp only at hSw); go_simp; with_reducible rfl)
              try simp only [Act.put, List.getElem_toArray, List.getElem_cons_zero, List.getElem_cons_succ, List.setIfInBounds_toArray, List.set_cons_zero, List.set_cons_succ]
              refine wpAnyH_take (i := 10) (oi := _) (v := ?_) rfl (by kernel_rfl) (by kernel_rfl) (by kernel_rfl) (fun _ _ _ h => h) (Or.inl ⟨by rfl, ?_⟩) (by assumption) ?_
              rotate_left
              · first | (intro w' hSw; (try dsimp only at hSw); go_simp; done) | (intro w' hSw; (try dsimp only at hSw); go_simp; with_reducible rfl)
              try simp only [Act.put, List.getElem_toArray, List.getElem_cons_zero, List.getElem_cons_succ, List.setIfInBounds_toArray, List.set_cons_zero, List.set_cons_succ]
              refine wpAnyH_take (i := 11) (oi := _) (v := ?_) rfl (by kernel_rfl) (by kernel_rfl) (by kernel_rfl) (fun _ _ _ h => h) (Or.inl ⟨by rfl, ?_⟩) (by assumption) ?_
              rotate_left
              · first | (intro w' hSw; (try dsimp only at hSw); go_simp; done) | (intro w' hSw; (try dsimp only at hSw); go_simp; with_reducible rfl)
              try simp only [Act.put, List.getElem_toArray, List.getElem_cons_zero, List.getElem_cons_succ, List.setIfInBounds_toArray, List.set_cons_zero, List.set_cons_succ]
              refine wpAnyH_take (i := 12) (oi := _) (v := ?_) rfl (by kernel_rfl) (by kernel_rfl) (by kernel_rfl) (fun _ _ _ h => h) (Or.inl ⟨by rfl, ?_⟩) (by assumption) ?_
              rotate_left
              · first | (intro w' hSw; (try dsimp only at hSw); go_simp; done) | (intro w' hSw; (try dsimp only at hSw); go_simp; with_reducible rfl)
              try simp only [Act.put, List.getElem_toArray, List.getElem_cons_zero, List.getElem_cons_succ, List.setIfInBounds_toArray, List.set_cons_zero, List.set_cons_succ]
              refine wpAnyH_take (i := 13) (oi := _) (v := ?_) rfl (by kernel_rfl) (by kernel_rfl) (by kernel_rfl) (fun _ _ _ h => h) (Or.inl ⟨by rfl, ?_⟩) (by assumption) ?_
              rotate_left
              · first | (intro w' hSw; (try dsimp only at hSw); go_simp; done) | (intro w' hSw; (try dsimp only at hSw); go_simp; with_reducible rfl)
              try simp only [Act.put, List.getElem_toArray, List.getElem_cons_zero, List.getElem_cons_succ, List.setIfInBounds_toArray, List.set_cons_zero, List.set_cons_succ]
              refine wpAnyH_take (i := 14) (oi := _) (v := ?_) rfl (by kernel_rfl) (by kernel_rfl) (by kernel_rfl) (fun _ _ _ h => h) (Or.inl ⟨by rfl, ?_⟩) (by assumption) ?_
              rotate_left
              · first | (intro w' hSw; (try dsimp only at hSw); go_simp; done) | (intro w' hSw; (try dsimp only at hSw); go_simp; with_reducible rfl)
              try simp only [Act.put, List.getElem_toArray, List.getElem_cons_zero, List.getElem_cons_succ, List.setIfInBounds_toArray, List.set_cons_zero, List.set_cons_succ]
              refine wpAnyH_done (by kernel_rfl) ?_ _
              clear hx hv7 hv6
              by_cases hzy : z = y
              · have hne : (z != y) = false := by simp [hzy]
                have HF := Lib.hid (HG.out hzy)
                have HBK := Lib.hid (map_drew HBJ.out)
                clear hzy
                generalize hwd : wj.drew = wd at HBK
                have hs1 := (sz_keep HBI.out HBK.out).size
                go_wp2_with (at_builtin; refine wpList_append_own _ rfl (.tmp 55) (.tmp 57) 25 rfl w1.heap.size 3 i0 (.int .i64 0) 1 8 Try.underlying25 hi0 hz0 hz1 hz2 rfl (by decide) _ ps.length (ps.map (Value.int .i64)) rfl (own_keep (HOI.out.keep HBK.out) (below_alloc wd _)) ⟨wd.heap.size, 0, none⟩ 1 1 ([(a : Int)].map (Value.int .i64)) rfl (by simp) (led_new wd (a : Int)) (ints_one _) (by rw [HLEN.out, maxLen_eq]; omega) (by rw [HLEN.out]; omega) (by simp; omega) ?_)
                intro v6 w6 hv6 hg6 _
                have HO6 := Lib.hid (led_app (rs := [(a : Int)]) rfl hv6)
                have HB6 := Lib.hid (fin_below (sz_keep HBI.out HBK.out) hg6 (fun k e => (own_lt HOI.out k e).1))
                obtain ⟨A6, c6, rfl, -⟩ := own_reads hv6
                clear hv6 hg6 hwd
                go_wp2
                go_roundw
                case rel => exact ⟨t + 1, by omega, by go_num, by rw [HTK.out, HF.out]; exact HO6.out, HB6.out⟩
                case measure => simp [intOf]; omega
              · have hne : (z != y) = true := by simpa using hzy
                have HF := Lib.hid (HG2.out hzy)
                have hle := HG3.out hzy
                clear hzy
                go_wp2
                go_roundw
                case rel => exact ⟨a + 1, by omega, by go_num, HF.out, map_drew HBJ.out⟩
                case measure => simp [intOf]; omega
          · have htn : t = row.length := by omega
            have htl' : ¬ (t : Int) < (row.length : Int) := by omega
            have HTA := Lib.hid (show row.take t = row from take_all (by omega))
            rw [HTA.out] at hoi
            obtain ⟨A8, c8, rfl, -⟩ := own_reads hoi
            have hpl : (placesM row row).length = row.length := placesM_len _ _
            generalize placesM row row = ps at hoi HMS
            have HOI := Lib.hid hoi
            have HX1I := Lib.hid (sz_keep HX1.out HBI.out)
            have HOO := Lib.hid (show OInts wi wo.heap.size (.slice A8 ps.length c8) ps from hoi.base HX1.out.size)
            have HPO := Lib.hid ((own_keep HUJ.out HX1I.out).alloc (.cells #[.slice A8 ps.length c8] 25))
            have HN6 := Lib.hid (news_one2 wi (.slice A8 ps.length c8) 25)
            have hs0 := HD.out.size
            have hs1 := HX1I.out.size
            clear hoi hbi hpl
            go_wp2_with (at_builtin; refine wpList_append_own _ rfl (.tmp 59) (.tmp 61) 22 rfl W.heap.size 25 i1 (.slice none 0 0) 1 24 Try.underlying22 hj hy0 hy1 hy2 rfl (by decide) _ _ _ rfl HPO.out ⟨wi.heap.size, 0, none⟩ 1 1 [.slice A8 ps.length c8] rfl rfl HN6.out (rows_one2 _) (by rw [maxLen_eq]; omega) (by omega) (by simp; omega) ?_)
            intro v7 w7 hv7 hg7 _
            have HR7 := Lib.hid (rows_made HD.out.size HX1I.out HOO.out HU1.out HU2.out HU3.out HU4.out (by rw [HKL.out]; exact hv7) hg7)
            have HB7 := Lib.hid (below_made HD.out (Nat.le_refl _) HX1I.out HU1.out hg7)
            obtain ⟨A7, c7, rfl, -⟩ := own_reads hv7
            clear hg7 hv7 hx
            go_wp2
            go_roundw
            case rel => exact ⟨k + 1, by omega, by go_num, by rw [HMS.out]; exact HR7.out, HB7.out⟩
            case measure => simp [intOf]; omega
      · have hkn : k = h.length := by omega
        have hlt' : ¬ (k : Int) < (h.length : Int) := by omega
        have HTA := Lib.hid (show h.take k = h from take_all (by omega))
        rw [HTA.out] at ho
        generalize h.map (fun r => placesM r r) = ks at ho HE
        have HO := Lib.hid ho
        obtain ⟨A9, c9, rfl, -⟩ := ho.reads.form
        clear ho hd
        go_wp2
        go_ret
        rw [HE.out]
        exact ⟨_, rfl, HO.out.base HB.out.size, sz_keep HB.out HD.out⟩
end
end Go.Proofs.Ytfomeommkfemkaa
