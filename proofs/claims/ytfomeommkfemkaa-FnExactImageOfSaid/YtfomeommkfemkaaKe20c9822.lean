/- The first places of values in rows; kernels and images of maps of models (plain). No walk. · ImageOf of package impl. · A row that a call has made, at the end of an own row of rows. · Rows of rows that grow: what all walks with append of a row need. No walk. · KernelOf of package spec. · ImageOf of package spec. -/
import Derived.Test.YtfomeommkfemkaaK1337dff9
import Derived.StillTailTactics
namespace Go.Proofs.Ytfomeommkfemkaa
section
open Go.RowKit
set_option linter.unusedVariables false
set_option linter.unusedSimpArgs false

def firstIx (row : List Int) (v : Int) : Int := if v ∈ row then (row.idxOf v : Int) else -1
theorem firstIx_hit {row : List Int} {v : Int} {k : Nat} (hk : k < row.length) (hn : v ∉ row.take k) (he : row[k] = v) : firstIx row v = k := by
  have hm : v ∈ row := he ▸ List.getElem_mem hk
  unfold firstIx
  rw [if_pos hm]
  have hs : row = row.take k ++ (v :: row.drop (k + 1)) := by
    rw [← he, ← List.drop_eq_getElem_cons hk, List.take_append_drop]
  have : row.idxOf v = k := by
    conv => lhs; rw [hs]
    rw [List.idxOf_append, if_neg hn, List.idxOf_cons_self, List.length_take]
    omega
  rw [this]
theorem firstIx_none {row : List Int} {v : Int} (hn : v ∉ row) : firstIx row v = -1 := by unfold firstIx; rw [if_neg hn]
theorem not_take {row : List Int} {v : Int} {k : Nat} (hk : k < row.length) (hn : v ∉ row.take k) (he : row[k] ≠ v) : v ∉ row.take (k + 1) := by
  rw [List.take_succ_eq_append_getElem hk]
  simp only [List.mem_append, List.mem_singleton, not_or]
  exact ⟨hn, fun e => he e.symm⟩
def placesM (row vals : List Int) : List Int := vals.map (firstIx row)
theorem placesM_len (row vals : List Int) : (placesM row vals).length = vals.length := by simp [placesM]
theorem placesM_at {row vals : List Int} {k : Nat} (hk : k < vals.length) (h : k < (placesM row vals).length) : (placesM row vals)[k] = firstIx row vals[k] := by simp [placesM]
theorem placesM_take {row vals : List Int} {k : Nat} (hk : k < vals.length) : placesM row (vals.take (k + 1)) = placesM row (vals.take k) ++ [firstIx row vals[k]] := by
  unfold placesM; rw [List.take_succ_eq_append_getElem hk, List.map_append]; rfl
def kernelM (s : MSig) (a b : MModel) (h : List (List Int)) : List (List Int) := if homB s a b h then h.map (fun r => placesM r r) else []
theorem kernel_no {s : MSig} {a b : MModel} {h : List (List Int)} (e : homB s a b h = false) : kernelM s a b h = [] := by unfold kernelM; rw [e]; rfl
theorem kernel_yes {s : MSig} {a b : MModel} {h : List (List Int)} (e : homB s a b h = true) : kernelM s a b h = h.map (fun r => placesM r r) := by unfold kernelM; rw [e]; rfl

/-- a set and one value more -/
def addV (set v : Int) : Int := if set / 2 ^ v.toNat % 2 = 0 then set + 2 ^ v.toNat else set
theorem shl_pow {v : Int} (h0 : 0 ≤ v) (h3 : v ≤ 3) : wrap64 (2 ^ min v.toNat 64) = 2 ^ v.toNat := by
  rcases (show v = 0 ∨ v = 1 ∨ v = 2 ∨ v = 3 by omega) with rfl | rfl | rfl | rfl <;> simp [wrap64]
theorem shl_wrap {v : Int} (h0 : 0 ≤ v) (h3 : v ≤ 3) : IntKind.i64.wrap (2 ^ min v.toNat 64) = 2 ^ v.toNat := by
  rcases (show v = 0 ∨ v = 1 ∨ v = 2 ∨ v = 3 by omega) with rfl | rfl | rfl | rfl <;> simp [IntKind.wrap_i64]
def setM (row : List Int) : Int := row.foldl addV 0
theorem setM_take {row : List Int} {k : Nat} (hk : k < row.length) : setM (row.take (k + 1)) = addV (setM (row.take k)) row[k] := by
  unfold setM; rw [List.take_succ_eq_append_getElem hk, List.foldl_append]; rfl
theorem val3 {v : Int} (h0 : 0 ≤ v) (h1 : v < 3) : v = 0 ∨ v = 1 ∨ v = 2 := by omega
theorem set8 {x : Int} (h0 : 0 ≤ x) (h1 : x < 8) : x = 0 ∨ x = 1 ∨ x = 2 ∨ x = 3 ∨ x = 4 ∨ x = 5 ∨ x = 6 ∨ x = 7 := by omega
theorem addV_in {x v : Int} (h0 : 0 ≤ x) (h1 : x < 8) (h2 : 0 ≤ v) (h3 : v < 3) : 0 ≤ addV x v ∧ addV x v < 8 := by
  rcases val3 h2 h3 with rfl | rfl | rfl <;> rcases set8 h0 h1 with rfl | rfl | rfl | rfl | rfl | rfl | rfl | rfl <;> decide
theorem setM_in {row : List Int} (h : ∀ x ∈ row, 0 ≤ x ∧ x < 3) : 0 ≤ setM row ∧ setM row < 8 := by
  have : ∀ (row : List Int) (x : Int), (∀ y ∈ row, 0 ≤ y ∧ y < 3) → 0 ≤ x → x < 8 → 0 ≤ row.foldl addV x ∧ row.foldl addV x < 8 := by
    intro row
    induction row with
    | nil => intro x _ a b; exact ⟨a, b⟩
    | cons y row ih =>
      intro x hx a b
      have hy := hx y (List.mem_cons_self ..)
      have := addV_in a b hy.1 hy.2
      exact ih _ (fun z hz => hx z (List.mem_cons_of_mem _ hz)) this.1 this.2
  exact this row 0 h (by omega) (by omega)
def imageM (s : MSig) (a b : MModel) (h : List (List Int)) : List Int := if homB s a b h then h.map setM else []
theorem image_no {s : MSig} {a b : MModel} {h : List (List Int)} (e : homB s a b h = false) : imageM s a b h = [] := by unfold imageM; rw [e]; rfl
theorem image_yes {s : MSig} {a b : MModel} {h : List (List Int)} (e : homB s a b h = true) : imageM s a b h = h.map setM := by unfold imageM; rw [e]; rfl
/-- what a map of models is made of -/
structure HomUse (s : MSig) (b : MModel) (h : List (List Int)) : Prop where
  sor : (h.length : Int) = s.sorts
  few : h.length ≤ 3
  row : ∀ (k : Nat) (hk : k < h.length), (h[k]).length ≤ 3 ∧ ∀ x ∈ h[k], 0 ≤ x ∧ x < 3
theorem hom_use {s : MSig} {a b : MModel} {h : List (List Int)} (e : homB s a b h = true) : HomUse s b h := by
  obtain ⟨r, -⟩ := hom_facts e
  have h1 := r.fa.sl
  have h2 := r.le.1
  have h3 := r.fa.sorts
  refine ⟨by omega, by omega, fun k hk => ?_⟩
  have hka : k < a.sizes.length := by omega
  have hkb : k < b.sizes.length := by have := r.fb.sl; omega
  have l := r.le.2 k hka
  have v := r.va k hk
  rw [getD_at _ hk] at l v
  rw [getD_at _ hkb] at v
  have za := r.fa.sz _ (List.getElem_mem hka)
  have zb := r.fb.sz _ (List.getElem_mem hkb)
  exact ⟨by omega, fun x hx => by have := v x hx; omega⟩
end

section
open Go.RowKit
set_option linter.unusedVariables false
set_option linter.unusedSimpArgs false

def imgSt (h : List (List Int)) (k : Nat) : List Int := (h.take k).map setM ++ List.replicate (h.length - k) 0
theorem imgSt_len {h : List (List Int)} {k : Nat} (hk : k ≤ h.length) : (imgSt h k).length = h.length := by unfold imgSt; simp; omega
theorem imgSt_zero (h : List (List Int)) : imgSt h 0 = List.replicate h.length 0 := by simp [imgSt]
theorem imgSt_set {h : List (List Int)} {k : Nat} (hk : k < h.length) (x : Int) : (imgSt h k).set k x = (h.take k).map setM ++ (x :: List.replicate (h.length - (k + 1)) 0) := by
  unfold imgSt
  have hl : ((h.take k).map setM).length = k := by simp; omega
  rw [List.set_append, if_neg (by omega), hl, Nat.sub_self, show h.length - k = (h.length - (k + 1)) + 1 by omega, List.replicate_succ]
  rfl
theorem imgSt_same {h : List (List Int)} {k : Nat} (hk : k < h.length) : (imgSt h k).set k 0 = imgSt h k := by
  rw [imgSt_set hk]
  unfold imgSt
  rw [show h.length - k = (h.length - (k + 1)) + 1 by omega, List.replicate_succ]
theorem imgSt_next {h : List (List Int)} {k : Nat} (hk : k < h.length) : (imgSt h k).set k (setM h[k]) = imgSt h (k + 1) := by
  rw [imgSt_set hk]
  unfold imgSt
  rw [List.take_succ_eq_append_getElem hk, List.map_append, List.append_assoc]
  rfl
theorem imgSt_end (h : List (List Int)) : imgSt h h.length = h.map setM := by simp [imgSt]
theorem or_add {x v : Int} (h0 : 0 ≤ x) (h1 : x < 8) (h2 : 0 ≤ v) (h3 : v < 3) : bits BinOp.or .i64 x (IntKind.i64.wrap (2 ^ min v.toNat 64)) = addV x v := by
  rw [shl_wrap h2 (by omega)]
  rcases val3 h2 h3 with rfl | rfl | rfl <;> rcases set8 h0 h1 with rfl | rfl | rfl | rfl | rfl | rfl | rfl | rfl <;> decide

theorem add_even {x v : Int} (h0 : 0 ≤ x) (h1 : x < 8) (h2 : 0 ≤ v) (h3 : v < 3) (h : ((x / 2 ^ min v.toNat 64).tmod 2 == 0) = true) : addV x v = wrap64 (x + wrap64 (2 ^ min v.toNat 64)) := by
  rw [shl_pow h2 (by omega)]
  rcases val3 h2 h3 with rfl | rfl | rfl <;> rcases set8 h0 h1 with rfl | rfl | rfl | rfl | rfl | rfl | rfl | rfl <;> first | (exfalso; revert h; decide) | (simp [addV, wrap64])
theorem add_odd {x v : Int} (h0 : 0 ≤ x) (h1 : x < 8) (h2 : 0 ≤ v) (h3 : v < 3) (h : ((x / 2 ^ min v.toNat 64).tmod 2 == 0) = false) : addV x v = x := by
  rcases val3 h2 h3 with rfl | rfl | rfl <;> rcases set8 h0 h1 with rfl | rfl | rfl | rfl | rfl | rfl | rfl | rfl <;> revert h <;> decide

set_option maxHeartbeats 1600000 in
set_option maxRecDepth 100000 in
theorem imageOf_any (s : MSig) (m n : MModel) (h : List (List Int)) (w : World) (v va vb vh : Value) (h1 : RSig w v s) (h2 : RModel w va m) (h3 : RModel w vb n) (h4 : RRows w vh h) :
    Calls Try.prog 27 #[v, va, vb, vh] w fun e w' => ∃ u, e = .returned u ∧ OInts w' w.heap.size u (imageM s m n h) ∧ Below w.heap.size w w' := by
  obtain ⟨Asa, csa, rfl⟩ := h1.form
  obtain ⟨Ama, cma, Amb, cmb, rfl⟩ := h2.form
  obtain ⟨Ana, cna, Anb, cnb, rfl⟩ := h3.form
  have hb : Below w.heap.size w (((w.alloc (.cells #[.int .i64 s.sorts, .slice Asa s.ops.length csa] 32)).alloc (.cells #[.slice Ama m.sizes.length cma, .slice Amb m.tables.length cmb] 34)).alloc (.cells #[.slice Ana n.sizes.length cna, .slice Anb n.tables.length cnb] 34)) := ((below_alloc _ _).alloc (by simp) _).alloc (by simp; omega) _
  have HB := Lib.hid hb
  have hsz : (((w.alloc (.cells #[.int .i64 s.sorts, .slice Asa s.ops.length csa] 32)).alloc (.cells #[.slice Ama m.sizes.length cma, .slice Amb m.tables.length cmb] 34)).alloc (.cells #[.slice Ana n.sizes.length cna, .slice Anb n.tables.length cnb] 34)).heap.size = w.heap.size + 3 := by simp
  have Hs := Lib.hid (h1.keep hb)
  have s0 := cell_keep (below_alloc ((w.alloc (.cells #[.int .i64 s.sorts, .slice Asa s.ops.length csa] 32)).alloc (.cells #[.slice Ama m.sizes.length cma, .slice Amb m.tables.length cmb] 34)) (.cells #[.slice Ana n.sizes.length cna, .slice Anb n.tables.length cnb] 34)) (cell_keep (below_alloc (w.alloc (.cells #[.int .i64 s.sorts, .slice Asa s.ops.length csa] 32)) (.cells #[.slice Ama m.sizes.length cma, .slice Amb m.tables.length cmb] 34)) (bx_at (w) #[.int .i64 s.sorts, .slice Asa s.ops.length csa] 32 (k := 0) rfl))
  have s1 := cell_keep (below_alloc ((w.alloc (.cells #[.int .i64 s.sorts, .slice Asa s.ops.length csa] 32)).alloc (.cells #[.slice Ama m.sizes.length cma, .slice Amb m.tables.length cmb] 34)) (.cells #[.slice Ana n.sizes.length cna, .slice Anb n.tables.length cnb] 34)) (cell_keep (below_alloc (w.alloc (.cells #[.int .i64 s.sorts, .slice Asa s.ops.length csa] 32)) (.cells #[.slice Ama m.sizes.length cma, .slice Amb m.tables.length cmb] 34)) (bx_at (w) #[.int .i64 s.sorts, .slice Asa s.ops.length csa] 32 (k := 1) rfl))
  have Hm := Lib.hid (h2.keep hb)
  have m0 := cell_keep (below_alloc ((w.alloc (.cells #[.int .i64 s.sorts, .slice Asa s.ops.length csa] 32)).alloc (.cells #[.slice Ama m.sizes.length cma, .slice Amb m.tables.length cmb] 34)) (.cells #[.slice Ana n.sizes.length cna, .slice Anb n.tables.length cnb] 34)) (bx_at (w.alloc (.cells #[.int .i64 s.sorts, .slice Asa s.ops.length csa] 32)) #[.slice Ama m.sizes.length cma, .slice Amb m.tables.length cmb] 34 (k := 0) rfl)
  have m1 := cell_keep (below_alloc ((w.alloc (.cells #[.int .i64 s.sorts, .slice Asa s.ops.length csa] 32)).alloc (.cells #[.slice Ama m.sizes.length cma, .slice Amb m.tables.length cmb] 34)) (.cells #[.slice Ana n.sizes.length cna, .slice Anb n.tables.length cnb] 34)) (bx_at (w.alloc (.cells #[.int .i64 s.sorts, .slice Asa s.ops.length csa] 32)) #[.slice Ama m.sizes.length cma, .slice Amb m.tables.length cmb] 34 (k := 1) rfl)
  have Hn := Lib.hid (h3.keep hb)
  have n0 := bx_at ((w.alloc (.cells #[.int .i64 s.sorts, .slice Asa s.ops.length csa] 32)).alloc (.cells #[.slice Ama m.sizes.length cma, .slice Amb m.tables.length cmb] 34)) #[.slice Ana n.sizes.length cna, .slice Anb n.tables.length cnb] 34 (k := 0) rfl
  have n1 := bx_at ((w.alloc (.cells #[.int .i64 s.sorts, .slice Asa s.ops.length csa] 32)).alloc (.cells #[.slice Ama m.sizes.length cma, .slice Amb m.tables.length cmb] 34)) #[.slice Ana n.sizes.length cna, .slice Anb n.tables.length cnb] 34 (k := 1) rfl
  simp only [World.size_alloc] at m0 m1 n0 n1
  generalize hW : ((w.alloc (.cells #[.int .i64 s.sorts, .slice Asa s.ops.length csa] 32)).alloc (.cells #[.slice Ama m.sizes.length cma, .slice Amb m.tables.length cmb] 34)).alloc (.cells #[.slice Ana n.sizes.length cna, .slice Anb n.tables.length cnb] 34) = W at HB hsz Hs s0 s1 Hm m0 m1 Hn n0 n1
  clear hb h1 h2 h3
  have HH := Lib.hid (h4.keep HB.out)
  have hhl := h4.len
  obtain ⟨Ah, ch, rfl, -⟩ := h4.form
  clear h4
  cases hma : homB s m n h with
  | false =>
    have HMA := Lib.hid hma
    have HE := Lib.hid (image_no hma)
    clear hma
    go_enter Try.func27, Try.ntmps27
    go_wp2_with fail
    clear hW
    refine (homOk_any s m n h _ _ _ _ _ Hs.out Hm.out Hn.out HH.out).mono ?_
    rw [HMA.out]
    rintro x w1 ⟨rfl, hb⟩
    replace HB := Lib.hid (sz_keep HB.out hb)
    replace s0 := cell_keep hb s0
    replace s1 := cell_keep hb s1
    replace m0 := cell_keep hb m0
    replace m1 := cell_keep hb m1
    replace n0 := cell_keep hb n0
    replace n1 := cell_keep hb n1
    replace Hs := Lib.hid (Hs.out.keep hb)
    replace Hm := Lib.hid (Hm.out.keep hb)
    replace Hn := Lib.hid (Hn.out.keep hb)
    replace HH := Lib.hid (HH.out.keep hb)
    clear hb
    go_wp2
    go_ret
    rw [HE.out]
    exact ⟨_, rfl, OInts.nil _ _, HB.out⟩
  | true =>
    have HMA := Lib.hid hma
    have HE := Lib.hid (image_yes hma)
    have HU := Lib.hid (hom_use hma)
    clear hma
    go_enter Try.func27, Try.ntmps27
    go_wp2_with fail
    clear hW
    refine (homOk_any s m n h _ _ _ _ _ Hs.out Hm.out Hn.out HH.out).mono ?_
    rw [HMA.out]
    rintro x w1 ⟨rfl, hb⟩
    replace HB := Lib.hid (sz_keep HB.out hb)
    replace s0 := cell_keep hb s0
    replace s1 := cell_keep hb s1
    replace m0 := cell_keep hb m0
    replace m1 := cell_keep hb m1
    replace n0 := cell_keep hb n0
    replace n1 := cell_keep hb n1
    replace Hs := Lib.hid (Hs.out.keep hb)
    replace Hm := Lib.hid (Hm.out.keep hb)
    replace Hn := Lib.hid (Hn.out.keep hb)
    replace HH := Lib.hid (HH.out.keep hb)
    clear hb
    have e0 := HU.out.sor
    simp only [List.getElem_toArray, List.getElem_cons_zero, ← e0] at s0
    have hfew := HU.out.few
    have hmk := run_make_row' (P := Try.prog) 25 3 (.int .i64 0) 8 Try.underlying25 Try.tinfo_int rfl .i64 .i64 h.length (by omega) (by omega)
    have hba := below_alloc w1 (.cells (madeCells #[.int .i64 0] h.length) 3)
    have hbn := World.alloc_heap_new w1 (.cells (madeCells #[.int .i64 0] h.length) 3)
    have ho0 : OInts (w1.alloc (.cells (madeCells #[.int .i64 0] h.length) 3)) w1.heap.size (.slice (some ⟨w1.heap.size, 0, none⟩) h.length h.length) (imgSt h 0) := by
      rw [imgSt_zero]
      rw [made_zero] at hbn ⊢
      have := row_owns (B := w1.heap.size) hbn (Nat.le_refl _) (by simp; omega)
      rw [List.length_replicate] at this
      exact this
    generalize hW6 : w1.alloc (.cells (madeCells #[.int .i64 0] h.length) 3) = w6 at hba ho0
    have HBA := Lib.hid hba
    have HO0 := Lib.hid ho0
    clear e0 hba hbn ho0
    go_wp2
    clear hmk hW6 s0 s1 m0 m1 n0 n1
    go_loopw [10, 11, 13, 25] (fun _ _ _ i wr => ∃ k : Nat, k ≤ h.length ∧ i = .int .i64 k ∧ OInts wr w1.heap.size (.slice (some ⟨w1.heap.size, 0, none⟩) h.length h.length) (imgSt h k) ∧ Below w1.heap.size w1 wr) (fun _ _ _ i _ => h.length - (intOf i).toNat)
    case atStart => exact ⟨0, Nat.zero_le _, rfl, HO0.out, HBA.out⟩
    case round =>
      obtain ⟨k, hk, rfl, ho, hd⟩ := hrel
      have HD := Lib.hid hd
      have HO := Lib.hid ho
      clear hd ho
      by_cases hlt : k < h.length
      · have hlt' : (k : Int) < (h.length : Int) := by omega
        obtain ⟨b, o, c', u, e, hx, hri⟩ := HH.out.at_ hlt
        cases e
        replace hx := cell_keep HD.out hx
        have HRW := Lib.hid (HU.out.row k hlt)
        have HNX := Lib.hid (imgSt_next hlt)
        have HSM := Lib.hid (imgSt_same hlt)
        have HSL := Lib.hid (imgSt_len (h := h) (k := k) hk)
        generalize h[k] = row at hx hri HRW HNX
        have HI := Lib.hid hri
        obtain ⟨A', c'', rfl, -⟩ := hri.form
        have hr3 := HRW.out.1
        generalize imgSt h k = base at HO HNX HSM HSL
        clear hri
        go_wp2
        clear hx
        go_loopw [13, 32] (fun _ i wk => ∃ j : Nat, j ≤ row.length ∧ i = .int .i64 j ∧ OInts wk w1.heap.size (.slice (some ⟨w1.heap.size, 0, none⟩) h.length h.length) (base.set k (setM (row.take j))) ∧ Below w1.heap.size w1 wk) (fun _ i _ => row.length - (intOf i).toNat)
        case atStart => exact ⟨0, Nat.zero_le _, rfl, by rw [show setM (row.take 0) = 0 from rfl, HSM.out]; exact HO.out, HD.out⟩
        case round =>
          obtain ⟨j, hj, rfl, hoj, hdk⟩ := hrel
          obtain ⟨wk, hwk⟩ : ∃ x : World, x = wr := ⟨_, rfl⟩
          subst hwk
          by_cases hjt : j < row.length
          · have hjt' : (j : Int) < (row.length : Int) := by omega
            obtain ⟨b7, o7, c7, e, hv7⟩ := (HI.out.keep hdk).at_ hjt
            cases e
            have HTK := Lib.hid (setM_take hjt)
            have HVX := Lib.hid (HRW.out.2 _ (List.getElem_mem hjt))
            have HSI := Lib.hid (setM_in (row := row.take j) (fun x hx => HRW.out.2 x (List.mem_of_mem_take hx)))
            generalize row[j] = y at hv7 HTK HVX
            generalize setM (row.take j) = x at hoj HTK HSI
            have hkb : k < (base.set k x).length := by rw [List.length_set, HSL.out]; exact hlt
            obtain ⟨c1, c2⟩ := own_cell hoj hkb
            rw [List.getElem_set_self] at c1
            have hor : bits BinOp.or .i64 x (IntKind.i64.wrap (2 ^ min y.toNat 64)) = addV x y := or_add HSI.out.1 HSI.out.2 HVX.out.1 HVX.out.2
            replace c1 : wk.drew.cell? ⟨w1.heap.size, k, none⟩ = some (.int .i64 x) := c1
            replace c2 : wk.drew.frozen? ⟨w1.heap.size, k, none⟩ = false := c2
            obtain ⟨o1, g1⟩ := own_set hoj (by rw [List.length_set, HSL.out]) k (addV x y)
            rw [List.set_set] at o1
            have HO1 := Lib.hid (own_drew2 o1)
            have HG1 := Lib.hid (grown_drew2 g1)
            have HDK := Lib.hid hdk
            have hy0 : (0 : Int) ≤ y := HVX.out.1
            clear hoj hdk o1 g1
            go_wp2_with fail
            go_still_tail 8, (by kernel_rfl)
            change wpList _ _ _ _ _ wk.drew
            generalize wk.drew = w2 at HO1 HG1 c1 c2
            go_wp2
            go_roundw
            case rel => exact ⟨j + 1, by omega, by go_num, by rw [HTK.out]; exact HO1.out, HDK.out.grown HG1.out HDK.out.size (fun k e => by cases e; exact Nat.le_refl _)⟩
            case measure => simp [intOf]; omega
          · have hjn : j = row.length := by omega
            have hjt' : ¬ (j : Int) < (row.length : Int) := by omega
            have HT := Lib.hid (show row.take j = row from take_all (by omega))
            rw [HT.out, HNX.out] at hoj
            have HOJ := Lib.hid hoj
            have HDK := Lib.hid hdk
            clear hoj hdk
            go_wp2
            go_roundw
            case rel => exact ⟨k + 1, by omega, by go_num, HOJ.out, HDK.out⟩
            case measure => simp [intOf]; omega
      · have hkn : k = h.length := by omega
        have hlt' : ¬ (k : Int) < (h.length : Int) := by omega
        go_wp2
        go_ret
        have HF := HO.out
        rw [hkn, imgSt_end] at HF
        rw [HE.out]
        exact ⟨_, rfl, HF.base HB.out.size, sz_keep HB.out HD.out⟩
end

section
open Go.RowKit
set_option linter.unusedVariables false

theorem rows_made {wr w6 w7 : World} {B : Nat} {u v' rv : Value} {rows : List (List Int)} {row : List Int} {us : List Value} (hB : B ≤ wr.heap.size) (hb : Below wr.heap.size wr w6) (hr : OInts w6 wr.heap.size rv row)
    (h1 : wr.ownsRow B 25 1 u rows.length us) (h2 : us.length = rows.length)
    (h3 : ∀ (j : Nat) (u : Value) (row : List Int), us[j]? = some u → rows[j]? = some row → OInts wr B u row) (h4 : ∀ (i j : Nat) (u u' : Value), i < j → us[i]? = some u → us[j]? = some u' → u.ownBlock = none ∨ u.ownBlock ≠ u'.ownBlock)
    (hv' : w7.ownsRow B 25 1 v' (rows.length + 1) (us ++ [rv])) (hg : (w6.alloc (.cells #[rv] 25)).grownBy w7 u.ownBlock) : ORows w7 B v' (rows ++ [row]) := by
  refine ORows.push (w := w6.alloc (.cells #[rv] 25)) ((own_keep h1 hb).alloc _) h2 (fun j x r a b => World.ownsRow.alloc (own_keep (h3 j x r a b) hb) _) h4 (World.ownsRow.alloc (OInts.base hr hB) _) (fun i x hx => ?_) hg hv'
  have hi : i < us.length := (List.getElem?_eq_some_iff.1 hx).1
  have hxo := h3 i x rows[i] hx (List.getElem?_eq_getElem (by omega))
  cases hbx : x.ownBlock with
  | none => exact .inl rfl
  | some k =>
    right
    intro e
    have a := (own_lt hxo k hbx).2
    have b := (own_lt hr k e.symm).1
    omega
theorem below_made {w wr w6 w7 : World} {B : Nat} {u rv : Value} {n : Nat} {us : List Value} (hw : Below B w wr) (hB : B ≤ w.heap.size) (hb : Below wr.heap.size wr w6) (h1 : wr.ownsRow B 25 1 u n us)
    (hg : (w6.alloc (.cells #[rv] 25)).grownBy w7 u.ownBlock) : Below B w w7 := by
  have s1 := hw.size
  have s2 := hb.size
  exact ((hw.trans (hb.mono (by omega))).alloc (by omega) _).grown hg (by simp; omega) (fun k e => (own_lt h1 k e).1)
end

section
open Go.RowKit
set_option linter.unusedVariables false

theorem news_one2 (w : World) (x : Value) (t : TypeId) : ∀ (j : Nat) (u : Value), [x][j]? = some u → (w.alloc (.cells #[x] t)).cell? ((⟨w.heap.size, 0, none⟩ : Addr).add j) = some u := by
  intro j u hj
  match j, hj with
  | 0, hj =>
    simp at hj
    subst hj
    rw [show (⟨w.heap.size, 0, none⟩ : Addr).add 0 = ⟨w.heap.size, 0, none⟩ from rfl, World.cell?_alloc_at _ _ _ _ rfl]
    rfl
theorem rows_one2 {A : Option Addr} {n c : Nat} (x : Value) (hx : x = .slice A n c := by rfl) : ∀ u ∈ [x], u.oneCell' = true := by
  intro u hu; simp at hu; subst hu; subst hx; rfl
theorem own_emptyR2 (w : World) : w.alloc (.cells #[] 25) |>.ownsRow w.heap.size 25 1 (.slice (some ⟨w.heap.size, 0, none⟩) 0 0) 0 [] := World.ownsRow_lit w #[] 0 (Nat.le_refl _) (Nat.zero_le _) rfl
theorem ORows.empty2 (w : World) : ORows (w.alloc (.cells #[] 25)) w.heap.size (.slice (some ⟨w.heap.size, 0, none⟩) 0 0) [] := ⟨[], own_emptyR2 w, rfl, fun j u row h => by simp at h, fun i j u u' _ h => by simp at h⟩

theorem bel_grow2 {w w2 : World} {o : Obj} {A : Option Addr} {n c : Nat} (h : (w.alloc o).grownBy w2 (Value.slice A n c).ownBlock) (hr : ∀ k, (Value.slice A n c).ownBlock = some k → w.heap.size ≤ k) : Below w.heap.size w w2 :=
  (below_alloc w o).trans ⟨h.os, h.tape, h.output, h.size, fun k hk => h.block k (Nat.lt_of_lt_of_le hk (by simp)) (fun e => by have := hr k e.symm; omega)⟩
end

section
open Go.RowKit
set_option linter.unusedVariables false
set_option linter.unusedSimpArgs false

theorem map_take_succ {α β : Type} {xs : List α} {f : α → β} {k : Nat} (hk : k < xs.length) : (xs.take (k + 1)).map f = (xs.take k).map f ++ [f xs[k]] := by
  rw [List.take_succ_eq_append_getElem hk, List.map_append]; rfl
theorem firstIx_lt {row : List Int} {t a : Nat} (ht : t < row.length) (ha : a ≤ t) (hn : row[t] ∉ row.take a) (hlt : a < row.length) (hne : row[a] ≠ row[t]) : a + 1 ≤ t := by
  by_cases e : a = t
  · subst e; exact absurd rfl hne
  · omega

set_option maxHeartbeats 3200000 in
set_option maxRecDepth 100000 in
theorem specKernelOf_any (s : MSig) (m n : MModel) (h : List (List Int)) (w : World) (v va vb vh : Value) (h1 : RSig w v s) (h2 : RModel w va m) (h3 : RModel w vb n) (h4 : RRows w vh h) :
    Calls Try.prog 20 #[v, va, vb, vh] w fun e w' => ∃ u, e = .returned u ∧ ORows w' w.heap.size u (kernelM s m n h) ∧ Below w.heap.size w w' := by
  obtain ⟨i0, hi0, hz0, hz1, hz2⟩ := info_parts Try.tinfo_int
  obtain ⟨i1, hj, hy0, hy1, hy2⟩ := info_parts Try.tinfo_ints
  obtain ⟨Asa, csa, rfl⟩ := h1.form
  obtain ⟨Ama, cma, Amb, cmb, rfl⟩ := h2.form
  obtain ⟨Ana, cna, Anb, cnb, rfl⟩ := h3.form
  have hb : Below w.heap.size w (((w.alloc (.cells #[.int .i64 s.sorts, .slice Asa s.ops.length csa] 32)).alloc (.cells #[.slice Ama m.sizes.length cma, .slice Amb m.tables.length cmb] 34)).alloc (.cells #[.slice Ana n.sizes.length cna, .slice Anb n.tables.length cnb] 34)) := ((below_alloc _ _).alloc (by simp) _).alloc (by simp; omega) _
  have HB := Lib.hid hb
  have hsz : (((w.alloc (.cells #[.int .i64 s.sorts, .slice Asa s.ops.length csa] 32)).alloc (.cells #[.slice Ama m.sizes.length cma, .slice Amb m.tables.length cmb] 34)).alloc (.cells #[.slice Ana n.sizes.length cna, .slice Anb n.tables.length cnb] 34)).heap.size = w.heap.size + 3 := by simp
  have Hs := Lib.hid (h1.keep hb)
  have s0 := cell_keep (below_alloc ((w.alloc (.cells #[.int .i64 s.sorts, .slice Asa s.ops.length csa] 32)).alloc (.cells #[.slice Ama m.sizes.length cma, .slice Amb m.tables.length cmb] 34)) (.cells #[.slice Ana n.sizes.length cna, .slice Anb n.tables.length cnb] 34)) (cell_keep (below_alloc (w.alloc (.cells #[.int .i64 s.sorts, .slice Asa s.ops.length csa] 32)) (.cells #[.slice Ama m.sizes.length cma, .slice Amb m.tables.length cmb] 34)) (bx_at (w) #[.int .i64 s.sorts, .slice Asa s.ops.length csa] 32 (k := 0) rfl))
  have s1 := cell_keep (below_alloc ((w.alloc (.cells #[.int .i64 s.sorts, .slice Asa s.ops.length csa] 32)).alloc (.cells #[.slice Ama m.sizes.length cma, .slice Amb m.tables.length cmb] 34)) (.cells #[.slice Ana n.sizes.length cna, .slice Anb n.tables.length cnb] 34)) (cell_keep (below_alloc (w.alloc (.cells #[.int .i64 s.sorts, .slice Asa s.ops.length csa] 32)) (.cells #[.slice Ama m.sizes.length cma, .slice Amb m.tables.length cmb] 34)) (bx_at (w) #[.int .i64 s.sorts, .slice Asa s.ops.length csa] 32 (k := 1) rfl))
  have Hm := Lib.hid (h2.keep hb)
  have m0 := cell_keep (below_alloc ((w.alloc (.cells #[.int .i64 s.sorts, .slice Asa s.ops.length csa] 32)).alloc (.cells #[.slice Ama m.sizes.length cma, .slice Amb m.tables.length cmb] 34)) (.cells #[.slice Ana n.sizes.length cna, .slice Anb n.tables.length cnb] 34)) (bx_at (w.alloc (.cells #[.int .i64 s.sorts, .slice Asa s.ops.length csa] 32)) #[.slice Ama m.sizes.length cma, .slice Amb m.tables.length cmb] 34 (k := 0) rfl)
  have m1 := cell_keep (below_alloc ((w.alloc (.cells #[.int .i64 s.sorts, .slice Asa s.ops.length csa] 32)).alloc (.cells #[.slice Ama m.sizes.length cma, .slice Amb m.tables.length cmb] 34)) (.cells #[.slice Ana n.sizes.length cna, .slice Anb n.tables.length cnb] 34)) (bx_at (w.alloc (.cells #[.int .i64 s.sorts, .slice Asa s.ops.length csa] 32)) #[.slice Ama m.sizes.length cma, .slice Amb m.tables.length cmb] 34 (k := 1) rfl)
  have Hn := Lib.hid (h3.keep hb)
  have n0 := bx_at ((w.alloc (.cells #[.int .i64 s.sorts, .slice Asa s.ops.length csa] 32)).alloc (.cells #[.slice Ama m.sizes.length cma, .slice Amb m.tables.length cmb] 34)) #[.slice Ana n.sizes.length cna, .slice Anb n.tables.length cnb] 34 (k := 0) rfl
  have n1 := bx_at ((w.alloc (.cells #[.int .i64 s.sorts, .slice Asa s.ops.length csa] 32)).alloc (.cells #[.slice Ama m.sizes.length cma, .slice Amb m.tables.length cmb] 34)) #[.slice Ana n.sizes.length cna, .slice Anb n.tables.length cnb] 34 (k := 1) rfl
  simp only [World.size_alloc] at m0 m1 n0 n1
  generalize hW : ((w.alloc (.cells #[.int .i64 s.sorts, .slice Asa s.ops.length csa] 32)).alloc (.cells #[.slice Ama m.sizes.length cma, .slice Amb m.tables.length cmb] 34)).alloc (.cells #[.slice Ana n.sizes.length cna, .slice Anb n.tables.length cnb] 34) = W at HB hsz Hs s0 s1 Hm m0 m1 Hn n0 n1
  clear hb h1 h2 h3
  have HH := Lib.hid (h4.keep HB.out)
  have hhl := h4.len
  obtain ⟨Ah, ch, rfl, -⟩ := h4.form
  have HE0 := Lib.hid (ORows.empty2 W)
  have HB0 := Lib.hid (below_alloc W (.cells #[] 25))
  have HSZ := Lib.hid hsz
  clear hsz
  have HCX := Lib.hid (And.intro s0 (And.intro s1 (And.intro m0 (And.intro m1 (And.intro n0 n1)))))
  clear h4
  cases hma : homB s m n h with
  | false =>
    have HMA := Lib.hid hma
    have HE := Lib.hid (kernel_no hma)
    clear hma
    go_enter Try.func20, Try.ntmps20
    go_wp2
    clear hW s0 s1 m0 m1 n0 n1
    go_loopw [9, 10, 11, 12, 13] (fun q i _ _ _ wr => i = .int .i64 (0 : Nat) ∧ ORows wr W.heap.size q [] ∧ Below W.heap.size W wr) (fun _ _ _ _ _ _ => 0)
    case atStart => exact ⟨rfl, HE0.out, HB0.out⟩
    case round =>
      obtain ⟨rfl, ho, hd⟩ := hrel
      have HO := Lib.hid ho
      have HD := Lib.hid hd
      obtain ⟨A9, c9, rfl, -⟩ := ho.reads.form
      have f0 := cell_keep hd HCX.out.1
      have f1 := cell_keep hd HCX.out.2.1
      have f2 := cell_keep hd HCX.out.2.2.1
      have f3 := cell_keep hd HCX.out.2.2.2.1
      have f4 := cell_keep hd HCX.out.2.2.2.2.1
      have f5 := cell_keep hd HCX.out.2.2.2.2.2
      clear ho hd
      by_cases hlt : 0 < h.length
      · have hlt' : ((0 : Nat) : Int) < (h.length : Int) := by omega
        go_wp2_with fail
        refine (specHomOk_any s m n h _ _ _ _ _ (Hs.out.keep HD.out) (Hm.out.keep HD.out) (Hn.out.keep HD.out) (HH.out.keep HD.out)).mono ?_
        rw [HMA.out]
        rintro x w1 ⟨rfl, hb⟩
        have HX := Lib.hid hb
        clear hb f0 f1 f2 f3 f4 f5
        go_wp2
        go_ret
        rw [HE.out]
        exact ⟨_, rfl, (HO.out.keep HX.out).base HB.out.size, sz_keep HB.out (sz_keep HD.out HX.out)⟩
      · have hlt' : ¬ ((0 : Nat) : Int) < (h.length : Int) := by omega
        go_wp2
        go_ret
        rw [HE.out]
        exact ⟨_, rfl, HO.out.base HB.out.size, sz_keep HB.out HD.out⟩
  | true =>
    have HMA := Lib.hid hma
    have HE := Lib.hid (kernel_yes hma)
    have HU := Lib.hid (hom_use hma)
    have hfew := HU.out.few
    clear hma
    go_enter Try.func20, Try.ntmps20
    go_wp2
    clear hW s0 s1 m0 m1 n0 n1
    go_loopw [9, 10, 11, 12, 13] (fun q i _ _ _ wr => ∃ k : Nat, k ≤ h.length ∧ i = .int .i64 k ∧ ORows wr W.heap.size q ((h.take k).map (fun r => placesM r r)) ∧ Below W.heap.size W wr) (fun _ i _ _ _ _ => h.length - (intOf i).toNat)
    case atStart => exact ⟨0, Nat.zero_le _, rfl, HE0.out, HB0.out⟩
    case round =>
      obtain ⟨k, hk, rfl, ho, hd⟩ := hrel
      have HD := Lib.hid hd
      have HKL := Lib.hid (show ((h.take k).map (fun r => placesM r r)).length = k by rw [List.length_map, List.length_take]; omega)
      have f0 := cell_keep hd HCX.out.1
      have f1 := cell_keep hd HCX.out.2.1
      have f2 := cell_keep hd HCX.out.2.2.1
      have f3 := cell_keep hd HCX.out.2.2.2.1
      have f4 := cell_keep hd HCX.out.2.2.2.2.1
      have f5 := cell_keep hd HCX.out.2.2.2.2.2
      by_cases hlt : k < h.length
      · have hlt' : (k : Int) < (h.length : Int) := by omega
        obtain ⟨us, hu1, hu2, hu3, hu4⟩ := ho
        have HMS := Lib.hid (map_take_succ (f := fun r => placesM r r) hlt)
        have HRW := Lib.hid (HU.out.row k hlt)
        generalize hrows : (h.take k).map (fun r => placesM r r) = rows at hu1 hu2 hu3 hu4 HKL HMS
        have HU1 := Lib.hid hu1
        have HU2 := Lib.hid hu2
        have HU3 := Lib.hid hu3
        have HU4 := Lib.hid hu4
        rw [HKL.out] at hu1
        obtain ⟨A9, c9, rfl, -⟩ := own_reads hu1
        have HUJ := Lib.hid hu1
        obtain ⟨wo, hwo⟩ : ∃ x : World, x = wr := ⟨_, rfl⟩
        subst hwo
        obtain ⟨b, o, c', ur, e, hx, hri⟩ := (HH.out.keep HD.out).at_ hlt
        cases e
        generalize h[k] = row at hx hri HRW HMS
        have HRI := Lib.hid hri
        obtain ⟨A', c'', rfl, -⟩ := hri.form
        have hr3 := HRW.out.1
        clear hri hu1 hu2 hu3 hu4 hd hrows
        go_wp2_with fail
        refine (specHomOk_any s m n h _ _ _ _ _ (Hs.out.keep HD.out) (Hm.out.keep HD.out) (Hn.out.keep HD.out) (HH.out.keep HD.out)).mono ?_
        rw [HMA.out]
        rintro x w1 ⟨rfl, hb⟩
        have HX1 := Lib.hid hb
        have HX := Lib.hid (cell_keep hb hx)
        have HR1 := Lib.hid (HRI.out.keep hb)
        clear hb f0 f1 f2 f3 f4 f5 hx
        go_wp2
        go_loopw [11, 12, 13] (fun q i _ wi => ∃ t : Nat, t ≤ row.length ∧ i = .int .i64 t ∧ OInts wi w1.heap.size q (placesM row (row.take t)) ∧ Below w1.heap.size w1 wi) (fun _ i _ _ => row.length - (intOf i).toNat)
        case atStart => exact ⟨0, Nat.zero_le _, rfl, own_empty w1, below_alloc _ _⟩
        case round =>
          obtain ⟨t, ht, rfl, hoi, hbi⟩ := hrel
          obtain ⟨wi, hwi⟩ : ∃ x : World, x = wr := ⟨_, rfl⟩
          subst hwi
          have HBI := Lib.hid hbi
          have hx := cell_keep hbi HX.out
          by_cases htl : t < row.length
          · have htl' : (t : Int) < (row.length : Int) := by omega
            obtain ⟨A8, c8, rfl, -⟩ := own_reads hoi
            have HOI := Lib.hid hoi
            obtain ⟨b7, o7, c7, e, hv7⟩ := (HR1.out.keep hbi).at_ htl
            cases e
            have HTK := Lib.hid (placesM_take (row := row) htl)
            have HFI := Lib.hid (fun (a : Nat) (ha : a < row.length) q1 q2 => firstIx_hit (row := row) (v := row[t]'htl) (k := a) ha q1 q2)
            have HNT := Lib.hid (fun (a : Nat) (ha : a < row.length) q1 q2 => not_take (row := row) (v := row[t]'htl) (k := a) ha q1 q2)
            have HLT := Lib.hid (fun (a : Nat) (q0 : a ≤ t) q1 (ha : a < row.length) q2 => firstIx_lt htl q0 q1 ha q2)
            have hpl : (placesM row (row.take t)).length = t := by rw [placesM_len, List.length_take]; omega
            have HLEN := Lib.hid hpl
            generalize placesM row (row.take t) = ps at HOI HTK HLEN
            generalize hrt : row[t] = y at hv7 HTK HFI HNT HLT
            have HRT := Lib.hid hrt
            have HC2 := Lib.hid (And.intro hx hv7)
            clear hoi hbi hpl hrt
            go_wp2
            clear hx hv7
            go_loopw [13] (fun i wj => ∃ a : Nat, a ≤ t ∧ i = .int .i64 a ∧ y ∉ row.take a ∧ Below wi.heap.size wi wj) (fun i _ => row.length - (intOf i).toNat)
            case atStart => exact ⟨0, Nat.zero_le _, rfl, by simp, Below.refl _ _⟩
            case round =>
              obtain ⟨a, ha, rfl, hna, hbj⟩ := hrel
              obtain ⟨wj, hwj⟩ : ∃ x : World, x = wr := ⟨_, rfl⟩
              subst hwj
              have HNA := Lib.hid hna
              have HBJ := Lib.hid hbj
              have hx := cell_keep hbj HC2.out.1
              have hv7 := cell_keep hbj HC2.out.2
              have hal : a < row.length := by omega
              have hal' : (a : Int) < (row.length : Int) := by omega
              obtain ⟨b6, o6, c6, e, hv6⟩ := (((HR1.out.keep HBI.out)).keep hbj).at_ hal
              cases e
              have HG := Lib.hid (fun e => HFI.out a hal HNA.out e)
              have HG2 := Lib.hid (fun e => HNT.out a hal HNA.out e)
              have HG3 := Lib.hid (fun e => HLT.out a ha HNA.out hal e)
              clear hna hbj
              generalize row[a] = z at hv6 HG HG2 HG3
              go_wp2_with fail
              refine wp_region_held_drew (S := (fun w' => w'.cell? ⟨b, o + k, none⟩ = some (.slice (some ⟨b7, o7, none⟩) row.length c'') ∧ w'.cell? ⟨b7, o7 + t, none⟩ = some (.int .i64 y) ∧ w'.cell? ⟨b7, o7 + a, none⟩ = some (.int .i64 z))) (by kernel_rfl) ?_ (fun hHeld => ?_)
              · exact ⟨hx, hv7, hv6⟩
              refine wpAnyH_take (i := 0) (oi := _) (v := ?_) rfl (by kernel_rfl) (by kernel_rfl) (by kernel_rfl) (fun _ _ _ h => h) (Or.inl ⟨by rfl, ?_⟩) (by assumption) ?_
              rotate_left
              · first | (intro w' hSw; (try dsimp only at hSw); go_simp; done) | (intro w' hSw; (try dsimp only at hSw); go_simp; with_reducible rfl)
              try simp only [Act.put, List.getElem_toArray, List.getElem_cons_zero, List.getElem_cons_succ, List.setIfInBounds_toArray, List.set_cons_zero, List.set_cons_succ]
              refine wpAnyH_take (i := 1) (oi := _) (v := ?_) rfl (by kernel_rfl) (by kernel_rfl) (by kernel_rfl) (fun _ _ _ h => h) (Or.inl ⟨by rfl, ?_⟩) (by assumption) ?_
              rotate_left
              · first | (intro w' hSw; (try dsimp only at hSw); go_simp; done) | (intro w' hSw; (try dsimp only at hSw); go_simp; with_reducible rfl)
              try simp only [Act.put, List.getElem_toArray, List.getElem_cons_zero, List.getElem_cons_succ, List.setIfInBounds_toArray, List.set_cons_zero, List.set_cons_succ]
              refine wpAnyH_take (i := 2) (oi := _) (v := ?_) rfl (by kernel_rfl) (by kernel_rfl) (by kernel_rfl) (fun _ _ _ h => h) (Or.inl ⟨by rfl, ?_⟩) (by assumption) ?_
              rotate_left
              · first | (intro w' hSw; (try dsimp only at hSw); go_simp; done) | (intro w' hSw; (try dsimp only at hSw); go_simp; with_reducible rfl)
              try simp only [Act.put, List.getElem_toArray, List.getElem_cons_zero, List.getElem_cons_succ, List.setIfInBounds_toArray, List.set_cons_zero, List.set_cons_succ]
              refine wpAnyH_take (i := 3) (oi := _) (v := ?_) rfl (by kernel_rfl) (by kernel_rfl) (by kernel_rfl) (fun _ _ _ h => h) (Or.inl ⟨by rfl, ?_⟩) (by assumption) ?_
              rotate_left
              · first | (intro w' hSw; (try dsimp only at hSw); go_simp; done) | (intro w' hSw; (try dsimp only at hSw); go_simp; with_reducible rfl)
              try simp only [Act.put, List.getElem_toArray, List.getElem_cons_zero, List.getElem_cons_succ, List.setIfInBounds_toArray, List.set_cons_zero, List.set_cons_succ]
              refine wpAnyH_take (i := 4) (oi := _) (v := ?_) rfl (by kernel_rfl) (by kernel_rfl) (by kernel_rfl) (fun _ _ _ h => h) (Or.inl ⟨by rfl, ?_⟩) (by assumption) ?_
              rotate_left
              · first | (intro w' hSw; (try dsimp only at hSw); go_simp; done) | (intro w' hSw; (try dsimp only at hSw); go_simp; with_reducible rfl)
              try simp only [Act.put, List.getElem_toArray, List.getElem_cons_zero, List.getElem_cons_succ, List.setIfInBounds_toArray, List.set_cons_zero, List.set_cons_succ]
              refine wpAnyH_take (i := 5) (oi := _) (v := ?_) rfl (by kernel_rfl) (by kernel_rfl) (by kernel_rfl) (fun _ _ _ h => h) (Or.inl ⟨by rfl, ?_⟩) (by assumption) ?_
              rotate_left
              · first | (intro w' hSw; (try dsimp only at hSw); go_simp; done) | (intro w' hSw; (try dsimp only at hSw); go_simp; with_reducible rfl)
              try simp only [Act.put, List.getElem_toArray, List.getElem_cons_zero, List.getElem_cons_succ, List.setIfInBounds_toArray, List.set_cons_zero, List.set_cons_succ]
              refine wpAnyH_take (i := 6) (oi := _) (v := ?_) rfl (by kernel_rfl) (by kernel_rfl) (by kernel_rfl) (fun _ _ _ h => h) (Or.inl ⟨by rfl, ?_⟩) (by assumption) ?_
              rotate_left
              · first | (intro w' hSw; (try dsimp only at hSw); go_simp; done) | (intro w' hSw; (try dsimp only at hSw); go_simp; with_reducible rfl)
              try simp only [Act.put, List.getElem_toArray, List.getElem_cons_zero, List.getElem_cons_succ, List.setIfInBounds_toArray, List.set_cons_zero, List.set_cons_succ]
              refine wpAnyH_take (i := 7) (oi := _) (v := ?_) rfl (by kernel_rfl) (by kernel_rfl) (by kernel_rfl) (fun _ _ _ h => h) (Or.inl ⟨by rfl, ?_⟩) (by assumption) ?_
              rotate_left
              · first | (intro w' hSw; (try dsimp only at hSw); go_simp; done) | (intro w' hSw; (try dsimp only at hSw); go_simp; with_reducible rfl)
              try simp only [Act.put, List.getElem_toArray, List.getElem_cons_zero, List.getElem_cons_succ, List.setIfInBounds_toArray, List.set_cons_zero, List.set_cons_succ]
              refine wpAnyH_take (i := 8) (oi := _) (v := ?_) rfl (by kernel_rfl) (by kernel_rfl) (by kernel_rfl) (fun _ _ _ h => h) (Or.inl ⟨by rfl, ?_⟩) (by assumption) ?_
              rotate_left
              · first | (intro w' hSw; (try dsimp only at hSw); go_simp; done) | (intro w' hSw; (try dsimp only at hSw); go_simp; with_reducible rfl)
              try simp only [Act.put, List.getElem_toArray, List.getElem_cons_zero, List.getElem_cons_succ, List.setIfInBounds_toArray, List.set_cons_zero, List.set_cons_succ]
              refine wpAnyH_take (i := 9) (oi := _) (v := ?_) rfl (by kernel_rfl) (by kernel_rfl) (by kernel_rfl) (fun _ _ _ h => h) (Or.inl ⟨by rfl, ?_⟩) (by assumption) ?_
              rotate_left
              · first | (intro w' hSw; (try dsimp only at hSw); go_simp; done) | (intro w' hSw; (try dsimp only at hSw); go_simp; with_reducible rfl)
              try simp only [Act.put, List.getElem_toArray, List.getElem_cons_zero, List.getElem_cons_succ, List.setIfInBounds_toArray, List.set_cons_zero, List.set_cons_succ]
              refine wpAnyH_take (i := 10) (oi := _) (v := ?_) rfl (by kernel_rfl) (by kernel_rfl) (by kernel_rfl) (fun _ _ _ h => h) (Or.inl ⟨by rfl, ?_⟩) (by assumption) ?_
              rotate_left
              · first | (intro w' hSw; (try dsimp only at hSw); go_simp; done) | (intro w' hSw; (try dsimp only at hSw); go_simp; with_reducible rfl)
              try simp only [Act.put, List.getElem_toArray, List.getElem_cons_zero, List.getElem_cons_succ, List.setIfInBounds_toArray, List.set_cons_zero, List.set_cons_succ]
              refine wpAnyH_take (i := 11) (oi := _) (v := ?_) rfl (by kernel_rfl) (by kernel_rfl) (by kernel_rfl) (fun _ _ _ h => h) (Or.inl ⟨by rfl, ?_⟩) (by assumption) ?_
              rotate_left
              · first | (intro w' hSw; (try dsimp only at hSw); go_simp; done) | (intro w' hSw; (try dsimp only at hSw); go_simp; with_reducible rfl)
              try simp only [Act.put, List.getElem_toArray, List.getElem_cons_zero, List.getElem_cons_succ, List.setIfInBounds_toArray, List.set_cons_zero, List.set_cons_succ]
              refine wpAnyH_take (i := 12) (oi := _) (v := ?_) rfl (by kernel_rfl) (by kernel_rfl) (by kernel_rfl) (fun _ _ _ h => h) (Or.inl ⟨by rfl, ?_⟩) (by assumption) ?_
              rotate_left
              · first | (intro w' hSw; (try dsimp only at hSw); go_simp; done) | (intro w' hSw; (try dsimp only at hSw); go_simp; with_reducible rfl)
              try simp only [Act.put, List.getElem_toArray, List.getElem_cons_zero, List.getElem_cons_succ, List.setIfInBounds_toArray, List.set_cons_zero, List.set_cons_succ]
              refine wpAnyH_take (i := 13) (oi := _) (v := ?_) rfl (by kernel_rfl) (by kernel_rfl) (by kernel_rfl) (fun _ _ _ h => h) (Or.inl ⟨by rfl, ?_⟩) (by assumption) ?_
              rotate_left
              · first | (intro w' hSw; (try dsimp only at hSw); go_simp; done) | (intro w' hSw; (try dsimp only at hSw); go_simp; with_reducible rfl)
              try simp only [Act.put, List.getElem_toArray, List.getElem_cons_zero, List.getElem_cons_succ, List.setIfInBounds_toArray, List.set_cons_zero, List.set_cons_succ]
              refine wpAnyH_take (i := 14) (oi := _) (v := ?_) rfl (by kernel_rfl) (by kernel_rfl) (by kernel_rfl) (fun _ _ _ h => h) (Or.inl ⟨by rfl, ?_⟩) (by assumption) ?_
              rotate_left
              · first | (intro w' hSw; (try dsimp only at hSw); go_simp; done) | (intro w' hSw; (try dsimp only at hSw); go_simp; with_reducible rfl)
              try simp only [Act.put, List.getElem_toArray, List.getElem_cons_zero, List.getElem_cons_succ, List.setIfInBounds_toArray, List.set_cons_zero, List.set_cons_succ]
              refine wpAnyH_done (by kernel_rfl) ?_ _
              clear hx hv7 hv6
              by_cases hzy : z = y
              · have hne : (z != y) = false := by simp [hzy]
                have HF := Lib.hid (HG.out hzy)
                have HBK := Lib.hid (map_drew HBJ.out)
                clear hzy
                generalize hwd : wj.drew = wd at HBK
                have hs1 := (sz_keep HBI.out HBK.out).size
                go_wp2_with (at_builtin; refine wpList_append_own _ rfl (.tmp 55) (.tmp 57) 25 rfl w1.heap.size 3 i0 (.int .i64 0) 1 8 Try.underlying25 hi0 hz0 hz1 hz2 rfl (by decide) _ ps.length (ps.map (Value.int .i64)) rfl (own_keep (HOI.out.keep HBK.out) (below_alloc wd _)) ⟨wd.heap.size, 0, none⟩ 1 1 ([(a : Int)].map (Value.int .i64)) rfl (by simp) (led_new wd (a : Int)) (ints_one _) (by rw [HLEN.out, maxLen_eq]; omega) (by rw [HLEN.out]; omega) (by simp; omega) ?_)
                intro v6 w6 hv6 hg6 _
                have HO6 := Lib.hid (led_app (rs := [(a : Int)]) rfl hv6)
                have HB6 := Lib.hid (fin_below (sz_keep HBI.out HBK.out) hg6 (fun k e => (own_lt HOI.out k e).1))
                obtain ⟨A6, c6, rfl, -⟩ := own_reads hv6
                clear hv6 hg6 hwd
                go_wp2
                go_roundw
                case rel => exact ⟨t + 1, by omega, by go_num, by rw [HTK.out, HF.out]; exact HO6.out, HB6.out⟩
                case measure => simp [intOf]; omega
              · have hne : (z != y) = true := by simpa using hzy
                have HF := Lib.hid (HG2.out hzy)
                have hle := HG3.out hzy
                clear hzy
                go_wp2
                go_roundw
                case rel => exact ⟨a + 1, by omega, by go_num, HF.out, map_drew HBJ.out⟩
                case measure => simp [intOf]; omega
          · have htn : t = row.length := by omega
            have htl' : ¬ (t : Int) < (row.length : Int) := by omega
            have HTA := Lib.hid (show row.take t = row from take_all (by omega))
            rw [HTA.out] at hoi
            obtain ⟨A8, c8, rfl, -⟩ := own_reads hoi
            have hpl : (placesM row row).length = row.length := placesM_len _ _
            generalize placesM row row = ps at hoi HMS
            have HOI := Lib.hid hoi
            have HX1I := Lib.hid (sz_keep HX1.out HBI.out)
            have HOO := Lib.hid (show OInts wi wo.heap.size (.slice A8 ps.length c8) ps from hoi.base HX1.out.size)
            have HPO := Lib.hid ((own_keep HUJ.out HX1I.out).alloc (.cells #[.slice A8 ps.length c8] 25))
            have HN6 := Lib.hid (news_one2 wi (.slice A8 ps.length c8) 25)
            have hs0 := HD.out.size
            have hs1 := HX1I.out.size
            clear hoi hbi hpl
            go_wp2_with (at_builtin; refine wpList_append_own _ rfl (.tmp 59) (.tmp 61) 22 rfl W.heap.size 25 i1 (.slice none 0 0) 1 24 Try.underlying22 hj hy0 hy1 hy2 rfl (by decide) _ _ _ rfl HPO.out ⟨wi.heap.size, 0, none⟩ 1 1 [.slice A8 ps.length c8] rfl rfl HN6.out (rows_one2 _) (by rw [maxLen_eq]; omega) (by omega) (by simp; omega) ?_)
            intro v7 w7 hv7 hg7 _
            have HR7 := Lib.hid (rows_made HD.out.size HX1I.out HOO.out HU1.out HU2.out HU3.out HU4.out (by rw [HKL.out]; exact hv7) hg7)
            have HB7 := Lib.hid (below_made HD.out (Nat.le_refl _) HX1I.out HU1.out hg7)
            obtain ⟨A7, c7, rfl, -⟩ := own_reads hv7
            clear hg7 hv7 hx
            go_wp2
            go_roundw
            case rel => exact ⟨k + 1, by omega, by go_num, by rw [HMS.out]; exact HR7.out, HB7.out⟩
            case measure => simp [intOf]; omega
      · have hkn : k = h.length := by omega
        have hlt' : ¬ (k : Int) < (h.length : Int) := by omega
        have HTA := Lib.hid (show h.take k = h from take_all (by omega))
        rw [HTA.out] at ho
        generalize h.map (fun r => placesM r r) = ks at ho HE
        have HO := Lib.hid ho
        obtain ⟨A9, c9, rfl, -⟩ := ho.reads.form
        clear ho hd
        go_wp2
        go_ret
        rw [HE.out]
        exact ⟨_, rfl, HO.out.base HB.out.size, sz_keep HB.out HD.out⟩
end

section
open Go.RowKit
set_option linter.unusedVariables false
set_option linter.unusedSimpArgs false

set_option maxHeartbeats 3200000 in
set_option maxRecDepth 100000 in
theorem specImageOf_any (s : MSig) (m n : MModel) (h : List (List Int)) (w : World) (v va vb vh : Value) (h1 : RSig w v s) (h2 : RModel w va m) (h3 : RModel w vb n) (h4 : RRows w vh h) :
    Calls Try.prog 26 #[v, va, vb, vh] w fun e w' => ∃ u, e = .returned u ∧ OInts w' w.heap.size u (imageM s m n h) ∧ Below w.heap.size w w' := by
  obtain ⟨i0, hi0, hz0, hz1, hz2⟩ := info_parts Try.tinfo_int
  obtain ⟨Asa, csa, rfl⟩ := h1.form
  obtain ⟨Ama, cma, Amb, cmb, rfl⟩ := h2.form
  obtain ⟨Ana, cna, Anb, cnb, rfl⟩ := h3.form
  have hb : Below w.heap.size w (((w.alloc (.cells #[.int .i64 s.sorts, .slice Asa s.ops.length csa] 32)).alloc (.cells #[.slice Ama m.sizes.length cma, .slice Amb m.tables.length cmb] 34)).alloc (.cells #[.slice Ana n.sizes.length cna, .slice Anb n.tables.length cnb] 34)) := ((below_alloc _ _).alloc (by simp) _).alloc (by simp; omega) _
  have HB := Lib.hid hb
  have hsz : (((w.alloc (.cells #[.int .i64 s.sorts, .slice Asa s.ops.length csa] 32)).alloc (.cells #[.slice Ama m.sizes.length cma, .slice Amb m.tables.length cmb] 34)).alloc (.cells #[.slice Ana n.sizes.length cna, .slice Anb n.tables.length cnb] 34)).heap.size = w.heap.size + 3 := by simp
  have Hs := Lib.hid (h1.keep hb)
  have s0 := cell_keep (below_alloc ((w.alloc (.cells #[.int .i64 s.sorts, .slice Asa s.ops.length csa] 32)).alloc (.cells #[.slice Ama m.sizes.length cma, .slice Amb m.tables.length cmb] 34)) (.cells #[.slice Ana n.sizes.length cna, .slice Anb n.tables.length cnb] 34)) (cell_keep (below_alloc (w.alloc (.cells #[.int .i64 s.sorts, .slice Asa s.ops.length csa] 32)) (.cells #[.slice Ama m.sizes.length cma, .slice Amb m.tables.length cmb] 34)) (bx_at (w) #[.int .i64 s.sorts, .slice Asa s.ops.length csa] 32 (k := 0) rfl))
  have s1 := cell_keep (below_alloc ((w.alloc (.cells #[.int .i64 s.sorts, .slice Asa s.ops.length csa] 32)).alloc (.cells #[.slice Ama m.sizes.length cma, .slice Amb m.tables.length cmb] 34)) (.cells #[.slice Ana n.sizes.length cna, .slice Anb n.tables.length cnb] 34)) (cell_keep (below_alloc (w.alloc (.cells #[.int .i64 s.sorts, .slice Asa s.ops.length csa] 32)) (.cells #[.slice Ama m.sizes.length cma, .slice Amb m.tables.length cmb] 34)) (bx_at (w) #[.int .i64 s.sorts, .slice Asa s.ops.length csa] 32 (k := 1) rfl))
  have Hm := Lib.hid (h2.keep hb)
  have m0 := cell_keep (below_alloc ((w.alloc (.cells #[.int .i64 s.sorts, .slice Asa s.ops.length csa] 32)).alloc (.cells #[.slice Ama m.sizes.length cma, .slice Amb m.tables.length cmb] 34)) (.cells #[.slice Ana n.sizes.length cna, .slice Anb n.tables.length cnb] 34)) (bx_at (w.alloc (.cells #[.int .i64 s.sorts, .slice Asa s.ops.length csa] 32)) #[.slice Ama m.sizes.length cma, .slice Amb m.tables.length cmb] 34 (k := 0) rfl)
  have m1 := cell_keep (below_alloc ((w.alloc (.cells #[.int .i64 s.sorts, .slice Asa s.ops.length csa] 32)).alloc (.cells #[.slice Ama m.sizes.length cma, .slice Amb m.tables.length cmb] 34)) (.cells #[.slice Ana n.sizes.length cna, .slice Anb n.tables.length cnb] 34)) (bx_at (w.alloc (.cells #[.int .i64 s.sorts, .slice Asa s.ops.length csa] 32)) #[.slice Ama m.sizes.length cma, .slice Amb m.tables.length cmb] 34 (k := 1) rfl)
  have Hn := Lib.hid (h3.keep hb)
  have n0 := bx_at ((w.alloc (.cells #[.int .i64 s.sorts, .slice Asa s.ops.length csa] 32)).alloc (.cells #[.slice Ama m.sizes.length cma, .slice Amb m.tables.length cmb] 34)) #[.slice Ana n.sizes.length cna, .slice Anb n.tables.length cnb] 34 (k := 0) rfl
  have n1 := bx_at ((w.alloc (.cells #[.int .i64 s.sorts, .slice Asa s.ops.length csa] 32)).alloc (.cells #[.slice Ama m.sizes.length cma, .slice Amb m.tables.length cmb] 34)) #[.slice Ana n.sizes.length cna, .slice Anb n.tables.length cnb] 34 (k := 1) rfl
  simp only [World.size_alloc] at m0 m1 n0 n1
  generalize hW : ((w.alloc (.cells #[.int .i64 s.sorts, .slice Asa s.ops.length csa] 32)).alloc (.cells #[.slice Ama m.sizes.length cma, .slice Amb m.tables.length cmb] 34)).alloc (.cells #[.slice Ana n.sizes.length cna, .slice Anb n.tables.length cnb] 34) = W at HB hsz Hs s0 s1 Hm m0 m1 Hn n0 n1
  clear hb h1 h2 h3
  have HH := Lib.hid (h4.keep HB.out)
  have hhl := h4.len
  obtain ⟨Ah, ch, rfl, -⟩ := h4.form
  have HE0 := Lib.hid (own_empty W)
  have HB0 := Lib.hid (below_alloc W (.cells #[] 3))
  have HSZ := Lib.hid hsz
  clear hsz
  have HCX := Lib.hid (And.intro s0 (And.intro s1 (And.intro m0 (And.intro m1 (And.intro n0 n1)))))
  clear h4
  cases hma : homB s m n h with
  | false =>
    have HMA := Lib.hid hma
    have HE := Lib.hid (image_no hma)
    clear hma
    go_enter Try.func26, Try.ntmps26
    go_wp2
    clear hW s0 s1 m0 m1 n0 n1
    go_loopw [9, 10, 11, 12] (fun q i _ _ wr => i = .int .i64 (0 : Nat) ∧ OInts wr W.heap.size q [] ∧ Below W.heap.size W wr) (fun _ _ _ _ _ => 0)
    case atStart => exact ⟨rfl, HE0.out, HB0.out⟩
    case round =>
      obtain ⟨rfl, ho, hd⟩ := hrel
      have HO := Lib.hid ho
      have HD := Lib.hid hd
      obtain ⟨A9, c9, rfl, -⟩ := ho.reads.form
      have f0 := cell_keep hd HCX.out.1
      have f1 := cell_keep hd HCX.out.2.1
      have f2 := cell_keep hd HCX.out.2.2.1
      have f3 := cell_keep hd HCX.out.2.2.2.1
      have f4 := cell_keep hd HCX.out.2.2.2.2.1
      have f5 := cell_keep hd HCX.out.2.2.2.2.2
      clear ho hd
      by_cases hlt : 0 < h.length
      · have hlt' : ((0 : Nat) : Int) < (h.length : Int) := by omega
        go_wp2_with fail
        refine (specHomOk_any s m n h _ _ _ _ _ (Hs.out.keep HD.out) (Hm.out.keep HD.out) (Hn.out.keep HD.out) (HH.out.keep HD.out)).mono ?_
        rw [HMA.out]
        rintro x w1 ⟨rfl, hb⟩
        have HX := Lib.hid hb
        clear hb f0 f1 f2 f3 f4 f5
        go_wp2
        go_ret
        rw [HE.out]
        exact ⟨_, rfl, (HO.out.keep HX.out).base HB.out.size, sz_keep HB.out (sz_keep HD.out HX.out)⟩
      · have hlt' : ¬ ((0 : Nat) : Int) < (h.length : Int) := by omega
        go_wp2
        go_ret
        rw [HE.out]
        exact ⟨_, rfl, HO.out.base HB.out.size, sz_keep HB.out HD.out⟩
  | true =>
    have HMA := Lib.hid hma
    have HE := Lib.hid (image_yes hma)
    have HU := Lib.hid (hom_use hma)
    have hfew := HU.out.few
    clear hma
    go_enter Try.func26, Try.ntmps26
    go_wp2
    clear hW s0 s1 m0 m1 n0 n1
    go_loopw [9, 10, 11, 12] (fun q i _ _ wr => ∃ k : Nat, k ≤ h.length ∧ i = .int .i64 k ∧ OInts wr W.heap.size q ((h.take k).map setM) ∧ Below W.heap.size W wr) (fun _ i _ _ _ => h.length - (intOf i).toNat)
    case atStart => exact ⟨0, Nat.zero_le _, rfl, HE0.out, HB0.out⟩
    case round =>
      obtain ⟨k, hk, rfl, ho, hd⟩ := hrel
      have HD := Lib.hid hd
      have HKL := Lib.hid (show ((h.take k).map setM).length = k by rw [List.length_map, List.length_take]; omega)
      have f0 := cell_keep hd HCX.out.1
      have f1 := cell_keep hd HCX.out.2.1
      have f2 := cell_keep hd HCX.out.2.2.1
      have f3 := cell_keep hd HCX.out.2.2.2.1
      have f4 := cell_keep hd HCX.out.2.2.2.2.1
      have f5 := cell_keep hd HCX.out.2.2.2.2.2
      by_cases hlt : k < h.length
      · have hlt' : (k : Int) < (h.length : Int) := by omega
        have HMS := Lib.hid (map_take_succ (f := setM) hlt)
        have HRW := Lib.hid (HU.out.row k hlt)
        generalize hrows : (h.take k).map setM = ps at ho HKL HMS
        obtain ⟨A9, c9, rfl, -⟩ := own_reads ho
        have HO := Lib.hid ho
        obtain ⟨wo, hwo⟩ : ∃ x : World, x = wr := ⟨_, rfl⟩
        subst hwo
        obtain ⟨b, o, c', ur, e, hx, hri⟩ := (HH.out.keep HD.out).at_ hlt
        cases e
        generalize h[k] = row at hx hri HRW HMS
        have HRI := Lib.hid hri
        obtain ⟨A', c'', rfl, -⟩ := hri.form
        have hr3 := HRW.out.1
        clear hri ho hd hrows
        go_wp2_with fail
        refine (specHomOk_any s m n h _ _ _ _ _ (Hs.out.keep HD.out) (Hm.out.keep HD.out) (Hn.out.keep HD.out) (HH.out.keep HD.out)).mono ?_
        rw [HMA.out]
        rintro x w1 ⟨rfl, hb⟩
        have HX1 := Lib.hid hb
        have HX := Lib.hid (cell_keep hb hx)
        have HR1 := Lib.hid (HRI.out.keep hb)
        clear hb f0 f1 f2 f3 f4 f5 hx
        go_wp2
        go_loopw [11, 12] (fun q i wi => ∃ t : Nat, t ≤ row.length ∧ i = .int .i64 t ∧ q = .int .i64 (setM (row.take t)) ∧ Below w1.heap.size w1 wi) (fun _ i _ => row.length - (intOf i).toNat)
        case atStart => exact ⟨0, Nat.zero_le _, rfl, rfl, Below.refl _ _⟩
        case round =>
          obtain ⟨t, ht, rfl, rfl, hbi⟩ := hrel
          obtain ⟨wi, hwi⟩ : ∃ x : World, x = wr := ⟨_, rfl⟩
          subst hwi
          have HBI := Lib.hid hbi
          have hx := cell_keep hbi HX.out
          by_cases htl : t < row.length
          · have htl' : (t : Int) < (row.length : Int) := by omega
            obtain ⟨b7, o7, c7, e, hv7⟩ := (HR1.out.keep hbi).at_ htl
            cases e
            have HTK := Lib.hid (setM_take htl)
            have HVX := Lib.hid (HRW.out.2 _ (List.getElem_mem htl))
            have HSI := Lib.hid (setM_in (row := row.take t) (fun x hx => HRW.out.2 x (List.mem_of_mem_take hx)))
            generalize row[t] = y at hv7 HTK HVX
            generalize setM (row.take t) = x at HTK HSI
            have hy0 : (0 : Int) ≤ y := HVX.out.1
            clear hbi
            by_cases hev : ((x / 2 ^ min y.toNat 64).tmod 2 == 0) = true
            · have HA := Lib.hid (add_even HSI.out.1 HSI.out.2 HVX.out.1 HVX.out.2 hev)
              go_wp2
              go_roundw
              case rel => exact ⟨t + 1, by omega, by go_num, by rw [HTK.out, HA.out], HBI.out⟩
              case measure => simp [intOf]; omega
            · have hev' : ((x / 2 ^ min y.toNat 64).tmod 2 == 0) = false := by simpa using hev
              have HA := Lib.hid (add_odd HSI.out.1 HSI.out.2 HVX.out.1 HVX.out.2 hev')
              clear hev
              go_wp2
              go_roundw
              case rel => exact ⟨t + 1, by omega, by go_num, by rw [HTK.out, HA.out], HBI.out⟩
              case measure => simp [intOf]; omega
          · have htn : t = row.length := by omega
            have htl' : ¬ (t : Int) < (row.length : Int) := by omega
            have HTA := Lib.hid (show row.take t = row from take_all (by omega))
            rw [HTA.out]
            have HX1I := Lib.hid (sz_keep HX1.out HBI.out)
            generalize setM row = y at HMS
            have hs0 := HD.out.size
            have hs1 := HX1I.out.size
            clear hbi
            go_wp2_with (at_builtin; refine wpList_append_own _ rfl (.tmp 57) (.tmp 59) 25 rfl W.heap.size 3 i0 (.int .i64 0) 1 8 Try.underlying25 hi0 hz0 hz1 hz2 rfl (by decide) _ ps.length (ps.map (Value.int .i64)) rfl (own_keep (HO.out.keep HX1I.out) (below_alloc wi _)) ⟨wi.heap.size, 0, none⟩ 1 1 ([y].map (Value.int .i64)) rfl (by simp) (led_new wi y) (ints_one _) (by rw [HKL.out, maxLen_eq]; omega) (by rw [HKL.out]; omega) (by simp; omega) ?_)
            intro v6 w6 hv6 hg6 _
            have HO6 := Lib.hid (led_app (rs := [y]) rfl hv6)
            have HB6 := Lib.hid (fin_below (sz_keep HD.out HX1I.out) hg6 (fun k e => (own_lt HO.out k e).1))
            obtain ⟨A6, c6, rfl, -⟩ := own_reads hv6
            clear hv6 hg6 hx
            go_wp2
            go_roundw
            case rel => exact ⟨k + 1, by omega, by go_num, by rw [HMS.out]; exact HO6.out, HB6.out⟩
            case measure => simp [intOf]; omega
      · have hkn : k = h.length := by omega
        have hlt' : ¬ (k : Int) < (h.length : Int) := by omega
        have HTA := Lib.hid (show h.take k = h from take_all (by omega))
        rw [HTA.out] at ho
        generalize h.map setM = ks at ho HE
        have HO := Lib.hid ho
        obtain ⟨A9, c9, rfl, -⟩ := ho.reads.form
        clear ho hd
        go_wp2
        go_ret
        rw [HE.out]
        exact ⟨_, rfl, HO.out.base HB.out.size, sz_keep HB.out HD.out⟩
end
end Go.Proofs.Ytfomeommkfemkaa
