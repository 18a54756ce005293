/- ProofBack of package impl. -/
import Derived.Test.YtonainidjkcoeacBack
namespace Go.Proofs.Ytonainidjkcoeac
open Go.RowKit
set_option linter.unusedVariables false
set_option linter.unusedSimpArgs false

set_option maxRecDepth 100000 in
theorem clone_none (c : Nat) (w : World) :
    Calls Try.prog 84 #[.slice none 0 c] w fun e w' => e = .returned (.slice none 0 0) ∧ Below w.heap.size w w' := by
  have hcmp := Lib.run_eql_slice_nil (P := Try.prog) w 36 3 none 0 c 0 0 Try.underlying36
  simp only [Option.isNone_none] at hcmp
  go_enter Try.func84, Try.ntmps84
  go_wp2
  go_ret
  exact ⟨rfl, Below.refl _ _⟩
theorem clone_all (v : Value) (xs : List Int) (w : World) (h : RInts w v xs) (hs : xs.length ≤ 1048576) :
    Calls Try.prog 84 #[v] w fun e w' => ∃ u, e = .returned u ∧ OInts w' w.heap.size u xs ∧ Below w.heap.size w w' := by
  obtain ⟨A, c, rfl, h1, h2⟩ := h.form
  cases A with
  | some ad => exact clone_any ad _ c xs w h hs
  | none =>
    have hx : xs = [] := by
      cases xs with
      | nil => rfl
      | cons y ys =>
        obtain ⟨b, o, c', e, -⟩ := h.at_ (k := 0) (by simp)
        cases e
    subst hx
    refine (clone_none c w).mono ?_
    rintro e w' ⟨rfl, hb⟩
    exact ⟨_, rfl, OInts.nil _ _, hb⟩

set_option maxRecDepth 100000 in
theorem copiedRows_any (v : Value) (rows : List (List Int)) (w : World) (h : RRows w v rows) (hs : Fits rows) :
    Calls Try.prog 51 #[v] w fun e w' => ∃ u, e = .returned u ∧ ORows w' w.heap.size u rows ∧ Below w.heap.size w w' := by
  have H := Lib.hid h
  have HS := Lib.hid hs
  obtain ⟨A, c, rfl, -⟩ := h.form
  have hlen := hs.1
  clear h hs
  have hmk := run_make_row' (P := Try.prog) 30 36 (.slice none 0 0) 24 Try.underlying30 Try.tinfo_ints rfl .i64 .i64 rows.length (by omega) (by omega)
  go_enter Try.func51, Try.ntmps51
  go_wp2
  go_loopw [4, 5, 11] (fun a b i wr => ∃ k : Nat, k ≤ rows.length ∧ i = .int .i64 k ∧ FillingR w wr rows k) (fun _ _ i _ => rows.length - (intOf i).toNat)
  case atStart => exact ⟨0, Nat.zero_le _, rfl, FillingR.start w _ _ (by simp [madeCells])⟩
  case round =>
    obtain ⟨k, hk, rfl, hf⟩ := hrel
    have HF := Lib.hid hf
    clear hf hmk
    by_cases hlt : k < rows.length
    · obtain ⟨b, o, c', u, e, hx, hri⟩ := (H.out.keep (by obtain ⟨_, _, _, _, _, hb⟩ := HF.out; exact hb)).at_ hlt
      cases e
      have hlt' : (k : Int) < (rows.length : Int) := by omega
      have hrl := HS.out.2 _ (List.getElem_mem hlt)
      have HI := Lib.hid hri
      have HRL := Lib.hid hrl
      obtain ⟨A', c'', rfl, -⟩ := hri.form
      clear hri hrl
      go_wp2_with fail
      refine (clone_all _ rows[k] _ HI.out HRL.out).mono ?_
      rintro e w1 ⟨u, rfl, ho, hb⟩
      obtain ⟨u0, g1, g2⟩ := HF.out.cell hlt hb
      have HN := Lib.hid (HF.out.step hlt hb ho)
      obtain ⟨A1, c1, rfl, -⟩ := ho.reads.form
      clear ho hb
      go_wp2
      go_roundw
      case rel => exact ⟨k + 1, by omega, by go_num, HN.out⟩
      case measure => simp [intOf]; omega
    · have hlt' : ¬ (k : Int) < (rows.length : Int) := by omega
      go_wp2
      go_ret
      obtain ⟨r1, r2⟩ := HF.out.done (by omega) (by omega)
      have hkn : k = rows.length := by omega
      subst hkn
      exact ⟨_, rfl, r1, r2⟩

def turnP (p : MStep) : MStep := ⟨p.ax, !p.back, p.at_, p.terms⟩
/-- a proof turned -/
def backM (ps : List MStep) : List MStep := (ps.map turnP).reverse
theorem backM_len (ps : List MStep) : (backM ps).length = ps.length := by simp [backM]
theorem backM_at {ps : List MStep} {j k : Nat} (hk : k < ps.length) (hj : j + k + 1 = ps.length) : (backM ps)[j]? = some (turnP ps[k]) := by
  unfold backM
  rw [List.getElem?_reverse (by simp; omega)]
  simp only [List.length_map]
  rw [show ps.length - 1 - j = k by omega, List.getElem?_map, List.getElem?_eq_getElem hk]
  rfl
theorem backM_fits {ps : List MStep} (h : FitsPs ps) : FitsPs (backM ps) := by
  refine ⟨by rw [backM_len]; exact h.1, fun p hp => ?_⟩
  unfold backM at hp
  rw [List.mem_reverse] at hp
  obtain ⟨q, hq, rfl⟩ := List.mem_map.1 hp
  exact h.2 q hq

/-- a list of steps that is being filled from its end: k of them are done -/
def FillB (w wr : World) (ps : List MStep) (k : Nat) : Prop :=
  ∃ (cur : Array Value) (rg : Nat → Nat × Nat), wr.heap[w.heap.size]? = some (.cells cur 82 (0, 0)) ∧ cur.size = ps.length * 4 ∧
    (∀ j p, ps.length ≤ j + k → ps[j]? = some p → ∃ u, cur[j * 4]? = some (.int .i64 p.ax) ∧ cur[j * 4 + 1]? = some (.bool p.back) ∧ cur[j * 4 + 2]? = some (.int .i64 p.at_) ∧ cur[j * 4 + 3]? = some u ∧ InR wr (rg j) u p.terms ∧ w.heap.size < (rg j).1 ∧ (rg j).2 ≤ wr.heap.size) ∧
    (∀ i j, i < j → j < ps.length → ps.length ≤ i + k → (rg j).2 ≤ (rg i).1) ∧ Below w.heap.size w wr
section
variable {w wr w1 : World} {ps : List MStep} {k : Nat}
theorem FillB.start (w : World) (ps : List MStep) (cur : Array Value) (h : cur.size = ps.length * 4) : FillB w (w.alloc (.cells cur 82)) ps 0 :=
  ⟨cur, fun _ => (0, 0), heap_alloc_new w _, h, fun j p hj hp => by have := (List.getElem?_eq_some_iff.1 hp).1; omega, fun i j _ hj hi => by omega, below_alloc _ _⟩
theorem FillB.bel (h : FillB w wr ps k) : Below w.heap.size w wr := by obtain ⟨_, _, _, _, _, _, hb⟩ := h; exact hb
theorem FillB.lt (h : FillB w wr ps k) : w.heap.size < wr.heap.size := by obtain ⟨_, _, h1, _⟩ := h; exact (Array.getElem?_eq_some_iff.1 h1).1
theorem FillB.cell (h : FillB w wr ps k) (hb : Below wr.heap.size wr w1) {j : Nat} (hj : j < ps.length * 4) : ∃ u, w1.cell? ⟨w.heap.size, j, none⟩ = some u ∧ w1.frozen? ⟨w.heap.size, j, none⟩ = false := by
  obtain ⟨cur, rg, h1, h2, h3, h4, h5⟩ := h
  have h1' := (hb.block _ (Array.getElem?_eq_some_iff.1 h1).1).trans h1
  exact ⟨cur[j]'(by omega), (blk_cell h1' j).trans (Array.getElem?_eq_getElem (by omega)), blk_free h1' j⟩
theorem FillB.put {m : Nat} (h : FillB w wr ps k) (hm : m + k + 1 = ps.length) (hk : m < ps.length) (hb : Below wr.heap.size wr w1) {u : Value} (hp : ORows w1 wr.heap.size u ps[m].terms) :
    FillB w ((((w1.setCell ⟨w.heap.size, m * 4, none⟩ (.int .i64 ps[m].ax)).setCell ⟨w.heap.size, m * 4 + 1, none⟩ (.bool ps[m].back)).setCell ⟨w.heap.size, m * 4 + 2, none⟩ (.int .i64 ps[m].at_)).setCell ⟨w.heap.size, m * 4 + 3, none⟩ u) ps (k + 1) := by
  obtain ⟨cur, rg, h1, h2, h3, h4, h5⟩ := h
  have hl := (Array.getElem?_eq_some_iff.1 h1).1
  have h1' := (hb.block _ hl).trans h1
  have hs := hb.size
  have oth : ∀ b' : Nat, b' ≠ w.heap.size → ((((w1.setCell ⟨w.heap.size, m * 4, none⟩ (.int .i64 ps[m].ax)).setCell ⟨w.heap.size, m * 4 + 1, none⟩ (.bool ps[m].back)).setCell ⟨w.heap.size, m * 4 + 2, none⟩ (.int .i64 ps[m].at_)).setCell ⟨w.heap.size, m * 4 + 3, none⟩ u).heap[b']? = w1.heap[b']? := fun b' hb' => by
    rw [Below.heap_setCell _ ⟨w.heap.size, m * 4 + 3, none⟩ _ b' hb', Below.heap_setCell _ ⟨w.heap.size, m * 4 + 2, none⟩ _ b' hb', Below.heap_setCell _ ⟨w.heap.size, m * 4 + 1, none⟩ _ b' hb', Below.heap_setCell _ ⟨w.heap.size, m * 4, none⟩ _ b' hb']
  have hsz : ((((w1.setCell ⟨w.heap.size, m * 4, none⟩ (.int .i64 ps[m].ax)).setCell ⟨w.heap.size, m * 4 + 1, none⟩ (.bool ps[m].back)).setCell ⟨w.heap.size, m * 4 + 2, none⟩ (.int .i64 ps[m].at_)).setCell ⟨w.heap.size, m * 4 + 3, none⟩ u).heap.size = w1.heap.size := by simp [World.setCell]
  refine ⟨_, fun j => if j = m then (wr.heap.size, w1.heap.size) else rg j, blk_set (blk_set (blk_set (blk_set h1' _ _) _ _) _ _) _ _, by simpa using h2, fun j p hj hpj => ?_, fun i j hij hj hik => ?_, ((((h5.trans (hb.mono (by omega))).setCell (p := ⟨w.heap.size, m * 4, none⟩) (Nat.le_refl _) _).setCell (p := ⟨w.heap.size, m * 4 + 1, none⟩) (Nat.le_refl _) _).setCell (p := ⟨w.heap.size, m * 4 + 2, none⟩) (Nat.le_refl _) _).setCell (p := ⟨w.heap.size, m * 4 + 3, none⟩) (Nat.le_refl _) _⟩
  · by_cases hjk : j = m
    · subst hjk
      rw [List.getElem?_eq_getElem hk] at hpj
      cases hpj
      obtain ⟨a, b, c, d⟩ := set4_new (cur := cur) (m := j * 4) (a := .int .i64 ps[j].ax) (b := .bool ps[j].back) (c := .int .i64 ps[j].at_) (d := u) (by omega)
      refine ⟨u, a, b, c, d, ?_, by simp; omega, by rw [hsz]; simp⟩
      simp only [if_true]
      exact ⟨w1, rfl, hp, fun n n1 n2 => oth n (by simp only at n1; omega)⟩
    · obtain ⟨x, a, b, c, d, r, lo, hi⟩ := h3 j p (by omega) hpj
      refine ⟨x, by rw [set4_old (by omega)]; exact a, by rw [set4_old (by omega)]; exact b, by rw [set4_old (by omega)]; exact c, by rw [set4_old (by omega)]; exact d, ?_, by simp only [if_neg hjk]; exact lo, by rw [hsz]; simp only [if_neg hjk]; omega⟩
      simp only [if_neg hjk]
      exact r.same fun n n1 n2 => (oth n (by omega)).trans (hb.block n (by omega))
  · have hjk : ¬ j = m := by omega
    by_cases hi : i = m
    · subst hi
      simp only [if_neg hjk, if_true]
      obtain ⟨x, a, b, c, d, r, lo, hi⟩ := h3 j ps[j] (by omega) (List.getElem?_eq_getElem (by omega))
      exact hi
    · simp only [if_neg hi, if_neg hjk]
      exact h4 i j hij hj (by omega)
theorem FillB.done (h : FillB w wr ps k) (hk : k = ps.length) (hm : ps.length ≤ 9223372036854775807) : OSteps wr w.heap.size (.slice (some ⟨w.heap.size, 0, none⟩) ps.length ps.length) ps ∧ Below w.heap.size w wr := by
  obtain ⟨cur, rg, h1, h2, h3, h4, h5⟩ := h
  refine ⟨⟨w.heap.size, ps.length, cur, rg, rfl, Nat.le_refl _, h1, Nat.le_refl _, hm, h2, fun j p hj => ?_, fun i j hij hj => .inr (h4 i j hij hj (by omega))⟩, h5⟩
  obtain ⟨u, a, b, c, d, r, lo, hi⟩ := h3 j p (by omega) hj
  exact ⟨u, a, b, c, d, r, by omega, hi, .inl lo⟩
end
theorem far4 {w : World} {b rb : Nat} (h : b ≠ rb) (i0 i1 i2 i3 o : Nat) (u0 u1 u2 u3 : Value) : ((((w.setCell ⟨rb, i0, none⟩ u0).setCell ⟨rb, i1, none⟩ u1).setCell ⟨rb, i2, none⟩ u2).setCell ⟨rb, i3, none⟩ u3).cell? ⟨b, o, none⟩ = w.cell? ⟨b, o, none⟩ :=
  World.cell?_of_block ((Below.heap_setCell _ ⟨rb, i3, none⟩ u3 b h).trans ((Below.heap_setCell _ ⟨rb, i2, none⟩ u2 b h).trans ((Below.heap_setCell _ ⟨rb, i1, none⟩ u1 b h).trans (Below.heap_setCell w ⟨rb, i0, none⟩ u0 b h))))

set_option maxHeartbeats 1600000 in
set_option maxRecDepth 100000 in
theorem proofBack_any (ps : List MStep) (w : World) (v : Value) (hs : FitsPs ps) (h : RSteps w v ps) :
    Calls Try.prog 11 #[v] w fun e w' => ∃ u, e = .returned u ∧ OSteps w' w.heap.size u (backM ps) ∧ Below w.heap.size w w' := by
  have H := Lib.hid h
  have HS := Lib.hid hs
  have HBL := Lib.hid (backM_len ps)
  obtain ⟨A, c, rfl, -⟩ := h.form
  have hlen := hs.1
  clear h hs
  have hmk := run_make_wide 24 82 _ 4 48 Try.underlying24 Try.tinfo_Step .i64 .i64 ps.length (by omega) (by omega)
  go_enter Try.func11, Try.ntmps11
  go_wp2
  go_loopw [4, 5, 11] (fun a b i wr => ∃ k : Nat, k ≤ ps.length ∧ i = .int .i64 k ∧ FillB w wr (backM ps) k) (fun _ _ i _ => ps.length - (intOf i).toNat)
  case atStart => exact ⟨0, Nat.zero_le _, rfl, FillB.start w _ _ (by rw [HBL.out]; simp [madeCells])⟩
  case round =>
    obtain ⟨k, hk, rfl, hf⟩ := hrel
    have HF := Lib.hid hf
    have hlw := hf.lt
    clear hf hmk
    by_cases hlt : k < ps.length
    · have hlt' : (k : Int) < (ps.length : Int) := by omega
      obtain ⟨b, o, c', x, e, c0, c1, c2, c3, q0⟩ := (H.out.keep HF.out.bel).at_ hlt
      cases e
      obtain ⟨m, hm⟩ : ∃ m, m + k + 1 = ps.length := ⟨ps.length - 1 - k, by omega⟩
      have HFP := Lib.hid (HS.out.2 _ (List.getElem_mem hlt))
      have hbm : m < (backM ps).length := by rw [HBL.out]; omega
      have HAT := Lib.hid (backM_at hlt hm)
      have hel : (backM ps)[m] = turnP ps[k] := by have h := HAT.out; rw [List.getElem?_eq_getElem hbm] at h; injection h
      have HPUT := Lib.hid (fun (w1 : World) (hb : Below wr.heap.size wr w1) (u : Value) (hp : ORows w1 wr.heap.size u (backM ps)[m].terms) => HF.out.put (by rw [HBL.out]; exact hm) hbm hb hp)
      rw [hel] at HPUT
      clear hel HAT
      generalize ps[k] = p at q0 c0 c1 c2 HFP HPUT
      have HI := Lib.hid q0
      obtain ⟨A0, d0, rfl, -⟩ := q0.form
      have hb := below_alloc wr (.cells #[.int .i64 p.ax, .bool p.back, .int .i64 p.at_, .slice A0 p.terms.length d0] 82)
      have x0 := bx_at wr #[.int .i64 p.ax, .bool p.back, .int .i64 p.at_, .slice A0 p.terms.length d0] 82 (k := 0) rfl
      have x1 := bx_at wr #[.int .i64 p.ax, .bool p.back, .int .i64 p.at_, .slice A0 p.terms.length d0] 82 (k := 1) rfl
      have x2 := bx_at wr #[.int .i64 p.ax, .bool p.back, .int .i64 p.at_, .slice A0 p.terms.length d0] 82 (k := 2) rfl
      have x3 := bx_at wr #[.int .i64 p.ax, .bool p.back, .int .i64 p.at_, .slice A0 p.terms.length d0] 82 (k := 3) rfl
      generalize hW2 : wr.alloc (.cells #[.int .i64 p.ax, .bool p.back, .int .i64 p.at_, .slice A0 p.terms.length d0] 82) = W2 at hb x0 x1 x2 x3
      have HIW := Lib.hid (q0.keep hb)
      have HB2 := Lib.hid hb
      have hw1 : IntKind.i64.wrap ((ps.length : Int) - 1) = (ps.length : Int) - 1 := by rw [IntKind.wrap_i64]; omega
      have hw2 : IntKind.i64.wrap ((ps.length : Int) - 1 - (k : Int)) = (m : Int) := by rw [IntKind.wrap_i64]; omega
      have hml : (m : Int) < (ps.length : Int) := by omega
      have hm0 : (0 : Int) ≤ (m : Int) := by omega
      have hbl4 : m * 4 + 3 < (backM ps).length * 4 := by omega
      have HBL4 := Lib.hid hbl4
      have HM := Lib.hid hm
      clear q0 hb hbm hbl4 hm
      go_wp2_with fail
      clear hW2 c0 c1 c2 c3
      refine wp_region_held_drew (S := (fun w' => w'.cell? ⟨wr.heap.size, 0, none⟩ = some (.int .i64 p.ax) ∧ w'.cell? ⟨wr.heap.size, 1, none⟩ = some (.bool p.back) ∧ w'.cell? ⟨wr.heap.size, 2, none⟩ = some (.int .i64 p.at_) ∧ w'.cell? ⟨wr.heap.size, 3, none⟩ = some (.slice A0 p.terms.length d0))) (by kernel_rfl) ?_ (fun hHeld => ?_)
      · exact ⟨x0, x1, x2, x3⟩
      refine wpAnyH_take (i := 0) (oi := _) (v := ?_) rfl (by kernel_rfl) (by kernel_rfl) (by kernel_rfl) (fun _ _ _ h => h) (Or.inl ⟨by rfl, ?_⟩) (by assumption) ?_
      rotate_left
      · first | (intro w' hSw; (try dsimp only at hSw); go_simp; done) | (intro w' hSw; (try dsimp only at hSw); go_simp; with_reducible rfl)
      try simp only [Act.put, List.getElem_toArray, List.getElem_cons_zero, List.getElem_cons_succ, List.setIfInBounds_toArray, List.set_cons_zero, List.set_cons_succ]
      refine wpAnyH_take (i := 1) (oi := _) (v := ?_) rfl (by kernel_rfl) (by kernel_rfl) (by kernel_rfl) (fun _ _ _ h => h) (Or.inl ⟨by rfl, ?_⟩) (by assumption) ?_
      rotate_left
      · first | (intro w' hSw; (try dsimp only at hSw); go_simp; done) | (intro w' hSw; (try dsimp only at hSw); go_simp; with_reducible rfl)
      try simp only [Act.put, List.getElem_toArray, List.getElem_cons_zero, List.getElem_cons_succ, List.setIfInBounds_toArray, List.set_cons_zero, List.set_cons_succ]
      refine wpAnyH_take (i := 2) (oi := _) (v := ?_) rfl (by kernel_rfl) (by kernel_rfl) (by kernel_rfl) (fun _ _ _ h => h) (Or.inl ⟨by rfl, ?_⟩) (by assumption) ?_
      rotate_left
      · first | (intro w' hSw; (try dsimp only at hSw); go_simp; done) | (intro w' hSw; (try dsimp only at hSw); go_simp; with_reducible rfl)
      try simp only [Act.put, List.getElem_toArray, List.getElem_cons_zero, List.getElem_cons_succ, List.setIfInBounds_toArray, List.set_cons_zero, List.set_cons_succ]
      refine wpAnyH_take (i := 3) (oi := _) (v := ?_) rfl (by kernel_rfl) (by kernel_rfl) (by kernel_rfl) (fun _ _ _ h => h) (Or.inl ⟨by rfl, ?_⟩) (by assumption) ?_
      rotate_left
      · first | (intro w' hSw; (try dsimp only at hSw); go_simp; done) | (intro w' hSw; (try dsimp only at hSw); go_simp; with_reducible rfl)
      try simp only [Act.put, List.getElem_toArray, List.getElem_cons_zero, List.getElem_cons_succ, List.setIfInBounds_toArray, List.set_cons_zero, List.set_cons_succ]
      refine wpAnyH_take (i := 4) (oi := _) (v := ?_) rfl (by kernel_rfl) (by kernel_rfl) (by kernel_rfl) (fun _ _ _ h => h) (Or.inl ⟨by rfl, ?_⟩) (by assumption) ?_
      rotate_left
      · first | (intro w' hSw; (try dsimp only at hSw); go_simp; done) | (intro w' hSw; (try dsimp only at hSw); go_simp; with_reducible rfl)
      try simp only [Act.put, List.getElem_toArray, List.getElem_cons_zero, List.getElem_cons_succ, List.setIfInBounds_toArray, List.set_cons_zero, List.set_cons_succ]
      refine wpAnyH_take (i := 5) (oi := _) (v := ?_) rfl (by kernel_rfl) (by kernel_rfl) (by kernel_rfl) (fun _ _ _ h => h) (Or.inl ⟨by rfl, ?_⟩) (by assumption) ?_
      rotate_left
      · first | (intro w' hSw; (try dsimp only at hSw); go_simp; done) | (intro w' hSw; (try dsimp only at hSw); go_simp; with_reducible rfl)
      try simp only [Act.put, List.getElem_toArray, List.getElem_cons_zero, List.getElem_cons_succ, List.setIfInBounds_toArray, List.set_cons_zero, List.set_cons_succ]
      refine wpAnyH_take (i := 6) (oi := _) (v := ?_) rfl (by kernel_rfl) (by kernel_rfl) (by kernel_rfl) (fun _ _ _ h => h) (Or.inl ⟨by rfl, ?_⟩) (by assumption) ?_
      rotate_left
      · first | (intro w' hSw; (try dsimp only at hSw); go_simp; done) | (intro w' hSw; (try dsimp only at hSw); go_simp; with_reducible rfl)
      try simp only [Act.put, List.getElem_toArray, List.getElem_cons_zero, List.getElem_cons_succ, List.setIfInBounds_toArray, List.set_cons_zero, List.set_cons_succ]
      refine wpAnyH_take (i := 7) (oi := _) (v := ?_) rfl (by kernel_rfl) (by kernel_rfl) (by kernel_rfl) (fun _ _ _ h => h) (Or.inl ⟨by rfl, ?_⟩) (by assumption) ?_
      rotate_left
      · first | (intro w' hSw; (try dsimp only at hSw); go_simp; done) | (intro w' hSw; (try dsimp only at hSw); go_simp; with_reducible rfl)
      try simp only [Act.put, List.getElem_toArray, List.getElem_cons_zero, List.getElem_cons_succ, List.setIfInBounds_toArray, List.set_cons_zero, List.set_cons_succ]
      refine wpAnyH_take (i := 8) (oi := _) (v := ?_) rfl (by kernel_rfl) (by kernel_rfl) (by kernel_rfl) (fun _ _ _ h => h) (Or.inl ⟨by rfl, ?_⟩) (by assumption) ?_
      rotate_left
      · first | (intro w' hSw; (try dsimp only at hSw); go_simp; done) | (intro w' hSw; (try dsimp only at hSw); go_simp; with_reducible rfl)
      try simp only [Act.put, List.getElem_toArray, List.getElem_cons_zero, List.getElem_cons_succ, List.setIfInBounds_toArray, List.set_cons_zero, List.set_cons_succ]
      refine wpAnyH_take (i := 9) (oi := _) (v := ?_) rfl (by kernel_rfl) (by kernel_rfl) (by kernel_rfl) (fun _ _ _ h => h) (Or.inl ⟨by rfl, ?_⟩) (by assumption) ?_
      rotate_left
      · first | (intro w' hSw; (try dsimp only at hSw); go_simp; done) | (intro w' hSw; (try dsimp only at hSw); go_simp; with_reducible rfl)
      try simp only [Act.put, List.getElem_toArray, List.getElem_cons_zero, List.getElem_cons_succ, List.setIfInBounds_toArray, List.set_cons_zero, List.set_cons_succ]
      refine wpAnyH_take (i := 10) (oi := _) (v := ?_) rfl (by kernel_rfl) (by kernel_rfl) (by kernel_rfl) (fun _ _ _ h => h) (Or.inl ⟨by rfl, ?_⟩) (by assumption) ?_
      rotate_left
      · first | (intro w' hSw; (try dsimp only at hSw); go_simp; done) | (intro w' hSw; (try dsimp only at hSw); go_simp; with_reducible rfl)
      try simp only [Act.put, List.getElem_toArray, List.getElem_cons_zero, List.getElem_cons_succ, List.setIfInBounds_toArray, List.set_cons_zero, List.set_cons_succ]
      refine wpAnyH_take (i := 11) (oi := _) (v := ?_) rfl (by kernel_rfl) (by kernel_rfl) (by kernel_rfl) (fun _ _ _ h => h) (Or.inl ⟨by rfl, ?_⟩) (by assumption) ?_
      rotate_left
      · first | (intro w' hSw; (try dsimp only at hSw); go_simp; done) | (intro w' hSw; (try dsimp only at hSw); go_simp; with_reducible rfl)
      try simp only [Act.put, List.getElem_toArray, List.getElem_cons_zero, List.getElem_cons_succ, List.setIfInBounds_toArray, List.set_cons_zero, List.set_cons_succ]
      refine wpAnyH_take (i := 12) (oi := _) (v := ?_) rfl (by kernel_rfl) (by kernel_rfl) (by kernel_rfl) (fun _ _ _ h => h) (Or.inl ⟨by rfl, ?_⟩) (by assumption) ?_
      rotate_left
      · first | (intro w' hSw; (try dsimp only at hSw); go_simp; done) | (intro w' hSw; (try dsimp only at hSw); go_simp; with_reducible rfl)
      try simp only [Act.put, List.getElem_toArray, List.getElem_cons_zero, List.getElem_cons_succ, List.setIfInBounds_toArray, List.set_cons_zero, List.set_cons_succ]
      refine wpAnyH_take (i := 13) (oi := _) (v := ?_) rfl (by kernel_rfl) (by kernel_rfl) (by kernel_rfl) (fun _ _ _ h => h) (Or.inl ⟨by rfl, ?_⟩) (by assumption) ?_
      rotate_left
      · first | (intro w' hSw; (try dsimp only at hSw); go_simp; done) | (intro w' hSw; (try dsimp only at hSw); go_simp; with_reducible rfl)
      try simp only [Act.put, List.getElem_toArray, List.getElem_cons_zero, List.getElem_cons_succ, List.setIfInBounds_toArray, List.set_cons_zero, List.set_cons_succ]
      refine wpAnyH_take (i := 14) (oi := _) (v := ?_) rfl (by kernel_rfl) (by kernel_rfl) (by kernel_rfl) (fun _ _ _ h => h) (Or.inl ⟨by rfl, ?_⟩) (by assumption) ?_
      rotate_left
      · first | (intro w' hSw; (try dsimp only at hSw); go_simp; done) | (intro w' hSw; (try dsimp only at hSw); go_simp; with_reducible rfl)
      try simp only [Act.put, List.getElem_toArray, List.getElem_cons_zero, List.getElem_cons_succ, List.setIfInBounds_toArray, List.set_cons_zero, List.set_cons_succ]
      refine wpAnyH_ready (rs := [15]) (by kernel_rfl) (by simp) ?_
      refine AllReadyH.cons (o := _) rfl (fun K hK => ?_) AllReadyH.nil
      go_simp
      refine (copiedRows_any _ p.terms W2.drew (HIW.out.keep (bel_drew (Below.refl _ _))) HFP.out).mono ?_
      rintro e w5 ⟨u5, rfl, ho5, hb5⟩
      have hx5 := (show Below W2.heap.size W2 w5 from bel_undrew hb5)
      have hsb := HB2.out.size
      have HX5 := Lib.hid (sz_keep HB2.out hx5)
      obtain ⟨A5, c5, rfl, -⟩ := ho5.reads.form
      have HO5 := Lib.hid (show ORows w5 wr.heap.size _ p.terms from ho5.base hsb)
      have p0 := cell_keep hx5 x0
      have p1 := cell_keep hx5 x1
      have p2 := cell_keep hx5 x2
      have p3 := cell_keep hx5 x3
      have HN := Lib.hid (HPUT.out w5 HX5.out _ HO5.out)
      obtain ⟨u0, j0, k0⟩ := HF.out.cell HX5.out (j := m * 4) (by have := HBL4.out; omega)
      obtain ⟨u1, j1, k1⟩ := HF.out.cell HX5.out (j := m * 4 + 1) (by have := HBL4.out; omega)
      obtain ⟨u2, j2, k2⟩ := HF.out.cell HX5.out (j := m * 4 + 2) (by have := HBL4.out; omega)
      obtain ⟨u3, j3, k3⟩ := HF.out.cell HX5.out (j := m * 4 + 3) (by have := HBL4.out; omega)
      clear ho5 hb5 hx5
      go_wp2_with fail
      refine hK.out _ _ ?_ (fun hHeld => ?_)
      · exact ⟨p0, p1, p2, p3⟩
      clear hK K
      try simp only [Act.put, List.getElem_toArray, List.getElem_cons_zero, List.getElem_cons_succ, List.setIfInBounds_toArray, List.set_cons_zero, List.set_cons_succ]
      refine wpAnyH_take (i := 16) (oi := _) (v := ?_) rfl (by kernel_rfl) (by kernel_rfl) (by kernel_rfl) (fun _ _ _ h => h) (Or.inl ⟨by rfl, ?_⟩) (by assumption) ?_
      rotate_left
      · first | (intro w' hSw; (try dsimp only at hSw); go_simp; done) | (intro w' hSw; (try dsimp only at hSw); go_simp; with_reducible rfl)
      try simp only [Act.put, List.getElem_toArray, List.getElem_cons_zero, List.getElem_cons_succ, List.setIfInBounds_toArray, List.set_cons_zero, List.set_cons_succ]
      refine wpAnyH_take (i := 17) (oi := _) (v := ?_) rfl (by kernel_rfl) (by kernel_rfl) (by kernel_rfl) (fun _ _ _ h => h) (Or.inl ⟨by rfl, ?_⟩) (by assumption) ?_
      rotate_left
      · first | (intro w' hSw; (try dsimp only at hSw); go_simp; done) | (intro w' hSw; (try dsimp only at hSw); go_simp; with_reducible rfl)
      try simp only [Act.put, List.getElem_toArray, List.getElem_cons_zero, List.getElem_cons_succ, List.setIfInBounds_toArray, List.set_cons_zero, List.set_cons_succ]
      refine wpAnyH_ready (rs := [18]) (by kernel_rfl) (by simp) ?_
      refine AllReadyH.cons (o := _) rfl (fun K hK => ?_) AllReadyH.nil
      go_simp
      skip
      go_wp2_with fail
      refine hK.out _ _ ?_ (fun hHeld => ?_)
      · exact ⟨(far4 (by omega) _ _ _ _ _ _ _ _ _).trans p0, (far4 (by omega) _ _ _ _ _ _ _ _ _).trans p1, (far4 (by omega) _ _ _ _ _ _ _ _ _).trans p2, (far4 (by omega) _ _ _ _ _ _ _ _ _).trans p3⟩
      clear hK K
      try simp only [Act.put, List.getElem_toArray, List.getElem_cons_zero, List.getElem_cons_succ, List.setIfInBounds_toArray, List.set_cons_zero, List.set_cons_succ]
      refine wpAnyH_done (by kernel_rfl) ?_ _
      clear x0 x1 x2 x3 p0 p1 p2 p3 j0 j1 j2 j3 k0 k1 k2 k3 hw1 hw2
      go_wp2
      go_roundw
      case rel => exact ⟨k + 1, by omega, by go_num, HN.out⟩
      case measure => simp [intOf]; omega
    · have hlt' : ¬ (k : Int) < (ps.length : Int) := by omega
      have hkn : k = ps.length := by omega
      have HD := Lib.hid (HF.out.done (by rw [HBL.out]; exact hkn) (by rw [HBL.out]; omega))
      rw [HBL.out] at HD
      subst hkn
      go_wp2
      go_ret
      exact ⟨_, rfl, HD.out.1, HD.out.2⟩
end Go.Proofs.Ytonainidjkcoeac
