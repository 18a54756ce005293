/- The exact laws' measure of steps, to the number: the rows of all steps together are not too many. -/
import Derived.Test.YtonainidjkcoeacSteps
import Derived.Test.YtonainidjkcoeacMarkG
namespace Go.Proofs.Ytonainidjkcoeac
open Go.RowKit
set_option linter.unusedVariables false

theorem tot_snoc {rows : List (List Int)} {k : Nat} (hk : k < rows.length) : tot (rows.take (k + 1)) = tot (rows.take k) + rows[k].length := tot_take hk
set_option maxRecDepth 100000 in
theorem szIntSS_tot (v : Value) (rows : List (List Int)) (left : Int) (w : World) (h : RRows w v rows) (h0 : 0 ≤ left) (h1 : left ≤ 1048576) :
    Calls Try.prog 17 #[v, .int .i64 left] w fun e w' => ∃ r : Int, e = .returned (.int .i64 r) ∧ (r < 0 ∨ (0 ≤ r ∧ r + (tot rows : Int) ≤ left ∧ Fits rows)) ∧ w = w' := by
  have H := Lib.hid h
  have hn := h.len
  obtain ⟨A, c, rfl, -⟩ := h.form
  clear h
  by_cases hl : left - (rows.length : Int) < 0
  · go_enter Try.func17, Try.ntmps17
    go_wp2
    go_ret
    exact ⟨-1, rfl, .inl (by omega), rfl⟩
  · go_enter Try.func17, Try.ntmps17
    go_wp2
    go_loop [1, 5] (fun l i => ∃ k : Nat, ∃ r : Int, k ≤ rows.length ∧ i = .int .i64 k ∧ l = .int .i64 r ∧ 0 ≤ r ∧ r + (tot (rows.take k) : Int) ≤ left ∧ r ≤ left ∧ (∀ row ∈ rows.take k, row.length ≤ 1048576)) (fun _ i => rows.length - (intOf i).toNat)
    case atStart => exact ⟨0, _, Nat.zero_le _, rfl, rfl, by omega, by simp [tot]; omega, by omega, by simp⟩
    case round =>
      obtain ⟨k, r, hk, rfl, rfl, hr0, hr1, hrl, hb0⟩ := hrel
      have hb := Lib.hid hb0
      have HR1 := Lib.hid hr1
      clear hb0 hr1
      by_cases hlt : k < rows.length
      · obtain ⟨b, o, c', u, e, hcell, hri⟩ := H.out.at_ hlt
        cases e
        have HT := Lib.hid (List.take_succ_eq_append_getElem hlt)
        have HTT := Lib.hid (tot_take hlt)
        generalize rows[k] = row at hri HT HTT
        have HI := Lib.hid hri
        obtain ⟨A', c'', rfl, -⟩ := hri.form
        clear hri
        go_wp2_with fail
        refine (szIntS_any _ row _ _ HI.out hr0 (by omega)).mono ?_
        rintro e w1 ⟨r', rfl, hr', rfl⟩
        by_cases hneg : r' < 0
        · clear hr'
          go_wp2
          go_ret
          exact ⟨-1, rfl, .inl (by omega), rfl⟩
        · obtain ⟨h2, h3⟩ := hr'.resolve_left hneg
          have HR := Lib.hid h3
          clear h3 hr'
          go_wp2
          go_round
          case rel =>
            have a1 := HR.out
            have a2 := HR1.out
            have a3 := HTT.out
            refine ⟨k + 1, r', by omega, by go_num, rfl, h2, by omega, by omega, ?_⟩
            rw [HT.out]
            intro x hx
            rcases List.mem_append.1 hx with hx | hx
            · exact hb.out x hx
            · simp at hx; subst hx; omega
          case measure => simp [intOf]; omega
      · go_wp2
        go_ret
        have h := hb.out
        have h2 := HR1.out
        rw [take_all (by omega)] at h h2
        exact ⟨r, rfl, .inr ⟨hr0, h2, by omega, h⟩, rfl⟩

set_option maxRecDepth 100000 in
theorem szStep_tot (v : Value) (p : MStep) (left : Int) (w : World) (h : RStep w v p) (h0 : 0 ≤ left) (h1 : left ≤ 1048576) :
    Calls Try.prog 48 #[v, .int .i64 left] w fun e w' => ∃ r : Int, e = .returned (.int .i64 r) ∧ (r < 0 ∨ (0 ≤ r ∧ r + (tot p.terms : Int) ≤ left ∧ FitsP p)) ∧ Below w.heap.size w w' := by
  obtain ⟨Apa, cpa, rfl⟩ := h.form
  have hb : Below w.heap.size w (w.alloc (.cells #[.int .i64 p.ax, .bool p.back, .int .i64 p.at_, .slice Apa p.terms.length cpa] 81)) := below_alloc _ _
  have HB := Lib.hid hb
  have hsz : (w.alloc (.cells #[.int .i64 p.ax, .bool p.back, .int .i64 p.at_, .slice Apa p.terms.length cpa] 81)).heap.size = w.heap.size + 1 := by simp
  have Hp := Lib.hid (h.keep hb)
  have p0 := bx_at (w) #[.int .i64 p.ax, .bool p.back, .int .i64 p.at_, .slice Apa p.terms.length cpa] 81 (k := 0) rfl
  have p1 := bx_at (w) #[.int .i64 p.ax, .bool p.back, .int .i64 p.at_, .slice Apa p.terms.length cpa] 81 (k := 1) rfl
  have p2 := bx_at (w) #[.int .i64 p.ax, .bool p.back, .int .i64 p.at_, .slice Apa p.terms.length cpa] 81 (k := 2) rfl
  have p3 := bx_at (w) #[.int .i64 p.ax, .bool p.back, .int .i64 p.at_, .slice Apa p.terms.length cpa] 81 (k := 3) rfl
  generalize hW : w.alloc (.cells #[.int .i64 p.ax, .bool p.back, .int .i64 p.at_, .slice Apa p.terms.length cpa] 81) = W at HB hsz Hp p0 p1 p2 p3
  clear hb h
  have R1 := Lib.hid Hp.out.of
  go_enter Try.func48, Try.ntmps48
  go_wp2_with fail
  clear hW
  refine (szIntSS_tot _ p.terms _ _ R1.out h0 h1).mono ?_
  rintro e w1 ⟨r, rfl, hr, rfl⟩
  by_cases hneg : r < 0
  · clear hr
    go_wp2
    go_ret
    exact ⟨-1, rfl, .inl (by omega), HB.out⟩
  have HR := Lib.hid (hr.resolve_left hneg)
  clear hr
  go_wp2
  go_ret
  exact ⟨r, rfl, .inr HR.out, HB.out⟩

/-- all rows of all steps -/
def totP : List MStep → Nat
  | [] => 0
  | p :: ps => tot p.terms + totP ps
theorem totP_take : ∀ {ps : List MStep} {k : Nat} (hk : k < ps.length), totP (ps.take (k + 1)) = totP (ps.take k) + tot ps[k].terms
  | [], k, hk => by simp at hk
  | p :: ps, 0, hk => by simp [totP]
  | p :: ps, k + 1, hk => by
    have := totP_take (ps := ps) (k := k) (by simpa using hk)
    simp only [List.take_succ_cons, totP, List.getElem_cons_succ] at this ⊢
    omega
def FitsQ (ps : List MStep) : Prop := FitsPs ps ∧ totP ps ≤ 1048576

set_option maxRecDepth 100000 in
theorem szStepS_tot (v : Value) (ps : List MStep) (left : Int) (w : World) (h : RSteps w v ps) (h0 : 0 ≤ left) (h1 : left ≤ 1048576) :
    Calls Try.prog 8 #[v, .int .i64 left] w fun e w' => ∃ r : Int, e = .returned (.int .i64 r) ∧ (r < 0 ∨ (0 ≤ r ∧ r ≤ left ∧ FitsQ ps)) ∧ Below w.heap.size w w' := by
  have H := Lib.hid h
  have hn := h.len
  obtain ⟨A, c, rfl, -⟩ := h.form
  clear h
  by_cases hl : left - (ps.length : Int) < 0
  · go_enter Try.func8, Try.ntmps8
    go_wp2
    go_ret
    exact ⟨-1, rfl, .inl (by omega), Below.refl _ _⟩
  · go_enter Try.func8, Try.ntmps8
    go_wp2
    go_loopw [1, 5] (fun l i wr => ∃ k : Nat, ∃ r : Int, k ≤ ps.length ∧ i = .int .i64 k ∧ l = .int .i64 r ∧ 0 ≤ r ∧ r + (totP (ps.take k) : Int) ≤ left ∧ r ≤ left ∧ (∀ p ∈ ps.take k, FitsP p) ∧ Below w.heap.size w wr) (fun _ i _ => ps.length - (intOf i).toNat)
    case atStart => exact ⟨0, _, Nat.zero_le _, rfl, rfl, by omega, by simp [totP]; omega, by omega, by simp, Below.refl _ _⟩
    case round =>
      obtain ⟨k, r, hk, rfl, rfl, hr0, hr1, hrl, hb0, hbw⟩ := hrel
      have hb := Lib.hid hb0
      have HBW := Lib.hid hbw
      have HR1 := Lib.hid hr1
      clear hb0 hbw hr1
      by_cases hlt : k < ps.length
      · obtain ⟨b, o, c', x, e, c0, c1, c2, c3, q0⟩ := (H.out.keep HBW.out).at_ hlt
        cases e
        have HT := Lib.hid (List.take_succ_eq_append_getElem hlt)
        have HTT := Lib.hid (totP_take hlt)
        generalize ps[k] = p at q0 c0 c1 c2 HT HTT
        have HI := Lib.hid (show RStep wr (.agg #[.int .i64 p.ax, .bool p.back, .int .i64 p.at_, x]) p from ⟨x, rfl, q0⟩)
        obtain ⟨A0, d0, rfl, -⟩ := q0.form
        clear q0
        go_wp2_with fail
        refine (szStep_tot _ p _ _ HI.out hr0 (by omega)).mono ?_
        rintro e' w1 ⟨r', rfl, hr', hb1⟩
        have HB1 := Lib.hid (sz_keep HBW.out hb1)
        clear hb1 c0 c1 c2 c3
        by_cases hneg : r' < 0
        · clear hr'
          go_wp2
          go_ret
          exact ⟨-1, rfl, .inl (by omega), HB1.out⟩
        · obtain ⟨h2, h3, h4⟩ := hr'.resolve_left hneg
          have HR := Lib.hid (And.intro h3 h4)
          clear h3 h4 hr'
          go_wp2
          go_roundw
          case rel =>
            have a1 := HR.out.1
            have a2 := HR1.out
            have a3 := HTT.out
            refine ⟨k + 1, r', by omega, by go_num, rfl, h2, by omega, by omega, ?_, HB1.out⟩
            rw [HT.out]
            intro x hx
            rcases List.mem_append.1 hx with hx | hx
            · exact hb.out x hx
            · simp at hx; subst hx; exact HR.out.2
          case measure => simp [intOf]; omega
      · go_wp2
        go_ret
        have h := hb.out
        have h2 := HR1.out
        rw [take_all (by omega)] at h h2
        exact ⟨r, rfl, .inr ⟨hr0, by omega, ⟨by omega, h⟩, by omega⟩, HBW.out⟩

/-! the marks of steps: arguments alone, to no number -/
theorem Outside.set {B M g o : Nat} {w w' : World} (h : Outside B M w w') (h1 : B ≤ g) (h2 : g < M) (u : Value) : Outside B M w (w'.setCell ⟨g, o, none⟩ u) :=
  ⟨h.os, h.tape, h.output, by rw [← h.size]; simp [World.setCell], fun k hk => (Below.heap_setCell w' ⟨g, o, none⟩ u k (by show k ≠ g; omega)).trans (h.block k hk)⟩

structure MarkS (w wr : World) (B M g c n : Nat) (us : Nat → Value) (rg : Nat → Nat × Nat) (ps : List MStep) (k : Nat) : Prop where
  blk : ∃ cur : Array Value, wr.heap[g]? = some (.cells cur 82 (0, 0)) ∧ cur.size = c * 4 ∧ ∀ j, j < n → cur[j * 4 + 3]? = some (us j)
  rows : ∀ j p, k ≤ j → ps[j]? = some p → InR wr (rg j) (us j) p.terms ∧ B ≤ (rg j).1 ∧ (rg j).2 ≤ M ∧ (g < (rg j).1 ∨ (rg j).2 ≤ g)
  frame : Outside B M w wr
theorem MarkS.cell {w wr : World} {B M g c n : Nat} {us : Nat → Value} {rg : Nat → Nat × Nat} {ps : List MStep} {k : Nat} (h : MarkS w wr B M g c n us rg ps k) {j : Nat} (hj : j < c * 4) : ∃ u, wr.cell? ⟨g, j, none⟩ = some u ∧ wr.frozen? ⟨g, j, none⟩ = false := by
  obtain ⟨cur, h1, h2, h3⟩ := h.blk
  exact ⟨cur[j]'(by omega), (blk_cell h1 j).trans (Array.getElem?_eq_getElem (by omega)), blk_free h1 j⟩
theorem MarkS.set {w wr : World} {B M g c n : Nat} {us : Nat → Value} {rg : Nat → Nat × Nat} {ps : List MStep} {k : Nat} (h : MarkS w wr B M g c n us rg ps k) (hg : B ≤ g) (hM : g < M) {i : Nat} (hi : i % 4 ≠ 3) (u : Value) : MarkS w (wr.setCell ⟨g, i, none⟩ u) B M g c n us rg ps k := by
  obtain ⟨cur, h1, h2, h3⟩ := h.blk
  refine ⟨⟨_, blk_set h1 i u, by simpa using h2, fun j hj => ?_⟩, fun j p hj hp => ?_, h.frame.set hg hM u⟩
  · rw [Array.getElem?_setIfInBounds, if_neg (by omega)]
    exact h3 j hj
  · obtain ⟨a, b, d, e⟩ := h.rows j p hj hp
    exact ⟨a.same fun x x1 x2 => Below.heap_setCell wr ⟨g, i, none⟩ u x (by show x ≠ g; omega), b, d, e⟩
theorem MarkS.step {w wr w1 : World} {B M g c n : Nat} {us : Nat → Value} {rg : Nat → Nat × Nat} {ps : List MStep} {k : Nat} (h : MarkS w wr B M g c n us rg ps k) (hk : k < ps.length) (hap : ∀ i j, i < j → j < ps.length → (rg i).2 ≤ (rg j).1 ∨ (rg j).2 ≤ (rg i).1)
    (ho : Outside (rg k).1 (rg k).2 wr w1) : MarkS w w1 B M g c n us rg ps (k + 1) := by
  obtain ⟨cur, h1, h2, h3⟩ := h.blk
  obtain ⟨a, b, d, e⟩ := h.rows k ps[k] (Nat.le_refl _) (List.getElem?_eq_getElem hk)
  refine ⟨⟨cur, (ho.block g (by omega)).trans h1, h2, h3⟩, fun j p hj hp => ?_, h.frame.trans (ho.mono b d)⟩
  obtain ⟨a', b', d', e'⟩ := h.rows j p (by omega) hp
  refine ⟨a'.same fun x x1 x2 => ho.block x ?_, b', d', e'⟩
  have := hap k j (by omega) (List.getElem?_eq_some_iff.1 hp).1
  omega

set_option maxHeartbeats 800000 in
set_option maxRecDepth 100000 in
theorem markStepS_go (v : Value) (B : Nat) (ps : List MStep) (k0 : Int) (wc w : World) (h : OSteps wc B v ps) (hk : Keeps B wc w) (hz : wc.heap.size ≤ w.heap.size) (hs : FitsQ ps) (h0 : 0 ≤ k0) (h1 : k0 ≤ 80000000000000) :
    Calls Try.prog 13 #[v, .int .i64 k0] w fun e w' => ∃ k : Int, e = .returned (.int .i64 k) ∧ 0 ≤ k ∧ k ≤ k0 + 2000000000000 ∧ ∃ wa, Below w.heap.size w wa ∧ Outside B wc.heap.size wa w' := by
  obtain ⟨g, c, cur, rg, rfl, g1, g2, g3, g4, g5, g6, g7⟩ := h
  have hgl := (Array.getElem?_eq_some_iff.1 g2).1
  have hps := hs.1.1
  have hus : ∃ us : Nat → Value, ∀ j p, ps[j]? = some p → cur[j * 4 + 3]? = some (us j) ∧ InR wc (rg j) (us j) p.terms ∧ B ≤ (rg j).1 ∧ (rg j).2 ≤ wc.heap.size ∧ (g < (rg j).1 ∨ (rg j).2 ≤ g) := by
    refine ⟨fun j => (cur[j * 4 + 3]?).getD (.bool false), fun j p hj => ?_⟩
    obtain ⟨u, -, -, -, c3, r, a, b, d⟩ := g6 j p hj
    simp only [c3, Option.getD_some]
    exact ⟨trivial, r, a, b, d⟩
  obtain ⟨us, hus⟩ := hus
  have hm : MarkS w w B wc.heap.size g c ps.length us rg ps 0 := by
    refine ⟨⟨cur, (hk g g1 hgl).trans g2, g5, fun j hj => (hus j _ (List.getElem?_eq_getElem hj)).1⟩, fun j p _ hp => ?_, Outside.refl _ _ _⟩
    obtain ⟨-, r, a, b, d⟩ := hus j p hp
    exact ⟨r.same fun x x1 x2 => hk x (by omega) (by omega), a, b, d⟩
  have HM := Lib.hid hm
  have HS := Lib.hid hs
  have HAP := Lib.hid g7
  clear g2 g6 g7 hus hm hk hs g5
  go_enter Try.func13, Try.ntmps13
  go_wp2
  go_loopw [1, 5] (fun l i wr => ∃ k : Nat, ∃ x : Int, k ≤ ps.length ∧ i = .int .i64 k ∧ l = .int .i64 x ∧ 0 ≤ x ∧ x ≤ k0 + 3 * (k : Int) + (totP (ps.take k) : Int) ∧ MarkS w wr B wc.heap.size g c ps.length us rg ps k) (fun _ i _ => ps.length - (intOf i).toNat)
  case atStart => exact ⟨0, k0, Nat.zero_le _, rfl, rfl, h0, by simp [totP], HM.out⟩
  case round =>
    obtain ⟨k, x, hk, rfl, rfl, hx0, hx1, hm⟩ := hrel
    have HMK := Lib.hid hm
    have HX1 := Lib.hid hx1
    have htp : totP (ps.take k) ≤ totP ps := by
      have : ∀ (l : List MStep) (n : Nat), totP (l.take n) ≤ totP l := fun l => by
        induction l with
        | nil => intro n; simp
        | cons a l ih => intro n; cases n with
          | zero => simp [totP]
          | succ n => have := ih n; simp only [List.take_succ_cons, totP]; omega
      exact this ps k
    have hxb : x ≤ 80000000000000 + 3 * 1048576 + 1048576 := by have := HS.out.2; omega
    clear hm hx1 htp
    by_cases hlt : k < ps.length
    · have hlt' : (k : Int) < (ps.length : Int) := by omega
      have HTT := Lib.hid (totP_take hlt)
      have HFP := Lib.hid (show Fits ps[k].terms from HS.out.1.2 _ (List.getElem_mem hlt))
      have HPK := Lib.hid (List.getElem?_eq_getElem hlt)
      obtain ⟨z0, m0, n0⟩ := HMK.out.cell (j := k * 4) (by omega)
      have h1m := HMK.out.set g1 hgl (i := k * 4) (by omega) (.int .i64 x)
      obtain ⟨z1, m1, n1⟩ := h1m.cell (j := k * 4 + 1) (by omega)
      have h2m := h1m.set g1 hgl (i := k * 4 + 1) (by omega) (.bool ((x + 1) % 3 == 0))
      obtain ⟨z2, m2, n2⟩ := h2m.cell (j := k * 4 + 2) (by omega)
      have h3m := h2m.set g1 hgl (i := k * 4 + 2) (by omega) (.int .i64 (x + 1 + 1))
      generalize hW3 : ((wr.setCell ⟨g, k * 4, none⟩ (.int .i64 x)).setCell ⟨g, k * 4 + 1, none⟩ (.bool ((x + 1) % 3 == 0))).setCell ⟨g, k * 4 + 2, none⟩ (.int .i64 (x + 1 + 1)) = W3 at h3m
      have hs3 : W3.heap.size = w.heap.size := h3m.frame.size
      obtain ⟨hin, hlo, hhi, -⟩ := h3m.rows k ps[k] (Nat.le_refl _) (List.getElem?_eq_getElem hlt)
      obtain ⟨Ak, ck, hke, -⟩ := hin.rows.reads.form
      have m3 : W3.cell? ⟨g, k * 4 + 3, none⟩ = some (us k) := by
        obtain ⟨cur', b1, b2, b3⟩ := h3m.blk
        exact (blk_cell b1 _).trans (b3 k hlt)
      have hsc : (cutTo W3 (rg k).2).heap.size = (rg k).2 := cut_size (by omega)
      have hcb := cut_below (w := W3) (M := (rg k).2) (by omega)
      have HOC := Lib.hid (show ORows (cutTo W3 (rg k).2) (rg k).1 (us k) ps[k].terms by
        obtain ⟨wd, e1, e2, e3⟩ := hin
        exact orows_same e2 fun i a b => (cut_block (by omega)).trans (e3 i a (by omega)))
      have HCB := Lib.hid hcb
      have HSC := Lib.hid hsc
      have HM3 := Lib.hid h3m
      rw [hke] at m3 HOC
      have htt : (tot ps[k].terms : Int) ≤ 1048576 := by
        have h5 := HS.out.2
        have : ∀ (l : List MStep) (n : Nat), totP (l.take n) ≤ totP l := fun l => by
          induction l with
          | nil => intro n; simp
          | cons a l ih => intro n; cases n with
            | zero => simp [totP]
            | succ n => have := ih n; simp only [List.take_succ_cons, totP]; omega
        have h6 := this ps (k + 1)
        have h7 := HTT.out
        omega
      generalize ps[k].terms = rows at m3 HOC HFP HTT htt hke
      have HFP2 := Lib.hid (show Fits rows from HFP.out)
      clear hin hsc hcb h1m h2m h3m hke
      go_wp2_with fail
      clear hW3
      refine (markIntSSp_any _ (rg k).1 rows _ _ W3 HOC.out HCB.out HFP2.out.1 HFP2.out.2 (by omega) (by omega)).mono ?_
      rintro e w1 ⟨rfl, -, hout⟩
      rw [HSC.out] at hout
      have HN := Lib.hid (HM3.out.step hlt HAP.out hout)
      clear hout m0 m1 m2 m3 n0 n1 n2
      go_wp2
      go_roundw
      case rel =>
        have a1 := HX1.out
        have a2 := HTT.out
        exact ⟨k + 1, _, by omega, by go_num, rfl, by omega, by omega, HN.out⟩
      case measure => simp [intOf]; omega
    · have hlt' : ¬ (k : Int) < (ps.length : Int) := by omega
      have hxx := HX1.out
      have ht2 := HS.out.2
      go_wp2
      go_ret
      rw [take_all (by omega)] at hxx
      exact ⟨x, rfl, hx0, by omega, w, Below.refl _ _, HMK.out.frame⟩
end Go.Proofs.Ytonainidjkcoeac
