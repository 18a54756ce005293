/- The exact laws' marks of lists of lists of steps, to the number: markStepSS, heldStepSS. · The exact laws' marks of a view that a call has made: markView, heldView. · A list of lists of steps that grows by append; each letter alone; the view of a theory in itself (plain). No walk. · ViewSelf of package impl: lettersOf; the view of a theory in itself. · MapSelf of package spec. -/
import Derived.Test.YtbopcghbmbchkaaK7a5970e1
import Derived.Maps.AppendAt
import Derived.Deep.RegionLaw
namespace Go.Proofs.Ytbopcghbmbchkaa
section
open Go.RowKit
set_option linter.unusedVariables false

theorem MarkQ.allc {w wr : World} {B M g c : Nat} {us : Nat → Value} {rg : Nat → Nat × Nat} {ps : List MStep} {k0 : Int} {k : Nat} (h : MarkQ w wr B M g c ps.length us rg ps k0 k) (hk : k = ps.length) (hg : B ≤ g) (hgM : g < M) (hc : ps.length ≤ c) (hc2 : c ≤ 9223372036854775807) (hM : M ≤ wr.heap.size) (hap : ∀ i j, i < j → j < ps.length → (rg i).2 ≤ (rg j).1 ∨ (rg j).2 ≤ (rg i).1) :
    OSteps (cutTo wr M) B (.slice (some ⟨g, 0, none⟩) ps.length c) (marksPs k0 ps) := by
  obtain ⟨cur, h1, h2, h3, h4⟩ := h.blk
  refine ⟨g, c, cur, rg, by rw [marksPs_len], hg, (cut_block hgM).trans h1, by rw [marksPs_len]; exact hc, hc2, h2, fun j p hj => ?_, fun i j hij hj => hap i j hij (by rw [marksPs_len] at hj; exact hj)⟩
  rw [marksPs_at] at hj
  obtain ⟨q, hq, rfl⟩ := Option.map_eq_some_iff.1 hj
  have hjl := (List.getElem?_eq_some_iff.1 hq).1
  obtain ⟨a1, a2, a3⟩ := h4 j (by omega)
  obtain ⟨r1, r2, r3⟩ := h.rng j q hq
  exact ⟨us j, a1, a2, a3, h3 j hjl, (h.done j q (by omega) hq).same (fun x x1 x2 => cut_block (by omega)), r1, by rw [cut_size hM]; exact r2, r3⟩
set_option maxHeartbeats 800000 in
set_option maxRecDepth 100000 in
theorem markStepS_c (v : Value) (B : Nat) (ps : List MStep) (k0 : Int) (wc w : World) (h : OSteps wc B v ps) (hk : Keeps B wc w) (hz : wc.heap.size ≤ w.heap.size) (hs : FitsQ ps) (h0 : 0 ≤ k0) (h1 : k0 ≤ 80000000000000) :
    Calls Try.prog 34 #[v, .int .i64 k0] w fun e w' => e = .returned (.int .i64 (mkAt k0 ps ps.length)) ∧ OSteps (cutTo w' wc.heap.size) B v (marksPs k0 ps) ∧ Outside B wc.heap.size w w' := by
  obtain ⟨g, c, cur, rg, rfl, g1, g2, g3, g4, g5, g6, g7⟩ := h
  have hgl := (Array.getElem?_eq_some_iff.1 g2).1
  have hps := hs.1.1
  have hus : ∃ us : Nat → Value, ∀ j p, ps[j]? = some p → cur[j * 4 + 3]? = some (us j) ∧ InR wc (rg j) (us j) p.terms ∧ B ≤ (rg j).1 ∧ (rg j).2 ≤ wc.heap.size ∧ (g < (rg j).1 ∨ (rg j).2 ≤ g) := by
    refine ⟨fun j => (cur[j * 4 + 3]?).getD (.bool false), fun j p hj => ?_⟩
    obtain ⟨u, -, -, -, c3, r, a, b, d⟩ := g6 j p hj
    simp only [c3, Option.getD_some]
    exact ⟨trivial, r, a, b, d⟩
  obtain ⟨us, hus⟩ := hus
  have hm : MarkQ w w B wc.heap.size g c ps.length us rg ps k0 0 := by
    refine ⟨⟨cur, (hk g g1 hgl).trans g2, g5, fun j hj => (hus j _ (List.getElem?_eq_getElem hj)).1, fun j hj => by omega⟩, fun j p hj => by omega, fun j p _ hp => ?_, fun j p hp => ?_, Outside.refl _ _ _⟩
    · obtain ⟨-, r, a, b, d⟩ := hus j p hp
      exact r.same fun x x1 x2 => hk x (by omega) (by omega)
    · obtain ⟨-, r, a, b, d⟩ := hus j p hp
      exact ⟨a, b, d⟩
  have HM := Lib.hid hm
  have HS := Lib.hid hs
  have HAP := Lib.hid g7
  clear g2 g6 g7 hus hm hk hs g5
  go_enter Try.func34, Try.ntmps34
  go_wp2
  go_loopw [1, 5] (fun l i wr => ∃ k : Nat, ∃ x : Int, k ≤ ps.length ∧ i = .int .i64 k ∧ l = .int .i64 x ∧ 0 ≤ x ∧ x = mkAt k0 ps k ∧ MarkQ w wr B wc.heap.size g c ps.length us rg ps k0 k) (fun _ i _ => ps.length - (intOf i).toNat)
  case atStart => exact ⟨0, k0, Nat.zero_le _, rfl, rfl, h0, by simp [mkAt, totP], HM.out⟩
  case round =>
    obtain ⟨k, x, hk, rfl, rfl, hx0, hx1, hm⟩ := hrel
    have HMK := Lib.hid hm
    have HX1 := Lib.hid hx1
    have htp : totP (ps.take k) ≤ totP ps := by
      have : ∀ (l : List MStep) (n : Nat), totP (l.take n) ≤ totP l := fun l => by
        induction l with
        | nil => intro n; simp
        | cons a l ih => intro n; cases n with
          | zero => simp [totP]
          | succ n => have := ih n; simp only [List.take_succ_cons, totP]; omega
      exact this ps k
    have hxb : x ≤ 80000000000000 + 3 * 1048576 + 1048576 := by have := HS.out.2; have h9 := HX1.out; unfold mkAt at h9; omega
    clear hm hx1 htp
    by_cases hlt : k < ps.length
    · have hlt' : (k : Int) < (ps.length : Int) := by omega
      have HTT := Lib.hid (totP_take hlt)
      have HFP := Lib.hid (show Fits ps[k].terms from HS.out.1.2 _ (List.getElem_mem hlt))
      have HPK := Lib.hid (List.getElem?_eq_getElem hlt)
      obtain ⟨z0, m0, n0⟩ := HMK.out.cell (j := k * 4) (by omega)
      have h1m := HMK.out.set g1 hgl (i := k * 4) (by omega) (by omega) (.int .i64 x)
      obtain ⟨z1, m1, n1⟩ := h1m.cell (j := k * 4 + 1) (by omega)
      have h2m := h1m.set g1 hgl (i := k * 4 + 1) (by omega) (by omega) (.bool ((x + 1) % 3 == 0))
      obtain ⟨z2, m2, n2⟩ := h2m.cell (j := k * 4 + 2) (by omega)
      have h3m := h2m.set g1 hgl (i := k * 4 + 2) (by omega) (by omega) (.int .i64 (x + 1 + 1))
      generalize hW3 : ((wr.setCell ⟨g, k * 4, none⟩ (.int .i64 x)).setCell ⟨g, k * 4 + 1, none⟩ (.bool ((x + 1) % 3 == 0))).setCell ⟨g, k * 4 + 2, none⟩ (.int .i64 (x + 1 + 1)) = W3 at h3m
      have hs3 : W3.heap.size = w.heap.size := h3m.frame.size
      have hin := h3m.todo k ps[k] (Nat.le_refl _) (List.getElem?_eq_getElem hlt)
      obtain ⟨hlo, hhi, -⟩ := h3m.rng k ps[k] (List.getElem?_eq_getElem hlt)
      obtain ⟨Ak, ck, hke, -⟩ := hin.rows.reads.form
      have m3 : W3.cell? ⟨g, k * 4 + 3, none⟩ = some (us k) := by
        obtain ⟨cur', b1, b2, b3, -⟩ := h3m.blk
        exact (blk_cell b1 _).trans (b3 k hlt)
      have hsc : (cutTo W3 (rg k).2).heap.size = (rg k).2 := cut_size (by omega)
      have hcb := cut_below (w := W3) (M := (rg k).2) (by omega)
      have HOC := Lib.hid (show ORows (cutTo W3 (rg k).2) (rg k).1 (us k) ps[k].terms by
        obtain ⟨wd, e1, e2, e3⟩ := hin
        exact orows_same e2 fun i a b => (cut_block (by omega)).trans (e3 i a (by omega)))
      have HCB := Lib.hid hcb
      have HSC := Lib.hid hsc
      rw [hke] at m3 HOC
      have htt : (tot ps[k].terms : Int) ≤ 1048576 := by
        have h5 := HS.out.2
        have : ∀ (l : List MStep) (n : Nat), totP (l.take n) ≤ totP l := fun l => by
          induction l with
          | nil => intro n; simp
          | cons a l ih => intro n; cases n with
            | zero => simp [totP]
            | succ n => have := ih n; simp only [List.take_succ_cons, totP]; omega
        have h6 := this ps (k + 1)
        have h7 := HTT.out
        omega
      have HSTEP := Lib.hid (fun (w1 : World) (ho : Outside (rg k).1 (rg k).2 W3 w1) (hi : InR w1 (rg k) (.slice Ak ps[k].terms.length ck) (marksR (x + 1 + 1 + 1) ps[k].terms)) => HMK.out.step HX1.out g1 hgl hlt rfl g3 HAP.out (by rw [hW3]; exact ho) (by rw [hke]; exact hi))
      generalize ps[k].terms = rows at m3 HOC HFP HTT htt hke HSTEP
      have HFP2 := Lib.hid (show Fits rows from HFP.out)
      clear hin hsc hcb h1m h2m h3m hke
      go_wp2_with fail
      clear hW3
      refine (markIntSSc_any _ (rg k).1 rows _ _ W3 HOC.out HCB.out HFP2.out.1 HFP2.out.2 (by omega) (by omega)).mono ?_
      rintro e w1 ⟨rfl, hoc, hout⟩
      rw [HSC.out] at hout hoc
      have hs1 := hout.size
      have HN := Lib.hid (HSTEP.out w1 hout ⟨cutTo w1 (rg k).2, cut_size (by omega), hoc, fun i a b => (cut_block b).symm⟩)
      clear hout m0 m1 m2 m3 n0 n1 n2
      go_wp2
      go_roundw
      case rel =>
        have a1 := HX1.out
        have a2 := HTT.out
        exact ⟨k + 1, _, by omega, by go_num, rfl, by omega, by unfold mkAt at a1 ⊢; rw [a2]; omega, HN.out⟩
      case measure => simp [intOf]; omega
    · have hlt' : ¬ (k : Int) < (ps.length : Int) := by omega
      have hkn : k = ps.length := by omega
      have HKN := Lib.hid hkn
      clear hkn
      go_wp2
      go_ret
      have e1 := HX1.out
      have e2 := HKN.out
      refine ⟨ret_int (by rw [e1, e2]), HMK.out.allc e2 g1 hgl g3 g4 (by have := HMK.out.frame.size; omega) HAP.out, HMK.out.frame⟩


/-- how many marks a list of steps takes -/
def cntP (ps : List MStep) : Int := 3 * (ps.length : Int) + (totP ps : Int)
theorem mkAt_all (k0 : Int) (ps : List MStep) : mkAt k0 ps ps.length = k0 + cntP ps := by
  unfold mkAt cntP; rw [List.take_of_length_le (Nat.le_refl _)]; omega
def cntPP : List (List MStep) → Int
  | [] => 0
  | ps :: pss => cntP ps + cntPP pss
theorem cntPP_take : ∀ {pss : List (List MStep)} {k : Nat} (hk : k < pss.length), cntPP (pss.take (k + 1)) = cntPP (pss.take k) + cntP pss[k]
  | [], k, hk => by simp at hk
  | p :: ps, 0, hk => by simp [cntPP]
  | p :: ps, k + 1, hk => by
    have := cntPP_take (pss := ps) (k := k) (by simpa using hk)
    simp only [List.take_succ_cons, cntPP, List.getElem_cons_succ] at this ⊢
    omega
def FitsVQ (pss : List (List MStep)) : Prop := pss.length ≤ 1048576 ∧ ∀ ps ∈ pss, FitsQ ps
theorem cntP_le {ps : List MStep} (h : FitsQ ps) : 0 ≤ cntP ps ∧ cntP ps ≤ 4194304 := by
  have h1 := h.1.1
  have h2 := h.2
  unfold cntP; omega
theorem cntPP_le {pss : List (List MStep)} (h : ∀ ps ∈ pss, FitsQ ps) : 0 ≤ cntPP pss ∧ cntPP pss ≤ 4194304 * (pss.length : Int) := by
  induction pss with
  | nil => simp [cntPP]
  | cons a l ih =>
    have h1 := cntP_le (h a (List.mem_cons_self ..))
    have h2 := ih fun p hp => h p (List.mem_cons_of_mem _ hp)
    simp only [cntPP, List.length_cons]
    omega
def marksPss (k : Int) : List (List MStep) → List (List MStep)
  | [] => []
  | ps :: pss => marksPs k ps :: marksPss (k + cntP ps) pss
theorem marksPss_at : ∀ (pss : List (List MStep)) (k : Int) (j : Nat), (marksPss k pss)[j]? = (pss[j]?).map fun ps => marksPs (k + cntPP (pss.take j)) ps
  | [], k, j => by simp [marksPss]
  | p :: ps, k, 0 => by simp [marksPss, cntPP]
  | p :: ps, k, j + 1 => by
    simp only [marksPss, List.getElem?_cons_succ, marksPss_at ps]
    congr 1
    funext x
    congr 1
    simp only [List.take_succ_cons, cntPP]
    omega
theorem marksPss_len : ∀ (pss : List (List MStep)) (k : Int), (marksPss k pss).length = pss.length
  | [], k => rfl
  | p :: ps, k => by simp [marksPss, marksPss_len ps]
structure MarkSS (w wr : World) (B M g c n : Nat) (us : Nat → Value) (rg : Nat → Nat × Nat) (pss : List (List MStep)) (k0 : Int) (k : Nat) : Prop where
  blk : ∃ cur : Array Value, wr.heap[g]? = some (.cells cur 60 (0, 0)) ∧ cur.size = c ∧ ∀ j, j < n → cur[j]? = some (us j)
  done : ∀ j ps, j < k → pss[j]? = some ps → InS wr (rg j) (us j) (marksPs (k0 + cntPP (pss.take j)) ps)
  todo : ∀ j ps, k ≤ j → pss[j]? = some ps → InS wr (rg j) (us j) ps
  rng : ∀ j ps, pss[j]? = some ps → B ≤ (rg j).1 ∧ (rg j).2 ≤ M ∧ (g < (rg j).1 ∨ (rg j).2 ≤ g)
  frame : Outside B M w wr
section
variable {w wr w1 : World} {B M g c n : Nat} {us : Nat → Value} {rg : Nat → Nat × Nat} {pss : List (List MStep)} {k0 : Int} {k : Nat}
theorem MarkSS.step {x : Int} (h : MarkSS w wr B M g c n us rg pss k0 k) (hx : x = k0 + cntPP (pss.take k)) (hk : k < pss.length) (hap : ∀ i j, i < j → j < pss.length → (rg i).2 ≤ (rg j).1 ∨ (rg j).2 ≤ (rg i).1)
    (ho : Outside (rg k).1 (rg k).2 wr w1) (hm : InS w1 (rg k) (us k) (marksPs x pss[k])) : MarkSS w w1 B M g c n us rg pss k0 (k + 1) := by
  subst hx
  obtain ⟨cur, h1, h2, h3⟩ := h.blk
  obtain ⟨b, d, e⟩ := h.rng k pss[k] (List.getElem?_eq_getElem hk)
  refine ⟨⟨cur, (ho.block g (by omega)).trans h1, h2, h3⟩, fun j p hj hp => ?_, fun j p hj hp => ?_, h.rng, h.frame.trans (ho.mono b d)⟩
  · by_cases hjk : j = k
    · subst hjk
      rw [List.getElem?_eq_getElem hk] at hp
      cases hp
      exact hm
    · refine (h.done j p (by omega) hp).same fun x x1 x2 => ho.block x ?_
      have := hap j k (by omega) hk
      omega
  · refine (h.todo j p (by omega) hp).same fun x x1 x2 => ho.block x ?_
    have := hap k j (by omega) (List.getElem?_eq_some_iff.1 hp).1
    omega
theorem MarkSS.all (h : MarkSS w wr B M g c pss.length us rg pss k0 k) (hk : k = pss.length) (hg : B ≤ g) (hc : pss.length ≤ c) (hc2 : c ≤ 9223372036854775807) (hM : M ≤ wr.heap.size) (hap : ∀ i j, i < j → j < pss.length → (rg i).2 ≤ (rg j).1 ∨ (rg j).2 ≤ (rg i).1) :
    OPss wr B (.slice (some ⟨g, 0, none⟩) pss.length c) (marksPss k0 pss) := by
  obtain ⟨cur, h1, h2, h3⟩ := h.blk
  refine ⟨g, c, cur, rg, by rw [marksPss_len], hg, h1, by rw [marksPss_len]; exact hc, hc2, h2, fun j p hj => ?_, fun i j hij hj => hap i j hij (by rw [marksPss_len] at hj; exact hj)⟩
  rw [marksPss_at] at hj
  obtain ⟨q, hq, rfl⟩ := Option.map_eq_some_iff.1 hj
  have hjl := (List.getElem?_eq_some_iff.1 hq).1
  obtain ⟨r1, r2, r3⟩ := h.rng j q hq
  exact ⟨us j, h3 j hjl, h.done j q (by omega) hq, r1, by omega, r3⟩
end

set_option maxHeartbeats 800000 in
set_option maxRecDepth 100000 in
theorem markStepSS_q (v : Value) (B : Nat) (pss : List (List MStep)) (k0 : Int) (wc w : World) (h : OPss wc B v pss) (hk : Keeps B wc w) (hz : wc.heap.size ≤ w.heap.size) (hs : FitsVQ pss) (h0 : 0 ≤ k0) (h1 : k0 ≤ 70000000000000) :
    Calls Try.prog 68 #[v, .int .i64 k0] w fun e w' => e = .returned (.int .i64 (k0 + cntPP pss)) ∧ OPss w' B v (marksPss k0 pss) ∧ Outside B wc.heap.size w w' := by
  obtain ⟨g, c, cur, rg, rfl, g1, g2, g3, g4, g5, g6, g7⟩ := h
  have hgl := (Array.getElem?_eq_some_iff.1 g2).1
  have hps := hs.1
  have hus : ∃ us : Nat → Value, ∀ j p, pss[j]? = some p → cur[j]? = some (us j) ∧ InS wc (rg j) (us j) p ∧ B ≤ (rg j).1 ∧ (rg j).2 ≤ wc.heap.size ∧ (g < (rg j).1 ∨ (rg j).2 ≤ g) := by
    refine ⟨fun j => (cur[j]?).getD (.bool false), fun j p hj => ?_⟩
    obtain ⟨u, c3, r, a, b, d⟩ := g6 j p hj
    simp only [c3, Option.getD_some]
    exact ⟨trivial, r, a, b, d⟩
  obtain ⟨us, hus⟩ := hus
  have hm : MarkSS w w B wc.heap.size g c pss.length us rg pss k0 0 := by
    refine ⟨⟨cur, (hk g g1 hgl).trans g2, g5, fun j hj => (hus j _ (List.getElem?_eq_getElem hj)).1⟩, fun j p hj => by omega, fun j p _ hp => ?_, fun j p hp => ?_, Outside.refl _ _ _⟩
    · obtain ⟨-, r, a, b, d⟩ := hus j p hp
      exact r.same fun x x1 x2 => hk x (by omega) (by omega)
    · obtain ⟨-, r, a, b, d⟩ := hus j p hp
      exact ⟨a, b, d⟩
  have HM := Lib.hid hm
  have HS := Lib.hid hs
  have HAP := Lib.hid g7
  clear g2 g6 g7 hus hm hk hs g5
  go_enter Try.func68, Try.ntmps68
  go_wp2
  go_loopw [1, 5] (fun l i wr => ∃ k : Nat, ∃ x : Int, k ≤ pss.length ∧ i = .int .i64 k ∧ l = .int .i64 x ∧ 0 ≤ x ∧ x = k0 + cntPP (pss.take k) ∧ MarkSS w wr B wc.heap.size g c pss.length us rg pss k0 k) (fun _ i _ => pss.length - (intOf i).toNat)
  case atStart => exact ⟨0, k0, Nat.zero_le _, rfl, rfl, h0, by simp [cntPP], HM.out⟩
  case round =>
    obtain ⟨k, x, hk, rfl, rfl, hx0, hx1, hm⟩ := hrel
    have HMK := Lib.hid hm
    have HX1 := Lib.hid hx1
    have hxb : x ≤ 80000000000000 := by
      have h9 := HX1.out
      have h8 := (cntPP_le (pss := pss.take k) fun p hp => HS.out.2 p (List.mem_of_mem_take hp)).2
      have h7 : (pss.take k).length ≤ 1048576 := by rw [List.length_take]; omega
      omega
    clear hm hx1
    by_cases hlt : k < pss.length
    · have hlt' : (k : Int) < (pss.length : Int) := by omega
      have HTT := Lib.hid (cntPP_take hlt)
      have HFP := Lib.hid (HS.out.2 _ (List.getElem_mem hlt))
      have hcl := cntP_le HFP.out
      have hin := HMK.out.todo k pss[k] (Nat.le_refl _) (List.getElem?_eq_getElem hlt)
      obtain ⟨wd, e1, e2, e3⟩ := hin
      obtain ⟨Ak, ck, hke, -⟩ := e2.reads.form
      obtain ⟨hlo, hhi, -⟩ := HMK.out.rng k pss[k] (List.getElem?_eq_getElem hlt)
      have hszr := HMK.out.frame.size
      have m3 : wr.cell? ⟨g, k, none⟩ = some (us k) := by
        obtain ⟨cur', b1, b2, b3⟩ := HMK.out.blk
        exact (blk_cell b1 _).trans (b3 k hlt)
      have HSTEP := Lib.hid (fun (w1 : World) (ho : Outside (rg k).1 (rg k).2 wr w1) (hi : InS w1 (rg k) (us k) (marksPs x pss[k])) => HMK.out.step HX1.out hlt HAP.out ho hi)
      have HOS := Lib.hid e2
      have HKE := Lib.hid (show Keeps (rg k).1 wd wr from fun i a b => e3 i a (by omega))
      have HE1 := Lib.hid e1
      rw [hke] at m3 HOS HSTEP
      generalize pss[k] = ps at m3 HOS HSTEP HFP HTT hke hcl
      clear e1 e2 e3 hke
      go_wp2_with fail
      refine (markStepS_c _ (rg k).1 ps _ wd wr HOS.out HKE.out (by rw [HE1.out]; omega) HFP.out hx0 hxb).mono ?_
      rw [mkAt_all, HE1.out]
      rintro e w1 ⟨rfl, hoc, hout⟩
      have hs1 := hout.size
      have HN := Lib.hid (HSTEP.out w1 hout ⟨cutTo w1 (rg k).2, cut_size (by omega), hoc, fun i a b => (cut_block b).symm⟩)
      clear hout hoc m3
      go_wp2
      go_roundw
      case rel =>
        have a1 := HX1.out
        have a2 := HTT.out
        exact ⟨k + 1, _, by omega, by go_num, rfl, by omega, by rw [a2, a1]; omega, HN.out⟩
      case measure => simp [intOf]; omega
    · have hlt' : ¬ (k : Int) < (pss.length : Int) := by omega
      have hkn : k = pss.length := by omega
      have HKN := Lib.hid hkn
      clear hkn
      go_wp2
      go_ret
      have e1 := HX1.out
      have e2 := HKN.out
      rw [e2, List.take_of_length_le (Nat.le_refl _)] at e1
      refine ⟨ret_int (by rw [e1]), HMK.out.all e2 g1 g3 g4 (by have := HMK.out.frame.size; omega) HAP.out, HMK.out.frame⟩

set_option maxHeartbeats 800000 in
set_option maxRecDepth 100000 in
theorem heldStepSS_any (v : Value) (pss : List (List MStep)) (k0 : Int) (w : World) (h : RPss w v (marksPss k0 pss)) (hs : FitsVQ pss) (h0 : 0 ≤ k0) (h1 : k0 ≤ 70000000000000) :
    Calls Try.prog 70 #[v, .int .i64 k0] w fun e w' => e = .returned (.int .i64 (k0 + cntPP pss)) ∧ Below w.heap.size w w' := by
  have H := Lib.hid h
  have HS := Lib.hid hs
  have hps := hs.1
  obtain ⟨A, c, e, -⟩ := h.form
  rw [marksPss_len] at e
  subst e
  clear h hs
  go_enter Try.func70, Try.ntmps70
  go_wp2
  go_loopw [1, 5] (fun l i wr => ∃ k : Nat, ∃ x : Int, k ≤ pss.length ∧ i = .int .i64 k ∧ l = .int .i64 x ∧ 0 ≤ x ∧ x = k0 + cntPP (pss.take k) ∧ Below w.heap.size w wr) (fun _ i _ => pss.length - (intOf i).toNat)
  case atStart => exact ⟨0, k0, Nat.zero_le _, rfl, rfl, h0, by simp [cntPP], Below.refl _ _⟩
  case round =>
    obtain ⟨k, x, hk, rfl, rfl, hx0, hx1, hb⟩ := hrel
    have HB := Lib.hid hb
    have HX1 := Lib.hid hx1
    have hxb : x ≤ 80000000000000 := by
      have h9 := HX1.out
      have h8 := (cntPP_le (pss := pss.take k) fun p hp => HS.out.2 p (List.mem_of_mem_take hp)).2
      have h7 : (pss.take k).length ≤ 1048576 := by rw [List.length_take]; omega
      omega
    clear hb hx1
    by_cases hlt : k < pss.length
    · have hlt' : (k : Int) < (pss.length : Int) := by omega
      obtain ⟨b, o, c', u, e, c0, q0⟩ := (H.out.keep HB.out).at_ (k := k) (by rw [marksPss_len]; exact hlt)
      rw [marksPss_len] at e
      cases e
      have hel : (marksPss k0 pss)[k]'(by rw [marksPss_len]; exact hlt) = marksPs (k0 + cntPP (pss.take k)) pss[k] := by
        have := marksPss_at pss k0 k
        rw [List.getElem?_eq_getElem (by rw [marksPss_len]; exact hlt), List.getElem?_eq_getElem hlt] at this
        simpa using this
      rw [hel, ← HX1.out] at q0
      have HFP := Lib.hid (HS.out.2 _ (List.getElem_mem hlt))
      have hcl := cntP_le HFP.out
      have HTT := Lib.hid (cntPP_take hlt)
      clear hel
      generalize pss[k] = ps at q0 HFP HTT hcl
      have hneg : ¬ x + cntP ps < 0 := by omega
      obtain ⟨A1, d1, e1, -⟩ := q0.form
      rw [marksPs_len] at e1
      subst e1
      have HQ := Lib.hid q0
      clear q0
      go_wp2_with fail
      refine (heldStepS_any _ ps _ _ HQ.out HFP.out hx0 hxb).mono ?_
      rw [mkAt_all]
      rintro e w1 ⟨rfl, hd⟩
      have HB1 := Lib.hid (sz_keep HB.out hd)
      clear hd c0
      go_wp2
      go_roundw
      case rel =>
        have a1 := HX1.out
        have a2 := HTT.out
        exact ⟨k + 1, _, by omega, by go_num, rfl, by omega, by rw [a2, a1]; omega, HB1.out⟩
      case measure => simp [intOf]; omega
    · have hlt' : ¬ (k : Int) < (pss.length : Int) := by omega
      have hkn : k = pss.length := by omega
      have HKN := Lib.hid hkn
      clear hkn
      go_wp2
      go_ret
      have e1 := HX1.out
      have e2 := HKN.out
      rw [e2, List.take_of_length_le (Nat.le_refl _)] at e1
      exact ⟨ret_int (by rw [e1]), HB.out⟩
end

section
open Go.RowKit
set_option linter.unusedVariables false
set_option linter.unusedSimpArgs false

theorem own_blk {w w' : World} {B : Nat} {e : TypeId} {size n : Nat} {v : Value} {zs : List Value} (h : w.ownsRow B e size v n zs) (hk : ∀ g, v.ownBlock = some g → w'.heap[g]? = w.heap[g]?) : w'.ownsRow B e size v n zs := by
  refine ⟨h.1, ?_⟩
  rcases h.2 with h2 | ⟨g, cap, cur, rfl, hg, hh, r⟩
  · exact .inl h2
  · exact .inr ⟨g, cap, cur, rfl, hg, (hk g rfl).trans hh, r⟩
/-- a list of lists of steps, or nil -/
def OPssN (w : World) (B : Nat) (v : Value) (pss : List (List MStep)) : Prop := OPss w B v pss ∨ (v = .slice none 0 0 ∧ pss = [])
theorem OPssN.same {w w' : World} {B : Nat} {v : Value} {pss : List (List MStep)} (h : OPssN w B v pss) (hs : w.heap.size ≤ w'.heap.size) (hk : ∀ k, B ≤ k → k < w.heap.size → w'.heap[k]? = w.heap[k]?) : OPssN w' B v pss := h.imp (fun h => h.same hs hk) id
theorem OPssN.reads {w : World} {B : Nat} {v : Value} {pss : List (List MStep)} (h : OPssN w B v pss) : RPss w v pss := by
  rcases h with h | ⟨rfl, rfl⟩
  · exact h.reads
  · exact RPss.nil _
def OViewN (w : World) (B : Nat) (v : Value) (m : MView) : Prop := ∃ u x y, v = .agg #[u, x, y] ∧ ∃ (wc : World) (B0 : Nat), B ≤ B0 ∧ B0 ≤ wc.heap.size ∧ wc.heap.size ≤ w.heap.size ∧ OMap wc B0 (.agg #[u, x]) m.along ∧ (∀ k, B0 ≤ k → k < wc.heap.size → w.heap[k]? = wc.heap[k]?) ∧ OPssN w wc.heap.size y m.proofs
section
variable {w w' : World} {B B' : Nat} {v : Value} {m : MView}
theorem OViewN.same (h : OViewN w B v m) (hs : w.heap.size ≤ w'.heap.size) (hk : ∀ k, B ≤ k → k < w.heap.size → w'.heap[k]? = w.heap[k]?) : OViewN w' B v m := by
  obtain ⟨u, x, y, rfl, wc, B0, z, a, b, c, d, e⟩ := h
  exact ⟨u, x, y, rfl, wc, B0, z, a, by omega, c, fun k h1 h2 => (hk k (by omega) (by omega)).trans (d k h1 h2), e.same hs fun k h1 h2 => hk k (by omega) h2⟩
theorem OViewN.keep (h : OViewN w B v m) (hb : Below w.heap.size w w') : OViewN w' B v m := h.same hb.size fun k _ hk => hb.block k hk
theorem OViewN.base (h : OViewN w B v m) (hB : B' ≤ B) : OViewN w B' v m := by
  obtain ⟨u, x, y, rfl, wc, B0, z, r⟩ := h
  exact ⟨u, x, y, rfl, wc, B0, by omega, r⟩
theorem OViewN.reads (h : OViewN w B v m) : RView w v m := by
  obtain ⟨u, x, y, rfl, wc, B0, z, a, b, c, d, e⟩ := h
  obtain ⟨⟨h1, h2⟩, -⟩ := (show (OInts wc B0 u m.along.sorts ∧ OInts wc B0 x m.along.ops) ∧ Apart u x by obtain ⟨p, q, r⟩ := c.of; exact ⟨⟨p, q⟩, r⟩)
  exact ⟨u, x, y, rfl, (h1.same d).reads, (h2.same d).reads, e.reads⟩
end
def FitsVV (m : MView) : Prop := FitsMp m.along ∧ FitsVQ m.proofs

set_option maxRecDepth 100000 in
theorem markStepSSN_q (v : Value) (B : Nat) (pss : List (List MStep)) (k0 : Int) (wc w : World) (h : OPssN wc B v pss) (hk : Keeps B wc w) (hz : wc.heap.size ≤ w.heap.size) (hs : FitsVQ pss) (h0 : 0 ≤ k0) (h1 : k0 ≤ 70000000000000) :
    Calls Try.prog 68 #[v, .int .i64 k0] w fun e w' => e = .returned (.int .i64 (k0 + cntPP pss)) ∧ OPssN w' B v (marksPss k0 pss) ∧ Outside B wc.heap.size w w' := by
  rcases h with h | ⟨rfl, rfl⟩
  · refine (markStepSS_q v B pss k0 wc w h hk hz hs h0 h1).mono ?_
    rintro e w' ⟨rfl, a, b⟩
    exact ⟨rfl, .inl a, b⟩
  · clear hk hz hs
    go_enter Try.func68, Try.ntmps68
    go_wp2
    go_loopw [1, 5] (fun l i wr => i = .int .i64 0 ∧ l = .int .i64 k0 ∧ Outside B wc.heap.size w wr) (fun _ i _ => 1)
    case atStart => exact ⟨rfl, rfl, Outside.refl _ _ _⟩
    case round =>
      obtain ⟨rfl, rfl, ho⟩ := hrel
      have HO := Lib.hid ho
      clear ho
      go_wp2
      go_ret
      exact ⟨ret_int (by simp [cntPP]), .inr ⟨rfl, rfl⟩, HO.out⟩

set_option maxHeartbeats 800000 in
set_option maxRecDepth 100000 in
theorem heldView_n (v : Value) (u x y : Value) (m : MView) (k0 : Int) (w : World) (hv : v = .agg #[u, x, y]) (h1 : RMap w (.agg #[u, x]) (marksMp k0 m.along)) (h2 : RPss w y (marksPss (k0 + totMp m.along) m.proofs)) (hs : FitsVV m) (h0 : 0 ≤ k0) (hk : k0 ≤ 1000) :
    Calls Try.prog 19 #[v, .int .i64 k0] w fun e w' => e = .returned (.int .i64 (k0 + totMp m.along + cntPP m.proofs)) ∧ Below w.heap.size w w' := by
  subst hv
  obtain ⟨hs1, hs2⟩ := hs
  have hb := below_alloc w (.cells #[u, x, y] 45)
  have P1 := Lib.hid (h1.keep hb)
  have P2 := Lib.hid (h2.keep hb)
  have htot : 0 ≤ totMp m.along ∧ totMp m.along ≤ 2097152 := by
    obtain ⟨a, b⟩ := hs1
    unfold totMp
    omega
  have hcnt := cntPP_le hs2.2
  have hpl := hs2.1
  have t0 := bx_at w #[u, x, y] 45 (k := 0) rfl
  have t1 := bx_at w #[u, x, y] 45 (k := 1) rfl
  have t2 := bx_at w #[u, x, y] 45 (k := 2) rfl
  have f1 := h1.of
  obtain ⟨A0, c0, rfl, -⟩ := f1.1.form
  obtain ⟨A1, c1, rfl, -⟩ := f1.2.form
  obtain ⟨A2, c2, rfl, -⟩ := h2.form
  have HB := Lib.hid hb
  have HS1 := Lib.hid hs1
  have HS2 := Lib.hid hs2
  generalize hW : w.alloc (.cells _ 45) = W at HB P1 P2 t0 t1 t2
  have hn1 : ¬ k0 + totMp m.along < 0 := by omega
  have hn2 : ¬ k0 + totMp m.along + cntPP m.proofs < 0 := by omega
  clear h1 h2 hb hs1 hs2 f1
  go_enter Try.func19, Try.ntmps19
  go_wp2_with fail
  clear hW
  refine (heldMap_n _ m.along k0 _ P1.out HS1.out h0 (by omega)).mono ?_
  rintro e y1 ⟨rfl, hb⟩
  replace HB := Lib.hid (sz_keep HB.out hb)
  replace P2 := Lib.hid (P2.out.keep hb)
  replace t2 := cell_keep hb t2
  clear hb t0 t1 P1
  go_wp2_with fail
  refine (heldStepSS_any _ m.proofs _ _ P2.out HS2.out (by omega) (by omega)).mono ?_
  rintro e y2 ⟨rfl, hb⟩
  replace HB := Lib.hid (sz_keep HB.out hb)
  clear hb t2 P2
  go_wp2
  go_ret
  exact ⟨rfl, HB.out⟩

set_option maxHeartbeats 800000 in
set_option maxRecDepth 100000 in
theorem markViewN_g (v : Value) (B : Nat) (m : MView) (wc w : World) (h : OViewN wc B v m) (hk : Keeps B wc w) (hz : wc.heap.size ≤ w.heap.size) (hs : FitsVV m) :
    Calls Try.prog 18 #[v, .int .i64 1] w fun e w' => ∃ K : Int, e = .returned (.int .i64 K) ∧ 0 ≤ K ∧ (∀ w2 : World, Keeps B w' w2 → w'.heap.size ≤ w2.heap.size → Calls Try.prog 19 #[v, .int .i64 1] w2 fun e w3 => e = .returned (.int .i64 K) ∧ Below w2.heap.size w2 w3) ∧ ∃ wa, Below w.heap.size w wa ∧ Outside B wc.heap.size wa w' := by
  obtain ⟨u, x, y, rfl, wd, B0, q1, q2, q3, hm, hd, hp⟩ := h
  have htot : 0 ≤ totMp m.along ∧ totMp m.along ≤ 2097152 := by
    obtain ⟨a, b⟩ := hs.1
    unfold totMp
    omega
  have hcnt := cntPP_le hs.2.2
  have hpl := hs.2.1
  have hb := below_alloc w (.cells #[u, x, y] 45)
  have t0 := bx_at w #[u, x, y] 45 (k := 0) rfl
  have t1 := bx_at w #[u, x, y] 45 (k := 1) rfl
  have t2 := bx_at w #[u, x, y] 45 (k := 2) rfl
  have hf := hm.of
  obtain ⟨A0, c0, rfl, -⟩ := hf.1.reads.form
  obtain ⟨A1, c1, rfl, -⟩ := hf.2.1.reads.form
  obtain ⟨A2, c2, rfl, -⟩ := hp.reads.form
  have hsW : (w.alloc (.cells #[.slice A0 m.along.sorts.length c0, .slice A1 m.along.ops.length c1, .slice A2 m.proofs.length c2] 45)).heap.size = w.heap.size + 1 := by simp
  have HB := Lib.hid hb
  have HM := Lib.hid hm
  have HP := Lib.hid hp
  have HS := Lib.hid hs
  have HL := Lib.hid (show (∀ g, (Value.slice A0 m.along.sorts.length c0).ownBlock = some g → B0 ≤ g ∧ g < wd.heap.size) ∧ (∀ g, (Value.slice A1 m.along.ops.length c1).ownBlock = some g → B0 ≤ g ∧ g < wd.heap.size) from ⟨fun g e => own_lt hf.1 g e, fun g e => own_lt hf.2.1 g e⟩)
  generalize hW : w.alloc (.cells #[.slice A0 m.along.sorts.length c0, .slice A1 m.along.ops.length c1, .slice A2 m.proofs.length c2] 45) = W at HB hsW t0 t1 t2
  have hkW : Keeps B wc W := fun i a b => (HB.out.block i (by omega)).trans (hk i a b)
  have HKW := Lib.hid hkW
  have HK0 := Lib.hid (show Keeps B0 wd W from fun i a b => (hkW i (by omega) (by omega)).trans (hd i a b))
  clear hm hp hs hb hf hk hd
  go_enter Try.func18, Try.ntmps18
  go_wp2_with fail
  clear hW
  refine (markMap_n _ B0 m.along 1 wd W HM.out HK0.out (by omega) HS.out.1 (by omega) (by omega)).mono ?_
  rintro e y1 ⟨rfl, ho, wa, hba, hout⟩
  have hwa := hba.size
  have hy1 := hout.size
  have tw2 : y1.cell? ⟨w.heap.size, 2, none⟩ = some (.slice A2 m.proofs.length c2) := (World.cell?_of_block (hout.block w.heap.size (.inr (by omega)))).trans (cell_keep hba t2)
  have HK1 := Lib.hid (show Keeps wd.heap.size wc y1 from fun i a b => (hout.block i (.inr (by omega))).trans ((hba.block i (by omega)).trans (HKW.out i (by omega) b)))
  have HO1 := Lib.hid ho
  have HOUT := Lib.hid hout
  have HBA := Lib.hid (sz_keep HB.out hba)
  clear ho hba hout t0 t1 t2
  go_wp2_with fail
  refine (markStepSSN_q _ wd.heap.size m.proofs _ wc y1 HP.out HK1.out (by omega) HS.out.2 (by omega) (by omega)).mono ?_
  rintro e y2 ⟨rfl, hpo, hout2⟩
  have HP2 := Lib.hid hpo
  have HOUT2 := Lib.hid hout2
  have hy2 := hout2.size
  clear hpo hout2 tw2
  go_wp2
  go_ret
  refine ⟨_, rfl, by omega, fun w2 hk2 hz2 => ?_, wa, HBA.out, (HOUT.out.mono q1 q3).trans (HOUT2.out.mono (by omega) (Nat.le_refl _))⟩
  have hf := HO1.out.of
  have e0 : ∀ g, B0 ≤ g ∧ g < wd.heap.size → w2.heap[g]? = y1.heap[g]? := fun g hg => (hk2 g (by omega) (by omega)).trans (HOUT2.out.block g (.inl hg.2))
  exact heldView_n _ _ _ _ m 1 w2 rfl ⟨_, _, rfl, OInts.reads (B := B0) (own_blk hf.1 (fun g e => e0 g (HL.out.1 g e))), OInts.reads (B := B0) (own_blk hf.2.1 (fun g e => e0 g (HL.out.2 g e)))⟩ (HP2.out.same hz2 (fun k a b => hk2 k (by omega) b)).reads HS.out (by omega) (by omega)
end

section
open Go.RowKit
set_option linter.unusedVariables false
set_option linter.unusedSimpArgs false

def letR (n : Nat) : List (List Int) := (List.range n).map fun (j : Nat) => [100 + (j : Int)]
theorem letR_succ (n : Nat) : letR (n + 1) = letR n ++ [[100 + (n : Int)]] := by unfold letR; rw [List.range_succ, List.map_append]; rfl
theorem letR_len (n : Nat) : (letR n).length = n := by unfold letR; simp
theorem letR_at {n k : Nat} (hk : k < n) (h : k < (letR n).length) : (letR n)[k] = [100 + (k : Int)] := by simp only [letR, List.getElem_map, List.getElem_range]
theorem letR_tot : ∀ n : Nat, tot (letR n) = n
  | 0 => rfl
  | n + 1 => by
    rw [letR_succ]
    have h : ∀ (a : List (List Int)) (x : Int), tot (a ++ [[x]]) = tot a + 1 := fun a x => by unfold tot; simp
    rw [h, letR_tot n]
/-- the one step that proves an equation of the theory by itself -/
def selfStep (k n : Nat) : List MStep := [⟨(k : Int), false, 0, letR n⟩]
def selfPs (es : List MEq) (n : Nat) : List (List MStep) := (List.range n).map fun (k : Nat) => selfStep k (es.getD k noEq).vars.length
theorem selfPs_succ (es : List MEq) {n : Nat} (h : n < es.length) : selfPs es (n + 1) = selfPs es n ++ [selfStep n es[n].vars.length] := by
  unfold selfPs
  rw [List.range_succ, List.map_append]
  simp only [List.map_cons, List.map_nil]
  rw [List.getD_eq_getElem?_getD, List.getElem?_eq_getElem h]; rfl
theorem selfPs_len (es : List MEq) (n : Nat) : (selfPs es n).length = n := by unfold selfPs; simp
def viewSelfM (t : MThy) : MView := if thyB t then ⟨selfM t.over, selfPs t.eqs t.eqs.length⟩ else ⟨⟨[], []⟩, []⟩
theorem viewSelf_fits (t : MThy) : FitsVV (viewSelfM t) := by
  unfold viewSelfM
  split
  · rename_i h
    have h6 := thy_few h
    refine ⟨?_, by simp only [selfPs_len]; omega, fun ps hps => ?_⟩
    · show FitsMp (selfM t.over)
      unfold selfM
      split
      · rename_i hv
        have := valid_sorts hv
        exact ⟨by simp only [countM_len]; omega, by simp only [countM_len]; omega⟩
      · exact ⟨by simp [noMap], by simp [noMap]⟩
    · obtain ⟨k, hk, rfl⟩ := List.mem_map.1 hps
      have hk := List.mem_range.1 hk
      have he := thy_eq h hk
      have hv : (t.eqs.getD k noEq).vars.length ≤ 4 := by
        rw [List.getD_eq_getElem?_getD, List.getElem?_eq_getElem hk]
        show t.eqs[k].vars.length ≤ 4
        unfold eqOkB at he
        simp only [Bool.and_eq_true, decide_eq_true_eq] at he
        obtain ⟨tm, hv, -⟩ := sortM_to he.1
        exact (vars_valid hv).2.1
      generalize (t.eqs.getD k noEq).vars.length = n at hv
      refine ⟨⟨by simp [selfStep], fun p hp => ?_⟩, ?_⟩
      · simp only [selfStep, List.mem_singleton] at hp
        subst hp
        refine ⟨by show (letR n).length ≤ _; rw [letR_len]; omega, fun r hr => ?_⟩
        unfold letR at hr
        obtain ⟨j, hj, rfl⟩ := List.mem_map.1 hr
        simp
      · show totP [_] ≤ _
        simp only [totP]
        show tot (letR n) + 0 ≤ _
        rw [letR_tot]; omega
  · exact ⟨⟨by simp, by simp⟩, by simp, fun ps hps => by cases hps⟩

/-- a list of lists of steps on its way -/
def PPs (w : World) (B : Nat) (v : Value) (pss : List (List MStep)) : Prop :=
  ∃ (us : List Value) (rg : Nat → Nat × Nat), w.ownsRow B 60 1 v pss.length us ∧ us.length = pss.length ∧
    (∀ j ps, pss[j]? = some ps → ∃ u, us[j]? = some u ∧ InS w (rg j) u ps ∧ B ≤ (rg j).1 ∧ (rg j).2 ≤ w.heap.size ∧ ∀ g, v.ownBlock = some g → g < (rg j).1 ∨ (rg j).2 ≤ g) ∧
    (∀ i j, i < j → j < pss.length → (rg i).2 ≤ (rg j).1)
section
variable {w w1 w2 w3 : World} {B : Nat} {v v' u : Value} {pss : List (List MStep)} {ps : List MStep}
theorem PPs.nil (w : World) (B : Nat) : PPs w B (.slice none 0 0) [] := ⟨[], fun _ => (0, 0), ⟨rfl, .inl ⟨rfl, rfl⟩⟩, rfl, fun j ps h => by simp at h, fun i j _ h => by simp at h⟩
theorem PPs.same (h : PPs w B v pss) (hs : w.heap.size ≤ w1.heap.size) (hk : ∀ k, B ≤ k → k < w.heap.size → w1.heap[k]? = w.heap[k]?) : PPs w1 B v pss := by
  obtain ⟨us, rg, h1, h2, h3, h4⟩ := h
  refine ⟨us, rg, own_blk h1 (fun g e => hk g (own_lt h1 g e).1 (own_lt h1 g e).2), h2, fun j p hj => ?_, h4⟩
  obtain ⟨u, a, r, b, c, d⟩ := h3 j p hj
  exact ⟨u, a, r.same fun k k1 k2 => hk k (by omega) (by omega), b, by omega, d⟩
theorem PPs.keep (h : PPs w B v pss) (hb : Below w.heap.size w w1) : PPs w1 B v pss := h.same hb.size fun k _ hk => hb.block k hk
theorem PPs.setLow (h : PPs w B v pss) {b : Nat} (hb : b < B) (i : Nat) (x : Value) : PPs (w.setCell ⟨b, i, none⟩ x) B v pss :=
  h.same (by simp [World.setCell]) fun k h1 h2 => Below.heap_setCell w ⟨b, i, none⟩ x k (by show k ≠ b; omega)
theorem PPs.push (h : PPs w B v pss) (hb : Below w.heap.size w w1) (hu : OSteps w1 w.heap.size u ps) (h12 : Below w1.heap.size w1 w2)
    (hB : B ≤ w.heap.size) (us : List Value) (hus : ∃ rg : Nat → Nat × Nat, us.length = pss.length ∧ (∀ j ps, pss[j]? = some ps → ∃ u, us[j]? = some u ∧ InS w (rg j) u ps ∧ B ≤ (rg j).1 ∧ (rg j).2 ≤ w.heap.size ∧ ∀ g, v.ownBlock = some g → g < (rg j).1 ∨ (rg j).2 ≤ g) ∧ (∀ i j, i < j → j < pss.length → (rg i).2 ≤ (rg j).1)) (hlt : ∀ g, v.ownBlock = some g → g < w.heap.size)
    (hv' : w3.ownsRow B 60 1 v' (pss.length + 1) (us ++ [u])) (hg : w2.grownBy w3 v.ownBlock) (hat : v'.ownBlock = v.ownBlock ∨ v'.ownBlock = some w2.heap.size) : PPs w3 B v' (pss ++ [ps]) := by
  obtain ⟨rg, h2, h3, h4⟩ := hus
  have s1 := hb.size
  have s2 := h12.size
  have s3 := hg.size
  have far : ∀ k, k < w1.heap.size → v.ownBlock ≠ some k → w3.heap[k]? = w1.heap[k]? := fun k a b => (hg.block k (by omega) (fun e => b e.symm)).trans (h12.block k a)
  refine ⟨us ++ [u], fun j => if j = pss.length then (w.heap.size, w1.heap.size) else rg j, by rw [List.length_append]; exact hv', by simp [h2], fun j p hj => ?_, fun i j hij hj => ?_⟩
  · by_cases hjl : j = pss.length
    · subst hjl
      rw [List.getElem?_append_right (Nat.le_refl _)] at hj
      simp at hj
      subst hj
      simp only [if_true]
      refine ⟨u, by rw [← h2, List.getElem?_append_right (Nat.le_refl _)]; simp, ⟨w1, rfl, hu, fun k a b => far k b (fun e => by have := hlt k e; simp only at a; omega)⟩, hB, by omega, fun g e => ?_⟩
      rcases hat with e2 | e2
      · left; exact hlt g (e2 ▸ e)
      · right
        rw [e2] at e
        injection e with e
        omega
    · have hj2 : j < pss.length := by have := (List.getElem?_eq_some_iff.1 hj).1; simp at this; omega
      rw [List.getElem?_append_left hj2] at hj
      obtain ⟨x, a, r, b, c, d⟩ := h3 j p hj
      simp only [if_neg hjl]
      refine ⟨x, by rw [List.getElem?_append_left (by omega)]; exact a, r.same fun k k1 k2 => (far k (by omega) (fun e => by have := d k e; omega)).trans (hb.block k (by omega)), b, by omega, fun g e => ?_⟩
      rcases hat with e2 | e2
      · exact d g (e2 ▸ e)
      · right
        rw [e2] at e
        injection e with e
        omega
  · simp only [List.length_append, List.length_singleton] at hj
    by_cases hjl : j = pss.length
    · subst hjl
      have hi : ¬ i = pss.length := by omega
      simp only [if_neg hi, if_true]
      have hil : i < pss.length := by omega
      obtain ⟨x, a, r, b, c, d⟩ := h3 i pss[i] (List.getElem?_eq_getElem hil)
      exact c
    · have hi : ¬ i = pss.length := by omega
      simp only [if_neg hi, if_neg hjl]
      exact h4 i j hij (by omega)
theorem PPs.done (h : PPs w B v pss) : OPssN w B v pss := by
  obtain ⟨us, rg, h1, h2, h3, h4⟩ := h
  rcases h1.2 with ⟨rfl, e⟩ | ⟨g, cap, cur, rfl, hg, hh, h5, h6, h7, h8⟩
  · right
    exact ⟨rfl, List.length_eq_zero_iff.1 e⟩
  · left
    refine ⟨g, cap, cur, rg, rfl, hg, hh, h5, by rw [maxLen_eq] at h6; exact h6, by omega, fun j p hj => ?_, fun i j hij hj => .inl (h4 i j hij hj)⟩
    obtain ⟨u, a, r, b, c, d⟩ := h3 j p hj
    have hjl := (List.getElem?_eq_some_iff.1 hj).1
    refine ⟨u, ?_, r, b, c, d g rfl⟩
    rw [← h8, List.getElem?_take] at a
    rw [if_pos (by omega)] at a
    rw [← a]
    simp
theorem OPssN.baseN {B' : Nat} (h : OPssN w B v pss) (hB : B' ≤ B) : OPssN w B' v pss := h.imp (fun h => h.base hB) id
/-- one step, made in a block of its own behind its rows -/
theorem one_step {w0 w1 : World} {x : Value} {p : MStep} (hx : ORows w1 w0.heap.size x p.terms) (hs : w0.heap.size ≤ w1.heap.size) :
    OSteps (w1.alloc (.cells #[.int .i64 p.ax, .bool p.back, .int .i64 p.at_, x] 100)) w0.heap.size (.slice (some ⟨w1.heap.size, 0, none⟩) 1 1) [p] := by
  refine ⟨w1.heap.size, 1, _, fun _ => (w0.heap.size, w1.heap.size), rfl, hs, heap_alloc_new w1 _, Nat.le_refl _, by decide, rfl, fun j q hj => ?_, fun i j hij hj => by simp at hj; omega⟩
  have hj0 : j = 0 := by have := (List.getElem?_eq_some_iff.1 hj).1; simp at this; omega
  subst hj0
  simp at hj
  subst hj
  exact ⟨x, rfl, rfl, rfl, rfl, ⟨w1, rfl, hx, fun k a b => heap_alloc_old w1 _ b⟩, Nat.le_refl _, by simp, .inr (Nat.le_refl _)⟩
end
end

section
open Go.RowKit
set_option linter.unusedVariables false
set_option linter.unusedSimpArgs false

theorem lit1s (w : World) (x : Int) : OInts (w.alloc (.cells #[.int .i64 x] 3)) w.heap.size (.slice (some ⟨w.heap.size, 0, none⟩) 1 1) [x] :=
  ⟨by simp, .inr ⟨w.heap.size, 1, _, rfl, Nat.le_refl _, heap_alloc_new w _, Nat.le_refl _, by rw [maxLen_eq]; omega, by simp, by simp⟩⟩
theorem fillingR_bel {w wr : World} {rows : List (List Int)} {k : Nat} (h : FillingR w wr rows k) : Below w.heap.size w wr := by
  obtain ⟨cur, h1, h2, h3, h4, h5⟩ := h; exact h5
set_option maxRecDepth 100000 in
theorem lettersOf_any (v : Value) (vars : List Int) (w : World) (h : RInts w v vars) (hl : vars.length ≤ 1000) :
    Calls Try.prog 64 #[v] w fun e w' => ∃ u, e = .returned u ∧ ORows w' w.heap.size u (letR vars.length) ∧ Below w.heap.size w w' := by
  obtain ⟨A, c, rfl, -⟩ := h.form
  obtain ⟨n, hn⟩ : ∃ n, vars.length = n := ⟨_, rfl⟩
  have hmk := run_make_row' (P := Try.prog) 22 28 (.slice none 0 0) 24 Try.underlying22 Try.tinfo_ints rfl .i64 .i64 n (by omega) (by omega)
  have HLL := Lib.hid (letR_len n)
  have HAT := Lib.hid (fun (k : Nat) (hk : k < n) (h : k < (letR n).length) => letR_at hk h)
  rw [hn] at hl ⊢
  generalize letR n = rows at HLL HAT ⊢
  clear h hn
  go_enter Try.func64, Try.ntmps64
  go_wp2
  go_loopw [4, 10] (fun _ i wr => ∃ k : Nat, k ≤ n ∧ i = .int .i64 k ∧ FillingR w wr rows k) (fun _ i _ => n - (intOf i).toNat)
  case atStart => exact ⟨0, Nat.zero_le _, rfl, FillingR.start w _ _ (by rw [HLL.out]; simp [madeCells])⟩
  case round =>
    obtain ⟨k, hk, rfl, hf⟩ := hrel
    have HF := Lib.hid hf
    clear hf hmk
    by_cases hlt : k < n
    · have hlt' : (k : Int) < (n : Int) := by omega
      have hw : IntKind.i64.wrap (100 + (k : Int)) = 100 + (k : Int) := by rw [IntKind.wrap_i64]; omega
      have hb := below_alloc wr (.cells #[.int .i64 (100 + (k : Int))] 3)
      have hl1 := lit1s wr (100 + (k : Int))
      obtain ⟨u, g1, g2⟩ := HF.out.cell (by rw [HLL.out]; exact hlt) hb
      have HN := Lib.hid (HF.out.step (by rw [HLL.out]; exact hlt) hb (by rw [HAT.out k hlt]; exact hl1))
      clear hb hl1
      go_wp2
      go_roundw
      case rel => exact ⟨k + 1, by omega, by go_num, HN.out⟩
      case measure => simp [intOf]; omega
    · have hlt' : ¬ (k : Int) < (n : Int) := by omega
      have hkn : k = n := by omega
      obtain ⟨r1, r2⟩ := HF.out.done (by rw [HLL.out]; exact hkn) (by omega)
      have R1 := Lib.hid r1
      have R2 := Lib.hid r2
      clear r1 r2
      subst hkn
      go_wp2
      go_ret
      exact ⟨_, rfl, R1.out, R2.out⟩

theorem step_append_own_av {P : Program} {ops : Array Oper} {o : Oper} {a : Act} {w : World} {K : Act → World → Prop} {Q : Exit → Act → World → Prop} {E : Prop} (hgd : o.guard = none) (s x : Operand) (t : TypeId)
    (ho : o.op = .call { callee := .builtin .append, args := #[s, x], argTypes := #[t, t] })
    (base : Nat) (e : TypeId) (i : TypeInfo) (z : Value) (size bytes : Nat) (ht : P.underlying t = some (.slice e)) (hi : P.info? e = some i) (hz : i.zero = some z)
    (hsize : i.size = size) (hby : i.bytes = bytes) (hzs : z.cells.size = size) (hsz : 0 < size)
    (v : Value) (n : Nat) (xs : List Value) (hs : a.eval s = v) (hown : w.ownsRow base e size v n xs)
    (ad : Addr) (m c : Nat) (news : List Value) (hx : a.eval x = .slice (some ad) m c) (hl : news.length = m * size) (hnews : ∀ j u, news[j]? = some u → w.cell? (ad.add j) = some u) (h1 : ∀ u ∈ news, u.oneCell' = true)
    (h63 : n + m ≤ maxLen) (hbytes : (n + m) * bytes ≤ 140737488355328) (hbase : base ≤ w.heap.size)
    (h : ∀ v' w', w'.ownsRow base e size v' (n + m) (xs ++ news) → w.grownBy w' v.ownBlock → (v'.ownBlock = v.ownBlock ∨ v'.ownBlock = some w.heap.size) → K (a.put o.dst v') w') :
    if Region.wanted o (yielded ops a.tmps) = true then Oper.wp P o a w K Q else E := by
  have hw : Region.wanted o (yielded ops a.tmps) = true := by simp [Region.wanted, hgd]
  rw [if_pos hw]
  obtain ⟨v', w', hr, h2, h3, h4, h5⟩ := run_append_own_at (P := P) w base t o.type e i z size bytes ht hi hz hsize hby hzs hsz v n xs hown ad m c news hl hnews h1 h63 hbytes hbase
  unfold Oper.wp execOp
  simp only [ho, resolve, invoke, builtin, Sem.run_bind, Sem.run_pure, Result.andThen_ok, List.map_toArray, List.map_cons, List.map_nil, hs, hx, hr]
  exact h v' w' h2 h3 h5
theorem new_cellv (w : World) (x : Value) (T : TypeId) : ∀ (j : Nat) (u : Value), [x][j]? = some u → (w.alloc (.cells #[x] T)).cell? ((⟨w.heap.size, 0, none⟩ : Addr).add j) = some u := by
  intro j u hj
  match j, hj with
  | 0, hj =>
    simp at hj
    subst hj
    simp [Addr.add]
  | j + 1, hj => simp at hj
theorem bel_moreP {a b c : World} {row : Option Nat} (hb : Below a.heap.size a b) (hg : b.grownBy c row) (hr : ∀ k, row = some k → a.heap.size ≤ k) : Below a.heap.size a c :=
  ⟨hg.os.trans hb.os, hg.tape.trans hb.tape, hg.output.trans hb.output, Nat.le_trans hb.size hg.size, fun k hk => (hg.block k (Nat.lt_of_lt_of_le hk hb.size) (fun e => by have := hr k e.symm; omega)).trans (hb.block k hk)⟩
set_option maxHeartbeats 12800000 in
set_option maxRecDepth 100000 in
theorem viewSelf_any (t : MThy) (w : World) (v : Value) (hst : SmallT t) (h : RThy w v t) :
    Calls Try.prog 16 #[v] w fun x w' => ∃ u, x = .returned u ∧ OViewN w' w.heap.size u (viewSelfM t) ∧ Below w.heap.size w w' := by
  obtain ⟨Ata, cta, Atb, ctb, rfl⟩ := h.form
  have hb : Below w.heap.size w ((w.alloc (.cells #[.int .i64 t.over.sorts, .slice Ata t.over.ops.length cta, .slice Atb t.eqs.length ctb] 40)).alloc (.cells #[.slice none 0 0, .slice none 0 0, .slice none 0 0] 45)) := (below_alloc _ _).alloc (by simp) _
  have HB := Lib.hid hb
  have hsz : ((w.alloc (.cells #[.int .i64 t.over.sorts, .slice Ata t.over.ops.length cta, .slice Atb t.eqs.length ctb] 40)).alloc (.cells #[.slice none 0 0, .slice none 0 0, .slice none 0 0] 45)).heap.size = w.heap.size + 2 := by simp
  have Ht := Lib.hid (h.keep hb)
  have t0 := cell_keep (below_alloc (w.alloc (.cells #[.int .i64 t.over.sorts, .slice Ata t.over.ops.length cta, .slice Atb t.eqs.length ctb] 40)) (.cells #[.slice none 0 0, .slice none 0 0, .slice none 0 0] 45)) (bx_at (w) #[.int .i64 t.over.sorts, .slice Ata t.over.ops.length cta, .slice Atb t.eqs.length ctb] 40 (k := 0) rfl)
  have t1 := cell_keep (below_alloc (w.alloc (.cells #[.int .i64 t.over.sorts, .slice Ata t.over.ops.length cta, .slice Atb t.eqs.length ctb] 40)) (.cells #[.slice none 0 0, .slice none 0 0, .slice none 0 0] 45)) (bx_at (w) #[.int .i64 t.over.sorts, .slice Ata t.over.ops.length cta, .slice Atb t.eqs.length ctb] 40 (k := 1) rfl)
  have t2 := cell_keep (below_alloc (w.alloc (.cells #[.int .i64 t.over.sorts, .slice Ata t.over.ops.length cta, .slice Atb t.eqs.length ctb] 40)) (.cells #[.slice none 0 0, .slice none 0 0, .slice none 0 0] 45)) (bx_at (w) #[.int .i64 t.over.sorts, .slice Ata t.over.ops.length cta, .slice Atb t.eqs.length ctb] 40 (k := 2) rfl)
  have HZr := Lib.hid (show ((w.alloc (.cells #[.int .i64 t.over.sorts, .slice Ata t.over.ops.length cta, .slice Atb t.eqs.length ctb] 40)).alloc (.cells #[.slice none 0 0, .slice none 0 0, .slice none 0 0] 45)).heap[w.heap.size + 1]? = some (.cells #[.slice none 0 0, .slice none 0 0, .slice none 0 0] 45 (0, 0)) from (congrArg (fun i => ((w.alloc (.cells #[.int .i64 t.over.sorts, .slice Ata t.over.ops.length cta, .slice Atb t.eqs.length ctb] 40)).alloc (.cells #[.slice none 0 0, .slice none 0 0, .slice none 0 0] 45)).heap[i]?) (by simp)).trans (heap_alloc_new (w.alloc (.cells #[.int .i64 t.over.sorts, .slice Ata t.over.ops.length cta, .slice Atb t.eqs.length ctb] 40)) _))
  generalize hW : (w.alloc (.cells #[.int .i64 t.over.sorts, .slice Ata t.over.ops.length cta, .slice Atb t.eqs.length ctb] 40)).alloc (.cells #[.slice none 0 0, .slice none 0 0, .slice none 0 0] 45) = W at HB hsz Ht t0 t1 t2 HZr
  clear hb h
  have HST := Lib.hid hst
  have hlt := Ht.out.of.2.2.len
  clear hst
  cases hva : thyB t with
  | false =>
    have HA := Lib.hid hva
    have HE := Lib.hid (show viewSelfM t = ⟨⟨[], []⟩, []⟩ by unfold viewSelfM; rw [hva]; rfl)
    clear hva
    go_enter Try.func16, Try.ntmps16
    go_wp2_with fail
    clear hW
    refine (theoryOk_any t _ _ HST.out Ht.out).mono ?_
    rw [HA.out]
    rintro e w1 ⟨rfl, hb⟩
    replace HZr := Lib.hid (blk_keep HZr.out hb)
    replace HB := Lib.hid (sz_keep HB.out hb)
    replace t0 := cell_keep hb t0
    replace t1 := cell_keep hb t1
    replace t2 := cell_keep hb t2
    replace Ht := Lib.hid (Ht.out.keep hb)
    clear hb
    clear t0 t1 t2
    have j0 := blk_cell HZr.out 0
    have j1 := blk_cell HZr.out 1
    have j2 := blk_cell HZr.out 2
    have jf0 := blk_free HZr.out 0
    have jf1 := blk_free HZr.out 1
    have jf2 := blk_free HZr.out 2
    simp at j0 j1 j2
    go_wp2
    have d1 := blk_set (blk_set (blk_set (HZr.out) 0 (.slice none 0 0)) 1 (.slice none 0 0)) 2 (.slice none 0 0)
    have hbz := (((HB.out.setCell (p := ⟨w.heap.size + 1, 0, none⟩) (by show w.heap.size ≤ w.heap.size + 1; omega) (.slice none 0 0)).setCell (p := ⟨w.heap.size + 1, 1, none⟩) (by show w.heap.size ≤ w.heap.size + 1; omega) (.slice none 0 0)).setCell (p := ⟨w.heap.size + 1, 2, none⟩) (by show w.heap.size ≤ w.heap.size + 1; omega) (.slice none 0 0))
    generalize ((w1.setCell ⟨w.heap.size + 1, 0, none⟩ (.slice none 0 0)).setCell ⟨w.heap.size + 1, 1, none⟩ (.slice none 0 0)).setCell ⟨w.heap.size + 1, 2, none⟩ (.slice none 0 0) = wz at d1 hbz  ⊢
    have k0 := blk_cell d1 0
    have k1 := blk_cell d1 1
    have k2 := blk_cell d1 2
    simp at k0 k1 k2
    clear j0 j1 j2 jf0 jf1 jf2
    refine bodyPost_ret (v := .agg #[.slice none 0 0, .slice none 0 0, .slice none 0 0]) (by simp [results, Try.results16, go_sem, k0, k1, k2]) rfl ?_
    exact ⟨_, rfl, by rw [HE.out]; exact ⟨_, _, _, rfl, wz, w.heap.size, Nat.le_refl _, hbz.size, Nat.le_refl _, ⟨_, _, rfl, OInts.nil _ _, OInts.nil _ _, .inl rfl⟩, fun _ _ _ => rfl, .inr ⟨rfl, rfl⟩⟩, hbz⟩
  | true =>
    have HA := Lib.hid hva
    obtain ⟨ms, hms⟩ : ∃ ms, selfM t.over = ms := ⟨_, rfl⟩
    have HE := Lib.hid (show viewSelfM t = ⟨ms, selfPs t.eqs t.eqs.length⟩ by unfold viewSelfM; rw [hva, hms]; rfl)
    have HMS := Lib.hid hms
    have h6 := thy_few hva
    clear hva hms
    go_enter Try.func16, Try.ntmps16
    go_wp2_with fail
    clear hW
    refine (theoryOk_any t _ _ HST.out Ht.out).mono ?_
    rw [HA.out]
    rintro e w1 ⟨rfl, hb⟩
    replace HZr := Lib.hid (blk_keep HZr.out hb)
    replace HB := Lib.hid (sz_keep HB.out hb)
    replace t0 := cell_keep hb t0
    replace t1 := cell_keep hb t1
    replace t2 := cell_keep hb t2
    replace Ht := Lib.hid (Ht.out.keep hb)
    clear hb
    have hz1 : w.heap.size + 1 < w1.heap.size := (Array.getElem?_eq_some_iff.1 HZr.out).1
    go_wp2_with fail
    refine (mapSelf_any t.over _ _ (show RSig _ (.agg #[.int .i64 t.over.sorts, .slice Ata t.over.ops.length cta]) t.over from ⟨_, rfl, Ht.out.of.2.1⟩)).mono ?_
    rw [HMS.out]
    rintro e w2 ⟨u2, rfl, hom, hb⟩
    have hz12 := hb.size
    replace HZr := Lib.hid (blk_keep HZr.out hb)
    replace HB := Lib.hid (sz_keep HB.out hb)
    replace t0 := cell_keep hb t0
    replace t1 := cell_keep hb t1
    replace t2 := cell_keep hb t2
    replace Ht := Lib.hid (Ht.out.keep hb)
    clear hb
    obtain ⟨U0, n0, U1, n1, rfl⟩ := hom.reads.form
    have HOM := Lib.hid hom
    have HC2 := Lib.hid t2
    clear hom
    obtain ⟨i1, hj, hy0, hy1, hy2⟩ := info_parts Try.tinfo_StepS
    have hb3 := below_alloc w2 (.cells #[.slice none 0 0, .slice none 0 0, .slice none 0 0] 45)
    have hl3 : (w2.alloc (.cells #[.slice none 0 0, .slice none 0 0, .slice none 0 0] 45)).heap[w2.heap.size]? = some (.cells #[.slice none 0 0, .slice none 0 0, .slice none 0 0] 45 (0, 0)) := heap_alloc_new w2 _
    generalize hW3 : w2.alloc (.cells #[.slice none 0 0, .slice none 0 0, .slice none 0 0] 45) = W3 at hb3 hl3
    have hl4 := blk_set (blk_set (blk_set hl3 0 (.slice U0 ms.sorts.length n0)) 1 (.slice U1 ms.ops.length n1)) 2 (.slice none 0 0)
    have hb4 : Below w2.heap.size w2 (((W3.setCell ⟨w2.heap.size, 0, none⟩ (.slice U0 ms.sorts.length n0)).setCell ⟨w2.heap.size, 1, none⟩ (.slice U1 ms.ops.length n1)).setCell ⟨w2.heap.size, 2, none⟩ (.slice none 0 0)) := ((hb3.setCell (p := ⟨w2.heap.size, 0, none⟩) (Nat.le_refl _) _).setCell (p := ⟨w2.heap.size, 1, none⟩) (Nat.le_refl _) _).setCell (p := ⟨w2.heap.size, 2, none⟩) (Nat.le_refl _) _
    have j0 := blk_cell hl3 0
    have j1 := blk_cell hl3 1
    have j2 := blk_cell hl3 2
    have jf0 := blk_free hl3 0
    have jf1 := blk_free hl3 1
    have jf2 := blk_free hl3 2
    simp at j0 j1 j2
    generalize hW4 : ((W3.setCell ⟨w2.heap.size, 0, none⟩ (.slice U0 ms.sorts.length n0)).setCell ⟨w2.heap.size, 1, none⟩ (.slice U1 ms.ops.length n1)).setCell ⟨w2.heap.size, 2, none⟩ (.slice none 0 0) = W4 at hl4 hb4
    have HL4 := Lib.hid (show W4.heap[w2.heap.size]? = some (.cells #[.slice U0 ms.sorts.length n0, .slice U1 ms.ops.length n1, .slice none 0 0] 45 (0, 0)) from hl4)
    have HB4 := Lib.hid hb4
    replace t2 := cell_keep hb4 t2
    clear hb3 hl3 hl4 hb4 t0 t1
    go_wp2
    clear hW3 hW4 j0 j1 j2 jf0 jf1 jf2 t2
    go_loopw [4, 5, 17] (fun _ _ i wr => ∃ (k : Nat) (pv : Value), k ≤ t.eqs.length ∧ i = .int .i64 k ∧ wr.heap[w2.heap.size]? = some (.cells #[.slice U0 ms.sorts.length n0, .slice U1 ms.ops.length n1, pv] 45 (0, 0)) ∧ PPs wr (w2.heap.size + 1) pv (selfPs t.eqs k) ∧ Below w2.heap.size w2 wr) (fun _ _ i _ => t.eqs.length - (intOf i).toNat)
    case atStart => exact ⟨0, _, Nat.zero_le _, rfl, HL4.out, PPs.nil _ _, HB4.out⟩
    case round =>
      obtain ⟨k, pv, hk, rfl, hbx, hpp, hd⟩ := hrel
      have HBX := Lib.hid hbx
      have HPP := Lib.hid hpp
      have HD := Lib.hid hd
      have HLN := Lib.hid (selfPs_len t.eqs k)
      have HTK := Lib.hid (fun (h : k < t.eqs.length) => selfPs_succ t.eqs h)
      have HALL := Lib.hid (fun (h : k = t.eqs.length) => (show selfPs t.eqs t.eqs.length = selfPs t.eqs k by rw [h]))
      generalize selfPs t.eqs k = pss at hpp HPP HLN HTK HALL
      obtain ⟨us0, -, ho0, -⟩ := id hpp
      obtain ⟨Ap, cp, rfl, -⟩ := own_reads ho0
      clear hpp ho0
      by_cases hlt2 : k < t.eqs.length
      · have hlt' : (k : Int) < (t.eqs.length : Int) := by omega
        obtain ⟨b4, o4, c4, y0, y1, y2, e4, c00, c01, c02, r0, r1, r2⟩ := (Ht.out.of.2.2.keep hd).at_ hlt2
        cases e4
        have HTS := Lib.hid (HTK.out hlt2)
        have hv4 : t.eqs[k].vars.length ≤ 4 := by
          have he := thy_eq HA.out hlt2
          unfold eqOkB at he
          simp only [Bool.and_eq_true, decide_eq_true_eq] at he
          obtain ⟨tm, hv, -⟩ := sortM_to he.1
          exact (vars_valid hv).2.1
        generalize t.eqs[k] = e at r0 r1 r2 HTS hv4
        obtain ⟨A0, g0, rfl, -⟩ := r0.form
        obtain ⟨A1, g1, rfl, -⟩ := r1.form
        obtain ⟨A2, g2, rfl, -⟩ := r2.form
        have hb := below_alloc wr (.cells #[.slice A0 e.vars.length g0, .slice A1 e.left.length g1, .slice A2 e.right.length g2] 63)
        have x0 := bx_at wr #[.slice A0 e.vars.length g0, .slice A1 e.left.length g1, .slice A2 e.right.length g2] 63 (k := 0) rfl
        have hsx : (wr.alloc (.cells #[.slice A0 e.vars.length g0, .slice A1 e.left.length g1, .slice A2 e.right.length g2] 63)).heap.size = wr.heap.size + 1 := by simp
        generalize hWX : wr.alloc (.cells #[.slice A0 e.vars.length g0, .slice A1 e.left.length g1, .slice A2 e.right.length g2] 63) = WX at hb x0 hsx
        have HVR := Lib.hid (r0.keep hb)
        have HPX := Lib.hid (HPP.out.keep hb)
        obtain ⟨us, rg, ho, hul, hre, hdi⟩ := id HPX.out
        have HOW := Lib.hid ho
        have HUS := Lib.hid (show ∃ rg : Nat → Nat × Nat, us.length = pss.length ∧ (∀ j ps, pss[j]? = some ps → ∃ u, us[j]? = some u ∧ InS WX (rg j) u ps ∧ w2.heap.size + 1 ≤ (rg j).1 ∧ (rg j).2 ≤ WX.heap.size ∧ ∀ g, (Value.slice Ap pss.length cp).ownBlock = some g → g < (rg j).1 ∨ (rg j).2 ≤ g) ∧ (∀ i j, i < j → j < pss.length → (rg i).2 ≤ (rg j).1) from ⟨rg, hul, hre, hdi⟩)
        have HLT9 := Lib.hid (show ∀ g, (Value.slice Ap pss.length cp).ownBlock = some g → g < WX.heap.size from fun g e => (own_lt ho g e).2)
        have HWN := Lib.hid (show ∀ g, (Value.slice Ap pss.length cp).ownBlock = some g → g ≠ wr.heap.size from fun g e => by obtain ⟨us9, -, ho9, -⟩ := id HPP.out; have := (own_lt ho9 g e).2; omega)
        have HDX := Lib.hid (sz_keep hd hb)
        have HBXX := Lib.hid (blk_keep HBX.out hb)
        have l2 := blk_cell HBXX.out 2
        simp at l2
        have hszd := hd.size
        have hbl := (Array.getElem?_eq_some_iff.1 HBX.out).1
        have HPM := Lib.hid (show pss.length + 1 ≤ maxLen ∧ (pss.length + 1) * 24 ≤ 140737488355328 by have hlk := HLN.out; rw [maxLen_eq]; omega)
        clear r0 r1 r2 hb ho hul hre hdi hd hbx
        go_wp2_with fail
        clear hWX c00 c01 c02
        go_region_law (first
          | (go_simp; go_at_call 64; refine (lettersOf_any _ e.vars WX.drew (HVR.out.keep (map_drew (Below.refl _ _))) (by omega)).mono ?_; rintro z w5 ⟨u5, rfl, ho5, hb5⟩; replace hb5 := map_undrew hb5; obtain ⟨A5, c5, rfl, -⟩ := ho5.reads.form; rw [letR_len] at ho5 ⊢; have HO5 := Lib.hid (show ORows w5 WX.heap.size (.slice A5 e.vars.length c5) (letR e.vars.length) from ho5); have HB5 := Lib.hid hb5; have HST6 := Lib.hid (one_step (w0 := WX) (p := ⟨(k : Int), false, 0, letR e.vars.length⟩) HO5.out HB5.out.size); have HB6 := Lib.hid (sz_keep HB5.out (below_alloc w5 (.cells #[.int .i64 (k : Int), .bool false, .int .i64 0, .slice A5 e.vars.length c5] 100))); have HB7 := Lib.hid (below_alloc (w5.alloc (.cells #[.int .i64 (k : Int), .bool false, .int .i64 0, .slice A5 e.vars.length c5] 100)) (.cells #[.slice (some ⟨w5.heap.size, 0, none⟩) 1 1] 60)); have HNC := Lib.hid (new_cellv (w5.alloc (.cells #[.int .i64 (k : Int), .bool false, .int .i64 0, .slice A5 e.vars.length c5] 100)) (.slice (some ⟨w5.heap.size, 0, none⟩) 1 1) 60); have HO7 := Lib.hid (own_keep HOW.out (sz_keep HB6.out HB7.out)); have hz7 := (sz_keep HB6.out HB7.out).size; have m2 := cell_keep HB5.out l2; have o2 := cell_keep HB6.out l2; have n2 := cell_keep HB7.out o2; clear ho5 hb5)
          | (refine step_append_own_av rfl (.tmp 23) (.tmp 30) 43 rfl (w2.heap.size + 1) 60 i1 (.slice none 0 0) 1 24 Try.underlying43 hj hy0 hy1 hy2 rfl (by omega) (.slice Ap pss.length cp) pss.length us rfl HO7.out ⟨w5.heap.size + 1, 0, none⟩ 1 1 [.slice (some ⟨w5.heap.size, 0, none⟩) 1 1] rfl rfl (by simpa using HNC.out) (by intro u hu; simp at hu; subst hu; rfl) HPM.out.1 HPM.out.2 (by omega) ?_; intro v8 w8 hv8 hg8 hat8; have HPN := Lib.hid (PPs.push HPX.out HB6.out HST6.out HB7.out (by omega) us HUS.out HLT9.out hv8 hg8 hat8); obtain ⟨A8, c8, rfl, -⟩ := own_reads hv8; have hr8 : ∀ g, (Value.slice Ap pss.length cp).ownBlock = some g → w2.heap.size + 1 ≤ g := fun g e => (own_lt HO7.out g e).1; have HD8 := Lib.hid (bel_moreP (a := w2) (sz_keep (sz_keep HDX.out HB6.out) HB7.out) hg8 (fun g e => by have := hr8 g e; omega)); have hbx8 := (hg8.block w2.heap.size (by omega) (fun e => by have := hr8 _ e.symm; omega)).trans (blk_keep (blk_keep HBXX.out HB6.out) HB7.out); have HBX9 := Lib.hid (blk_set hbx8 2 (.slice A8 (pss.length + 1) c8)); have HPN9 := Lib.hid (HPN.out.setLow (b := w2.heap.size) (by omega) 2 (.slice A8 (pss.length + 1) c8)); have HD9 := Lib.hid (HD8.out.setCell (p := ⟨w2.heap.size, 2, none⟩) (Nat.le_refl _) (.slice A8 (pss.length + 1) c8)); have q2 := blk_cell hbx8 2; have qf2 := blk_free hbx8 2; simp at q2; clear hv8 hg8 hat8 hbx8 hr8))
        all_goals
          clear l2 m2 o2 n2 q2 qf2 x0
          go_wp2
          go_roundw
          case rel => exact ⟨k + 1, _, by omega, by go_num, HBX9.out, by rw [HTS.out]; exact HPN9.out, HD9.out⟩
          case measure => simp [intOf]; omega
      · have hlt' : ¬ (k : Int) < (t.eqs.length : Int) := by omega
        have hkn : k = t.eqs.length := by omega
        have HPE := Lib.hid (HALL.out hkn)
        clear hkn hbx hd
        have l0 := blk_cell HBX.out 0
        have l1 := blk_cell HBX.out 1
        have l2 := blk_cell HBX.out 2
        simp at l0 l1 l2
        replace HZr := Lib.hid (blk_keep HZr.out HD.out)
        have HDZ := Lib.hid HD.out
        replace HB := Lib.hid (sz_keep HB.out HD.out)
        have hzd := HD.out.size
        have j0 := blk_cell HZr.out 0
        have j1 := blk_cell HZr.out 1
        have j2 := blk_cell HZr.out 2
        have jf0 := blk_free HZr.out 0
        have jf1 := blk_free HZr.out 1
        have jf2 := blk_free HZr.out 2
        simp at j0 j1 j2
        go_wp2
        have d1 := blk_set (blk_set (blk_set (HZr.out) 0 (.slice U0 ms.sorts.length n0)) 1 (.slice U1 ms.ops.length n1)) 2 (.slice Ap pss.length cp)
        have hbz := (((HB.out.setCell (p := ⟨w.heap.size + 1, 0, none⟩) (by show w.heap.size ≤ w.heap.size + 1; omega) (.slice U0 ms.sorts.length n0)).setCell (p := ⟨w.heap.size + 1, 1, none⟩) (by show w.heap.size ≤ w.heap.size + 1; omega) (.slice U1 ms.ops.length n1)).setCell (p := ⟨w.heap.size + 1, 2, none⟩) (by show w.heap.size ≤ w.heap.size + 1; omega) (.slice Ap pss.length cp))
        have hbz9 := Lib.hid (show (∀ k, w.heap.size + 2 ≤ k → (((wr.setCell ⟨w.heap.size + 1, 0, none⟩ (.slice U0 ms.sorts.length n0)).setCell ⟨w.heap.size + 1, 1, none⟩ (.slice U1 ms.ops.length n1)).setCell ⟨w.heap.size + 1, 2, none⟩ (.slice Ap pss.length cp)).heap[k]? = wr.heap[k]?) ∧ wr.heap.size ≤ (((wr.setCell ⟨w.heap.size + 1, 0, none⟩ (.slice U0 ms.sorts.length n0)).setCell ⟨w.heap.size + 1, 1, none⟩ (.slice U1 ms.ops.length n1)).setCell ⟨w.heap.size + 1, 2, none⟩ (.slice Ap pss.length cp)).heap.size from ⟨fun k hk => ((Below.heap_setCell _ ⟨w.heap.size + 1, 2, none⟩ _ k (by show k ≠ w.heap.size + 1; omega)).trans ((Below.heap_setCell _ ⟨w.heap.size + 1, 1, none⟩ _ k (by show k ≠ w.heap.size + 1; omega)).trans (Below.heap_setCell _ ⟨w.heap.size + 1, 0, none⟩ _ k (by show k ≠ w.heap.size + 1; omega)))), by simp [World.setCell]⟩)
        generalize ((wr.setCell ⟨w.heap.size + 1, 0, none⟩ (.slice U0 ms.sorts.length n0)).setCell ⟨w.heap.size + 1, 1, none⟩ (.slice U1 ms.ops.length n1)).setCell ⟨w.heap.size + 1, 2, none⟩ (.slice Ap pss.length cp) = wz at d1 hbz hbz9 ⊢
        have k0 := blk_cell d1 0
        have k1 := blk_cell d1 1
        have k2 := blk_cell d1 2
        simp at k0 k1 k2
        clear j0 j1 j2 jf0 jf1 jf2 l0 l1 l2
        refine bodyPost_ret (v := .agg #[.slice U0 ms.sorts.length n0, .slice U1 ms.ops.length n1, .slice Ap pss.length cp]) (by simp [results, Try.results16, go_sem, k0, k1, k2]) rfl ?_
        exact ⟨_, rfl, by
          rw [HE.out, HPE.out]
          exact ⟨_, _, _, rfl, w2, w1.heap.size, by omega, hz12, Nat.le_trans hzd hbz9.out.2, HOM.out, fun k a b => (hbz9.out.1 k (by omega)).trans (HDZ.out.block k b), (PPs.same HPP.out hbz9.out.2 (fun k a b => hbz9.out.1 k (by omega))).done.baseN (by omega)⟩, hbz⟩
end

section
open Go.RowKit
set_option linter.unusedVariables false
set_option linter.unusedSimpArgs false

theorem count_take {n k : Nat} (h : k = n) : countM k = countM n := by rw [h]

set_option maxHeartbeats 3200000 in
set_option maxRecDepth 100000 in
theorem specMapSelf_any (s : MSig) (w : World) (v : Value) (h1 : RSig w v s) :
    Calls Try.prog 63 #[v] w fun e w' => ∃ u, e = .returned u ∧ OMap w' w.heap.size u (selfM s) ∧ Below w.heap.size w w' := by
  obtain ⟨i0, hi0, hz0, hz1, hz2⟩ := info_parts Try.tinfo_int
  obtain ⟨Asa, csa, rfl⟩ := h1.form
  have hb : Below w.heap.size w ((w.alloc (.cells #[.int .i64 s.sorts, .slice Asa s.ops.length csa] 37)).alloc (.cells #[.slice none 0 0, .slice none 0 0] 42)) := (below_alloc _ _).alloc (by simp) _
  have HB := Lib.hid hb
  have hsz : ((w.alloc (.cells #[.int .i64 s.sorts, .slice Asa s.ops.length csa] 37)).alloc (.cells #[.slice none 0 0, .slice none 0 0] 42)).heap.size = w.heap.size + 2 := by simp
  have Hs := Lib.hid (h1.keep hb)
  have s0 := cell_keep (below_alloc (w.alloc (.cells #[.int .i64 s.sorts, .slice Asa s.ops.length csa] 37)) (.cells #[.slice none 0 0, .slice none 0 0] 42)) (bx_at (w) #[.int .i64 s.sorts, .slice Asa s.ops.length csa] 37 (k := 0) rfl)
  have s1 := cell_keep (below_alloc (w.alloc (.cells #[.int .i64 s.sorts, .slice Asa s.ops.length csa] 37)) (.cells #[.slice none 0 0, .slice none 0 0] 42)) (bx_at (w) #[.int .i64 s.sorts, .slice Asa s.ops.length csa] 37 (k := 1) rfl)
  have HZr := Lib.hid (show ((w.alloc (.cells #[.int .i64 s.sorts, .slice Asa s.ops.length csa] 37)).alloc (.cells #[.slice none 0 0, .slice none 0 0] 42)).heap[w.heap.size + 1]? = some (.cells #[.slice none 0 0, .slice none 0 0] 42 (0, 0)) from (congrArg (fun i => ((w.alloc (.cells #[.int .i64 s.sorts, .slice Asa s.ops.length csa] 37)).alloc (.cells #[.slice none 0 0, .slice none 0 0] 42)).heap[i]?) (by simp)).trans (heap_alloc_new (w.alloc (.cells #[.int .i64 s.sorts, .slice Asa s.ops.length csa] 37)) _))
  generalize hW : (w.alloc (.cells #[.int .i64 s.sorts, .slice Asa s.ops.length csa] 37)).alloc (.cells #[.slice none 0 0, .slice none 0 0] 42) = W at HB hsz Hs s0 s1 HZr
  clear hb h1
  have hl1 := Hs.out.of.2.len
  have hwr : w.heap.size + 1 < W.heap.size := by omega
  clear hsz
  have hb3 := below_alloc W (.cells #[.slice none 0 0, .slice none 0 0] 42)
  have hl3 : (W.alloc (.cells #[.slice none 0 0, .slice none 0 0] 42)).heap[W.heap.size]? = some (.cells #[.slice none 0 0, .slice none 0 0] 42 (0, 0)) := heap_alloc_new W _
  generalize hW3 : W.alloc (.cells #[.slice none 0 0, .slice none 0 0] 42) = W3 at hb3 hl3
  have hl4 : ((W3.setCell ⟨W.heap.size, 0, none⟩ (.slice none 0 0)).setCell ⟨W.heap.size, 1, none⟩ (.slice none 0 0)).heap[W.heap.size]? = some (.cells #[.slice none 0 0, .slice none 0 0] 42 (0, 0)) := blk_set (blk_set hl3 0 (.slice none 0 0)) 1 (.slice none 0 0)
  have hb4 : Below W.heap.size W ((W3.setCell ⟨W.heap.size, 0, none⟩ (.slice none 0 0)).setCell ⟨W.heap.size, 1, none⟩ (.slice none 0 0)) := (hb3.setCell (p := ⟨W.heap.size, 0, none⟩) (Nat.le_refl _) _).setCell (p := ⟨W.heap.size, 1, none⟩) (Nat.le_refl _) _
  have j0 := blk_cell hl3 0
  have j1 := blk_cell hl3 1
  have jf0 := blk_free hl3 0
  have jf1 := blk_free hl3 1
  simp at j0 j1
  generalize hW4 : (W3.setCell ⟨W.heap.size, 0, none⟩ (.slice none 0 0)).setCell ⟨W.heap.size, 1, none⟩ (.slice none 0 0) = W4 at hl4 hb4
  have HL4 := Lib.hid hl4
  have HB4 := Lib.hid hb4
  clear hb3 hl3 hl4
  have HC0 := Lib.hid (And.intro s0 s1)
  have HC := Lib.hid (And.intro (cell_keep hb4 s0) (cell_keep hb4 s1))
  have HS0 := Lib.hid Hs.out
  have HB0 := Lib.hid HB.out
  have HZ0 := Lib.hid HZr.out
  have HZ4 := Lib.hid (blk_keep HZr.out hb4)
  replace Hs := Lib.hid (Hs.out.keep hb4)
  replace HB := Lib.hid (sz_keep HB.out hb4)
  have hlt4 : W.heap.size < W4.heap.size := (Array.getElem?_eq_some_iff.1 HL4.out).1
  clear hb4 HZr s0 s1
  cases hv : validB s with
  | false =>
    have HV := Lib.hid hv
    have HE := Lib.hid (show selfM s = noMap by unfold selfM; rw [hv]; rfl)
    clear hv
    go_enter Try.func63, Try.ntmps63
    go_wp2
    clear hW hW3 hW4 j0 j1 jf0 jf1
    go_loopw [4] (fun i wr => i = .int .i64 0 ∧ Below W4.heap.size W4 wr) (fun _ _ => 0)
    case atStart => exact ⟨rfl, Below.refl _ _⟩
    case round =>
      obtain ⟨rfl, hd⟩ := hrel
      obtain ⟨wv, rfl⟩ : ∃ wv : World, wv = wr := ⟨_, rfl⟩
      have s0 := cell_keep hd HC.out.1
      have s1 := cell_keep hd HC.out.2
      replace Hs := Lib.hid (Hs.out.keep hd)
      replace HB := Lib.hid (sz_keep HB.out hd)
      replace HZ4 := Lib.hid (blk_keep HZ4.out hd)
      replace HL4 := Lib.hid (blk_keep HL4.out hd)
      replace HC := Lib.hid (And.intro s0 s1)
      have hlt5 := hd.size
      clear hd
      by_cases hpos : 0 < s.sorts
      · go_wp2_with fail
        refine (specSigValid_any _ s _ Hs.out).mono ?_
        rw [HV.out]
        rintro e w1 ⟨rfl, hb⟩
        replace HB := Lib.hid (sz_keep HB.out hb)
        replace s0 := cell_keep hb s0
        replace s1 := cell_keep hb s1
        replace Hs := Lib.hid (Hs.out.keep hb)
        replace HZ4 := Lib.hid (blk_keep HZ4.out hb)
        replace HL4 := Lib.hid (blk_keep HL4.out hb)
        clear hb
        replace HC := Lib.hid (And.intro s0 s1)
        clear s0 s1
        go_wp2
        go_loopw [5] (fun i wr => i = .int .i64 0 ∧ Below w1.heap.size w1 wr) (fun _ _ => 0)
        case atStart => exact ⟨rfl, Below.refl _ _⟩
        case round =>
          obtain ⟨rfl, hd⟩ := hrel
          have s0 := cell_keep hd HC.out.1
          have s1 := cell_keep hd HC.out.2
          replace Hs := Lib.hid (Hs.out.keep hd)
          replace HB := Lib.hid (sz_keep HB.out hd)
          replace HZ4 := Lib.hid (blk_keep HZ4.out hd)
          replace HL4 := Lib.hid (blk_keep HL4.out hd)
          clear hd
          by_cases hpos2 : 0 < s.ops.length
          · have hp2 : (0 : Int) < (s.ops.length : Int) := by omega
            go_wp2_with fail
            refine (specSigValid_any _ s _ Hs.out).mono ?_
            rw [HV.out]
            rintro e w2 ⟨rfl, hb⟩
            replace HB := Lib.hid (sz_keep HB.out hb)
            replace HZ4 := Lib.hid (blk_keep HZ4.out hb)
            replace HL4 := Lib.hid (blk_keep HL4.out hb)
            clear hb
            clear s0 s1
            have l0 := blk_cell HL4.out 0
            have l1 := blk_cell HL4.out 1
            simp at l0 l1
            have j0 := blk_cell HZ4.out 0
            have j1 := blk_cell HZ4.out 1
            have jf0 := blk_free HZ4.out 0
            have jf1 := blk_free HZ4.out 1
            simp at j0 j1
            go_wp2
            have d1 := blk_set (blk_set (HZ4.out) 0 (.slice none 0 0)) 1 (.slice none 0 0)
            have hbz := ((HB.out.setCell (p := ⟨w.heap.size + 1, 0, none⟩) (by show w.heap.size ≤ w.heap.size + 1; omega) (.slice none 0 0)).setCell (p := ⟨w.heap.size + 1, 1, none⟩) (by show w.heap.size ≤ w.heap.size + 1; omega) (.slice none 0 0))
            generalize (w2.setCell ⟨w.heap.size + 1, 0, none⟩ (.slice none 0 0)).setCell ⟨w.heap.size + 1, 1, none⟩ (.slice none 0 0) = wz at d1 hbz  ⊢
            have k0 := blk_cell d1 0
            have k1 := blk_cell d1 1
            simp at k0 k1
            clear j0 j1 jf0 jf1 l0 l1
            refine bodyPost_ret (v := .agg #[.slice none 0 0, .slice none 0 0]) (by simp [results, Try.results63, go_sem, k0, k1]) rfl ?_
            exact ⟨_, rfl, by rw [HE.out]; exact nil_map _ _, hbz⟩
          · have hp2 : ¬ (0 : Int) < (s.ops.length : Int) := by omega
            have l0 := blk_cell HL4.out 0
            have l1 := blk_cell HL4.out 1
            simp at l0 l1
            have j0 := blk_cell HZ4.out 0
            have j1 := blk_cell HZ4.out 1
            have jf0 := blk_free HZ4.out 0
            have jf1 := blk_free HZ4.out 1
            simp at j0 j1
            go_wp2
            have d1 := blk_set (blk_set (HZ4.out) 0 (.slice none 0 0)) 1 (.slice none 0 0)
            have hbz := ((HB.out.setCell (p := ⟨w.heap.size + 1, 0, none⟩) (by show w.heap.size ≤ w.heap.size + 1; omega) (.slice none 0 0)).setCell (p := ⟨w.heap.size + 1, 1, none⟩) (by show w.heap.size ≤ w.heap.size + 1; omega) (.slice none 0 0))
            generalize (wr.setCell ⟨w.heap.size + 1, 0, none⟩ (.slice none 0 0)).setCell ⟨w.heap.size + 1, 1, none⟩ (.slice none 0 0) = wz at d1 hbz  ⊢
            have k0 := blk_cell d1 0
            have k1 := blk_cell d1 1
            simp at k0 k1
            clear j0 j1 jf0 jf1 l0 l1 s0 s1
            refine bodyPost_ret (v := .agg #[.slice none 0 0, .slice none 0 0]) (by simp [results, Try.results63, go_sem, k0, k1]) rfl ?_
            exact ⟨_, rfl, by rw [HE.out]; exact nil_map _ _, hbz⟩
      · go_wp2
        clear s0 s1
        go_loopw [5] (fun i wr => i = .int .i64 0 ∧ Below wv.heap.size wv wr) (fun _ _ => 0)
        case atStart => exact ⟨rfl, Below.refl _ _⟩
        case round =>
          obtain ⟨rfl, hd⟩ := hrel
          have s0 := cell_keep hd HC.out.1
          have s1 := cell_keep hd HC.out.2
          replace Hs := Lib.hid (Hs.out.keep hd)
          replace HB := Lib.hid (sz_keep HB.out hd)
          replace HZ4 := Lib.hid (blk_keep HZ4.out hd)
          replace HL4 := Lib.hid (blk_keep HL4.out hd)
          clear hd
          by_cases hpos2 : 0 < s.ops.length
          · have hp2 : (0 : Int) < (s.ops.length : Int) := by omega
            go_wp2_with fail
            refine (specSigValid_any _ s _ Hs.out).mono ?_
            rw [HV.out]
            rintro e w2 ⟨rfl, hb⟩
            replace HB := Lib.hid (sz_keep HB.out hb)
            replace HZ4 := Lib.hid (blk_keep HZ4.out hb)
            replace HL4 := Lib.hid (blk_keep HL4.out hb)
            clear hb
            clear s0 s1
            have l0 := blk_cell HL4.out 0
            have l1 := blk_cell HL4.out 1
            simp at l0 l1
            have j0 := blk_cell HZ4.out 0
            have j1 := blk_cell HZ4.out 1
            have jf0 := blk_free HZ4.out 0
            have jf1 := blk_free HZ4.out 1
            simp at j0 j1
            go_wp2
            have d1 := blk_set (blk_set (HZ4.out) 0 (.slice none 0 0)) 1 (.slice none 0 0)
            have hbz := ((HB.out.setCell (p := ⟨w.heap.size + 1, 0, none⟩) (by show w.heap.size ≤ w.heap.size + 1; omega) (.slice none 0 0)).setCell (p := ⟨w.heap.size + 1, 1, none⟩) (by show w.heap.size ≤ w.heap.size + 1; omega) (.slice none 0 0))
            generalize (w2.setCell ⟨w.heap.size + 1, 0, none⟩ (.slice none 0 0)).setCell ⟨w.heap.size + 1, 1, none⟩ (.slice none 0 0) = wz at d1 hbz  ⊢
            have k0 := blk_cell d1 0
            have k1 := blk_cell d1 1
            simp at k0 k1
            clear j0 j1 jf0 jf1 l0 l1
            refine bodyPost_ret (v := .agg #[.slice none 0 0, .slice none 0 0]) (by simp [results, Try.results63, go_sem, k0, k1]) rfl ?_
            exact ⟨_, rfl, by rw [HE.out]; exact nil_map _ _, hbz⟩
          · have hp2 : ¬ (0 : Int) < (s.ops.length : Int) := by omega
            have l0 := blk_cell HL4.out 0
            have l1 := blk_cell HL4.out 1
            simp at l0 l1
            have j0 := blk_cell HZ4.out 0
            have j1 := blk_cell HZ4.out 1
            have jf0 := blk_free HZ4.out 0
            have jf1 := blk_free HZ4.out 1
            simp at j0 j1
            go_wp2
            have d1 := blk_set (blk_set (HZ4.out) 0 (.slice none 0 0)) 1 (.slice none 0 0)
            have hbz := ((HB.out.setCell (p := ⟨w.heap.size + 1, 0, none⟩) (by show w.heap.size ≤ w.heap.size + 1; omega) (.slice none 0 0)).setCell (p := ⟨w.heap.size + 1, 1, none⟩) (by show w.heap.size ≤ w.heap.size + 1; omega) (.slice none 0 0))
            generalize (wr.setCell ⟨w.heap.size + 1, 0, none⟩ (.slice none 0 0)).setCell ⟨w.heap.size + 1, 1, none⟩ (.slice none 0 0) = wz at d1 hbz  ⊢
            have k0 := blk_cell d1 0
            have k1 := blk_cell d1 1
            simp at k0 k1
            clear j0 j1 jf0 jf1 l0 l1 s0 s1
            refine bodyPost_ret (v := .agg #[.slice none 0 0, .slice none 0 0]) (by simp [results, Try.results63, go_sem, k0, k1]) rfl ?_
            exact ⟨_, rfl, by rw [HE.out]; exact nil_map _ _, hbz⟩
  | true =>
    have HV := Lib.hid hv
    have hsv := valid_sorts hv
    have HE := Lib.hid (show selfM s = ⟨countM s.sorts.toNat, countM s.ops.length⟩ by unfold selfM; rw [hv]; rfl)
    clear hv Hs HB HC HZ4
    go_enter Try.func63, Try.ntmps63
    go_wp2
    clear hW hW3 hW4 j0 j1 jf0 jf1
    go_loopw [4] (fun i wr => ∃ k : Nat, ∃ u, (k : Int) ≤ s.sorts ∧ i = .int .i64 k ∧ Loc 42 W4 wr W.heap.size #[u, .slice none 0 0] u (countM k)) (fun i _ => s.sorts.toNat - (intOf i).toNat)
    case atStart => exact ⟨0, _, by omega, rfl, Loc.start HL4.out⟩
    case round =>
      obtain ⟨k, u, hk, rfl, hloc⟩ := hrel
      have HLOC := Lib.hid hloc
      have HBW := Lib.hid (hloc.below HB4.out (Nat.le_refl _))
      obtain ⟨Au, cu, rfl, -⟩ := own_reads hloc.own
      have s0 := cell_keep HBW.out HC0.out.1
      have s1 := cell_keep HBW.out HC0.out.2
      clear hloc
      by_cases hlt : (k : Int) < s.sorts
      · skip
        go_wp2_with fail
        refine (specSigValid_any _ s _ (HS0.out.keep HBW.out)).mono ?_
        rw [HV.out]
        rintro e w1 ⟨rfl, hb⟩
        have HL1 := Lib.hid (HLOC.out.keep hb)
        have hs1 := HBW.out.size
        have hs2 := hb.size
        have hs3 := HLOC.out.gr.size
        have HLEN := Lib.hid (countM_len k)
        have HSUC := Lib.hid (countM_succ k)
        have l0 := blk_cell HL1.out.loc 0
        simp at l0
        generalize countM k = ps at HL1 HLEN HSUC l0
        clear hb s0 s1
        go_wp2_with (at_builtin; refine wpList_append_own _ rfl _ _ 28 rfl W4.heap.size 3 i0 (.int .i64 0) 1 8 Try.underlying28 hi0 hz0 hz1 hz2 rfl (by decide) _ ps.length (ps.map (Value.int .i64)) rfl (own_keep HL1.out.own (below_alloc w1 _)) ⟨w1.heap.size, 0, none⟩ 1 1 ([(k : Int)].map (Value.int .i64)) rfl (by simp) (led_new w1 (k : Int)) (ints_one _) (by rw [HLEN.out, maxLen_eq]; omega) (by rw [HLEN.out]; omega) (by simp; omega) ?_)
        intro v6 w6 hv6 hg6 _
        have HO6 := Lib.hid (led_app (rs := [(k : Int)]) rfl hv6)
        obtain ⟨A6, c6, rfl, -⟩ := own_reads hv6
        have HN := Lib.hid (HL1.out.push (cs' := #[.slice A6 (ps.length + 1) c6, .slice none 0 0]) hg6 HO6.out 0 rfl)
        have hl6 := HL1.out.grown hg6
        have q0 := blk_cell hl6 0
        have qf := blk_free hl6 0
        simp at q0
        clear hv6 hg6 hl6 l0
        go_wp2
        go_roundw
        case rel => exact ⟨k + 1, _, by omega, by go_num, by rw [HSUC.out]; exact HN.out⟩
        case measure => simp [intOf]; omega
      · obtain ⟨wz, rfl⟩ : ∃ wz : World, wz = wr := ⟨_, rfl⟩
        have hks : s.sorts.toNat = k := by omega
        have HKS := Lib.hid hks
        have OU := Lib.hid HLOC.out.own
        have HLZ := Lib.hid HLOC.out.loc
        have HBZ := Lib.hid HBW.out
        have hz4 := HLOC.out.gr.size
        go_wp2
        clear s0 s1 hks HBW HLOC
        go_loopw [5] (fun i wr => ∃ j : Nat, ∃ u, j ≤ s.ops.length ∧ i = .int .i64 j ∧ Loc 42 wz wr W.heap.size #[.slice Au (countM k).length cu, u] u (countM j)) (fun i _ => s.ops.length - (intOf i).toNat)
        case atStart => exact ⟨0, _, Nat.zero_le _, rfl, Loc.start HLZ.out⟩
        case round =>
          obtain ⟨j, u, hj, rfl, hloc⟩ := hrel
          have HLOC := Lib.hid hloc
          have HBW := Lib.hid (hloc.below HBZ.out (Nat.le_refl _))
          obtain ⟨Av, cv, rfl, -⟩ := own_reads hloc.own
          have s0 := cell_keep HBW.out HC0.out.1
          have s1 := cell_keep HBW.out HC0.out.2
          clear hloc
          by_cases hlt2 : j < s.ops.length
          · have hlt3 : (j : Int) < (s.ops.length : Int) := by omega
            go_wp2_with fail
            refine (specSigValid_any _ s _ (HS0.out.keep HBW.out)).mono ?_
            rw [HV.out]
            rintro e w1 ⟨rfl, hb⟩
            have HL1 := Lib.hid (HLOC.out.keep hb)
            have hs1 := HBW.out.size
            have hs2 := hb.size
            have hs3 := HLOC.out.gr.size
            have HLEN := Lib.hid (countM_len j)
            have HSUC := Lib.hid (countM_succ j)
            have l0 := blk_cell HL1.out.loc 1
            simp at l0
            generalize countM j = ps at HL1 HLEN HSUC l0
            clear hb s0 s1
            go_wp2_with (at_builtin; refine wpList_append_own _ rfl _ _ 28 rfl wz.heap.size 3 i0 (.int .i64 0) 1 8 Try.underlying28 hi0 hz0 hz1 hz2 rfl (by decide) _ ps.length (ps.map (Value.int .i64)) rfl (own_keep HL1.out.own (below_alloc w1 _)) ⟨w1.heap.size, 0, none⟩ 1 1 ([(j : Int)].map (Value.int .i64)) rfl (by simp) (led_new w1 (j : Int)) (ints_one _) (by rw [HLEN.out, maxLen_eq]; omega) (by rw [HLEN.out]; omega) (by simp; omega) ?_)
            intro v6 w6 hv6 hg6 _
            have HO6 := Lib.hid (led_app (rs := [(j : Int)]) rfl hv6)
            obtain ⟨A6, c6, rfl, -⟩ := own_reads hv6
            have HN := Lib.hid (HL1.out.push (cs' := #[.slice Au (countM k).length cu, .slice A6 (ps.length + 1) c6]) hg6 HO6.out 1 rfl)
            have hl6 := HL1.out.grown hg6
            have q0 := blk_cell hl6 1
            have qf := blk_free hl6 1
            simp at q0
            clear hv6 hg6 hl6 l0
            go_wp2
            go_roundw
            case rel => exact ⟨j + 1, _, by omega, by go_num, by rw [HSUC.out]; exact HN.out⟩
            case measure => simp [intOf]; omega
          · have hlt3 : ¬ (j : Int) < (s.ops.length : Int) := by omega
            have hjn : j = s.ops.length := by omega
            have OU2 := Lib.hid (HLOC.out.other OU.out hlt4)
            have OV := Lib.hid HLOC.out.own
            have AP := Lib.hid (HLOC.out.apart OU.out)
            have HL4' := Lib.hid HLOC.out.loc
            have HB := Lib.hid (sz_keep HB0.out HBW.out)
            have HZ4 := Lib.hid (blk_keep HZ0.out HBW.out)
            have HE2 := Lib.hid (show selfM s = ⟨countM k, countM j⟩ by rw [HE.out, HKS.out, hjn])
            clear hjn
            have l0 := blk_cell HL4'.out 0
            have l1 := blk_cell HL4'.out 1
            simp at l0 l1
            have j0 := blk_cell HZ4.out 0
            have j1 := blk_cell HZ4.out 1
            have jf0 := blk_free HZ4.out 0
            have jf1 := blk_free HZ4.out 1
            simp at j0 j1
            go_wp2
            have d1 := blk_set (blk_set (HZ4.out) 0 (.slice Au (countM k).length cu)) 1 (.slice Av (countM j).length cv)
            have n0 := ((OU2.out.setLow (b := w.heap.size + 1) (by omega) 0 (.slice Au (countM k).length cu)).setLow (b := w.heap.size + 1) (by omega) 1 (.slice Av (countM j).length cv))
            have n1 := ((OV.out.setLow (b := w.heap.size + 1) (by omega) 0 (.slice Au (countM k).length cu)).setLow (b := w.heap.size + 1) (by omega) 1 (.slice Av (countM j).length cv))
            have hbz := ((HB.out.setCell (p := ⟨w.heap.size + 1, 0, none⟩) (by show w.heap.size ≤ w.heap.size + 1; omega) (.slice Au (countM k).length cu)).setCell (p := ⟨w.heap.size + 1, 1, none⟩) (by show w.heap.size ≤ w.heap.size + 1; omega) (.slice Av (countM j).length cv))
            generalize (wr.setCell ⟨w.heap.size + 1, 0, none⟩ (.slice Au (countM k).length cu)).setCell ⟨w.heap.size + 1, 1, none⟩ (.slice Av (countM j).length cv) = wz at d1 hbz n0 n1 ⊢
            have k0 := blk_cell d1 0
            have k1 := blk_cell d1 1
            simp at k0 k1
            clear j0 j1 jf0 jf1 l0 l1 s0 s1
            refine bodyPost_ret (v := .agg #[.slice Au (countM k).length cu, .slice Av (countM j).length cv]) (by simp [results, Try.results63, go_sem, k0, k1]) rfl ?_
            exact ⟨_, rfl, by rw [HE2.out]; exact ⟨_, _, rfl, n0.base (by omega), n1.base (by omega), AP.out⟩, hbz⟩
end
end Go.Proofs.Ytbopcghbmbchkaa
