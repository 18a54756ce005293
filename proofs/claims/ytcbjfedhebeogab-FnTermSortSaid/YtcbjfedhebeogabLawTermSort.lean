/- FnTermSort answers true at every slice of bytes. No condition. -/
import Derived.Test.YtcbjfedhebeogabFrame
import Derived.Test.YtcbjfedhebeogabAt
import Derived.Test.YtcbjfedhebeogabSame
import Derived.Test.YtcbjfedhebeogabDrawB
namespace Go.Proofs.Ytcbjfedhebeogab
open Go.ChangeShapes Go.WideShapes Go.ChangeAt Go.RowKit
set_option linter.unusedVariables false

/-- a part of a term is a term -/
theorem at_sort {s : MSig} {vars t : List Int} {k : Nat} (h : 0 ≤ sortM s vars t) (hk : k < t.length) : 0 ≤ sortM s vars (atM s vars t (k : Int)) := by
  obtain ⟨pre, sub, post, a1, a2, a3, a4, a5, a6, a7, -⟩ := part_of h hk
  rw [atM_yes h hk, a5, a6]; exact a7
/-- a term with a letter behind it is none -/
theorem sort_snoc {s : MSig} {vars t : List Int} (h : 0 ≤ sortM s vars t) : sortM s vars (t ++ [100]) = -1 := by
  obtain ⟨tm, h1, h2, h3, h4, h5⟩ := sortM_to h
  apply sortM_none
  unfold termM
  by_cases hl : (t ++ [100]).length ≤ 30
  · rw [if_pos ⟨h1, hl⟩]
    have hf := firstM_full (s := s) (vars := vars) (ops_few (vars_valid h1).1) tm 30 [100] h3 (by rw [h4]; exact h2)
    rw [← h4, hf]
  · rw [if_neg (fun hh => hl hh.2)]
theorem sort_below {s : MSig} {vars t : List Int} (h : 0 ≤ sortM s vars t) : sortM s vars t < s.sorts := by
  obtain ⟨tm, h1, h2, h3, h4, h5⟩ := sortM_to h
  exact (sortM_lt (vars_valid h1).1).1

theorem gr_drew' {w w' : World} {row : Option Nat} (h : w.drew.grownBy w' row) : w.grownBy w' row := ⟨h.os, h.tape, h.output, h.size, h.block⟩
theorem own_in {w w2 : World} {B : Nat} {A : Option Addr} {n c : Nat} (h : w.grownBy w2 (Value.slice A n c).ownBlock) (hr : ∀ k, (Value.slice A n c).ownBlock = some k → B ≤ k) (hB : B ≤ w.heap.size) : Below B w w2 :=
  ⟨h.os, h.tape, h.output, h.size, fun k hk => h.block k (by omega) (fun e => by have := hr k e.symm; omega)⟩
/-- a literal of no number, in a world with or without the one of one number -/
theorem emp1 (w : World) : OInts (w.alloc (.cells #[] 3)) w.heap.size (.slice (some ⟨w.heap.size, 0, none⟩) 0 0) [] := own_empty w
theorem emp2 (w : World) (x : Int) : OInts ((w.alloc (.cells #[] 3)).alloc (.cells #[.int .i64 x] 3)) w.heap.size (.slice (some ⟨w.heap.size, 0, none⟩) 0 0) [] := (own_empty w).keep (below_alloc _ _)
theorem emp3 (w : World) (x : Int) : OInts ((w.alloc (.cells #[.int .i64 x] 3)).alloc (.cells #[] 3)) w.heap.size (.slice (some ⟨w.heap.size + 1, 0, none⟩) 0 0) [] := by
  have h := own_empty (w.alloc (.cells #[.int .i64 x] 3))
  rw [show (w.alloc (.cells #[.int .i64 x] 3)).heap.size = w.heap.size + 1 by simp] at h
  exact h.base (by omega)
theorem lit_blk {w : World} {b : Nat} {x : Int} {t : TypeId} (h : w.heap[b]? = some (.cells #[.int .i64 x] t (0, 0))) : ∀ (j : Nat) (u : Value), [Value.int .i64 x][j]? = some u → w.cell? ((⟨b, 0, none⟩ : Addr).add j) = some u := fun j u hj => by
  match j, hj with
  | 0, hj =>
    simp at hj
    subst hj
    rw [show (⟨b, 0, none⟩ : Addr).add 0 = ⟨b, 0, none⟩ by simp [Addr.add]]
    simp [World.cell?, h]
theorem small_snoc {t : List Int} (h : Small t) : Small (t ++ [100]) := fun x hx => by
  rcases List.mem_append.1 hx with hx | hx
  · exact h x hx
  · simp at hx; omega
theorem lit_kept2 {w w3 : World} {x : Int} {n c : Nat} (h : ((w.alloc (.cells #[] 3)).alloc (.cells #[.int .i64 x] 3)).drew.grownBy w3 (Value.slice (some ⟨w.heap.size, 0, none⟩) n c).ownBlock) : w3.heap[w.heap.size + 1]? = some (.cells #[.int .i64 x] 3 (0, 0)) := by
  have h1 := heap_alloc_new (w.alloc (.cells #[] 3)) (.cells #[.int .i64 x] 3)
  rw [show (w.alloc (.cells #[] 3)).heap.size = w.heap.size + 1 by simp] at h1
  exact (h.block (w.heap.size + 1) (by show w.heap.size + 1 < ((w.alloc (.cells #[] 3)).alloc (.cells #[.int .i64 x] 3)).heap.size; simp) (fun e => by injection e with e; have e2 : w.heap.size = w.heap.size + 1 := e.symm; omega)).trans h1
theorem lit_kept3 {w w3 : World} {x : Int} {n c : Nat} (h : ((w.alloc (.cells #[.int .i64 x] 3)).alloc (.cells #[] 3)).drew.grownBy w3 (Value.slice (some ⟨w.heap.size + 1, 0, none⟩) n c).ownBlock) : w3.heap[w.heap.size]? = some (.cells #[.int .i64 x] 3 (0, 0)) := by
  have h1 := heap_alloc_new w (.cells #[.int .i64 x] 3)
  exact (h.block w.heap.size (by show w.heap.size < ((w.alloc (.cells #[.int .i64 x] 3)).alloc (.cells #[] 3)).heap.size; simp; omega) (fun e => by injection e with e; have e2 : w.heap.size = w.heap.size + 1 := e; omega)).trans ((heap_alloc_old _ _ (by simp)).trans h1)
theorem two_below {w w3 : World} {o1 o2 : Obj} {A : Option Addr} {n c : Nat} (h : ((w.alloc o1).alloc o2).drew.grownBy w3 (Value.slice A n c).ownBlock) (hr : ∀ k, (Value.slice A n c).ownBlock = some k → w.heap.size ≤ k) : Below w.heap.size w w3 := by
  have h2 : Below w.heap.size w ((w.alloc o1).alloc o2) := (below_alloc w o1).trans ((below_alloc _ o2).mono (by simp))
  exact h2.trans (own_in (gr_drew' h) hr (by simp; omega))

set_option maxHeartbeats 3200000 in
set_option maxRecDepth 100000 in
theorem walk_FnTermSort (v : Value) (bs : List Int) (w : World) (h : RBytes w w.heap.size v bs) :
    Calls Try.prog 4 #[v] w fun e w' => e = .returned (.bool true) ∧ Below w.heap.size w w' := by
  obtain ⟨i0, hi, hz0, hz1, hz2⟩ := info_parts Try.info_int
  have HW := Lib.hid h
  obtain ⟨A, c, rfl, hc1, hc2, -⟩ := h
  rw [maxLen_eq] at hc2
  by_cases hl : 1048576 < bs.length
  · go_enter Try.func4, Try.ntmps4
    go_wp2
    go_ret
    exact ⟨rfl, Below.refl _ _⟩
  go_enter Try.func4, Try.ntmps4
  go_wp2_with fail
  refine (drawTermSort_any _ bs _ HW.out).mono ?_
  rintro e w1 ⟨sv, ⟨sorts, rows⟩, vv, vars, tv, t, rfl, ⟨u, rfl, ho⟩, hov, hot, ⟨ad, ct, rfl⟩, hs1, hs2, hs3, hsm, hb1⟩
  simp only at hs1 ho
  obtain ⟨Au, cu, rfl, -⟩ := ho.reads.form
  obtain ⟨Av, cv, rfl, -⟩ := own_reads hov
  have hal := below_alloc w1 (.cells #[.int .i64 sorts, .slice Au rows.length cu] 25)
  have hbx := box_cells w1 (.int .i64 sorts) (.slice Au rows.length cu) 25
  have HS2 := Lib.hid (show RSig (w1.alloc (.cells #[.int .i64 sorts, .slice Au rows.length cu] 25)) (.agg #[.int .i64 sorts, .slice Au rows.length cu]) ⟨sorts, rows⟩ from ⟨_, rfl, ho.reads.keep hal⟩)
  have HV2 := Lib.hid (hov.keep hal).reads
  have HT2 := Lib.hid (hot.keep hal).reads
  have HB2 := Lib.hid (hb1.trans (hal.mono hb1.size))
  generalize hW2 : w1.alloc (.cells #[.int .i64 sorts, .slice Au rows.length cu] 25) = w2 at HS2 HV2 HT2 HB2 hbx
  have HBX := Lib.hid hbx
  have f0 := hbx.1
  have f1 := hbx.2
  have HSM := Lib.hid hsm
  obtain ⟨q, hq⟩ : ∃ q, sortM ⟨sorts, rows⟩ vars t = q := ⟨_, rfl⟩
  have HQ := Lib.hid hq
  clear ho hov hot hb1 hal hbx hsm hq
  go_wp2_with fail
  clear hW2
  refine (termSort_any ⟨sorts, rows⟩ vars t _ _ _ _ HSM.out HS2.out HV2.out HT2.out).mono ?_
  rw [HQ.out]
  rintro e w3 ⟨rfl, hb3⟩
  have HB3 := Lib.hid hb3
  have g0 := cell_keep hb3 f0
  have g1 := cell_keep hb3 f1
  clear hb3 f0 f1
  go_wp2_with fail
  refine (specTermSort_any ⟨sorts, rows⟩ vars t _ _ _ _ (HS2.out.keep HB3.out) (HV2.out.keep HB3.out) (HT2.out.keep HB3.out)).mono ?_
  rw [HQ.out]
  rintro e w4 ⟨rfl, hb4⟩
  have HB4 := Lib.hid (fit_keep HB3.out hb4)
  have k0 := cell_keep hb4 g0
  have k1 := cell_keep hb4 g1
  have hqb : (q != q) = false := by simp
  clear hb4 g0 g1
  by_cases hq0 : q < 0
  · have hqm : q = -1 := by rw [← HQ.out]; exact sortM_neg (by rw [HQ.out]; exact hq0)
    subst hqm
    clear k0 k1
    go_wp2_with fail
    refine (alive_any _).mono ?_
    rintro e w7 ⟨rfl, hb7⟩
    have HB7 := Lib.hid (HB2.out.trans ((fit_keep HB4.out hb7).mono HB2.out.size))
    clear hb7
    go_wp2
    go_ret
    exact ⟨rfl, HB7.out⟩
  have HQ0 := Lib.hid (show 0 ≤ sortM ⟨sorts, rows⟩ vars t by rw [HQ.out]; omega)
  have hlt : q < sorts := by rw [← HQ.out]; exact sort_below HQ0.out
  clear k0 k1
  go_wp2
  go_loopw [7] (fun i wr => ∃ k : Nat, k ≤ t.length ∧ i = .int .i64 k ∧ Below w2.heap.size w2 wr) (fun i _ => t.length - (intOf i).toNat)
  case atStart => exact ⟨0, Nat.zero_le _, rfl, HB4.out⟩
  case round =>
    obtain ⟨k, hk, rfl, hbr⟩ := hrel
    have HBR := Lib.hid hbr
    have m0 := cell_keep hbr HBX.out.1
    have m1 := cell_keep hbr HBX.out.2
    clear hbr
    by_cases hkl : k < t.length
    · have hkl' : (k : Int) < (t.length : Int) := by omega
      have HAS := Lib.hid (at_sort HQ0.out hkl)
      go_wp2_with fail
      have ea := World.new_ne wr _ m0
      go_region_held3 (fun w' => w'.cell? ⟨w1.heap.size, 0, none⟩ = some (.int .i64 sorts) ∧ w'.cell? ⟨w1.heap.size, 1, none⟩ = some (.slice Au rows.length cu)) (first | go_keep)
        (first
          | (go_at_call 16; refine (termAt_any ⟨sorts, rows⟩ vars t (k : Int) wr.drew _ _ _ HSM.out (HS2.out.keep (bel_drew HBR.out)) (HV2.out.keep (bel_drew HBR.out)) (HT2.out.keep (bel_drew HBR.out))).mono ?_; rintro e w6 ⟨uz, rfl, hoz, hb6⟩; obtain ⟨Az, cz, rfl, -⟩ := hoz.reads.form; have HZ6 := Lib.hid hoz.reads; have HB6 := Lib.hid (show Below wr.heap.size wr w6 from bel_undrew hb6); have j0 := cell_keep HB6.out m0; have j1 := cell_keep HB6.out m1; clear hoz hb6)
          | (go_at_call 14; refine (termSort_any ⟨sorts, rows⟩ vars (atM ⟨sorts, rows⟩ vars t (k : Int)) _ _ _ _ (at_small HSM.out) (HS2.out.keep (fit_keep HBR.out HB6.out)) (HV2.out.keep (fit_keep HBR.out HB6.out)) HZ6.out).mono ?_; rintro e w7 ⟨rfl, hb7⟩; have HB7 := Lib.hid (fit_keep HB6.out hb7); have i0 := cell_keep HB7.out m0; have i1 := cell_keep HB7.out m1; clear hb7))
      clear m0 m1 j0 j1 i0 i1 ea
      have has : ¬ sortM ⟨sorts, rows⟩ vars (atM ⟨sorts, rows⟩ vars t (k : Int)) < 0 := by have := HAS.out; omega
      generalize sortM ⟨sorts, rows⟩ vars (atM ⟨sorts, rows⟩ vars t (k : Int)) = z at has ⊢
      have HBN := Lib.hid (fit_keep HBR.out HB7.out)
      go_wp2
      go_roundw
      case rel => exact ⟨k + 1, by omega, by go_num, HBN.out⟩
      case measure => simp [intOf]; omega
    · have hkl' : ¬ (k : Int) < (t.length : Int) := by omega
      have HNEWS := Lib.hid (news_any ((HT2.out.keep HBR.out).keep (below_alloc wr (.cells #[] 3))))
      have HTT := Lib.hid (HT2.out.keep HBR.out)
      have HSN := Lib.hid (sort_snoc HQ0.out)
      have HNB := Lib.hid (news_any (HTT.out.keep ((below_alloc wr (.cells #[] 3)).trans ((below_alloc _ (.cells #[.int .i64 100] 3)).mono (by simp)))))
      have HNC := Lib.hid (news_any (HTT.out.keep ((below_alloc wr (.cells #[.int .i64 100] 3)).trans ((below_alloc _ (.cells #[] 3)).mono (by simp)))))
      go_wp2_with fail
      have ea := World.new_ne wr _ m0
      go_region_held3 (fun w' => w'.cell? ⟨w1.heap.size, 0, none⟩ = some (.int .i64 sorts) ∧ w'.cell? ⟨w1.heap.size, 1, none⟩ = some (.slice Au rows.length cu)) (first | go_keep)
        (first
          | (refine step_append_own rfl (.tmp 51) (.tmp 52) 26 rfl wr.heap.size 3 i0 (.int .i64 0) 1 8 Try.underlying26 hi hz0 hz1 hz2 rfl (by omega) _ 0 [] rfl ((emp1 wr).drew) ad t.length ct (t.map (Value.int .i64)) rfl (by simp) (HNEWS.out) (ints_one _) (by rw [maxLen_eq]; omega) (by omega) (by first | (simp; done) | (simp; omega)) ?_; intro v3 w3 hown3 hgrow3; rw [Nat.zero_add, List.nil_append] at hown3; obtain ⟨A3, c3, rfl, -⟩ := own_reads hown3; have HO3 := Lib.hid hown3; have HB3 := Lib.hid (bel_grow hgrow3 (fun k e => by injection e with e; exact Nat.le_of_eq e)); have j0 := cell_keep HB3.out m0; have j1 := cell_keep HB3.out m1; have ed := World.new_ne w3 _ j0; have HL3 := Lib.hid trivial; clear hown3 hgrow3)
          | (refine step_append_own rfl (.tmp 51) (.tmp 52) 26 rfl wr.heap.size 3 i0 (.int .i64 0) 1 8 Try.underlying26 hi hz0 hz1 hz2 rfl (by omega) _ 0 [] rfl ((emp2 wr 100).drew) ad t.length ct (t.map (Value.int .i64)) rfl (by simp) (HNB.out) (ints_one _) (by rw [maxLen_eq]; omega) (by omega) (by first | (simp; done) | (simp; omega)) ?_; intro v3 w3 hown3 hgrow3; rw [Nat.zero_add, List.nil_append] at hown3; obtain ⟨A3, c3, rfl, -⟩ := own_reads hown3; have HO3 := Lib.hid hown3; have HB3 := Lib.hid (two_below hgrow3 (fun k e => by injection e with e; exact Nat.le_of_eq e)); have j0 := cell_keep HB3.out m0; have j1 := cell_keep HB3.out m1; have ed := World.new_ne w3 _ j0; have HL3 := Lib.hid (lit_kept2 hgrow3); clear hown3 hgrow3)
          | (refine step_append_own rfl (.tmp 51) (.tmp 52) 26 rfl wr.heap.size 3 i0 (.int .i64 0) 1 8 Try.underlying26 hi hz0 hz1 hz2 rfl (by omega) _ 0 [] rfl ((emp3 wr 100).drew) ad t.length ct (t.map (Value.int .i64)) rfl (by simp) (HNC.out) (ints_one _) (by rw [maxLen_eq]; omega) (by omega) (by first | (simp; done) | (simp; omega)) ?_; intro v3 w3 hown3 hgrow3; rw [Nat.zero_add, List.nil_append] at hown3; obtain ⟨A3, c3, rfl, -⟩ := own_reads hown3; have HO3 := Lib.hid hown3; have HB3 := Lib.hid (two_below hgrow3 (fun k e => by injection e with e; have e2 : wr.heap.size + 1 = k := e; omega)); have j0 := cell_keep HB3.out m0; have j1 := cell_keep HB3.out m1; have ed := World.new_ne w3 _ j0; have HL3 := Lib.hid (lit_kept3 hgrow3); clear hown3 hgrow3)
          | (refine step_append_own rfl (.tmp 53) (.tmp 54) 26 rfl wr.heap.size 3 i0 (.int .i64 0) 1 8 Try.underlying26 hi hz0 hz1 hz2 rfl (by omega) _ t.length (t.map (Value.int .i64)) rfl ((World.ownsRow.alloc HO3.out _)) ⟨w3.heap.size, 0, none⟩ 1 1 [.int .i64 100] rfl rfl (lit_new w3 100) (lit_one 100) (by rw [maxLen_eq]; omega) (by omega) (by have := HB3.out.size; first | omega | (simp; omega)) ?_; intro v5 w5 hown5 hgrow5; obtain ⟨A5, c5, rfl, -⟩ := own_reads hown5; have HO5 := Lib.hid (app_own (ps := t) (rs := [100]) rfl hown5); have HB5 := Lib.hid (HB3.out.trans ((below_alloc w3 (.cells #[.int .i64 100] 3)).mono HB3.out.size |>.trans (own_in hgrow5 (fun k e => (own_lt HO3.out k e).1) (by have := HB3.out.size; simp; omega)))); have i0' := cell_keep HB5.out m0; have i1' := cell_keep HB5.out m1; clear hown5 hgrow5)
          | (refine step_append_own rfl (.tmp 53) (.tmp 54) 26 rfl wr.heap.size 3 i0 (.int .i64 0) 1 8 Try.underlying26 hi hz0 hz1 hz2 rfl (by omega) _ t.length (t.map (Value.int .i64)) rfl (HO3.out) ⟨wr.heap.size + 1, 0, none⟩ 1 1 [.int .i64 100] rfl rfl (lit_blk HL3.out) (lit_one 100) (by rw [maxLen_eq]; omega) (by omega) (by have := HB3.out.size; first | omega | (simp; omega)) ?_; intro v5 w5 hown5 hgrow5; obtain ⟨A5, c5, rfl, -⟩ := own_reads hown5; have HO5 := Lib.hid (app_own (ps := t) (rs := [100]) rfl hown5); have HB5 := Lib.hid (HB3.out.trans (own_in hgrow5 (fun k e => (own_lt HO3.out k e).1) HB3.out.size)); have i0' := cell_keep HB5.out m0; have i1' := cell_keep HB5.out m1; clear hown5 hgrow5)
          | (refine step_append_own rfl (.tmp 53) (.tmp 54) 26 rfl wr.heap.size 3 i0 (.int .i64 0) 1 8 Try.underlying26 hi hz0 hz1 hz2 rfl (by omega) _ t.length (t.map (Value.int .i64)) rfl (HO3.out) ⟨wr.heap.size, 0, none⟩ 1 1 [.int .i64 100] rfl rfl (lit_blk HL3.out) (lit_one 100) (by rw [maxLen_eq]; omega) (by omega) (by have := HB3.out.size; first | omega | (simp; omega)) ?_; intro v5 w5 hown5 hgrow5; obtain ⟨A5, c5, rfl, -⟩ := own_reads hown5; have HO5 := Lib.hid (app_own (ps := t) (rs := [100]) rfl hown5); have HB5 := Lib.hid (HB3.out.trans (own_in hgrow5 (fun k e => (own_lt HO3.out k e).1) HB3.out.size)); have i0' := cell_keep HB5.out m0; have i1' := cell_keep HB5.out m1; clear hown5 hgrow5)
          | (go_at_call 14; refine (termSort_any ⟨sorts, rows⟩ vars (t ++ [100]) _ _ _ _ (small_snoc HSM.out) (HS2.out.keep (fit_keep HBR.out HB5.out)) (HV2.out.keep (fit_keep HBR.out HB5.out)) (OInts.reads HO5.out)).mono ?_; rw [HSN.out]; rintro e w7 ⟨rfl, hb7⟩; have HB7 := Lib.hid (fit_keep HB5.out hb7); have h0' := cell_keep HB7.out m0; have h1' := cell_keep HB7.out m1; clear hb7))
      all_goals
        have HB8 := Lib.hid (HB2.out.trans ((fit_keep HBR.out HB7.out).mono HB2.out.size))
        clear m0 m1 j0 j1 i0' i1' h0' h1' ea ed
        go_wp2
        go_ret
        exact ⟨rfl, HB8.out⟩

set_option maxRecDepth 100000 in
theorem lifted_FnTermSort (os : Os) (started : os.Started) (H : Type) (enc : TypeId × Value → H) :
    ReturnsInHanded {} Try.checked os 4 .any (Rows.fnTermSortSpec.pre6 enc Try.prog Try.f4 Rows.fnTermSortRow.domain false) (Rows.fnTermSortSpec.post enc Try.prog Try.f4 false true false false) := by
  refine returnsInHanded_of_change (C := Try.checked) own started (by kernel_rfl) Try.func4
    (ChangeSpec.witness6 (enc := enc) (C := Try.checked) false ⟨#[], #[.slice none 0 0], []⟩ 8 (by kernel_rfl) (by kernel_rfl) (by kernel_rfl) (by kernel_rfl)) ?_
  intro W base args ds gs before hval0 hW hcnd _
  have hval : ∀ (j : Nat) t v, Try.f4.params[j]? = some t → args[j]? = some v → Value.okWide Try.prog W .any base t v := hval0
  have hW' := hW
  obtain ⟨p, q, hA0, hV, rfl, hfz, hnd⟩ := hW
  have hA : DataW.TrodAll enc Try.prog W 0 (fun _ => true) true Try.f4.params.toList args.toList ds p := hA0
  rw [Try.params4] at hA hval
  obtain ⟨v0, vs0, d0, ds0, p0, q0, hargs, rfl, rfl, h0, r0⟩ := trodAll_cons hA
  obtain ⟨rfl, rfl, rfl⟩ := trodAll_nil r0
  obtain rfl : args = #[v0] := by cases args; simp_all
  obtain ⟨rfl, rfl⟩ := trodVars_none hV
  obtain ⟨a0, len0, cap0, rfl⟩ := okWide_slice Try.underlying22 (hval 0 22 v0 rfl rfl)
  have k0 := h0
  have lt0 : ∀ x ∈ p0, x.block < W.heap.size := by obtain ⟨m, hm⟩ := k0; exact DataW.trod_lt m _ _ _ hm
  obtain ⟨bs, w0⟩ : ∃ bs, RBytes W W.heap.size (.slice a0 len0 cap0) bs := by
    obtain ⟨fuel, hf⟩ := h0
    rcases open_ints Try.underlying22 Try.underlying5 (by kernel_rfl) hf with ⟨hcs, _⟩ | ⟨x, l, c, zs, hcs, _, hl, hm, hz, _, hcell, hwz⟩
    · simp [Value.cells] at hcs
      obtain ⟨rfl, rfl, rfl⟩ := hcs
      exact ⟨[], bytes_nil _ _⟩
    · simp [Value.cells] at hcs
      obtain ⟨rfl, rfl, rfl⟩ := hcs
      exact ⟨_, bytes_of hl hm (by simpa using hz) hcell hwz⟩
  clear hA0 hval0
  refine (walk_FnTermSort _ bs W w0).mono fun e W' ⟨he, bel⟩ => ?_
  subst he
  exact ⟨_, rfl, _, _, _, [], _, [], hW', trodAll_mk1 (shut_bool Try.underlying4 _), (trodAll_cons_mk (Below.trod laidOut (by kernel_rfl) (of_decide_eq_true (by kernel_rfl)) k0 bel lt0) trodAll_mk0), rfl, bel.frame _, fun h => by cases h⟩

theorem over_FnTermSort : Rows.fnTermSortRow.holds Try.pinned (OpenSpec.ofChange Rows.fnTermSortSpec) :=
  OpenClaim.holds_of_wide 4 Try.f4 rfl rfl rfl rfl rfl rfl rfl ⟨rfl, rfl, rfl, rfl, rfl⟩ rfl rfl rfl rfl rfl (by kernel_rfl) Try.func4 (by kernel_rfl)
    (of_decide_eq_true (by kernel_rfl)) (by unfold Func.isWrapper; first | (rw [if_pos (by decide +kernel)]; kernel_rfl) | (rw [if_neg (by decide +kernel)]; exact ⟨rfl, rfl⟩))
    (fun os started H enc _ => lifted_FnTermSort os started H enc)

theorem proved_FnTermSort : Rows.FnTermSortSaid := over_FnTermSort
end Go.Proofs.Ytcbjfedhebeogab
