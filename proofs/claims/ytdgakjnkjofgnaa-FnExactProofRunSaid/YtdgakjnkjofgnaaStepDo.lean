/- StepDo of both packages. -/
import Derived.Test.YtdgakjnkjofgnaaAfter
import Derived.Test.YtdgakjnkjofgnaaL1
import Derived.Test.YtdgakjnkjofgnaaTakes2
namespace Go.Proofs.Ytdgakjnkjofgnaa
open Go.RowKit
set_option linter.unusedVariables false
set_option linter.unusedSimpArgs false

theorem stepM_no {t : MThy} {vars u : List Int} {p : MStep} (h : thyB t = false) : stepM t vars u p = ([], false) := by unfold stepM; rw [h]; simp
theorem stepM_yes {t : MThy} {vars u : List Int} {p : MStep} (h : thyB t = true) : stepM t vars u p = afterM t vars u p := by unfold stepM; rw [if_pos h]

set_option maxRecDepth 100000 in
theorem stepDo_any (t : MThy) (vars u : List Int) (p : MStep) (w : World) (v vv uv pv : Value) (hst : SmallT t) (hsu : Small u) (hsp : SmallP p) (h : RThy w v t) (h1 : RInts w vv vars) (h2 : RInts w uv u) (h3 : RStep w pv p) :
    Calls Try.prog 26 #[v, vv, uv, pv] w (PairPost (stepM t vars u p) w) := by
  obtain ⟨Ata, cta, Atb, ctb, rfl⟩ := h.form
  obtain ⟨Apa, cpa, rfl⟩ := h3.form
  have hb : Below w.heap.size w ((w.alloc (.cells #[.int .i64 t.over.sorts, .slice Ata t.over.ops.length cta, .slice Atb t.eqs.length ctb] 45)).alloc (.cells #[.int .i64 p.ax, .bool p.back, .int .i64 p.at_, .slice Apa p.terms.length cpa] 55)) := (below_alloc _ _).alloc (by simp) _
  have HB := Lib.hid hb
  have hsz : ((w.alloc (.cells #[.int .i64 t.over.sorts, .slice Ata t.over.ops.length cta, .slice Atb t.eqs.length ctb] 45)).alloc (.cells #[.int .i64 p.ax, .bool p.back, .int .i64 p.at_, .slice Apa p.terms.length cpa] 55)).heap.size = w.heap.size + 2 := by simp
  have Ht := Lib.hid (h.keep hb)
  have t0 := cell_keep (below_alloc (w.alloc (.cells #[.int .i64 t.over.sorts, .slice Ata t.over.ops.length cta, .slice Atb t.eqs.length ctb] 45)) (.cells #[.int .i64 p.ax, .bool p.back, .int .i64 p.at_, .slice Apa p.terms.length cpa] 55)) (bx_at (w) #[.int .i64 t.over.sorts, .slice Ata t.over.ops.length cta, .slice Atb t.eqs.length ctb] 45 (k := 0) rfl)
  have t1 := cell_keep (below_alloc (w.alloc (.cells #[.int .i64 t.over.sorts, .slice Ata t.over.ops.length cta, .slice Atb t.eqs.length ctb] 45)) (.cells #[.int .i64 p.ax, .bool p.back, .int .i64 p.at_, .slice Apa p.terms.length cpa] 55)) (bx_at (w) #[.int .i64 t.over.sorts, .slice Ata t.over.ops.length cta, .slice Atb t.eqs.length ctb] 45 (k := 1) rfl)
  have t2 := cell_keep (below_alloc (w.alloc (.cells #[.int .i64 t.over.sorts, .slice Ata t.over.ops.length cta, .slice Atb t.eqs.length ctb] 45)) (.cells #[.int .i64 p.ax, .bool p.back, .int .i64 p.at_, .slice Apa p.terms.length cpa] 55)) (bx_at (w) #[.int .i64 t.over.sorts, .slice Ata t.over.ops.length cta, .slice Atb t.eqs.length ctb] 45 (k := 2) rfl)
  have Hp := Lib.hid (h3.keep hb)
  have p0 := bx_at (w.alloc (.cells #[.int .i64 t.over.sorts, .slice Ata t.over.ops.length cta, .slice Atb t.eqs.length ctb] 45)) #[.int .i64 p.ax, .bool p.back, .int .i64 p.at_, .slice Apa p.terms.length cpa] 55 (k := 0) rfl
  have p1 := bx_at (w.alloc (.cells #[.int .i64 t.over.sorts, .slice Ata t.over.ops.length cta, .slice Atb t.eqs.length ctb] 45)) #[.int .i64 p.ax, .bool p.back, .int .i64 p.at_, .slice Apa p.terms.length cpa] 55 (k := 1) rfl
  have p2 := bx_at (w.alloc (.cells #[.int .i64 t.over.sorts, .slice Ata t.over.ops.length cta, .slice Atb t.eqs.length ctb] 45)) #[.int .i64 p.ax, .bool p.back, .int .i64 p.at_, .slice Apa p.terms.length cpa] 55 (k := 2) rfl
  have p3 := bx_at (w.alloc (.cells #[.int .i64 t.over.sorts, .slice Ata t.over.ops.length cta, .slice Atb t.eqs.length ctb] 45)) #[.int .i64 p.ax, .bool p.back, .int .i64 p.at_, .slice Apa p.terms.length cpa] 55 (k := 3) rfl
  simp only [World.size_alloc] at p0 p1 p2 p3
  generalize hW : (w.alloc (.cells #[.int .i64 t.over.sorts, .slice Ata t.over.ops.length cta, .slice Atb t.eqs.length ctb] 45)).alloc (.cells #[.int .i64 p.ax, .bool p.back, .int .i64 p.at_, .slice Apa p.terms.length cpa] 55) = W at HB hsz Ht t0 t1 t2 Hp p0 p1 p2 p3
  clear hb h h3
  have HV := Lib.hid (h1.keep HB.out)
  have HU := Lib.hid (h2.keep HB.out)
  have HSM := Lib.hid (And.intro hst (And.intro hsu hsp))
  obtain ⟨A1, d1, rfl, -⟩ := h1.form
  obtain ⟨A2, d2, rfl, -⟩ := h2.form
  clear h1 h2 hst hsu hsp
  obtain ⟨b, hb⟩ : ∃ b, thyB t = b := ⟨_, rfl⟩
  have HT := Lib.hid hb
  clear hb
  go_enter Try.func26, Try.ntmps26
  go_wp2_with fail
  clear hW
  refine (theoryOk_any t _ _ HSM.out.1 Ht.out).mono ?_
  rw [HT.out]
  rintro x w1 ⟨rfl, hb⟩
  have HB1 := Lib.hid (fit_keep HB.out hb)
  have HK := Lib.hid hb
  have j0 := cell_keep hb t0
  have j1 := cell_keep hb t1
  have j2 := cell_keep hb t2
  have j3 := cell_keep hb p0
  have j4 := cell_keep hb p1
  have j5 := cell_keep hb p2
  have j6 := cell_keep hb p3
  clear hb t0 t1 t2 p0 p1 p2 p3
  cases b with
  | false =>
    have HE := Lib.hid (stepM_no (vars := vars) (u := u) (p := p) HT.out)
    go_wp2
    refine bodyPost_ret (v := .tuple #[.slice none 0 0, .bool false]) (by simp [results, Try.results26, go_sem]) rfl ?_
    rw [HE.out]
    exact ⟨_, rfl, OInts.nil _ _, HB1.out⟩
  | true =>
    have HE := Lib.hid (stepM_yes (vars := vars) (u := u) (p := p) HT.out)
    obtain ⟨R, g, hR⟩ : ∃ R g, afterM t vars u p = (R, g) := ⟨_, _, rfl⟩
    have HR := Lib.hid hR
    clear hR
    go_wp2_with fail
    refine (afterStep_any t vars u p _ _ _ _ _ HSM.out.1 HSM.out.2.1 HSM.out.2.2 (Ht.out.keep HK.out) (HV.out.keep HK.out) (HU.out.keep HK.out) (Hp.out.keep HK.out)).mono ?_
    rw [HR.out]
    rintro x w2 ⟨z, rfl, ho, hb⟩
    simp only at ho ⊢
    obtain ⟨Az, cz, rfl, -⟩ := own_reads ho
    have HO := Lib.hid ho
    have HB2 := Lib.hid (fit_keep HB1.out hb)
    have hs1 := HB1.out.size
    clear hb ho j0 j1 j2 j3 j4 j5 j6
    go_wp2
    refine bodyPost_ret (v := .tuple #[.slice Az R.length cz, .bool g]) (by simp [results, Try.results26, go_sem]) rfl ?_
    rw [HE.out, HR.out]
    exact ⟨_, rfl, HO.out.base (by omega), HB2.out⟩

set_option maxRecDepth 100000 in
theorem l3Sides_any (e : MEq) (back : Bool) (w : World) (v : Value) (h : REq w v e) :
    Calls Try.prog 56 #[v, .bool back] w fun x w' => ∃ a b, x = .returned (.tuple #[a, b]) ∧ RInts w' a (sideFrom e back) ∧ RInts w' b (sideTo e back) ∧ Below w.heap.size w w' := by
  obtain ⟨Aea, cea, Aeb, ceb, Aec, cec, rfl⟩ := h.form
  have hb : Below w.heap.size w (w.alloc (.cells #[.slice Aea e.vars.length cea, .slice Aeb e.left.length ceb, .slice Aec e.right.length cec] 33)) := below_alloc _ _
  have HB := Lib.hid hb
  have hsz : (w.alloc (.cells #[.slice Aea e.vars.length cea, .slice Aeb e.left.length ceb, .slice Aec e.right.length cec] 33)).heap.size = w.heap.size + 1 := by simp
  have He := Lib.hid (h.keep hb)
  have e0 := bx_at (w) #[.slice Aea e.vars.length cea, .slice Aeb e.left.length ceb, .slice Aec e.right.length cec] 33 (k := 0) rfl
  have e1 := bx_at (w) #[.slice Aea e.vars.length cea, .slice Aeb e.left.length ceb, .slice Aec e.right.length cec] 33 (k := 1) rfl
  have e2 := bx_at (w) #[.slice Aea e.vars.length cea, .slice Aeb e.left.length ceb, .slice Aec e.right.length cec] 33 (k := 2) rfl
  generalize hW : w.alloc (.cells #[.slice Aea e.vars.length cea, .slice Aeb e.left.length ceb, .slice Aec e.right.length cec] 33) = W at HB hsz He e0 e1 e2
  clear hb h
  obtain ⟨r0, r1, r2⟩ := He.out.of
  have R := Lib.hid (And.intro r1 r2)
  clear r0 r1 r2
  have ea := World.new_ne W _ e0
  cases back with
  | true =>
    go_enter Try.func56, Try.ntmps56
    go_wp2_with fail
    refine wp_region_held_drew (S := (fun w' => w'.cell? ⟨w.heap.size, 0, none⟩ = some (.slice Aea e.vars.length cea) ∧ w'.cell? ⟨w.heap.size, 1, none⟩ = some (.slice Aeb e.left.length ceb) ∧ w'.cell? ⟨w.heap.size, 2, none⟩ = some (.slice Aec e.right.length cec))) (by kernel_rfl) ?_ (fun hHeld => ?_)
    · exact ⟨e0, e1, e2⟩
    refine wpAnyH_take (i := 0) (oi := _) (v := ?_) rfl (by kernel_rfl) (by kernel_rfl) (by kernel_rfl) (fun _ _ _ h => h) (Or.inl ⟨by rfl, ?_⟩) (by assumption) ?_
    rotate_left
    · first | (intro w' hSw; (try dsimp only at hSw); go_simp; done) | (intro w' hSw; (try dsimp only at hSw); go_simp; with_reducible rfl)
    try simp only [Act.put, List.getElem_toArray, List.getElem_cons_zero, List.getElem_cons_succ, List.setIfInBounds_toArray, List.set_cons_zero, List.set_cons_succ]
    refine wpAnyH_take (i := 1) (oi := _) (v := ?_) rfl (by kernel_rfl) (by kernel_rfl) (by kernel_rfl) (fun _ _ _ h => h) (Or.inl ⟨by rfl, ?_⟩) (by assumption) ?_
    rotate_left
    · first | (intro w' hSw; (try dsimp only at hSw); go_simp; done) | (intro w' hSw; (try dsimp only at hSw); go_simp; with_reducible rfl)
    try simp only [Act.put, List.getElem_toArray, List.getElem_cons_zero, List.getElem_cons_succ, List.setIfInBounds_toArray, List.set_cons_zero, List.set_cons_succ]
    refine wpAnyH_take (i := 2) (oi := _) (v := ?_) rfl (by kernel_rfl) (by kernel_rfl) (by kernel_rfl) (fun _ _ _ h => h) (Or.inl ⟨by rfl, ?_⟩) (by assumption) ?_
    rotate_left
    · first | (intro w' hSw; (try dsimp only at hSw); go_simp; done) | (intro w' hSw; (try dsimp only at hSw); go_simp; with_reducible rfl)
    try simp only [Act.put, List.getElem_toArray, List.getElem_cons_zero, List.getElem_cons_succ, List.setIfInBounds_toArray, List.set_cons_zero, List.set_cons_succ]
    refine wpAnyH_take (i := 3) (oi := _) (v := ?_) rfl (by kernel_rfl) (by kernel_rfl) (by kernel_rfl) (fun _ _ _ h => h) (Or.inl ⟨by rfl, ?_⟩) (by assumption) ?_
    rotate_left
    · first | (intro w' hSw; (try dsimp only at hSw); go_simp; done) | (intro w' hSw; (try dsimp only at hSw); go_simp; with_reducible rfl)
    try simp only [Act.put, List.getElem_toArray, List.getElem_cons_zero, List.getElem_cons_succ, List.setIfInBounds_toArray, List.set_cons_zero, List.set_cons_succ]
    refine wpAnyH_take (i := 4) (oi := _) (v := ?_) rfl (by kernel_rfl) (by kernel_rfl) (by kernel_rfl) (fun _ _ _ h => h) (Or.inl ⟨by rfl, ?_⟩) (by assumption) ?_
    rotate_left
    · first | (intro w' hSw; (try dsimp only at hSw); go_simp; done) | (intro w' hSw; (try dsimp only at hSw); go_simp; with_reducible rfl)
    try simp only [Act.put, List.getElem_toArray, List.getElem_cons_zero, List.getElem_cons_succ, List.setIfInBounds_toArray, List.set_cons_zero, List.set_cons_succ]
    refine wpAnyH_take (i := 5) (oi := _) (v := ?_) rfl (by kernel_rfl) (by kernel_rfl) (by kernel_rfl) (fun _ _ _ h => h) (Or.inl ⟨by rfl, ?_⟩) (by assumption) ?_
    rotate_left
    · first | (intro w' hSw; (try dsimp only at hSw); go_simp; done) | (intro w' hSw; (try dsimp only at hSw); go_simp; with_reducible rfl)
    try simp only [Act.put, List.getElem_toArray, List.getElem_cons_zero, List.getElem_cons_succ, List.setIfInBounds_toArray, List.set_cons_zero, List.set_cons_succ]
    refine wpAnyH_done (by kernel_rfl) ?_ _
    go_wp2
    refine bodyPost_ret (v := .tuple #[.slice Aec e.right.length cec, .slice Aeb e.left.length ceb]) (by simp [results, Try.results56, go_sem]) rfl ?_
    exact ⟨_, _, rfl, by simpa [sideFrom] using R.out.2.keep (bel_drew (Below.refl _ _)), by simpa [sideTo] using R.out.1.keep (bel_drew (Below.refl _ _)), bel_drew HB.out⟩
  | false =>
    go_enter Try.func56, Try.ntmps56
    go_wp2_with fail
    refine wp_region_held_drew (S := (fun w' => w'.cell? ⟨w.heap.size, 0, none⟩ = some (.slice Aea e.vars.length cea) ∧ w'.cell? ⟨w.heap.size, 1, none⟩ = some (.slice Aeb e.left.length ceb) ∧ w'.cell? ⟨w.heap.size, 2, none⟩ = some (.slice Aec e.right.length cec))) (by kernel_rfl) ?_ (fun hHeld => ?_)
    · exact ⟨e0, e1, e2⟩
    refine wpAnyH_take (i := 0) (oi := _) (v := ?_) rfl (by kernel_rfl) (by kernel_rfl) (by kernel_rfl) (fun _ _ _ h => h) (Or.inl ⟨by rfl, ?_⟩) (by assumption) ?_
    rotate_left
    · first | (intro w' hSw; (try dsimp only at hSw); go_simp; done) | (intro w' hSw; (try dsimp only at hSw); go_simp; with_reducible rfl)
    try simp only [Act.put, List.getElem_toArray, List.getElem_cons_zero, List.getElem_cons_succ, List.setIfInBounds_toArray, List.set_cons_zero, List.set_cons_succ]
    refine wpAnyH_take (i := 1) (oi := _) (v := ?_) rfl (by kernel_rfl) (by kernel_rfl) (by kernel_rfl) (fun _ _ _ h => h) (Or.inl ⟨by rfl, ?_⟩) (by assumption) ?_
    rotate_left
    · first | (intro w' hSw; (try dsimp only at hSw); go_simp; done) | (intro w' hSw; (try dsimp only at hSw); go_simp; with_reducible rfl)
    try simp only [Act.put, List.getElem_toArray, List.getElem_cons_zero, List.getElem_cons_succ, List.setIfInBounds_toArray, List.set_cons_zero, List.set_cons_succ]
    refine wpAnyH_take (i := 2) (oi := _) (v := ?_) rfl (by kernel_rfl) (by kernel_rfl) (by kernel_rfl) (fun _ _ _ h => h) (Or.inl ⟨by rfl, ?_⟩) (by assumption) ?_
    rotate_left
    · first | (intro w' hSw; (try dsimp only at hSw); go_simp; done) | (intro w' hSw; (try dsimp only at hSw); go_simp; with_reducible rfl)
    try simp only [Act.put, List.getElem_toArray, List.getElem_cons_zero, List.getElem_cons_succ, List.setIfInBounds_toArray, List.set_cons_zero, List.set_cons_succ]
    refine wpAnyH_take (i := 3) (oi := _) (v := ?_) rfl (by kernel_rfl) (by kernel_rfl) (by kernel_rfl) (fun _ _ _ h => h) (Or.inl ⟨by rfl, ?_⟩) (by assumption) ?_
    rotate_left
    · first | (intro w' hSw; (try dsimp only at hSw); go_simp; done) | (intro w' hSw; (try dsimp only at hSw); go_simp; with_reducible rfl)
    try simp only [Act.put, List.getElem_toArray, List.getElem_cons_zero, List.getElem_cons_succ, List.setIfInBounds_toArray, List.set_cons_zero, List.set_cons_succ]
    refine wpAnyH_take (i := 4) (oi := _) (v := ?_) rfl (by kernel_rfl) (by kernel_rfl) (by kernel_rfl) (fun _ _ _ h => h) (Or.inl ⟨by rfl, ?_⟩) (by assumption) ?_
    rotate_left
    · first | (intro w' hSw; (try dsimp only at hSw); go_simp; done) | (intro w' hSw; (try dsimp only at hSw); go_simp; with_reducible rfl)
    try simp only [Act.put, List.getElem_toArray, List.getElem_cons_zero, List.getElem_cons_succ, List.setIfInBounds_toArray, List.set_cons_zero, List.set_cons_succ]
    refine wpAnyH_take (i := 5) (oi := _) (v := ?_) rfl (by kernel_rfl) (by kernel_rfl) (by kernel_rfl) (fun _ _ _ h => h) (Or.inl ⟨by rfl, ?_⟩) (by assumption) ?_
    rotate_left
    · first | (intro w' hSw; (try dsimp only at hSw); go_simp; done) | (intro w' hSw; (try dsimp only at hSw); go_simp; with_reducible rfl)
    try simp only [Act.put, List.getElem_toArray, List.getElem_cons_zero, List.getElem_cons_succ, List.setIfInBounds_toArray, List.set_cons_zero, List.set_cons_succ]
    refine wpAnyH_done (by kernel_rfl) ?_ _
    go_wp2
    refine bodyPost_ret (v := .tuple #[.slice Aeb e.left.length ceb, .slice Aec e.right.length cec]) (by simp [results, Try.results56, go_sem]) rfl ?_
    exact ⟨_, _, rfl, by simpa [sideFrom] using R.out.1.keep (bel_drew (Below.refl _ _)), by simpa [sideTo] using R.out.2.keep (bel_drew (Below.refl _ _)), bel_drew HB.out⟩

theorem stepM_out {t : MThy} {vars u : List Int} {p : MStep} (h : ¬ (0 ≤ p.ax ∧ p.ax < t.eqs.length)) : stepM t vars u p = ([], false) := by
  unfold stepM; rw [afterM_no h]; simp
theorem inB_ax {n : Int} {l : Nat} (q : Int) (hq : q = (l : Int) - 1) : inB n 0 q = decide (0 ≤ n ∧ n < (l : Int)) := inB_op q hq

set_option maxHeartbeats 1000000 in
set_option maxRecDepth 100000 in
theorem specStepDo_any (t : MThy) (vars u : List Int) (p : MStep) (w : World) (v vv uv pv : Value) (hsp : SmallP p) (h : RThy w v t) (h1 : RInts w vv vars) (h2 : RInts w uv u) (h3 : RStep w pv p) :
    Calls Try.prog 23 #[v, vv, uv, pv] w (PairPost (stepM t vars u p) w) := by
  obtain ⟨Ata, cta, Atb, ctb, rfl⟩ := h.form
  obtain ⟨Apa, cpa, rfl⟩ := h3.form
  have hb : Below w.heap.size w ((w.alloc (.cells #[.int .i64 t.over.sorts, .slice Ata t.over.ops.length cta, .slice Atb t.eqs.length ctb] 45)).alloc (.cells #[.int .i64 p.ax, .bool p.back, .int .i64 p.at_, .slice Apa p.terms.length cpa] 55)) := (below_alloc _ _).alloc (by simp) _
  have HB := Lib.hid hb
  have hsz : ((w.alloc (.cells #[.int .i64 t.over.sorts, .slice Ata t.over.ops.length cta, .slice Atb t.eqs.length ctb] 45)).alloc (.cells #[.int .i64 p.ax, .bool p.back, .int .i64 p.at_, .slice Apa p.terms.length cpa] 55)).heap.size = w.heap.size + 2 := by simp
  have Ht := Lib.hid (h.keep hb)
  have t0 := cell_keep (below_alloc (w.alloc (.cells #[.int .i64 t.over.sorts, .slice Ata t.over.ops.length cta, .slice Atb t.eqs.length ctb] 45)) (.cells #[.int .i64 p.ax, .bool p.back, .int .i64 p.at_, .slice Apa p.terms.length cpa] 55)) (bx_at (w) #[.int .i64 t.over.sorts, .slice Ata t.over.ops.length cta, .slice Atb t.eqs.length ctb] 45 (k := 0) rfl)
  have t1 := cell_keep (below_alloc (w.alloc (.cells #[.int .i64 t.over.sorts, .slice Ata t.over.ops.length cta, .slice Atb t.eqs.length ctb] 45)) (.cells #[.int .i64 p.ax, .bool p.back, .int .i64 p.at_, .slice Apa p.terms.length cpa] 55)) (bx_at (w) #[.int .i64 t.over.sorts, .slice Ata t.over.ops.length cta, .slice Atb t.eqs.length ctb] 45 (k := 1) rfl)
  have t2 := cell_keep (below_alloc (w.alloc (.cells #[.int .i64 t.over.sorts, .slice Ata t.over.ops.length cta, .slice Atb t.eqs.length ctb] 45)) (.cells #[.int .i64 p.ax, .bool p.back, .int .i64 p.at_, .slice Apa p.terms.length cpa] 55)) (bx_at (w) #[.int .i64 t.over.sorts, .slice Ata t.over.ops.length cta, .slice Atb t.eqs.length ctb] 45 (k := 2) rfl)
  have Hp := Lib.hid (h3.keep hb)
  have p0 := bx_at (w.alloc (.cells #[.int .i64 t.over.sorts, .slice Ata t.over.ops.length cta, .slice Atb t.eqs.length ctb] 45)) #[.int .i64 p.ax, .bool p.back, .int .i64 p.at_, .slice Apa p.terms.length cpa] 55 (k := 0) rfl
  have p1 := bx_at (w.alloc (.cells #[.int .i64 t.over.sorts, .slice Ata t.over.ops.length cta, .slice Atb t.eqs.length ctb] 45)) #[.int .i64 p.ax, .bool p.back, .int .i64 p.at_, .slice Apa p.terms.length cpa] 55 (k := 1) rfl
  have p2 := bx_at (w.alloc (.cells #[.int .i64 t.over.sorts, .slice Ata t.over.ops.length cta, .slice Atb t.eqs.length ctb] 45)) #[.int .i64 p.ax, .bool p.back, .int .i64 p.at_, .slice Apa p.terms.length cpa] 55 (k := 2) rfl
  have p3 := bx_at (w.alloc (.cells #[.int .i64 t.over.sorts, .slice Ata t.over.ops.length cta, .slice Atb t.eqs.length ctb] 45)) #[.int .i64 p.ax, .bool p.back, .int .i64 p.at_, .slice Apa p.terms.length cpa] 55 (k := 3) rfl
  simp only [World.size_alloc] at p0 p1 p2 p3
  generalize hW : (w.alloc (.cells #[.int .i64 t.over.sorts, .slice Ata t.over.ops.length cta, .slice Atb t.eqs.length ctb] 45)).alloc (.cells #[.int .i64 p.ax, .bool p.back, .int .i64 p.at_, .slice Apa p.terms.length cpa] 55) = W at HB hsz Ht t0 t1 t2 Hp p0 p1 p2 p3
  clear hb h h3
  have HV := Lib.hid (h1.keep HB.out)
  have HU := Lib.hid (h2.keep HB.out)
  have HP := Lib.hid Hp.out.of
  have HTS := Lib.hid (show RSig W (.agg #[.int .i64 t.over.sorts, .slice Ata t.over.ops.length cta]) t.over from ⟨_, rfl, Ht.out.of.2.1⟩)
  have hlen := (Ht.out.of.2.2).len
  have HSP := Lib.hid hsp
  obtain ⟨A1, d1, rfl, -⟩ := h1.form
  obtain ⟨A2, d2, rfl, -⟩ := h2.form
  clear h1 h2 hsp
  obtain ⟨bb, hbb⟩ : ∃ b, thyB t = b := ⟨_, rfl⟩
  have HT := Lib.hid hbb
  clear hbb
  go_enter Try.func23, Try.ntmps23
  go_wp2_with fail
  clear hW
  refine (specTheoryOk_any t _ _ Ht.out).mono ?_
  rw [HT.out]
  rintro x w1 ⟨rfl, hb⟩
  have HB1 := Lib.hid (fit_keep HB.out hb)
  have HK := Lib.hid hb
  have j0 := cell_keep hb t0
  have j1 := cell_keep hb t1
  have j2 := cell_keep hb t2
  have j3 := cell_keep hb p0
  have j4 := cell_keep hb p1
  have j5 := cell_keep hb p2
  have j6 := cell_keep hb p3
  clear hb t0 t1 t2 p0 p1 p2 p3
  cases bb with
  | false =>
    have HE := Lib.hid (stepM_no (vars := vars) (u := u) (p := p) HT.out)
    have he := own_empty w1
    go_wp2
    refine bodyPost_ret (v := .tuple #[.slice (some ⟨w1.heap.size, 0, none⟩) 0 0, .bool false]) (by simp [results, Try.results23, go_sem]) rfl ?_
    rw [HE.out]
    exact ⟨_, rfl, OInts.base he HB1.out.size, fit_keep HB1.out (below_alloc _ _)⟩
  | true =>
    cases hin : inB p.ax 0 ((t.eqs.length : Int) - 1) with
    | false =>
      have hno : ¬ (0 ≤ p.ax ∧ p.ax < t.eqs.length) := by
        rw [inB_ax (l := t.eqs.length) _ rfl] at hin
        simpa using hin
      have HE := Lib.hid (stepM_out (vars := vars) (u := u) hno)
      have HI := Lib.hid hin
      have he := own_empty w1
      clear hin
      go_wp2_with (go_at_call 55; refine (l1In_is _ _ _ _ false HI.out).mono ?_; rintro e w2 ⟨rfl, rfl⟩)
      refine bodyPost_ret (v := .tuple #[.slice (some ⟨w1.heap.size, 0, none⟩) 0 0, .bool false]) (by simp [results, Try.results23, go_sem]) rfl ?_
      rw [HE.out]
      exact ⟨_, rfl, OInts.base he HB1.out.size, fit_keep HB1.out (below_alloc _ _)⟩
    | true =>
      have hyes : 0 ≤ p.ax ∧ p.ax < t.eqs.length := by
        rw [inB_ax (l := t.eqs.length) _ rfl] at hin
        simpa using hin
      have HI := Lib.hid hin
      clear hin
      obtain ⟨k, hk⟩ := Int.eq_ofNat_of_zero_le hyes.1
      have hkl : k < t.eqs.length := by omega
      have hk0 : (0 : Int) ≤ (k : Int) := by omega
      have hk1 : (k : Int) < (t.eqs.length : Int) := by omega
      have HE := Lib.hid ((stepM_yes (vars := vars) (u := u) (p := p) HT.out).trans (afterM_yes (vars := vars) (u := u) (p := p) hkl hk))
      obtain ⟨b, o, c3, x0, x1, x2, e, c00, c01, c02, q0, q1, q2⟩ := (((Ht.out.keep HK.out).of).2.2).at_ hkl
      cases e
      generalize t.eqs[k] = e at q0 q1 q2 HE
      have HX := Lib.hid (show REq w1 (.agg #[x0, x1, x2]) e from ⟨x0, x1, x2, rfl, q0, q1, q2⟩)
      obtain ⟨A0, g0, rfl, -⟩ := q0.form
      obtain ⟨A9, g1, rfl, -⟩ := q1.form
      obtain ⟨A8, g2, rfl, -⟩ := q2.form
      rw [hk] at j3 HI hyes
      have HK' := Lib.hid hk
      clear q0 q1 q2 hk
      have hba := below_alloc w1 (.cells #[.slice A0 e.vars.length g0, .slice A9 e.left.length g1, .slice A8 e.right.length g2] 33)
      have n0 := bx_at w1 #[.slice A0 e.vars.length g0, .slice A9 e.left.length g1, .slice A8 e.right.length g2] 33 (k := 0) rfl
      have n1 := bx_at w1 #[.slice A0 e.vars.length g0, .slice A9 e.left.length g1, .slice A8 e.right.length g2] 33 (k := 1) rfl
      have n2 := bx_at w1 #[.slice A0 e.vars.length g0, .slice A9 e.left.length g1, .slice A8 e.right.length g2] 33 (k := 2) rfl
      have m0 := cell_keep hba j0
      have m1 := cell_keep hba j1
      have m4 := cell_keep hba j4
      have m5 := cell_keep hba j5
      have m6 := cell_keep hba j6
      have HX2 := Lib.hid (HX.out.keep hba)
      have HK2 := Lib.hid (fit_keep HK.out hba)
      generalize hW2 : w1.alloc (.cells #[.slice A0 e.vars.length g0, .slice A9 e.left.length g1, .slice A8 e.right.length g2] 33) = W2 at n0 n1 n2 m0 m1 m4 m5 m6 HX2 HK2
      have hsz1 := HK.out.size
      clear hba
      have HY := Lib.hid hyes
      clear hyes
      go_wp2_with fail
      refine (l1In_is _ _ _ _ true HI.out).mono ?_
      rintro e' w2 ⟨rfl, hw2⟩
      subst hw2
      go_wp2_with fail
      clear hW2 j0 j1 j2 j3 j4 j5 j6 c00 c01 c02 hk0 hk1
      refine (l3Sides_any e p.back _ _ HX2.out).mono ?_
      rintro x w3 ⟨fv, tv, rfl, rf, rt, hb⟩
      obtain ⟨AF, cF, rfl, -⟩ := rf.form
      obtain ⟨AO, cO, rfl, -⟩ := rt.form
      have RF := Lib.hid rf
      have RT := Lib.hid rt
      have HK3 := Lib.hid (fit_keep HK2.out hb)
      have i0 := cell_keep hb m0
      have i1 := cell_keep hb m1
      have i4 := cell_keep hb m4
      have i5 := cell_keep hb m5
      have i6 := cell_keep hb m6
      have i7 := cell_keep hb n0
      have EV := Lib.hid ((HX2.out.of).1.keep hb)
      obtain ⟨X, bx, hX⟩ : ∃ X b, putM t.over e.vars (sideFrom e p.back) vars p.terms = (X, b) := ⟨_, _, rfl⟩
      obtain ⟨Y, by_, hY⟩ : ∃ Y d, putM t.over e.vars (sideTo e p.back) vars p.terms = (Y, d) := ⟨_, _, rfl⟩
      have GX := Lib.hid hX
      have GY := Lib.hid hY
      clear hX hY hb rf rt m0 m1 m4 m5 m6 n0 n1 n2
      go_wp2_with fail
      refine (specTermPut_any t.over e.vars (sideFrom e p.back) vars p.terms _ _ _ _ _ _ HSP.out (HTS.out.keep HK3.out) EV.out RF.out (HV.out.keep HK3.out) (HP.out.keep HK3.out)).mono ?_
      rw [GX.out]
      rintro x w4 ⟨z, rfl, ho, hb⟩
      simp only at ho ⊢
      obtain ⟨Az, cz, rfl, -⟩ := own_reads ho
      have ZX := Lib.hid ho.reads
      have HK4 := Lib.hid (fit_keep HK3.out hb)
      have RT4 := Lib.hid (RT.out.keep hb)
      have EV4 := Lib.hid (EV.out.keep hb)
      have m0 := cell_keep hb i0
      have m1 := cell_keep hb i1
      have m5 := cell_keep hb i5
      have m6 := cell_keep hb i6
      have m7 := cell_keep hb i7
      clear hb ho i0 i1 i4 i5 i6 i7
      go_wp2_with fail
      refine (specTermPut_any t.over e.vars (sideTo e p.back) vars p.terms _ _ _ _ _ _ HSP.out (HTS.out.keep HK4.out) EV4.out RT4.out (HV.out.keep HK4.out) (HP.out.keep HK4.out)).mono ?_
      rw [GY.out]
      rintro x w5 ⟨z, rfl, ho, hb⟩
      simp only at ho ⊢
      obtain ⟨Ay, cy, rfl, -⟩ := own_reads ho
      have ZY := Lib.hid ho.reads
      have HK5 := Lib.hid (fit_keep HK4.out hb)
      have ZX5 := Lib.hid (ZX.out.keep hb)
      have i0 := cell_keep hb m0
      have i1 := cell_keep hb m1
      have i5 := cell_keep hb m5
      clear hb ho m0 m1 m5 m6 m7
      cases bx with
      | false =>
        have HE2 := Lib.hid (HE.out.trans (show ruleM t.over e.vars (sideFrom e p.back) (sideTo e p.back) vars u p.at_ p.terms = ([], false) by unfold ruleM; rw [GX.out]; simp))
        have he := own_empty w5
        have hs5 := (fit_keep HB.out HK5.out).size
        go_wp2
        refine bodyPost_ret (v := .tuple #[.slice (some ⟨w5.heap.size, 0, none⟩) 0 0, .bool false]) (by simp [results, Try.results23, go_sem]) rfl ?_
        rw [HE2.out]
        exact ⟨_, rfl, OInts.base he hs5, fit_keep (fit_keep HB.out HK5.out) (below_alloc _ _)⟩
      | true =>
        cases by_ with
        | false =>
          have HE2 := Lib.hid (HE.out.trans (show ruleM t.over e.vars (sideFrom e p.back) (sideTo e p.back) vars u p.at_ p.terms = ([], false) by unfold ruleM; rw [GX.out, GY.out]; simp))
          have he := own_empty w5
          have hs5 := (fit_keep HB.out HK5.out).size
          go_wp2
          refine bodyPost_ret (v := .tuple #[.slice (some ⟨w5.heap.size, 0, none⟩) 0 0, .bool false]) (by simp [results, Try.results23, go_sem]) rfl ?_
          rw [HE2.out]
          exact ⟨_, rfl, OInts.base he hs5, fit_keep (fit_keep HB.out HK5.out) (below_alloc _ _)⟩
        | true =>
          go_wp2_with fail
          refine (specTermAt_any t.over vars u p.at_ _ _ _ _ (HTS.out.keep HK5.out) (HV.out.keep HK5.out) (HU.out.keep HK5.out)).mono ?_
          rintro x w6 ⟨z, rfl, hop, hb⟩
          obtain ⟨Ap, cp, rfl, -⟩ := own_reads hop
          have ZP := Lib.hid hop.reads
          have HK6 := Lib.hid (fit_keep HK5.out hb)
          have ZX6 := Lib.hid (ZX5.out.keep hb)
          have ZY6 := Lib.hid (ZY.out.keep hb)
          have m0 := cell_keep hb i0
          have m1 := cell_keep hb i1
          have m5 := cell_keep hb i5
          obtain ⟨q, hq⟩ : ∃ q : Bool, decide (atM t.over vars u p.at_ = X) = q := ⟨_, rfl⟩
          have HQ := Lib.hid hq
          clear hb hop i0 i1 i5 hq
          go_wp2_with fail
          refine (l1Same_any _ _ (atM t.over vars u p.at_) X _ ZP.out ZX6.out).mono ?_
          rw [HQ.out]
          rintro x w7 ⟨rfl, hd⟩
          have hb := hd.below
          have HK7 := Lib.hid (fit_keep HK6.out hb)
          have ZY7 := Lib.hid (ZY6.out.keep hb)
          have i0 := cell_keep hb m0
          have i1 := cell_keep hb m1
          have i5 := cell_keep hb m5
          clear hb hd m0 m1 m5
          cases q with
          | false =>
            have HE2 := Lib.hid (HE.out.trans (show ruleM t.over e.vars (sideFrom e p.back) (sideTo e p.back) vars u p.at_ p.terms = ([], false) by
              unfold ruleM; rw [GX.out, if_neg]
              rintro ⟨-, h, -⟩
              have := HQ.out
              rw [decide_eq_false_iff_not] at this
              exact this h.symm))
            have he := own_empty w7
            have hs5 := (fit_keep HB.out HK7.out).size
            go_wp2
            refine bodyPost_ret (v := .tuple #[.slice (some ⟨w7.heap.size, 0, none⟩) 0 0, .bool false]) (by simp [results, Try.results23, go_sem]) rfl ?_
            rw [HE2.out]
            exact ⟨_, rfl, OInts.base he hs5, fit_keep (fit_keep HB.out HK7.out) (below_alloc _ _)⟩
          | true =>
            have HXA := Lib.hid (of_decide_eq_true HQ.out)
            have HE2 := Lib.hid (HE.out.trans (show ruleM t.over e.vars (sideFrom e p.back) (sideTo e p.back) vars u p.at_ p.terms = swapM t.over vars u p.at_ Y by unfold ruleM; rw [GX.out, GY.out, if_pos ⟨rfl, HXA.out.symm, rfl⟩]))
            obtain ⟨Z, g, hZ⟩ : ∃ Z g, swapM t.over vars u p.at_ Y = (Z, g) := ⟨_, _, rfl⟩
            have HZZ := Lib.hid hZ
            clear hZ
            go_wp2_with fail
            refine (specTermSwap_any t.over vars u p.at_ Y _ _ _ _ _ (HTS.out.keep HK7.out) (HV.out.keep HK7.out) (HU.out.keep HK7.out) ZY7.out).mono ?_
            rw [HZZ.out]
            rintro x w8 ⟨z'', rfl, ho, hb⟩
            simp only at ho ⊢
            obtain ⟨Aw, cw, rfl, -⟩ := own_reads ho
            have HB8 := Lib.hid (fit_keep (fit_keep HB.out HK7.out) hb)
            have HO := Lib.hid ho
            have hs7 := (fit_keep HB.out HK7.out).size
            clear hb ho i0 i1 i5
            go_wp2
            refine bodyPost_ret (v := .tuple #[.slice Aw Z.length cw, .bool g]) (by simp [results, Try.results23, go_sem]) rfl ?_
            rw [HE2.out, HZZ.out]
            exact ⟨_, rfl, HO.out.base hs7, HB8.out⟩
end Go.Proofs.Ytdgakjnkjofgnaa
