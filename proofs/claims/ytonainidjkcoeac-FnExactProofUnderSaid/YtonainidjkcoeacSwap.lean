/- TermSwap of both packages. -/
import Derived.Test.YtonainidjkcoeacConcat
namespace Go.Proofs.Ytonainidjkcoeac
open Go.RowKit
set_option linter.unusedVariables false

def swapRow (s : MSig) (vars t : List Int) (a : Int) (u : List Int) : List Int := t.take a.toNat ++ u ++ t.drop (a.toNat + (atM s vars t a).length)
def swapM (s : MSig) (vars t : List Int) (a : Int) (u : List Int) : List Int × Bool :=
  if atM s vars t a ≠ [] ∧ sortM s vars u = sortM s vars (atM s vars t a) ∧ (swapRow s vars t a u).length ≤ 30 then (swapRow s vars t a u, true) else ([], false)
theorem swapM_no {s : MSig} {vars t u : List Int} {a : Int} (h : ¬ (atM s vars t a ≠ [] ∧ sortM s vars u = sortM s vars (atM s vars t a) ∧ (swapRow s vars t a u).length ≤ 30)) : swapM s vars t a u = ([], false) := by unfold swapM; rw [if_neg h]
theorem swapM_yes {s : MSig} {vars t u : List Int} {a : Int} (h : atM s vars t a ≠ [] ∧ sortM s vars u = sortM s vars (atM s vars t a) ∧ (swapRow s vars t a u).length ≤ 30) : swapM s vars t a u = (swapRow s vars t a u, true) := by unfold swapM; rw [if_pos h]
theorem RInts.cutAny {w : World} {b o c k e : Nat} {A : Option Addr} {t : List Int} (h : RInts w (.slice (some ⟨b, o, none⟩) t.length c) t) (hk : k ≤ e) (he : e ≤ t.length) (hA : A = some ⟨b, o + k, none⟩ ∨ e = k) :
    RInts w (.slice A (e - k) (c - k)) ((t.drop k).take (e - k)) := by
  rcases hA with hA | hA
  · exact h.cut hk he hA
  · subst hA
    rw [Nat.sub_self, List.take_zero]
    obtain ⟨A', c', e', h1, h2, h3⟩ := h
    cases e'
    exact ⟨A, c - e, rfl, Nat.zero_le _, by omega, fun j x hj => by simp at hj⟩
theorem ex_cut {w w' : World} {o : Obj} (h : Below (w.alloc o).drew.heap.size (w.alloc o).drew w') : Below w.heap.size w w' :=
  (below_alloc w o).trans ((⟨h.os, h.tape, h.output, h.size, h.block⟩ : Below (w.alloc o).heap.size (w.alloc o) w').mono (by simp))
theorem rowsS3 {w : World} {b n1 n2 n3 c1 c2 c3 : Nat} {d1 d2 d3 : Addr} {r1 r2 r3 : List Int} {t : TypeId} (hc : w.heap[b]? = some (.cells #[.slice (some d1) n1 c1, .slice (some d2) n2 c2, .slice (some d3) n3 c3] t (0, 0)))
    (h1 : RInts w (.slice (some d1) n1 c1) r1) (h2 : RInts w (.slice (some d2) n2 c2) r2) (h3 : RInts w (.slice (some d3) n3 c3) r3) : RRowsS w (.slice (some ⟨b, 0, none⟩) 3 3) [r1, r2, r3] := by
  refine ⟨some ⟨b, 0, none⟩, 3, rfl, Nat.le_refl _, by rw [maxLen_eq]; omega, fun j row hj => ?_⟩
  have e : ∀ {n c : Nat} {d : Addr} {r : List Int}, RInts w (.slice (some d) n c) r → n = r.length := fun {n c d r} h => by obtain ⟨A, c', e, -⟩ := h; injection e
  have z1 := e h1
  have z2 := e h2
  have z3 := e h3
  subst z1 z2 z3
  match j, hj with
  | 0, hj => simp at hj; subst hj; exact ⟨b, 0, d1, c1, rfl, by simp [World.cell?, hc], h1⟩
  | 1, hj => simp at hj; subst hj; exact ⟨b, 0, d2, c2, rfl, by simp [World.cell?, hc], h2⟩
  | 2, hj => simp at hj; subst hj; exact ⟨b, 0, d3, c3, rfl, by simp [World.cell?, hc], h3⟩

set_option maxHeartbeats 1600000 in
set_option maxRecDepth 100000 in
theorem termSwap_any (s : MSig) (vars t : List Int) (a : Int) (u : List Int) (w : World) (v vv tv uv : Value) (hsm : Small t) (hsu : Small u) (h1 : RSig w v s) (h2 : RInts w vv vars) (h3 : RInts w tv t) (h4 : RInts w uv u) :
    Calls Try.prog 113 #[v, vv, tv, .int .i64 a, uv] w (PairPost (swapM s vars t a u) w) := by
  obtain ⟨u0, rfl, hrr⟩ := h1
  obtain ⟨sorts, ops⟩ := s
  obtain ⟨A, c, rfl, -⟩ := hrr.form
  have hb1 := below_alloc w (.cells #[.int .i64 sorts, .slice A ops.length c] 44)
  have hbx := Lib.hid (box_cells w (.int .i64 sorts) (.slice A ops.length c) 44)
  have HS := Lib.hid (show RSig (w.alloc (.cells #[.int .i64 sorts, .slice A ops.length c] 44)) (.agg #[.int .i64 sorts, .slice A ops.length c]) ⟨sorts, ops⟩ from ⟨_, rfl, hrr.keep hb1⟩)
  have HV2 := Lib.hid (h2.keep hb1)
  have HV3 := Lib.hid (h3.keep hb1)
  have HV4 := Lib.hid (h4.keep hb1)
  have hlen := h3.len
  have hlu := h4.len
  have HSM := Lib.hid hsm
  have HSU := Lib.hid hsu
  obtain ⟨A2, c2, rfl, -⟩ := h2.form
  obtain ⟨A3, c3, rfl, hc3, hc3'⟩ := h3.form
  obtain ⟨A4, c4, rfl, hc4, hc4'⟩ := h4.form
  have HB1 := Lib.hid hb1
  clear hrr h2 h3 h4 hb1 hsm hsu
  by_cases hpe : atM ⟨sorts, ops⟩ vars t a = []
  · have HN := Lib.hid (swapM_no (s := ⟨sorts, ops⟩) (vars := vars) (t := t) (u := u) (a := a) (fun h => h.1 hpe))
    have HPE := Lib.hid hpe
    clear hpe
    go_enter Try.func113, Try.ntmps113
    go_wp2_with (go_at_call 74; refine (termAt_any ⟨sorts, ops⟩ vars t a _ _ _ _ HSM.out HS.out HV2.out HV3.out).mono ?_; rw [HPE.out]; rintro e w1 ⟨up, rfl, ho, hb⟩; obtain ⟨Ap, cp, rfl, -⟩ := ho.reads.form; have HB2 := Lib.hid hb; clear hb ho)
    go_quiet (fail)
    have HB3 := Lib.hid (below_drewN HB2.out nq)
    go_wp2
    refine bodyPost_ret (v := .tuple #[.slice none 0 0, .bool false]) (by simp [results, Try.results113, go_sem]) rfl ?_
    rw [HN.out]
    exact ⟨_, rfl, OInts.nil _ _, HB1.out.trans (HB3.out.mono (by simp))⟩
  obtain ⟨k, pre, sub, post, rfl, hkt, hl30, hqq, hvo, hd1, hd2, hd3, hd4, hd5, hd6, hd7, -⟩ := at_there hpe
  obtain ⟨q, hq⟩ : ∃ q, sortM ⟨sorts, ops⟩ vars u = q := ⟨_, rfl⟩
  have HQ := Lib.hid hq
  have HD3 := Lib.hid hd3
  have HP := Lib.hid hd4
  have HSP := Lib.hid (show Small sub.row from fun x hx => HSM.out x (by rw [hd1]; simp [hx]))
  have hll := congrArg List.length hd1
  simp only [List.length_append] at hll
  have HT := Lib.hid hd1
  obtain ⟨b, o, c', e, hx⟩ := HV3.out.at_ hkt
  cases e
  have hpr := hd2
  generalize hsort : sub.sort = p at HP hd5
  generalize hrow : sub.row = part at HD3 HP HSP HT hd7 hll
  have HPE := Lib.hid (show atM ⟨sorts, ops⟩ vars t (k : Int) ≠ [] from hpe)
  clear hq hd3 hd4 hd1 hd6 hrow hsort hx hqq hvo hpe hd2
  have hne : ¬ ((part.length : Int) = 0) := by omega
  have hneb : ((part.length : Int) == 0) = false := by rw [beq_eq_false_iff_ne]; exact hne
  by_cases hqp : q = p
  · subst hqp
    obtain ⟨tmu, -, hu30, -, htu, -⟩ := sortM_to (s := ⟨sorts, ops⟩) (vars := vars) (t := u) (by rw [HQ.out]; exact hd5)
    have hu1 : 1 ≤ u.length := by rw [← htu]; exact row_pos tmu
    obtain ⟨b4, o4, c', e, -⟩ := HV4.out.at_ (k := 0) (by omega)
    cases e
    have hqb : (q != q) = false := by simp
    obtain ⟨en, hen⟩ : ∃ en, en = k + part.length := ⟨_, rfl⟩
    have hw : IntKind.i64.wrap ((k : Int) + (part.length : Int)) = (en : Int) := by rw [IntKind.wrap_i64]; omega
    have he0 : (0 : Int) ≤ (en : Int) := by omega
    have he1 : (en : Int) ≤ (t.length : Int) := by omega
    have hk0 : (0 : Int) ≤ (k : Int) := by omega
    have hk2 : (k : Int) ≤ (c3 : Int) := by omega
    have HSW := Lib.hid (show swapRow ⟨sorts, ops⟩ vars t (k : Int) u = t.take k ++ u ++ t.drop en by unfold swapRow; rw [HD3.out, Int.toNat_natCast, hen])
    have hent : en ≤ t.length := by omega
    have HEN := Lib.hid (And.intro hen (And.intro hll hpr))
    obtain ⟨rr, hrr⟩ : ∃ rr, rr = t.take k ++ u ++ t.drop en := ⟨_, rfl⟩
    have hL1 : 0 < rr.length ∧ rr.length ≤ 1000 := by rw [hrr]; simp only [List.length_append, List.length_take, List.length_drop]; omega
    have HRR := Lib.hid hrr
    rw [← hrr] at HSW
    clear hrr htu hen hll hpr
    have main : ∀ (R : List Int × Bool), swapM ⟨sorts, ops⟩ vars t (k : Int) u = R → (30 < (rr.length : Int) → R = ([], false)) → (¬ 30 < (rr.length : Int) → R = (rr, true)) →
        Calls Try.prog 113 #[.agg #[.int .i64 sorts, .slice A ops.length c], .slice A2 vars.length c2, .slice (some ⟨b, o, none⟩) t.length c3, .int .i64 (k : Int), .slice (some ⟨b4, o4, none⟩) u.length c4] w (PairPost (swapM ⟨sorts, ops⟩ vars t (k : Int) u) w) := by
      intro R hR hR1 hR2
      have HR := Lib.hid hR
      have HR1 := Lib.hid hR1
      have HR2 := Lib.hid hR2
      clear hR hR1 hR2
      go_enter Try.func113, Try.ntmps113
      go_wp2_with (go_at_call 74; refine (termAt_any ⟨sorts, ops⟩ vars t (k : Int) _ _ _ _ HSM.out HS.out HV2.out HV3.out).mono ?_; rw [HD3.out]; rintro e w1 ⟨up, rfl, ho, hb⟩; obtain ⟨Ap, cp, rfl, -⟩ := ho.reads.form; have HB2 := Lib.hid hb; have HPR := Lib.hid ho.reads; have g0 := cell_keep hb hbx.out.1; have g1 := cell_keep hb hbx.out.2; clear hb ho)
      have ea := World.new_ne w1 _ g0
      go_region_held3 (fun w' => w'.cell? ⟨w.heap.size, 0, none⟩ = some (.int .i64 sorts) ∧ w'.cell? ⟨w.heap.size, 1, none⟩ = some (.slice A ops.length c)) (first | go_keep)
        (first
          | (go_at_call_of 91 (Value.slice (some ⟨b4, o4, none⟩) u.length c4); refine (termSort_any ⟨sorts, ops⟩ vars u w1.drew _ _ _ HSU.out (HS.out.keep (bel_drew HB2.out)) (HV2.out.keep (bel_drew HB2.out)) (HV4.out.keep (bel_drew HB2.out))).mono ?_; rw [HQ.out]; rintro e w2 ⟨rfl, hb⟩; have HB3 := Lib.hid (show Below w1.heap.size w1 w2 from bel_undrew hb); have j0 := cell_keep HB3.out g0; have j1 := cell_keep HB3.out g1; clear hb)
          | (go_at_call 91; refine (termSort_any ⟨sorts, ops⟩ vars part _ _ _ _ HSP.out (HS.out.keep (fit_keep HB2.out HB3.out)) (HV2.out.keep (fit_keep HB2.out HB3.out)) (HPR.out.keep HB3.out)).mono ?_; rw [HP.out]; rintro e w3 ⟨rfl, hb⟩; have HB4 := Lib.hid (fit_keep HB3.out hb); have i0 := cell_keep HB4.out g0; have i1 := cell_keep HB4.out g1; clear hb))
      clear g0 g1 j0 j1 i0 i1 ea
      have HB5 := Lib.hid (fit_keep HB2.out HB4.out)
      generalize hd5e : (if c3 = en then (⟨b, o, none⟩ : Addr) else ⟨b, o + en, none⟩) = d5
      have hite : (if c3 = en then (some (⟨b, o, none⟩ : Addr)) else some ⟨b, o + en, none⟩) = some d5 := by rw [← hd5e]; split <;> rfl
      have hcase : d5 = ⟨b, o + en, none⟩ ∨ t.length = en := by
        by_cases h : c3 = en
        · right; omega
        · left; rw [← hd5e, if_neg h]
      have HROWS := Lib.hid (show RRowsS (w3.alloc (.cells #[.slice (some ⟨b, o, none⟩) k c3, .slice (some ⟨b4, o4, none⟩) u.length c4, .slice (some d5) (t.length - en) (c3 - en)] 36)) (.slice (some ⟨w3.heap.size, 0, none⟩) 3 3) [t.take k, u, t.drop en] by
        have hba := below_alloc w3 (.cells #[.slice (some ⟨b, o, none⟩) k c3, .slice (some ⟨b4, o4, none⟩) u.length c4, .slice (some d5) (t.length - en) (c3 - en)] 36)
        have ht := HV3.out.keep HB5.out
        refine rowsS3 (heap_alloc_new w3 _) ?_ ((HV4.out.keep HB5.out).keep hba) ?_
        · have h := (ht.cut (k := 0) (e := k) (A := some ⟨b, o, none⟩) (Nat.zero_le _) (by omega) (by simp)).keep hba
          simpa using h
        · have h := (ht.cutAny (k := en) (e := t.length) (A := some d5) hent (Nat.le_refl _) (by rcases hcase with h | h; exact .inl (by rw [h]); exact .inr h)).keep hba
          rwa [List.take_of_length_le (by rw [List.length_drop]; omega)] at h)
      have HFL := Lib.hid (show [t.take k, u, t.drop en].flatten = rr by rw [HRR.out]; simp)
      have HLP := Lib.hid hL1
      clear hcase hd5e hL1
      go_wp2_with fail
      have htriv : True := trivial
      go_region_held3 (fun w' => True) (first | trivial)
        (first
          | (go_at_call 115; refine (concat_any _ _ _ (show RRowsS (w3.alloc (.cells #[.slice (some ⟨b, o, none⟩) k c3, .slice (some ⟨b4, o4, none⟩) u.length c4, .slice (some d5) (t.length - en) (c3 - en)] 36)).drew _ _ from HROWS.out) (by rw [HFL.out]; exact HLP.out.1) (by rw [HFL.out]; have := HLP.out.2; omega)).mono ?_; rw [HFL.out]; rintro e w6 ⟨u6, rfl, ho, hb⟩; obtain ⟨A6, c6, rfl, -⟩ := ho.reads.form; have HO := Lib.hid ho; have HB6 := Lib.hid hb; clear hb ho))
      have HB7 := Lib.hid (show Below w.heap.size w w6 from HB1.out.trans ((fit_keep HB5.out (ex_cut HB6.out)).mono (by simp)))
      have s7 := HB5.out.size
      simp at s7
      have HO7 := Lib.hid (HO.out.base (B' := w.heap.size) (by simp; omega))
      clear hite HROWS
      by_cases hL : 30 < (rr.length : Int)
      · go_wp2
        refine bodyPost_ret (v := .tuple #[.slice none 0 0, .bool false]) (by simp [results, Try.results113, go_sem]) rfl ?_
        rw [HR.out, HR1.out hL]
        exact ⟨_, rfl, OInts.nil _ _, HB7.out⟩
      · go_wp2
        refine bodyPost_ret (v := .tuple #[.slice A6 rr.length c6, .bool true]) (by simp [results, Try.results113, go_sem]) rfl ?_
        rw [HR.out, HR2.out hL]
        exact ⟨_, rfl, HO7.out, HB7.out⟩
    refine main _ rfl (fun h => swapM_no ?_) (fun h => ?_)
    · rintro ⟨-, -, h3⟩
      rw [HSW.out] at h3
      omega
    · rw [swapM_yes ⟨HPE.out, by rw [HQ.out, HD3.out, HP.out], by rw [HSW.out]; omega⟩, HSW.out]
  · have HN := Lib.hid (swapM_no (s := ⟨sorts, ops⟩) (vars := vars) (t := t) (u := u) (a := (k : Int)) (fun h => hqp (by have := h.2.1; rw [HQ.out, HD3.out, HP.out] at this; exact this)))
    have hqb : (q != p) = true := by simpa using hqp
    clear hll hpr
    go_enter Try.func113, Try.ntmps113
    go_wp2_with (go_at_call 74; refine (termAt_any ⟨sorts, ops⟩ vars t (k : Int) _ _ _ _ HSM.out HS.out HV2.out HV3.out).mono ?_; rw [HD3.out]; rintro e w1 ⟨up, rfl, ho, hb⟩; obtain ⟨Ap, cp, rfl, -⟩ := ho.reads.form; have HB2 := Lib.hid hb; have HPR := Lib.hid ho.reads; have g0 := cell_keep hb hbx.out.1; have g1 := cell_keep hb hbx.out.2; clear hb ho)
    have ea := World.new_ne w1 _ g0
    go_region_held3 (fun w' => w'.cell? ⟨w.heap.size, 0, none⟩ = some (.int .i64 sorts) ∧ w'.cell? ⟨w.heap.size, 1, none⟩ = some (.slice A ops.length c)) (first | go_keep)
      (first
        | (go_at_call_of 91 (Value.slice A4 u.length c4); refine (termSort_any ⟨sorts, ops⟩ vars u w1.drew _ _ _ HSU.out (HS.out.keep (bel_drew HB2.out)) (HV2.out.keep (bel_drew HB2.out)) (HV4.out.keep (bel_drew HB2.out))).mono ?_; rw [HQ.out]; rintro e w2 ⟨rfl, hb⟩; have HB3 := Lib.hid (show Below w1.heap.size w1 w2 from bel_undrew hb); have j0 := cell_keep HB3.out g0; have j1 := cell_keep HB3.out g1; clear hb)
        | (go_at_call 91; refine (termSort_any ⟨sorts, ops⟩ vars part _ _ _ _ HSP.out (HS.out.keep (fit_keep HB2.out HB3.out)) (HV2.out.keep (fit_keep HB2.out HB3.out)) (HPR.out.keep HB3.out)).mono ?_; rw [HP.out]; rintro e w3 ⟨rfl, hb⟩; have HB4 := Lib.hid (fit_keep HB3.out hb); have i0 := cell_keep HB4.out g0; have i1 := cell_keep HB4.out g1; clear hb))
    clear g0 g1 j0 j1 i0 i1 ea
    have HB5 := Lib.hid (fit_keep HB2.out HB4.out)
    go_wp2
    refine bodyPost_ret (v := .tuple #[.slice none 0 0, .bool false]) (by simp [results, Try.results113, go_sem]) rfl ?_
    rw [HN.out]
    exact ⟨_, rfl, OInts.nil _ _, HB1.out.trans (HB5.out.mono (by simp))⟩

theorem own_in {w w2 : World} {B : Nat} {A : Option Addr} {n c : Nat} (h : w.grownBy w2 (Value.slice A n c).ownBlock) (hr : ∀ k, (Value.slice A n c).ownBlock = some k → B ≤ k) (hB : B ≤ w.heap.size) : Below B w w2 :=
  ⟨h.os, h.tape, h.output, h.size, fun k hk => h.block k (by omega) (fun e => by have := hr k e.symm; omega)⟩

set_option maxHeartbeats 1000000 in
set_option maxRecDepth 100000 in
theorem specTermSwap_any (s : MSig) (vars t : List Int) (a : Int) (u : List Int) (w : World) (v vv tv uv : Value) (h1 : RSig w v s) (h2 : RInts w vv vars) (h3 : RInts w tv t) (h4 : RInts w uv u) :
    Calls Try.prog 98 #[v, vv, tv, .int .i64 a, uv] w (PairPost (swapM s vars t a u) w) := by
  obtain ⟨i0, hi0, hz0, hz1, hz2⟩ := info_parts Try.tinfo_int
  obtain ⟨u0, rfl, hrr⟩ := h1
  obtain ⟨sorts, ops⟩ := s
  obtain ⟨A, c, rfl, -⟩ := hrr.form
  have hb1 := below_alloc w (.cells #[.int .i64 sorts, .slice A ops.length c] 44)
  have hbx := Lib.hid (box_cells w (.int .i64 sorts) (.slice A ops.length c) 44)
  have HS := Lib.hid (show RSig (w.alloc (.cells #[.int .i64 sorts, .slice A ops.length c] 44)) (.agg #[.int .i64 sorts, .slice A ops.length c]) ⟨sorts, ops⟩ from ⟨_, rfl, hrr.keep hb1⟩)
  have HV2 := Lib.hid (h2.keep hb1)
  have HV3 := Lib.hid (h3.keep hb1)
  have HV4 := Lib.hid (h4.keep hb1)
  have hlen := h3.len
  have hlu := h4.len
  obtain ⟨A2, c2, rfl, -⟩ := h2.form
  obtain ⟨A3, c3, rfl, hc3, hc3'⟩ := h3.form
  obtain ⟨A4, c4, rfl, hc4, hc4'⟩ := h4.form
  have HB1 := Lib.hid hb1
  obtain ⟨q, hq⟩ : ∃ q, sortM ⟨sorts, ops⟩ vars u = q := ⟨_, rfl⟩
  have HQ := Lib.hid hq
  clear hrr h2 h3 h4 hb1 hq
  by_cases hpe : atM ⟨sorts, ops⟩ vars t a = []
  · have HN := Lib.hid (swapM_no (s := ⟨sorts, ops⟩) (vars := vars) (t := t) (u := u) (a := a) (fun h => h.1 hpe))
    have HPE := Lib.hid hpe
    clear hpe
    go_enter Try.func98, Try.ntmps98
    go_wp2_with (first
      | (go_at_call 71; refine (specTermAt_any ⟨sorts, ops⟩ vars t a _ _ _ _ HS.out HV2.out HV3.out).mono ?_; rw [HPE.out]; rintro e w1 ⟨up, rfl, ho, hb⟩; obtain ⟨Ap, cp, rfl, -⟩ := ho.reads.form; have HB2 := Lib.hid hb; have g0 := cell_keep hb hbx.out.1; have g1 := cell_keep hb hbx.out.2; clear hb ho)
      | (go_at_call 92; refine (specTermSort_any ⟨sorts, ops⟩ vars u _ _ _ _ (HS.out.keep HB2.out) (HV2.out.keep HB2.out) (HV4.out.keep HB2.out)).mono ?_; rw [HQ.out]; rintro e w2 ⟨rfl, hb⟩; have HB3 := Lib.hid (fit_keep HB2.out hb); clear hb g0 g1))
    have s4 := HB3.out.size
    simp at s4
    have HZ := Lib.hid s4
    clear s4
    go_wp2
    refine bodyPost_ret (v := .tuple #[.slice (some ⟨w2.heap.size, 0, none⟩) 0 0, .bool false]) (by simp [results, Try.results98, go_sem]) rfl ?_
    rw [HN.out]
    have := HZ.out
    exact ⟨_, rfl, (own_empty w2).base (by omega), HB1.out.trans (((fit_keep HB3.out (below_alloc w2 (.cells #[] 3))).mono (by simp)))⟩
  obtain ⟨k, pre, sub, post, rfl, hkt, hl30, hqq, hvo, hd1, hd2, hd3, hd4, hd5, hd6, hd7, -⟩ := at_there hpe
  have HD3 := Lib.hid hd3
  have HP := Lib.hid hd4
  have hll := congrArg List.length hd1
  simp only [List.length_append] at hll
  have HT := Lib.hid hd1
  obtain ⟨b, o, c', e, hx⟩ := HV3.out.at_ hkt
  cases e
  have hpr := hd2
  generalize hsort : sub.sort = p at HP hd5
  generalize hrow : sub.row = part at HD3 HP HT hd7 hll
  have HPE := Lib.hid (show atM ⟨sorts, ops⟩ vars t (k : Int) ≠ [] from hpe)
  clear hd3 hd4 hd1 hd6 hrow hsort hx hqq hvo hpe hd2
  have hne : ¬ ((part.length : Int) = 0) := by omega
  have hneb : ((part.length : Int) == 0) = false := by rw [beq_eq_false_iff_ne]; exact hne
  by_cases hq0 : q < 0
  · have HN := Lib.hid (swapM_no (s := ⟨sorts, ops⟩) (vars := vars) (t := t) (u := u) (a := (k : Int)) (fun h => by have := h.2.1; rw [HQ.out, HD3.out, HP.out] at this; omega))
    clear hll hpr
    go_enter Try.func98, Try.ntmps98
    go_wp2_with (first
      | (go_at_call 71; refine (specTermAt_any ⟨sorts, ops⟩ vars t (k : Int) _ _ _ _ HS.out HV2.out HV3.out).mono ?_; rw [HD3.out]; rintro e w1 ⟨up, rfl, ho, hb⟩; obtain ⟨Ap, cp, rfl, -⟩ := ho.reads.form; have HB2 := Lib.hid hb; have g0 := cell_keep hb hbx.out.1; have g1 := cell_keep hb hbx.out.2; clear hb ho)
      | (go_at_call 92; refine (specTermSort_any ⟨sorts, ops⟩ vars u _ _ _ _ (HS.out.keep HB2.out) (HV2.out.keep HB2.out) (HV4.out.keep HB2.out)).mono ?_; rw [HQ.out]; rintro e w2 ⟨rfl, hb⟩; have HB3 := Lib.hid (fit_keep HB2.out hb); clear hb g0 g1))
    have s4 := HB3.out.size
    simp at s4
    have HZ := Lib.hid s4
    clear s4
    go_wp2
    refine bodyPost_ret (v := .tuple #[.slice (some ⟨w2.heap.size, 0, none⟩) 0 0, .bool false]) (by simp [results, Try.results98, go_sem]) rfl ?_
    rw [HN.out]
    have := HZ.out
    exact ⟨_, rfl, (own_empty w2).base (by omega), HB1.out.trans (((fit_keep HB3.out (below_alloc w2 (.cells #[] 3))).mono (by simp)))⟩
  by_cases hqp : q = p
  · subst hqp
    obtain ⟨tmu, -, hu30, -, htu, -⟩ := sortM_to (s := ⟨sorts, ops⟩) (vars := vars) (t := u) (by rw [HQ.out]; exact hd5)
    have hu1 : 1 ≤ u.length := by rw [← htu]; exact row_pos tmu
    obtain ⟨b4, o4, c', e, -⟩ := HV4.out.at_ (k := 0) (by omega)
    cases e
    have hqb : (q != q) = false := by simp
    obtain ⟨en, hen⟩ : ∃ en, en = k + part.length := ⟨_, rfl⟩
    have hw : IntKind.i64.wrap ((k : Int) + (part.length : Int)) = (en : Int) := by rw [IntKind.wrap_i64]; omega
    have he0 : (0 : Int) ≤ (en : Int) := by omega
    have he1 : (en : Int) ≤ (t.length : Int) := by omega
    have hk0 : (0 : Int) ≤ (k : Int) := by omega
    have hk2 : (k : Int) ≤ (c3 : Int) := by omega
    have HSW := Lib.hid (show swapRow ⟨sorts, ops⟩ vars t (k : Int) u = t.take k ++ u ++ t.drop en by unfold swapRow; rw [HD3.out, Int.toNat_natCast, hen])
    have hent : en ≤ t.length := by omega
    obtain ⟨tk, htk⟩ : ∃ tk, tk = t.take k := ⟨_, rfl⟩
    obtain ⟨td, htd⟩ : ∃ td, td = t.drop en := ⟨_, rfl⟩
    have hl1 : tk.length = k := by rw [htk, List.length_take]; omega
    have hl2 : td.length = t.length - en := by rw [htd, List.length_drop]
    rw [← htk, ← htd] at HSW
    have HTK := Lib.hid (And.intro htk (And.intro htd (And.intro hl1 hl2)))
    obtain ⟨rr, hrr⟩ : ∃ rr, rr = tk ++ u ++ td := ⟨_, rfl⟩
    rw [← hrr] at HSW
    have HRR := Lib.hid hrr
    generalize hd5e : (if c3 = en then (⟨b, o, none⟩ : Addr) else ⟨b, o + en, none⟩) = d5
    have hite : (if c3 = en then (some (⟨b, o, none⟩ : Addr)) else some ⟨b, o + en, none⟩) = some d5 := by rw [← hd5e]; split <;> rfl
    have hcase : d5 = ⟨b, o + en, none⟩ ∨ t.length = en := by
      by_cases h : c3 = en
      · right; omega
      · left; rw [← hd5e, if_neg h]
    have HCA := Lib.hid hcase
    have HNUM := Lib.hid (show k ≤ 30 ∧ t.length - en ≤ 30 ∧ u.length ≤ 30 by omega)
    clear hrr htu hen hll hpr hl1 hl2 htk htd hcase hd5e
    have main : ∀ (R : List Int × Bool), swapM ⟨sorts, ops⟩ vars t (k : Int) u = R → (30 < (rr.length : Int) → R = ([], false)) → (¬ 30 < (rr.length : Int) → R = (rr, true)) →
        Calls Try.prog 98 #[.agg #[.int .i64 sorts, .slice A ops.length c], .slice A2 vars.length c2, .slice (some ⟨b, o, none⟩) t.length c3, .int .i64 (k : Int), .slice (some ⟨b4, o4, none⟩) u.length c4] w (PairPost (swapM ⟨sorts, ops⟩ vars t (k : Int) u) w) := by
      intro R hR hR1 hR2
      have HR := Lib.hid hR
      have HR1 := Lib.hid hR1
      have HR2 := Lib.hid hR2
      clear hR hR1 hR2
      go_enter Try.func98, Try.ntmps98
      go_wp2_with (first
        | (go_at_call 71; refine (specTermAt_any ⟨sorts, ops⟩ vars t (k : Int) _ _ _ _ HS.out HV2.out HV3.out).mono ?_; rw [HD3.out]; rintro e w1 ⟨up, rfl, ho, hb⟩; obtain ⟨Ap, cp, rfl, -⟩ := ho.reads.form; have HPR := Lib.hid ho.reads; have HB2 := Lib.hid hb; have g0 := cell_keep hb hbx.out.1; have g1 := cell_keep hb hbx.out.2; clear hb ho)
        | (go_at_call_of 92 (Value.slice (some ⟨b4, o4, none⟩) u.length c4); refine (specTermSort_any ⟨sorts, ops⟩ vars u _ _ _ _ (HS.out.keep HB2.out) (HV2.out.keep HB2.out) (HV4.out.keep HB2.out)).mono ?_; rw [HQ.out]; rintro e w2 ⟨rfl, hb⟩; have HB3 := Lib.hid hb; have j0 := cell_keep hb g0; have j1 := cell_keep hb g1; clear hb g0 g1)
        | (go_at_call 92; refine (specTermSort_any ⟨sorts, ops⟩ vars part _ _ _ _ (HS.out.keep (fit_keep HB2.out HB3.out)) (HV2.out.keep (fit_keep HB2.out HB3.out)) (HPR.out.keep HB3.out)).mono ?_; rw [HP.out]; rintro e w3 ⟨rfl, hb⟩; have HB4 := Lib.hid hb; clear hb j0 j1))
      have HB5 := Lib.hid (fit_keep (fit_keep HB2.out HB3.out) HB4.out)
      have HN1 := Lib.hid (show RInts w3 (.slice (some ⟨b, o, none⟩) k c3) tk by
        have h := (HV3.out.keep HB5.out).cut (k := 0) (e := k) (A := some ⟨b, o, none⟩) (Nat.zero_le _) (by omega) (by simp)
        rw [HTK.out.1]; simpa using h)
      have HNA := Lib.hid (news_of (HN1.out.keep (below_alloc w3 (.cells #[] 3))))
      have HRL := Lib.hid (show k + u.length + (t.length - en) = rr.length by rw [HRR.out, List.length_append, List.length_append, HTK.out.2.2.1, HTK.out.2.2.2])
      have HN2 := Lib.hid (HV4.out.keep HB5.out)
      have HN3 := Lib.hid (show RInts w3 (.slice (some d5) (t.length - en) (c3 - en)) td by
        have h := (HV3.out.keep HB5.out).cutAny (k := en) (e := t.length) (A := some d5) hent (Nat.le_refl _) (by rcases HCA.out with h | h; exact .inl (by rw [h]); exact .inr h)
        rw [List.take_of_length_le (by rw [List.length_drop]; omega)] at h
        rw [HTK.out.2.1]; exact h)
      have htriv : True := trivial
      go_region_held3 (fun w' => True) (first | trivial)
        (first
          | (refine step_append_own rfl (.tmp 40) (.tmp 43) 36 rfl w3.heap.size 3 i0 (.int .i64 0) 1 8 Try.underlying36 hi0 hz0 hz1 hz2 rfl (by omega) _ 0 [] rfl ((own_empty w3).drew) ⟨b, o, none⟩ k c3 (tk.map (Value.int .i64)) rfl (by rw [List.length_map, HTK.out.2.2.1]; simp) HNA.out (ints_one _) (by rw [maxLen_eq]; have := HNUM.out; omega) (by have := HNUM.out; omega) (by simp) ?_; intro v4 w4 hown4 hgrow4; rw [Nat.zero_add, List.nil_append] at hown4; obtain ⟨A6, c6, rfl, -⟩ := own_reads hown4; have HO4 := Lib.hid hown4; have HB6 := Lib.hid (bel_grow hgrow4 (fun k e => by injection e with e; exact Nat.le_of_eq e)); have HNB := Lib.hid (news_of (HN2.out.keep HB6.out)); clear hown4 hgrow4)
          | (refine step_append_own rfl (.tmp 44) (.tmp 45) 36 rfl w3.heap.size 3 i0 (.int .i64 0) 1 8 Try.underlying36 hi0 hz0 hz1 hz2 rfl (by omega) _ k (tk.map (Value.int .i64)) rfl HO4.out ⟨b4, o4, none⟩ u.length c4 (u.map (Value.int .i64)) rfl (by simp) HNB.out (ints_one _) (by rw [maxLen_eq]; have := HNUM.out; omega) (by have := HNUM.out; omega) HB6.out.size ?_; intro v5 w5 hown5 hgrow5; obtain ⟨A7, c7, rfl, -⟩ := own_reads hown5; have HO5 := Lib.hid hown5; have HB7 := Lib.hid (HB6.out.trans (own_in hgrow5 (fun k e => (own_lt HO4.out k e).1) HB6.out.size)); have HNC := Lib.hid (news_any (HN3.out.keep HB7.out)); clear hown5 hgrow5)
          | (refine step_append_own rfl (.tmp 46) (.tmp 52) 36 rfl w3.heap.size 3 i0 (.int .i64 0) 1 8 Try.underlying36 hi0 hz0 hz1 hz2 rfl (by omega) _ (k + u.length) (tk.map (Value.int .i64) ++ u.map (Value.int .i64)) rfl HO5.out d5 (t.length - en) (c3 - en) (td.map (Value.int .i64)) rfl (by rw [List.length_map, HTK.out.2.2.2]; simp) HNC.out (ints_one _) (by rw [maxLen_eq]; have := HNUM.out; omega) (by have := HNUM.out; omega) HB7.out.size ?_; intro v6 w6 hown6 hgrow6; rw [HRL.out] at hown6; obtain ⟨A8, c8, rfl, -⟩ := own_reads hown6; have HO6 := Lib.hid (show OInts w6 w3.heap.size (.slice A8 rr.length c8) rr by unfold OInts; rw [HRR.out, List.map_append, List.map_append, ← HRR.out]; exact hown6); have HB8 := Lib.hid (HB7.out.trans (own_in hgrow6 (fun k e => (own_lt HO5.out k e).1) HB7.out.size)); clear hown6 hgrow6))
      have HB9 := Lib.hid (HB1.out.trans ((fit_keep HB5.out HB8.out).mono (by simp)))
      have s5 := HB5.out.size
      simp at s5
      have HZ := Lib.hid s5
      clear hite s5
      by_cases hL : 30 < (rr.length : Int)
      · go_wp2
        refine bodyPost_ret (v := .tuple #[.slice (some ⟨w6.heap.size, 0, none⟩) 0 0, .bool false]) (by simp [results, Try.results98, go_sem]) rfl ?_
        rw [HR.out, HR1.out hL]
        have := HZ.out
        have := HB8.out.size
        exact ⟨_, rfl, (own_empty w6).base (by omega), HB9.out.trans ((below_alloc w6 (.cells #[] 3)).mono (by omega))⟩
      · go_wp2
        refine bodyPost_ret (v := .tuple #[.slice A8 rr.length c8, .bool true]) (by simp [results, Try.results98, go_sem]) rfl ?_
        rw [HR.out, HR2.out hL]
        have := HZ.out
        exact ⟨_, rfl, HO6.out.base (by omega), HB9.out⟩
    refine main _ rfl (fun h => swapM_no ?_) (fun h => ?_)
    · rintro ⟨-, -, h3⟩
      rw [HSW.out] at h3
      omega
    · rw [swapM_yes ⟨HPE.out, by rw [HQ.out, HD3.out, HP.out], by rw [HSW.out]; omega⟩, HSW.out]
  · have HN := Lib.hid (swapM_no (s := ⟨sorts, ops⟩) (vars := vars) (t := t) (u := u) (a := (k : Int)) (fun h => hqp (by have := h.2.1; rw [HQ.out, HD3.out, HP.out] at this; exact this)))
    have hqb : (q != p) = true := by simpa using hqp
    clear hll hpr
    go_enter Try.func98, Try.ntmps98
    go_wp2_with (first
      | (go_at_call 71; refine (specTermAt_any ⟨sorts, ops⟩ vars t (k : Int) _ _ _ _ HS.out HV2.out HV3.out).mono ?_; rw [HD3.out]; rintro e w1 ⟨up, rfl, ho, hb⟩; obtain ⟨Ap, cp, rfl, -⟩ := ho.reads.form; have HPR := Lib.hid ho.reads; have HB2 := Lib.hid hb; have g0 := cell_keep hb hbx.out.1; have g1 := cell_keep hb hbx.out.2; clear hb ho)
      | (go_at_call_of 92 (Value.slice A4 u.length c4); refine (specTermSort_any ⟨sorts, ops⟩ vars u _ _ _ _ (HS.out.keep HB2.out) (HV2.out.keep HB2.out) (HV4.out.keep HB2.out)).mono ?_; rw [HQ.out]; rintro e w2 ⟨rfl, hb⟩; have HB3 := Lib.hid hb; have j0 := cell_keep hb g0; have j1 := cell_keep hb g1; clear hb g0 g1)
      | (go_at_call 92; refine (specTermSort_any ⟨sorts, ops⟩ vars part _ _ _ _ (HS.out.keep (fit_keep HB2.out HB3.out)) (HV2.out.keep (fit_keep HB2.out HB3.out)) (HPR.out.keep HB3.out)).mono ?_; rw [HP.out]; rintro e w3 ⟨rfl, hb⟩; have HB4 := Lib.hid hb; clear hb j0 j1))
    have HB5 := Lib.hid (fit_keep (fit_keep HB2.out HB3.out) HB4.out)
    have s5 := HB5.out.size
    simp at s5
    refine bodyPost_ret (v := .tuple #[.slice (some ⟨w3.heap.size, 0, none⟩) 0 0, .bool false]) (by simp [results, Try.results98, go_sem]) rfl ?_
    rw [HN.out]
    exact ⟨_, rfl, (own_empty w3).base (by omega), HB1.out.trans ((fit_keep HB5.out (below_alloc w3 (.cells #[] 3))).mono (by simp))⟩
end Go.Proofs.Ytonainidjkcoeac
