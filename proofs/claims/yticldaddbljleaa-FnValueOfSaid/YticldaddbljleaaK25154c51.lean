/- slices.Grow (of nil), slices.Concat. · TermSwap of both packages. · What holds of parts put in the place of others. No walk. · A part of a term replaced by one more letter that has its value: the value of the term stays. No walk. · ValuesOk of both packages. -/
import Derived.Test.YticldaddbljleaaK36fa58d9
import Derived.Lib.AppendZeros
namespace Go.Proofs.Yticldaddbljleaa
section
open Go.RowKit
set_option linter.unusedVariables false

theorem zeros_own (w : World) (i0 : TypeInfo) (hi0 : Try.prog.info? 3 = some i0) (hz0 : i0.zero = some (.int .i64 0)) (hz1 : i0.size = 1) (hz2 : i0.bytes = 8) (ty : TypeId) (n : Nat) (h0 : 0 < n) (h1 : n ≤ 1048576) :
    ∃ C w', (Builtin.append_ #[26, 3] ty #[.slice none 0 0, .int .i64 n]).run Try.prog w = .ok (.slice (some ⟨w.heap.size, 0, none⟩) n C) w' ∧ n ≤ C ∧ C ≤ 9223372036854775807 ∧ OInts w' w.heap.size (.slice (some ⟨w.heap.size, 0, none⟩) 0 C) [] ∧ Below w.heap.size w w' := by
  refine ⟨_, _, Lib.run_append_nil_zeros w 26 3 ty 3 i0 (.int .i64 0) .i64 .i64 Try.underlying26 Try.underlying3 hi0 hz0 n h0 (by omega) (by omega) (by rw [hz2]; omega), grownCap_ge _ _ _ _, grownCap_le_maxLen _ _ _ _ (by rw [maxLen_eq]; omega), ?_, ?_⟩
  · refine ⟨by simp, .inr ⟨w.heap.size, _, _, rfl, Nat.le_refl _, heap_alloc_new w.drew _, Nat.zero_le _, grownCap_le_maxLen _ _ _ _ (by rw [maxLen_eq]; omega), ?_, by simp⟩⟩
    rw [Array.size_append, size_zeroCells, size_zeroCells, show (Value.int .i64 0).cells.size = 1 from rfl]
    have := grownCap_ge w n 0 3
    omega
  · exact (Below.refl w.heap.size w.drew |> fun h => (⟨h.os, h.tape, h.output, h.size, h.block⟩ : Below w.heap.size w w.drew)).alloc (Nat.le_refl _) _

set_option maxRecDepth 100000 in
theorem grow_any (n : Nat) (w : World) (h0 : 0 < n) (h1 : n ≤ 1048576) :
    Calls Try.prog 132 #[.slice none 0 0, .int .i64 (n : Int)] w fun e w' => ∃ u, e = .returned u ∧ OInts w' w.heap.size u [] ∧ Below w.heap.size w w' := by
  obtain ⟨i0, hi0, hz0, hz1, hz2⟩ := info_parts Try.tinfo_int
  have hn : (0 : Int) < (n : Int) := by omega
  go_enter Try.func132, Try.ntmps132
  obtain ⟨C, w', hrun, hC1, hC2, ho, hb⟩ := zeros_own w i0 hi0 hz0 hz1 hz2 26 n h0 h1
  have HO := Lib.hid ho
  have HB := Lib.hid hb
  have HR := Lib.hid hrun
  clear ho hb hrun
  go_wp2_with (at_builtin; refine Lib.wpList_append_run _ rfl _ _ _ _ rfl _ _ rfl rfl _ _ HR.out ?_)
  go_wp2
  go_ret
  exact ⟨_, rfl, HO.out, HB.out⟩

/-- a list of rows none of which is nil -/
def RRowsS (w : World) (v : Value) (rows : List (List Int)) : Prop :=
  ∃ A c, v = .slice A rows.length c ∧ rows.length ≤ c ∧ c ≤ maxLen ∧ ∀ j row, rows[j]? = some row → ∃ b o ad c', A = some ⟨b, o, none⟩ ∧ w.cell? ⟨b, o + j, none⟩ = some (.slice (some ad) row.length c') ∧ RInts w (.slice (some ad) row.length c') row
theorem RRowsS.keep {w w' : World} {v : Value} {rows : List (List Int)} (h : RRowsS w v rows) (hb : Below w.heap.size w w') : RRowsS w' v rows := by
  obtain ⟨A, c, e, h1, h2, h3⟩ := h
  exact ⟨A, c, e, h1, h2, fun j row hj => by obtain ⟨b, o, ad, c', e, hc, hr⟩ := h3 j row hj; exact ⟨b, o, ad, c', e, cell_keep hb hc, hr.keep hb⟩⟩
theorem RRowsS.at_ {w : World} {v : Value} {rows : List (List Int)} (h : RRowsS w v rows) {k : Nat} (hk : k < rows.length) : ∃ b o c ad c', v = .slice (some ⟨b, o, none⟩) rows.length c ∧ w.cell? ⟨b, o + k, none⟩ = some (.slice (some ad) rows[k].length c') ∧ RInts w (.slice (some ad) rows[k].length c') rows[k] := by
  obtain ⟨A, c, e, h1, h2, h3⟩ := h
  obtain ⟨b, o, ad, c', rfl, hc, hr⟩ := h3 k rows[k] (List.getElem?_eq_getElem hk)
  exact ⟨b, o, c, ad, c', e, hc, hr⟩
theorem flat_take {rows : List (List Int)} {k : Nat} (hk : k < rows.length) : (rows.take (k + 1)).flatten = (rows.take k).flatten ++ rows[k] := by
  rw [List.take_succ_eq_append_getElem hk, List.flatten_append]; simp
theorem flat_le (rows : List (List Int)) (k : Nat) : (rows.take k).flatten.length ≤ rows.flatten.length := by
  have h : rows.flatten = (rows.take k).flatten ++ (rows.drop k).flatten := by rw [← List.flatten_append, List.take_append_drop]
  rw [h, List.length_append]; omega

set_option maxHeartbeats 800000 in
set_option maxRecDepth 100000 in
theorem concat_any (v : Value) (rows : List (List Int)) (w : World) (h : RRowsS w v rows) (h0 : 0 < rows.flatten.length) (h1 : rows.flatten.length ≤ 1048576) :
    Calls Try.prog 75 #[v] w fun e w' => ∃ u, e = .returned u ∧ OInts w' w.heap.size u rows.flatten ∧ Below w.heap.size w w' := by
  obtain ⟨i0, hi0, hz0, hz1, hz2⟩ := info_parts Try.tinfo_int
  have H := Lib.hid h
  obtain ⟨A, c, rfl, hc, hc2, -⟩ := h
  have hc3 : c ≤ 9223372036854775807 := hc2
  clear hc2
  go_enter Try.func75, Try.ntmps75
  go_wp2
  go_loop [3, 5, 11] (fun n x i => ∃ k : Nat, k ≤ rows.length ∧ i = .int .i64 k ∧ n = .int .i64 ((rows.take k).flatten.length : Int)) (fun _ _ i => rows.length - (intOf i).toNat)
  case atStart => exact ⟨0, Nat.zero_le _, rfl, by simp⟩
  case round =>
    obtain ⟨k, hk, rfl, rfl⟩ := hrel
    by_cases hlt : k < rows.length
    · obtain ⟨b, o, c', ad, c5, e, hcell, hri⟩ := H.out.at_ hlt
      cases e
      have HT := Lib.hid (show (rows.take (k + 1)).flatten.length = (rows.take k).flatten.length + rows[k].length by rw [flat_take hlt, List.length_append])
      have hle := flat_le rows (k + 1)
      rw [HT.out] at hle
      generalize rows[k] = r at hcell hri HT hle
      generalize (rows.take k).flatten.length = L at HT hle
      have hw : IntKind.i64.wrap ((L : Int) + (r.length : Int)) = (L : Int) + (r.length : Int) := by rw [IntKind.wrap_i64]; omega
      have hnn : ¬ ((L : Int) + (r.length : Int) < 0) := by omega
      clear hri
      go_wp2
      go_round
      case rel => exact ⟨k + 1, by omega, by go_num, by rw [HT.out]; simp⟩
      case measure => simp [intOf]; omega
    · have hlt' : ¬ (k : Int) < (rows.length : Int) := by omega
      rw [show rows.take k = rows from take_all (by omega)]
      obtain ⟨L, hL⟩ : ∃ L, L = rows.flatten.length := ⟨_, rfl⟩
      rw [← hL] at h0 h1 ⊢
      have HL := Lib.hid hL
      clear hL
      go_wp2_with fail
      refine (grow_any L _ h0 h1).mono ?_
      rintro e w1 ⟨u, rfl, ho, hb⟩
      obtain ⟨A1, c1, rfl, -⟩ := own_reads ho
      have HO := Lib.hid ho
      have HB := Lib.hid hb
      clear ho hb
      go_wp2
      go_loopw [6, 8, 27] (fun p x i wr => ∃ k : Nat, k ≤ rows.length ∧ i = .int .i64 k ∧ OInts wr w.heap.size p (rows.take k).flatten ∧ Below w.heap.size w wr) (fun _ _ i _ => rows.length - (intOf i).toNat)
      case atStart => exact ⟨0, Nat.zero_le _, rfl, HO.out, HB.out⟩
      case round =>
        obtain ⟨k, hk, rfl, ho, hb⟩ := hrel
        obtain ⟨A9, c9, rfl, -⟩ := own_reads ho
        have HO := Lib.hid ho
        have HB := Lib.hid hb
        clear ho hb
        by_cases hlt : k < rows.length
        · obtain ⟨b, o, c', ad, c5, e, hcell, hri⟩ := (H.out.keep HB.out).at_ hlt
          cases e
          have HT := Lib.hid (flat_take hlt)
          have hle := flat_le rows (k + 1)
          rw [HT.out, List.length_append, ← HL.out] at hle
          generalize rows[k] = r at hcell hri HT hle
          have HNEWS := Lib.hid (news_any hri)
          have hs1 := HB.out.size
          generalize (rows.take k).flatten = ps at HO HT hle
          clear hri
          go_wp2_with (at_builtin; refine wpList_append_own _ rfl _ _ 26 rfl w.heap.size 3 i0 (.int .i64 0) 1 8 Try.underlying26 hi0 hz0 hz1 hz2 rfl (by decide) _ ps.length (ps.map (Value.int .i64)) rfl HO.out ad r.length c5 (r.map (Value.int .i64)) rfl (by simp) HNEWS.out (ints_one _) (by rw [maxLen_eq]; omega) (by omega) hs1 ?_)
          intro v' w4 hown4 hgrow4 _
          have HO4 := Lib.hid (app_ints rfl hown4)
          have HB4 := Lib.hid (HB.out.grown hgrow4 hs1 (fun k e => (own_lt HO.out k e).1))
          clear hown4 hgrow4
          go_wp2
          go_roundw
          case rel => exact ⟨k + 1, by omega, by go_num, by rw [HT.out]; exact HO4.out, HB4.out⟩
          case measure => simp [intOf]; omega
        · have hlt'' : ¬ (k : Int) < (rows.length : Int) := by omega
          have HTA := Lib.hid (show rows.take k = rows from take_all (by omega))
          rw [HTA.out, ← HL.out] at HO ⊢
          go_wp2
          go_ret
          exact ⟨_, rfl, HO.out, HB.out⟩
end

section
open Go.RowKit
set_option linter.unusedVariables false

def swapRow (s : MSig) (vars t : List Int) (a : Int) (u : List Int) : List Int := t.take a.toNat ++ u ++ t.drop (a.toNat + (atM s vars t a).length)
def swapM (s : MSig) (vars t : List Int) (a : Int) (u : List Int) : List Int × Bool :=
  if atM s vars t a ≠ [] ∧ sortM s vars u = sortM s vars (atM s vars t a) ∧ (swapRow s vars t a u).length ≤ 30 then (swapRow s vars t a u, true) else ([], false)
theorem swapM_no {s : MSig} {vars t u : List Int} {a : Int} (h : ¬ (atM s vars t a ≠ [] ∧ sortM s vars u = sortM s vars (atM s vars t a) ∧ (swapRow s vars t a u).length ≤ 30)) : swapM s vars t a u = ([], false) := by unfold swapM; rw [if_neg h]
theorem swapM_yes {s : MSig} {vars t u : List Int} {a : Int} (h : atM s vars t a ≠ [] ∧ sortM s vars u = sortM s vars (atM s vars t a) ∧ (swapRow s vars t a u).length ≤ 30) : swapM s vars t a u = (swapRow s vars t a u, true) := by unfold swapM; rw [if_pos h]
theorem RInts.cutAny {w : World} {b o c k e : Nat} {A : Option Addr} {t : List Int} (h : RInts w (.slice (some ⟨b, o, none⟩) t.length c) t) (hk : k ≤ e) (he : e ≤ t.length) (hA : A = some ⟨b, o + k, none⟩ ∨ e = k) :
    RInts w (.slice A (e - k) (c - k)) ((t.drop k).take (e - k)) := by
  rcases hA with hA | hA
  · exact h.cut hk he hA
  · subst hA
    rw [Nat.sub_self, List.take_zero]
    obtain ⟨A', c', e', h1, h2, h3⟩ := h
    cases e'
    exact ⟨A, c - e, rfl, Nat.zero_le _, by omega, fun j x hj => by simp at hj⟩
theorem ex_cut {w w' : World} {o : Obj} (h : Below (w.alloc o).drew.heap.size (w.alloc o).drew w') : Below w.heap.size w w' :=
  (below_alloc w o).trans ((⟨h.os, h.tape, h.output, h.size, h.block⟩ : Below (w.alloc o).heap.size (w.alloc o) w').mono (by simp))
theorem rowsS3 {w : World} {b n1 n2 n3 c1 c2 c3 : Nat} {d1 d2 d3 : Addr} {r1 r2 r3 : List Int} {t : TypeId} (hc : w.heap[b]? = some (.cells #[.slice (some d1) n1 c1, .slice (some d2) n2 c2, .slice (some d3) n3 c3] t (0, 0)))
    (h1 : RInts w (.slice (some d1) n1 c1) r1) (h2 : RInts w (.slice (some d2) n2 c2) r2) (h3 : RInts w (.slice (some d3) n3 c3) r3) : RRowsS w (.slice (some ⟨b, 0, none⟩) 3 3) [r1, r2, r3] := by
  refine ⟨some ⟨b, 0, none⟩, 3, rfl, Nat.le_refl _, by rw [maxLen_eq]; omega, fun j row hj => ?_⟩
  have e : ∀ {n c : Nat} {d : Addr} {r : List Int}, RInts w (.slice (some d) n c) r → n = r.length := fun {n c d r} h => by obtain ⟨A, c', e, -⟩ := h; injection e
  have z1 := e h1
  have z2 := e h2
  have z3 := e h3
  subst z1 z2 z3
  match j, hj with
  | 0, hj => simp at hj; subst hj; exact ⟨b, 0, d1, c1, rfl, by simp [World.cell?, hc], h1⟩
  | 1, hj => simp at hj; subst hj; exact ⟨b, 0, d2, c2, rfl, by simp [World.cell?, hc], h2⟩
  | 2, hj => simp at hj; subst hj; exact ⟨b, 0, d3, c3, rfl, by simp [World.cell?, hc], h3⟩

set_option maxHeartbeats 1600000 in
set_option maxRecDepth 100000 in
theorem termSwap_any (s : MSig) (vars t : List Int) (a : Int) (u : List Int) (w : World) (v vv tv uv : Value) (hsm : Small t) (hsu : Small u) (h1 : RSig w v s) (h2 : RInts w vv vars) (h3 : RInts w tv t) (h4 : RInts w uv u) :
    Calls Try.prog 16 #[v, vv, tv, .int .i64 a, uv] w (PairPost (swapM s vars t a u) w) := by
  obtain ⟨u0, rfl, hrr⟩ := h1
  obtain ⟨sorts, ops⟩ := s
  obtain ⟨A, c, rfl, -⟩ := hrr.form
  have hb1 := below_alloc w (.cells #[.int .i64 sorts, .slice A ops.length c] 25)
  have hbx := Lib.hid (box_cells w (.int .i64 sorts) (.slice A ops.length c) 25)
  have HS := Lib.hid (show RSig (w.alloc (.cells #[.int .i64 sorts, .slice A ops.length c] 25)) (.agg #[.int .i64 sorts, .slice A ops.length c]) ⟨sorts, ops⟩ from ⟨_, rfl, hrr.keep hb1⟩)
  have HV2 := Lib.hid (h2.keep hb1)
  have HV3 := Lib.hid (h3.keep hb1)
  have HV4 := Lib.hid (h4.keep hb1)
  have hlen := h3.len
  have hlu := h4.len
  have HSM := Lib.hid hsm
  have HSU := Lib.hid hsu
  obtain ⟨A2, c2, rfl, -⟩ := h2.form
  obtain ⟨A3, c3, rfl, hc3, hc3'⟩ := h3.form
  obtain ⟨A4, c4, rfl, hc4, hc4'⟩ := h4.form
  have HB1 := Lib.hid hb1
  clear hrr h2 h3 h4 hb1 hsm hsu
  by_cases hpe : atM ⟨sorts, ops⟩ vars t a = []
  · have HN := Lib.hid (swapM_no (s := ⟨sorts, ops⟩) (vars := vars) (t := t) (u := u) (a := a) (fun h => h.1 hpe))
    have HPE := Lib.hid hpe
    clear hpe
    go_enter Try.func16, Try.ntmps16
    go_wp2_with (go_at_call 14; refine (termAt_any ⟨sorts, ops⟩ vars t a _ _ _ _ HSM.out HS.out HV2.out HV3.out).mono ?_; rw [HPE.out]; rintro e w1 ⟨up, rfl, ho, hb⟩; obtain ⟨Ap, cp, rfl, -⟩ := ho.reads.form; have HB2 := Lib.hid hb; clear hb ho)
    go_quiet (fail)
    have HB3 := Lib.hid (below_drewN HB2.out nq)
    go_wp2
    refine bodyPost_ret (v := .tuple #[.slice none 0 0, .bool false]) (by simp [results, Try.results16, go_sem]) rfl ?_
    rw [HN.out]
    exact ⟨_, rfl, OInts.nil _ _, HB1.out.trans (HB3.out.mono (by simp))⟩
  obtain ⟨k, pre, sub, post, rfl, hkt, hl30, hqq, hvo, hd1, hd2, hd3, hd4, hd5, hd6, hd7, -⟩ := at_there hpe
  obtain ⟨q, hq⟩ : ∃ q, sortM ⟨sorts, ops⟩ vars u = q := ⟨_, rfl⟩
  have HQ := Lib.hid hq
  have HD3 := Lib.hid hd3
  have HP := Lib.hid hd4
  have HSP := Lib.hid (show Small sub.row from fun x hx => HSM.out x (by rw [hd1]; simp [hx]))
  have hll := congrArg List.length hd1
  simp only [List.length_append] at hll
  have HT := Lib.hid hd1
  obtain ⟨b, o, c', e, hx⟩ := HV3.out.at_ hkt
  cases e
  have hpr := hd2
  generalize hsort : sub.sort = p at HP hd5
  generalize hrow : sub.row = part at HD3 HP HSP HT hd7 hll
  have HPE := Lib.hid (show atM ⟨sorts, ops⟩ vars t (k : Int) ≠ [] from hpe)
  clear hq hd3 hd4 hd1 hd6 hrow hsort hx hqq hvo hpe hd2
  have hne : ¬ ((part.length : Int) = 0) := by omega
  have hneb : ((part.length : Int) == 0) = false := by rw [beq_eq_false_iff_ne]; exact hne
  by_cases hqp : q = p
  · subst hqp
    obtain ⟨tmu, -, hu30, -, htu, -⟩ := sortM_to (s := ⟨sorts, ops⟩) (vars := vars) (t := u) (by rw [HQ.out]; exact hd5)
    have hu1 : 1 ≤ u.length := by rw [← htu]; exact row_pos tmu
    obtain ⟨b4, o4, c', e, -⟩ := HV4.out.at_ (k := 0) (by omega)
    cases e
    have hqb : (q != q) = false := by simp
    obtain ⟨en, hen⟩ : ∃ en, en = k + part.length := ⟨_, rfl⟩
    have hw : IntKind.i64.wrap ((k : Int) + (part.length : Int)) = (en : Int) := by rw [IntKind.wrap_i64]; omega
    have he0 : (0 : Int) ≤ (en : Int) := by omega
    have he1 : (en : Int) ≤ (t.length : Int) := by omega
    have hk0 : (0 : Int) ≤ (k : Int) := by omega
    have hk2 : (k : Int) ≤ (c3 : Int) := by omega
    have HSW := Lib.hid (show swapRow ⟨sorts, ops⟩ vars t (k : Int) u = t.take k ++ u ++ t.drop en by unfold swapRow; rw [HD3.out, Int.toNat_natCast, hen])
    have hent : en ≤ t.length := by omega
    have HEN := Lib.hid (And.intro hen (And.intro hll hpr))
    obtain ⟨rr, hrr⟩ : ∃ rr, rr = t.take k ++ u ++ t.drop en := ⟨_, rfl⟩
    have hL1 : 0 < rr.length ∧ rr.length ≤ 1000 := by rw [hrr]; simp only [List.length_append, List.length_take, List.length_drop]; omega
    have HRR := Lib.hid hrr
    rw [← hrr] at HSW
    clear hrr htu hen hll hpr
    have main : ∀ (R : List Int × Bool), swapM ⟨sorts, ops⟩ vars t (k : Int) u = R → (30 < (rr.length : Int) → R = ([], false)) → (¬ 30 < (rr.length : Int) → R = (rr, true)) →
        Calls Try.prog 16 #[.agg #[.int .i64 sorts, .slice A ops.length c], .slice A2 vars.length c2, .slice (some ⟨b, o, none⟩) t.length c3, .int .i64 (k : Int), .slice (some ⟨b4, o4, none⟩) u.length c4] w (PairPost (swapM ⟨sorts, ops⟩ vars t (k : Int) u) w) := by
      intro R hR hR1 hR2
      have HR := Lib.hid hR
      have HR1 := Lib.hid hR1
      have HR2 := Lib.hid hR2
      clear hR hR1 hR2
      go_enter Try.func16, Try.ntmps16
      go_wp2_with (go_at_call 14; refine (termAt_any ⟨sorts, ops⟩ vars t (k : Int) _ _ _ _ HSM.out HS.out HV2.out HV3.out).mono ?_; rw [HD3.out]; rintro e w1 ⟨up, rfl, ho, hb⟩; obtain ⟨Ap, cp, rfl, -⟩ := ho.reads.form; have HB2 := Lib.hid hb; have HPR := Lib.hid ho.reads; have g0 := cell_keep hb hbx.out.1; have g1 := cell_keep hb hbx.out.2; clear hb ho)
      have ea := World.new_ne w1 _ g0
      go_region_held3 (fun w' => w'.cell? ⟨w.heap.size, 0, none⟩ = some (.int .i64 sorts) ∧ w'.cell? ⟨w.heap.size, 1, none⟩ = some (.slice A ops.length c)) (first | go_keep)
        (first
          | (go_at_call_of 15 (Value.slice (some ⟨b4, o4, none⟩) u.length c4); refine (termSort_any ⟨sorts, ops⟩ vars u w1.drew _ _ _ HSU.out (HS.out.keep (bel_drew HB2.out)) (HV2.out.keep (bel_drew HB2.out)) (HV4.out.keep (bel_drew HB2.out))).mono ?_; rw [HQ.out]; rintro e w2 ⟨rfl, hb⟩; have HB3 := Lib.hid (show Below w1.heap.size w1 w2 from bel_undrew hb); have j0 := cell_keep HB3.out g0; have j1 := cell_keep HB3.out g1; clear hb)
          | (go_at_call 15; refine (termSort_any ⟨sorts, ops⟩ vars part _ _ _ _ HSP.out (HS.out.keep (fit_keep HB2.out HB3.out)) (HV2.out.keep (fit_keep HB2.out HB3.out)) (HPR.out.keep HB3.out)).mono ?_; rw [HP.out]; rintro e w3 ⟨rfl, hb⟩; have HB4 := Lib.hid (fit_keep HB3.out hb); have i0 := cell_keep HB4.out g0; have i1 := cell_keep HB4.out g1; clear hb))
      clear g0 g1 j0 j1 i0 i1 ea
      have HB5 := Lib.hid (fit_keep HB2.out HB4.out)
      generalize hd5e : (if c3 = en then (⟨b, o, none⟩ : Addr) else ⟨b, o + en, none⟩) = d5
      have hite : (if c3 = en then (some (⟨b, o, none⟩ : Addr)) else some ⟨b, o + en, none⟩) = some d5 := by rw [← hd5e]; split <;> rfl
      have hcase : d5 = ⟨b, o + en, none⟩ ∨ t.length = en := by
        by_cases h : c3 = en
        · right; omega
        · left; rw [← hd5e, if_neg h]
      have HROWS := Lib.hid (show RRowsS (w3.alloc (.cells #[.slice (some ⟨b, o, none⟩) k c3, .slice (some ⟨b4, o4, none⟩) u.length c4, .slice (some d5) (t.length - en) (c3 - en)] 26)) (.slice (some ⟨w3.heap.size, 0, none⟩) 3 3) [t.take k, u, t.drop en] by
        have hba := below_alloc w3 (.cells #[.slice (some ⟨b, o, none⟩) k c3, .slice (some ⟨b4, o4, none⟩) u.length c4, .slice (some d5) (t.length - en) (c3 - en)] 26)
        have ht := HV3.out.keep HB5.out
        refine rowsS3 (heap_alloc_new w3 _) ?_ ((HV4.out.keep HB5.out).keep hba) ?_
        · have h := (ht.cut (k := 0) (e := k) (A := some ⟨b, o, none⟩) (Nat.zero_le _) (by omega) (by simp)).keep hba
          simpa using h
        · have h := (ht.cutAny (k := en) (e := t.length) (A := some d5) hent (Nat.le_refl _) (by rcases hcase with h | h; exact .inl (by rw [h]); exact .inr h)).keep hba
          rwa [List.take_of_length_le (by rw [List.length_drop]; omega)] at h)
      have HFL := Lib.hid (show [t.take k, u, t.drop en].flatten = rr by rw [HRR.out]; simp)
      have HLP := Lib.hid hL1
      clear hcase hd5e hL1
      go_wp2_with fail
      have htriv : True := trivial
      go_region_held3 (fun w' => True) (first | trivial)
        (first
          | (go_at_call 75; refine (concat_any _ _ _ (show RRowsS (w3.alloc (.cells #[.slice (some ⟨b, o, none⟩) k c3, .slice (some ⟨b4, o4, none⟩) u.length c4, .slice (some d5) (t.length - en) (c3 - en)] 26)).drew _ _ from HROWS.out) (by rw [HFL.out]; exact HLP.out.1) (by rw [HFL.out]; have := HLP.out.2; omega)).mono ?_; rw [HFL.out]; rintro e w6 ⟨u6, rfl, ho, hb⟩; obtain ⟨A6, c6, rfl, -⟩ := ho.reads.form; have HO := Lib.hid ho; have HB6 := Lib.hid hb; clear hb ho))
      have HB7 := Lib.hid (show Below w.heap.size w w6 from HB1.out.trans ((fit_keep HB5.out (ex_cut HB6.out)).mono (by simp)))
      have s7 := HB5.out.size
      simp at s7
      have HO7 := Lib.hid (HO.out.base (B' := w.heap.size) (by simp; omega))
      clear hite HROWS
      by_cases hL : 30 < (rr.length : Int)
      · go_wp2
        refine bodyPost_ret (v := .tuple #[.slice none 0 0, .bool false]) (by simp [results, Try.results16, go_sem]) rfl ?_
        rw [HR.out, HR1.out hL]
        exact ⟨_, rfl, OInts.nil _ _, HB7.out⟩
      · go_wp2
        refine bodyPost_ret (v := .tuple #[.slice A6 rr.length c6, .bool true]) (by simp [results, Try.results16, go_sem]) rfl ?_
        rw [HR.out, HR2.out hL]
        exact ⟨_, rfl, HO7.out, HB7.out⟩
    refine main _ rfl (fun h => swapM_no ?_) (fun h => ?_)
    · rintro ⟨-, -, h3⟩
      rw [HSW.out] at h3
      omega
    · rw [swapM_yes ⟨HPE.out, by rw [HQ.out, HD3.out, HP.out], by rw [HSW.out]; omega⟩, HSW.out]
  · have HN := Lib.hid (swapM_no (s := ⟨sorts, ops⟩) (vars := vars) (t := t) (u := u) (a := (k : Int)) (fun h => hqp (by have := h.2.1; rw [HQ.out, HD3.out, HP.out] at this; exact this)))
    have hqb : (q != p) = true := by simpa using hqp
    clear hll hpr
    go_enter Try.func16, Try.ntmps16
    go_wp2_with (go_at_call 14; refine (termAt_any ⟨sorts, ops⟩ vars t (k : Int) _ _ _ _ HSM.out HS.out HV2.out HV3.out).mono ?_; rw [HD3.out]; rintro e w1 ⟨up, rfl, ho, hb⟩; obtain ⟨Ap, cp, rfl, -⟩ := ho.reads.form; have HB2 := Lib.hid hb; have HPR := Lib.hid ho.reads; have g0 := cell_keep hb hbx.out.1; have g1 := cell_keep hb hbx.out.2; clear hb ho)
    have ea := World.new_ne w1 _ g0
    go_region_held3 (fun w' => w'.cell? ⟨w.heap.size, 0, none⟩ = some (.int .i64 sorts) ∧ w'.cell? ⟨w.heap.size, 1, none⟩ = some (.slice A ops.length c)) (first | go_keep)
      (first
        | (go_at_call_of 15 (Value.slice A4 u.length c4); refine (termSort_any ⟨sorts, ops⟩ vars u w1.drew _ _ _ HSU.out (HS.out.keep (bel_drew HB2.out)) (HV2.out.keep (bel_drew HB2.out)) (HV4.out.keep (bel_drew HB2.out))).mono ?_; rw [HQ.out]; rintro e w2 ⟨rfl, hb⟩; have HB3 := Lib.hid (show Below w1.heap.size w1 w2 from bel_undrew hb); have j0 := cell_keep HB3.out g0; have j1 := cell_keep HB3.out g1; clear hb)
        | (go_at_call 15; refine (termSort_any ⟨sorts, ops⟩ vars part _ _ _ _ HSP.out (HS.out.keep (fit_keep HB2.out HB3.out)) (HV2.out.keep (fit_keep HB2.out HB3.out)) (HPR.out.keep HB3.out)).mono ?_; rw [HP.out]; rintro e w3 ⟨rfl, hb⟩; have HB4 := Lib.hid (fit_keep HB3.out hb); have i0 := cell_keep HB4.out g0; have i1 := cell_keep HB4.out g1; clear hb))
    clear g0 g1 j0 j1 i0 i1 ea
    have HB5 := Lib.hid (fit_keep HB2.out HB4.out)
    go_wp2
    refine bodyPost_ret (v := .tuple #[.slice none 0 0, .bool false]) (by simp [results, Try.results16, go_sem]) rfl ?_
    rw [HN.out]
    exact ⟨_, rfl, OInts.nil _ _, HB1.out.trans (HB5.out.mono (by simp))⟩

theorem own_in {w w2 : World} {B : Nat} {A : Option Addr} {n c : Nat} (h : w.grownBy w2 (Value.slice A n c).ownBlock) (hr : ∀ k, (Value.slice A n c).ownBlock = some k → B ≤ k) (hB : B ≤ w.heap.size) : Below B w w2 :=
  ⟨h.os, h.tape, h.output, h.size, fun k hk => h.block k (by omega) (fun e => by have := hr k e.symm; omega)⟩

set_option maxHeartbeats 1000000 in
set_option maxRecDepth 100000 in
theorem specTermSwap_any (s : MSig) (vars t : List Int) (a : Int) (u : List Int) (w : World) (v vv tv uv : Value) (h1 : RSig w v s) (h2 : RInts w vv vars) (h3 : RInts w tv t) (h4 : RInts w uv u) :
    Calls Try.prog 149 #[v, vv, tv, .int .i64 a, uv] w (PairPost (swapM s vars t a u) w) := by
  obtain ⟨i0, hi0, hz0, hz1, hz2⟩ := info_parts Try.tinfo_int
  obtain ⟨u0, rfl, hrr⟩ := h1
  obtain ⟨sorts, ops⟩ := s
  obtain ⟨A, c, rfl, -⟩ := hrr.form
  have hb1 := below_alloc w (.cells #[.int .i64 sorts, .slice A ops.length c] 25)
  have hbx := Lib.hid (box_cells w (.int .i64 sorts) (.slice A ops.length c) 25)
  have HS := Lib.hid (show RSig (w.alloc (.cells #[.int .i64 sorts, .slice A ops.length c] 25)) (.agg #[.int .i64 sorts, .slice A ops.length c]) ⟨sorts, ops⟩ from ⟨_, rfl, hrr.keep hb1⟩)
  have HV2 := Lib.hid (h2.keep hb1)
  have HV3 := Lib.hid (h3.keep hb1)
  have HV4 := Lib.hid (h4.keep hb1)
  have hlen := h3.len
  have hlu := h4.len
  obtain ⟨A2, c2, rfl, -⟩ := h2.form
  obtain ⟨A3, c3, rfl, hc3, hc3'⟩ := h3.form
  obtain ⟨A4, c4, rfl, hc4, hc4'⟩ := h4.form
  have HB1 := Lib.hid hb1
  obtain ⟨q, hq⟩ : ∃ q, sortM ⟨sorts, ops⟩ vars u = q := ⟨_, rfl⟩
  have HQ := Lib.hid hq
  clear hrr h2 h3 h4 hb1 hq
  by_cases hpe : atM ⟨sorts, ops⟩ vars t a = []
  · have HN := Lib.hid (swapM_no (s := ⟨sorts, ops⟩) (vars := vars) (t := t) (u := u) (a := a) (fun h => h.1 hpe))
    have HPE := Lib.hid hpe
    clear hpe
    go_enter Try.func149, Try.ntmps149
    go_wp2_with (first
      | (go_at_call 148; refine (specTermAt_any ⟨sorts, ops⟩ vars t a _ _ _ _ HS.out HV2.out HV3.out).mono ?_; rw [HPE.out]; rintro e w1 ⟨up, rfl, ho, hb⟩; obtain ⟨Ap, cp, rfl, -⟩ := ho.reads.form; have HB2 := Lib.hid hb; have g0 := cell_keep hb hbx.out.1; have g1 := cell_keep hb hbx.out.2; clear hb ho)
      | (go_at_call 13; refine (specTermSort_any ⟨sorts, ops⟩ vars u _ _ _ _ (HS.out.keep HB2.out) (HV2.out.keep HB2.out) (HV4.out.keep HB2.out)).mono ?_; rw [HQ.out]; rintro e w2 ⟨rfl, hb⟩; have HB3 := Lib.hid (fit_keep HB2.out hb); clear hb g0 g1))
    have s4 := HB3.out.size
    simp at s4
    have HZ := Lib.hid s4
    clear s4
    go_wp2
    refine bodyPost_ret (v := .tuple #[.slice (some ⟨w2.heap.size, 0, none⟩) 0 0, .bool false]) (by simp [results, Try.results149, go_sem]) rfl ?_
    rw [HN.out]
    have := HZ.out
    exact ⟨_, rfl, (own_empty w2).base (by omega), HB1.out.trans (((fit_keep HB3.out (below_alloc w2 (.cells #[] 3))).mono (by simp)))⟩
  obtain ⟨k, pre, sub, post, rfl, hkt, hl30, hqq, hvo, hd1, hd2, hd3, hd4, hd5, hd6, hd7, -⟩ := at_there hpe
  have HD3 := Lib.hid hd3
  have HP := Lib.hid hd4
  have hll := congrArg List.length hd1
  simp only [List.length_append] at hll
  have HT := Lib.hid hd1
  obtain ⟨b, o, c', e, hx⟩ := HV3.out.at_ hkt
  cases e
  have hpr := hd2
  generalize hsort : sub.sort = p at HP hd5
  generalize hrow : sub.row = part at HD3 HP HT hd7 hll
  have HPE := Lib.hid (show atM ⟨sorts, ops⟩ vars t (k : Int) ≠ [] from hpe)
  clear hd3 hd4 hd1 hd6 hrow hsort hx hqq hvo hpe hd2
  have hne : ¬ ((part.length : Int) = 0) := by omega
  have hneb : ((part.length : Int) == 0) = false := by rw [beq_eq_false_iff_ne]; exact hne
  by_cases hq0 : q < 0
  · have HN := Lib.hid (swapM_no (s := ⟨sorts, ops⟩) (vars := vars) (t := t) (u := u) (a := (k : Int)) (fun h => by have := h.2.1; rw [HQ.out, HD3.out, HP.out] at this; omega))
    clear hll hpr
    go_enter Try.func149, Try.ntmps149
    go_wp2_with (first
      | (go_at_call 148; refine (specTermAt_any ⟨sorts, ops⟩ vars t (k : Int) _ _ _ _ HS.out HV2.out HV3.out).mono ?_; rw [HD3.out]; rintro e w1 ⟨up, rfl, ho, hb⟩; obtain ⟨Ap, cp, rfl, -⟩ := ho.reads.form; have HB2 := Lib.hid hb; have g0 := cell_keep hb hbx.out.1; have g1 := cell_keep hb hbx.out.2; clear hb ho)
      | (go_at_call 13; refine (specTermSort_any ⟨sorts, ops⟩ vars u _ _ _ _ (HS.out.keep HB2.out) (HV2.out.keep HB2.out) (HV4.out.keep HB2.out)).mono ?_; rw [HQ.out]; rintro e w2 ⟨rfl, hb⟩; have HB3 := Lib.hid (fit_keep HB2.out hb); clear hb g0 g1))
    have s4 := HB3.out.size
    simp at s4
    have HZ := Lib.hid s4
    clear s4
    go_wp2
    refine bodyPost_ret (v := .tuple #[.slice (some ⟨w2.heap.size, 0, none⟩) 0 0, .bool false]) (by simp [results, Try.results149, go_sem]) rfl ?_
    rw [HN.out]
    have := HZ.out
    exact ⟨_, rfl, (own_empty w2).base (by omega), HB1.out.trans (((fit_keep HB3.out (below_alloc w2 (.cells #[] 3))).mono (by simp)))⟩
  by_cases hqp : q = p
  · subst hqp
    obtain ⟨tmu, -, hu30, -, htu, -⟩ := sortM_to (s := ⟨sorts, ops⟩) (vars := vars) (t := u) (by rw [HQ.out]; exact hd5)
    have hu1 : 1 ≤ u.length := by rw [← htu]; exact row_pos tmu
    obtain ⟨b4, o4, c', e, -⟩ := HV4.out.at_ (k := 0) (by omega)
    cases e
    have hqb : (q != q) = false := by simp
    obtain ⟨en, hen⟩ : ∃ en, en = k + part.length := ⟨_, rfl⟩
    have hw : IntKind.i64.wrap ((k : Int) + (part.length : Int)) = (en : Int) := by rw [IntKind.wrap_i64]; omega
    have he0 : (0 : Int) ≤ (en : Int) := by omega
    have he1 : (en : Int) ≤ (t.length : Int) := by omega
    have hk0 : (0 : Int) ≤ (k : Int) := by omega
    have hk2 : (k : Int) ≤ (c3 : Int) := by omega
    have HSW := Lib.hid (show swapRow ⟨sorts, ops⟩ vars t (k : Int) u = t.take k ++ u ++ t.drop en by unfold swapRow; rw [HD3.out, Int.toNat_natCast, hen])
    have hent : en ≤ t.length := by omega
    obtain ⟨tk, htk⟩ : ∃ tk, tk = t.take k := ⟨_, rfl⟩
    obtain ⟨td, htd⟩ : ∃ td, td = t.drop en := ⟨_, rfl⟩
    have hl1 : tk.length = k := by rw [htk, List.length_take]; omega
    have hl2 : td.length = t.length - en := by rw [htd, List.length_drop]
    rw [← htk, ← htd] at HSW
    have HTK := Lib.hid (And.intro htk (And.intro htd (And.intro hl1 hl2)))
    obtain ⟨rr, hrr⟩ : ∃ rr, rr = tk ++ u ++ td := ⟨_, rfl⟩
    rw [← hrr] at HSW
    have HRR := Lib.hid hrr
    generalize hd5e : (if c3 = en then (⟨b, o, none⟩ : Addr) else ⟨b, o + en, none⟩) = d5
    have hite : (if c3 = en then (some (⟨b, o, none⟩ : Addr)) else some ⟨b, o + en, none⟩) = some d5 := by rw [← hd5e]; split <;> rfl
    have hcase : d5 = ⟨b, o + en, none⟩ ∨ t.length = en := by
      by_cases h : c3 = en
      · right; omega
      · left; rw [← hd5e, if_neg h]
    have HCA := Lib.hid hcase
    have HNUM := Lib.hid (show k ≤ 30 ∧ t.length - en ≤ 30 ∧ u.length ≤ 30 by omega)
    clear hrr htu hen hll hpr hl1 hl2 htk htd hcase hd5e
    have main : ∀ (R : List Int × Bool), swapM ⟨sorts, ops⟩ vars t (k : Int) u = R → (30 < (rr.length : Int) → R = ([], false)) → (¬ 30 < (rr.length : Int) → R = (rr, true)) →
        Calls Try.prog 149 #[.agg #[.int .i64 sorts, .slice A ops.length c], .slice A2 vars.length c2, .slice (some ⟨b, o, none⟩) t.length c3, .int .i64 (k : Int), .slice (some ⟨b4, o4, none⟩) u.length c4] w (PairPost (swapM ⟨sorts, ops⟩ vars t (k : Int) u) w) := by
      intro R hR hR1 hR2
      have HR := Lib.hid hR
      have HR1 := Lib.hid hR1
      have HR2 := Lib.hid hR2
      clear hR hR1 hR2
      go_enter Try.func149, Try.ntmps149
      go_wp2_with (first
        | (go_at_call 148; refine (specTermAt_any ⟨sorts, ops⟩ vars t (k : Int) _ _ _ _ HS.out HV2.out HV3.out).mono ?_; rw [HD3.out]; rintro e w1 ⟨up, rfl, ho, hb⟩; obtain ⟨Ap, cp, rfl, -⟩ := ho.reads.form; have HPR := Lib.hid ho.reads; have HB2 := Lib.hid hb; have g0 := cell_keep hb hbx.out.1; have g1 := cell_keep hb hbx.out.2; clear hb ho)
        | (go_at_call_of 13 (Value.slice (some ⟨b4, o4, none⟩) u.length c4); refine (specTermSort_any ⟨sorts, ops⟩ vars u _ _ _ _ (HS.out.keep HB2.out) (HV2.out.keep HB2.out) (HV4.out.keep HB2.out)).mono ?_; rw [HQ.out]; rintro e w2 ⟨rfl, hb⟩; have HB3 := Lib.hid hb; have j0 := cell_keep hb g0; have j1 := cell_keep hb g1; clear hb g0 g1)
        | (go_at_call 13; refine (specTermSort_any ⟨sorts, ops⟩ vars part _ _ _ _ (HS.out.keep (fit_keep HB2.out HB3.out)) (HV2.out.keep (fit_keep HB2.out HB3.out)) (HPR.out.keep HB3.out)).mono ?_; rw [HP.out]; rintro e w3 ⟨rfl, hb⟩; have HB4 := Lib.hid hb; clear hb j0 j1))
      have HB5 := Lib.hid (fit_keep (fit_keep HB2.out HB3.out) HB4.out)
      have HN1 := Lib.hid (show RInts w3 (.slice (some ⟨b, o, none⟩) k c3) tk by
        have h := (HV3.out.keep HB5.out).cut (k := 0) (e := k) (A := some ⟨b, o, none⟩) (Nat.zero_le _) (by omega) (by simp)
        rw [HTK.out.1]; simpa using h)
      have HNA := Lib.hid (news_of (HN1.out.keep (below_alloc w3 (.cells #[] 3))))
      have HRL := Lib.hid (show k + u.length + (t.length - en) = rr.length by rw [HRR.out, List.length_append, List.length_append, HTK.out.2.2.1, HTK.out.2.2.2])
      have HN2 := Lib.hid (HV4.out.keep HB5.out)
      have HN3 := Lib.hid (show RInts w3 (.slice (some d5) (t.length - en) (c3 - en)) td by
        have h := (HV3.out.keep HB5.out).cutAny (k := en) (e := t.length) (A := some d5) hent (Nat.le_refl _) (by rcases HCA.out with h | h; exact .inl (by rw [h]); exact .inr h)
        rw [List.take_of_length_le (by rw [List.length_drop]; omega)] at h
        rw [HTK.out.2.1]; exact h)
      have htriv : True := trivial
      go_region_held3 (fun w' => True) (first | trivial)
        (first
          | (refine step_append_own rfl (.tmp 40) (.tmp 43) 26 rfl w3.heap.size 3 i0 (.int .i64 0) 1 8 Try.underlying26 hi0 hz0 hz1 hz2 rfl (by omega) _ 0 [] rfl ((own_empty w3).drew) ⟨b, o, none⟩ k c3 (tk.map (Value.int .i64)) rfl (by rw [List.length_map, HTK.out.2.2.1]; simp) HNA.out (ints_one _) (by rw [maxLen_eq]; have := HNUM.out; omega) (by have := HNUM.out; omega) (by simp) ?_; intro v4 w4 hown4 hgrow4; rw [Nat.zero_add, List.nil_append] at hown4; obtain ⟨A6, c6, rfl, -⟩ := own_reads hown4; have HO4 := Lib.hid hown4; have HB6 := Lib.hid (bel_grow hgrow4 (fun k e => by injection e with e; exact Nat.le_of_eq e)); have HNB := Lib.hid (news_of (HN2.out.keep HB6.out)); clear hown4 hgrow4)
          | (refine step_append_own rfl (.tmp 44) (.tmp 45) 26 rfl w3.heap.size 3 i0 (.int .i64 0) 1 8 Try.underlying26 hi0 hz0 hz1 hz2 rfl (by omega) _ k (tk.map (Value.int .i64)) rfl HO4.out ⟨b4, o4, none⟩ u.length c4 (u.map (Value.int .i64)) rfl (by simp) HNB.out (ints_one _) (by rw [maxLen_eq]; have := HNUM.out; omega) (by have := HNUM.out; omega) HB6.out.size ?_; intro v5 w5 hown5 hgrow5; obtain ⟨A7, c7, rfl, -⟩ := own_reads hown5; have HO5 := Lib.hid hown5; have HB7 := Lib.hid (HB6.out.trans (own_in hgrow5 (fun k e => (own_lt HO4.out k e).1) HB6.out.size)); have HNC := Lib.hid (news_any (HN3.out.keep HB7.out)); clear hown5 hgrow5)
          | (refine step_append_own rfl (.tmp 46) (.tmp 52) 26 rfl w3.heap.size 3 i0 (.int .i64 0) 1 8 Try.underlying26 hi0 hz0 hz1 hz2 rfl (by omega) _ (k + u.length) (tk.map (Value.int .i64) ++ u.map (Value.int .i64)) rfl HO5.out d5 (t.length - en) (c3 - en) (td.map (Value.int .i64)) rfl (by rw [List.length_map, HTK.out.2.2.2]; simp) HNC.out (ints_one _) (by rw [maxLen_eq]; have := HNUM.out; omega) (by have := HNUM.out; omega) HB7.out.size ?_; intro v6 w6 hown6 hgrow6; rw [HRL.out] at hown6; obtain ⟨A8, c8, rfl, -⟩ := own_reads hown6; have HO6 := Lib.hid (show OInts w6 w3.heap.size (.slice A8 rr.length c8) rr by unfold OInts; rw [HRR.out, List.map_append, List.map_append, ← HRR.out]; exact hown6); have HB8 := Lib.hid (HB7.out.trans (own_in hgrow6 (fun k e => (own_lt HO5.out k e).1) HB7.out.size)); clear hown6 hgrow6))
      have HB9 := Lib.hid (HB1.out.trans ((fit_keep HB5.out HB8.out).mono (by simp)))
      have s5 := HB5.out.size
      simp at s5
      have HZ := Lib.hid s5
      clear hite s5
      by_cases hL : 30 < (rr.length : Int)
      · go_wp2
        refine bodyPost_ret (v := .tuple #[.slice (some ⟨w6.heap.size, 0, none⟩) 0 0, .bool false]) (by simp [results, Try.results149, go_sem]) rfl ?_
        rw [HR.out, HR1.out hL]
        have := HZ.out
        have := HB8.out.size
        exact ⟨_, rfl, (own_empty w6).base (by omega), HB9.out.trans ((below_alloc w6 (.cells #[] 3)).mono (by omega))⟩
      · go_wp2
        refine bodyPost_ret (v := .tuple #[.slice A8 rr.length c8, .bool true]) (by simp [results, Try.results149, go_sem]) rfl ?_
        rw [HR.out, HR2.out hL]
        have := HZ.out
        exact ⟨_, rfl, HO6.out.base (by omega), HB9.out⟩
    refine main _ rfl (fun h => swapM_no ?_) (fun h => ?_)
    · rintro ⟨-, -, h3⟩
      rw [HSW.out] at h3
      omega
    · rw [swapM_yes ⟨HPE.out, by rw [HQ.out, HD3.out, HP.out], by rw [HSW.out]; omega⟩, HSW.out]
  · have HN := Lib.hid (swapM_no (s := ⟨sorts, ops⟩) (vars := vars) (t := t) (u := u) (a := (k : Int)) (fun h => hqp (by have := h.2.1; rw [HQ.out, HD3.out, HP.out] at this; exact this)))
    have hqb : (q != p) = true := by simpa using hqp
    clear hll hpr
    go_enter Try.func149, Try.ntmps149
    go_wp2_with (first
      | (go_at_call 148; refine (specTermAt_any ⟨sorts, ops⟩ vars t (k : Int) _ _ _ _ HS.out HV2.out HV3.out).mono ?_; rw [HD3.out]; rintro e w1 ⟨up, rfl, ho, hb⟩; obtain ⟨Ap, cp, rfl, -⟩ := ho.reads.form; have HPR := Lib.hid ho.reads; have HB2 := Lib.hid hb; have g0 := cell_keep hb hbx.out.1; have g1 := cell_keep hb hbx.out.2; clear hb ho)
      | (go_at_call_of 13 (Value.slice A4 u.length c4); refine (specTermSort_any ⟨sorts, ops⟩ vars u _ _ _ _ (HS.out.keep HB2.out) (HV2.out.keep HB2.out) (HV4.out.keep HB2.out)).mono ?_; rw [HQ.out]; rintro e w2 ⟨rfl, hb⟩; have HB3 := Lib.hid hb; have j0 := cell_keep hb g0; have j1 := cell_keep hb g1; clear hb g0 g1)
      | (go_at_call 13; refine (specTermSort_any ⟨sorts, ops⟩ vars part _ _ _ _ (HS.out.keep (fit_keep HB2.out HB3.out)) (HV2.out.keep (fit_keep HB2.out HB3.out)) (HPR.out.keep HB3.out)).mono ?_; rw [HP.out]; rintro e w3 ⟨rfl, hb⟩; have HB4 := Lib.hid hb; clear hb j0 j1))
    have HB5 := Lib.hid (fit_keep (fit_keep HB2.out HB3.out) HB4.out)
    have s5 := HB5.out.size
    simp at s5
    refine bodyPost_ret (v := .tuple #[.slice (some ⟨w3.heap.size, 0, none⟩) 0 0, .bool false]) (by simp [results, Try.results149, go_sem]) rfl ?_
    rw [HN.out]
    exact ⟨_, rfl, (own_empty w3).base (by omega), HB1.out.trans ((fit_keep HB5.out (below_alloc w3 (.cells #[] 3))).mono (by simp))⟩
end

section
open Go.RowKit
set_option linter.unusedVariables false

theorem row_ne2 (t : Tm) : t.row ≠ [] := fun h => by have := row_pos t; rw [h] at this; simp at this
theorem take_pre {pre m post : List Int} {k : Nat} (h : pre.length = k) : (pre ++ m ++ post).take k = pre := by
  subst h; rw [List.append_assoc, List.take_left]
theorem drop_post {pre m post : List Int} {k : Nat} (h : pre.length = k) : (pre ++ m ++ post).drop (k + m.length) = post := by
  subst h; rw [← List.length_append, List.drop_left]
theorem swap_back {s : MSig} {vars t u : List Int} {a : Int} (h : (swapM s vars t a u).2 = true) :
    swapM s vars t a u = (swapRow s vars t a u, true) ∧ atM s vars (swapRow s vars t a u) a = u ∧ swapM s vars (swapRow s vars t a u) a (atM s vars t a) = (t, true) ∧ sortM s vars (swapRow s vars t a u) = sortM s vars t := by
  by_cases hc : atM s vars t a ≠ [] ∧ sortM s vars u = sortM s vars (atM s vars t a) ∧ (swapRow s vars t a u).length ≤ 30
  · obtain ⟨k, pre, sub, post, rfl, hk, h30, hs0, hv, ht, hp, hat, hss, hs1, hw, hsl, hput⟩ := at_there hc.1
    have hsu : sortM s vars u = sub.sort := by rw [hc.2.1, hat, hss]
    obtain ⟨um, -, hul, huw, rfl, hus⟩ := sortM_to (show 0 ≤ sortM s vars u by omega)
    have hum : um.sort = sub.sort := by rw [← hus]; exact hsu
    have hx : swapRow s vars t (k : Int) um.row = pre ++ um.row ++ post := by
      unfold swapRow
      rw [hat, Int.toNat_natCast]
      rw [show t.take k = pre by rw [ht]; exact take_pre hp, show t.drop (k + sub.row.length) = post by rw [ht]; exact drop_post hp]
    have hlen := hc.2.2
    rw [hx] at hlen
    have hxs := hput um huw hum hlen
    have hu1 := row_pos um
    have hxl : (pre ++ um.row ++ post).length = k + um.row.length + post.length := by simp [hp]; omega
    have hxa : atM s vars (pre ++ um.row ++ post) (k : Int) = um.row := by
      rw [atM_yes (by rw [hxs]; exact hs0) (by omega)]
      unfold partM
      rw [show (pre ++ um.row ++ post).drop k = um.row ++ post by rw [← hp, List.append_assoc, List.drop_left], firstM_full (ops_few (vars_valid hv).1) um 30 post huw (by omega)]
    have hback : swapRow s vars (pre ++ um.row ++ post) (k : Int) sub.row = t := by
      unfold swapRow
      rw [hxa, Int.toNat_natCast, take_pre hp, drop_post hp, ht]
    refine ⟨swapM_yes hc, by rw [hx, hxa], ?_, by rw [hx, hxs]⟩
    rw [hx, hat, swapM_yes ⟨by rw [hxa]; exact row_ne2 um, by rw [hxa, hss, hus, hum], by rw [hback]; exact h30⟩, hback]
  · rw [swapM_no hc] at h; cases h
theorem swap_small {s : MSig} {vars t u : List Int} {a : Int} (h : Small t) (hu : Small u) : Small (swapRow s vars t a u) := fun x hx => by
  unfold swapRow at hx
  rw [List.mem_append, List.mem_append] at hx
  rcases hx with (hx | hx) | hx
  · exact h x (List.mem_of_mem_take hx)
  · exact hu x hx
  · exact h x (List.mem_of_mem_drop hx)
theorem swapM_small {s : MSig} {vars t u : List Int} {a : Int} (h : Small t) (hu : Small u) : Small (swapM s vars t a u).1 := by
  unfold swapM
  split
  · exact swap_small h hu
  · intro x hx; cases hx
end

section
open Go.RowKit
set_option linter.unusedVariables false
set_option linter.unusedSimpArgs false

theorem getD_left {l r : List Int} {k : Nat} (h : k < l.length) : (l ++ r).getD k 0 = l.getD k 0 := by
  rw [List.getD_eq_getElem?_getD, List.getElem?_append_left h, ← List.getD_eq_getElem?_getD]
theorem getD_one {l : List Int} {y : Int} {k : Nat} (h : k = l.length) : (l ++ [y]).getD k 0 = y := by
  subst h
  rw [List.getD_eq_getElem?_getD, List.getElem?_append_right (Nat.le_refl _)]; simp
mutual
theorem weak_t {s : MSig} {vars : List Int} {x : Int} : ∀ tm : Tm, wfT s vars tm → wfT s (vars ++ [x]) tm
  | .leaf k of, h => by
    unfold wfT at h ⊢
    exact ⟨by simp; omega, by rw [getD_left h.1]; exact h.2⟩
  | .node op lv ts, h => by
    unfold wfT at h ⊢
    exact ⟨h.1, h.2.1, weak_ts ts _ h.2.2⟩
theorem weak_ts {s : MSig} {vars : List Int} {x : Int} : ∀ (ts : List Tm) (ss : List Int), wfTs s vars ss ts → wfTs s (vars ++ [x]) ss ts
  | [], ss, h => by unfold wfTs at h ⊢; exact h
  | t :: ts, ss, h => by
    unfold wfTs at h ⊢
    obtain ⟨y, ss', h1, h2, h3, h4⟩ := h
    exact ⟨y, ss', h1, h2, weak_t t h3, weak_ts ts ss' h4⟩
end
mutual
theorem weak_v {s : MSig} {m : MModel} {vars vals : List Int} {y : Int} (hl : vals.length = vars.length) : ∀ tm : Tm, wfT s vars tm → valT m (vals ++ [y]) tm = valT m vals tm
  | .leaf k of, h => by
    unfold wfT at h
    simp only [valT]
    exact getD_left (by omega)
  | .node op lv ts, h => by
    unfold wfT at h
    rw [valT_node, valT_node, weak_vs hl ts _ h.2.2]
theorem weak_vs {s : MSig} {m : MModel} {vars vals : List Int} {y : Int} (hl : vals.length = vars.length) : ∀ (ts : List Tm) (ss : List Int), wfTs s vars ss ts → valTs m (vals ++ [y]) ts = valTs m vals ts
  | [], ss, h => by simp [valTs]
  | t :: ts, ss, h => by
    unfold wfTs at h
    obtain ⟨z, ss', h1, h2, h3, h4⟩ := h
    simp only [valTs]
    rw [weak_v hl t h3, weak_vs hl ts ss' h4]
end
mutual
theorem hole_v {s : MSig} {m : MModel} {vars : List Int} {x : Int} : ∀ (tm : Tm) (at_ : Nat), wfT s vars tm → at_ < tm.row.length →
    ∃ (pre : List Int) (sub : Tm) (post : List Int), tm.row = pre ++ sub.row ++ post ∧ pre.length = at_ ∧ wfT s vars sub ∧ ∀ u : Tm, wfT s (vars ++ [x]) u → u.sort = sub.sort → ∃ tm' : Tm, wfT s (vars ++ [x]) tm' ∧ tm'.sort = tm.sort ∧ tm'.row = pre ++ u.row ++ post ∧
      ∀ (vals : List Int) (y : Int), vals.length = vars.length → valT m (vals ++ [y]) u = valT m vals sub → valT m (vals ++ [y]) tm' = valT m vals tm
  | .leaf k of, at_, hw, ha => by
    simp only [Tm.row, List.length_singleton] at ha
    refine ⟨[], .leaf k of, [], by simp, by simp; omega, hw, fun u hu hs => ⟨u, hu, hs, by simp, fun vals y hl h => h⟩⟩
  | .node op lv ts, 0, hw, ha => ⟨[], .node op lv ts, [], by simp, rfl, hw, fun u hu hs => ⟨u, hu, hs, by simp, fun vals y hl h => h⟩⟩
  | .node op lv ts, n + 1, hw, ha => by
    unfold wfT at hw
    simp only [Tm.row, List.length_cons] at ha
    obtain ⟨pre, sub, post, h1, h2, h3, h4⟩ := hole_vs (m := m) (x := x) ts n _ hw.2.2 (by omega)
    refine ⟨(op : Int) :: pre, sub, post, by simp only [Tm.row]; rw [h1]; simp, by simp [h2], h3, fun u hu hs => ?_⟩
    obtain ⟨ts', a, b, c⟩ := h4 u hu hs
    refine ⟨.node op lv ts', ?_, rfl, by simp only [Tm.row]; rw [b]; simp, fun vals y hl h => ?_⟩
    · unfold wfT
      exact ⟨hw.1, hw.2.1, a⟩
    · obtain ⟨c1, c2⟩ := c vals y hl h
      rw [valT_node, valT_node, c1, c2]
theorem hole_vs {s : MSig} {m : MModel} {vars : List Int} {x : Int} : ∀ (ts : List Tm) (at_ : Nat) (ss : List Int), wfTs s vars ss ts → at_ < (rowsOf ts).length →
    ∃ (pre : List Int) (sub : Tm) (post : List Int), rowsOf ts = pre ++ sub.row ++ post ∧ pre.length = at_ ∧ wfT s vars sub ∧ ∀ u : Tm, wfT s (vars ++ [x]) u → u.sort = sub.sort → ∃ ts' : List Tm, wfTs s (vars ++ [x]) ss ts' ∧ rowsOf ts' = pre ++ u.row ++ post ∧
      ∀ (vals : List Int) (y : Int), vals.length = vars.length → valT m (vals ++ [y]) u = valT m vals sub → valTs m (vals ++ [y]) ts' = valTs m vals ts ∧ sizesT m ts' = sizesT m ts
  | [], at_, ss, hw, ha => by simp [rowsOf] at ha
  | t :: ts, at_, ss, hw, ha => by
    unfold wfTs at hw
    obtain ⟨z, ss', rfl, h1, h2, h3⟩ := hw
    by_cases hlt : at_ < t.row.length
    · obtain ⟨pre, sub, post, a, b, c, d⟩ := hole_v (m := m) (x := x) t at_ h2 hlt
      refine ⟨pre, sub, post ++ rowsOf ts, by simp only [rowsOf]; rw [a]; simp, b, c, fun u hu hs => ?_⟩
      obtain ⟨t', e1, e2, e3, e4⟩ := d u hu hs
      refine ⟨t' :: ts, ?_, by simp only [rowsOf]; rw [e3]; simp, fun vals y hl h => ⟨?_, ?_⟩⟩
      · unfold wfTs
        exact ⟨z, ss', rfl, by rw [e2, h1], e1, weak_ts ts _ h3⟩
      · simp only [valTs]
        rw [e4 vals y hl h, weak_vs hl ts _ h3]
      · simp only [sizesT, List.map_cons, e2]
    · simp only [rowsOf, List.length_append] at ha
      obtain ⟨pre, sub, post, a, b, c, d⟩ := hole_vs (m := m) (x := x) ts (at_ - t.row.length) ss' h3 (by omega)
      refine ⟨t.row ++ pre, sub, post, by simp only [rowsOf]; rw [a]; simp, by simp [b]; omega, c, fun u hu hs => ?_⟩
      obtain ⟨ts', e1, e2, e3⟩ := d u hu hs
      refine ⟨t :: ts', ?_, by simp only [rowsOf]; rw [e2]; simp, fun vals y hl h => ?_⟩
      · unfold wfTs
        exact ⟨z, ss', rfl, h1, weak_t t h2, e1⟩
      · obtain ⟨c1, c2⟩ := e3 vals y hl h
        refine ⟨?_, ?_⟩
        · simp only [valTs]
          rw [c1, weak_v hl t h2]
        · simp only [sizesT, List.map_cons] at c2 ⊢
          rw [c2]
end
/-- with one more letter that has the value of a part, at the place of this part -/
theorem value_part {s : MSig} {m : MModel} {vars t vals : List Int} {k : Nat} (h : 0 ≤ valueM s m vars t vals) (hk : k < t.length) (hv : vars.length < 4) :
    ∃ (p : List Int) (so v : Int), atM s vars t (k : Int) = p ∧ p ≠ [] ∧ p.length ≤ 30 ∧ sortM s vars p = so ∧ 0 ≤ so ∧ so < s.sorts ∧ valueM s m vars p vals = v ∧ 0 ≤ v ∧ v ≤ 3 ∧
      ∃ o : List Int, swapM s (vars ++ [so]) t (k : Int) [100 + (vars.length : Int)] = (o, true) ∧ valueM s m (vars ++ [so]) o (vals ++ [v]) = valueM s m vars t vals := by
  unfold valueM at h
  cases ht : termM s vars t with
  | none => rw [ht] at h; simp at h
  | some tm =>
    rw [ht] at h
    simp only at h
    by_cases hvb : valsB s m vars vals = true
    · rw [if_pos hvb] at h
      obtain ⟨hv1, hm1, hvo⟩ := vals_facts hvb
      have hm := model_facts hm1
      obtain ⟨-, h30, hw, rfl⟩ := termM_to ht
      have hsm : sortM s vars tm.row = tm.sort := sortM_of hv1 h30 hw
      have hs0 := (sort_ok hv1 hw).1
      obtain ⟨pre, sub0, post, a0, b0, c0, -⟩ := hole_v (m := m) (x := 0) tm k hw hk
      obtain ⟨pre1, sub, post1, a, b, c, d⟩ := hole_v (m := m) (x := sub0.sort) tm k hw hk
      have hf0 : firstM s vars 30 (tm.row.drop k) = some (sub0, post) := by
        rw [show tm.row.drop k = sub0.row ++ post by rw [a0, List.append_assoc, ← b0]; simp]
        exact firstM_full (ops_few (vars_valid hv1).1) sub0 30 post c0 (by have : pre.length + sub0.row.length + post.length = tm.row.length := by rw [a0]; simp; omega
                                                                           omega)
      have hf : firstM s vars 30 (tm.row.drop k) = some (sub, post1) := by
        rw [show tm.row.drop k = sub.row ++ post1 by rw [a, List.append_assoc, ← b]; simp]
        exact firstM_full (ops_few (vars_valid hv1).1) sub 30 post1 c (by have : pre1.length + sub.row.length + post1.length = tm.row.length := by rw [a]; simp; omega
                                                                          omega)
      obtain ⟨rfl, rfl⟩ : sub0 = sub ∧ post = post1 := by rw [hf0] at hf; injection hf with hf; injection hf with h1 h2; exact ⟨h1, h2⟩
      have hl : pre1.length + sub0.row.length + post.length = tm.row.length := by rw [a]; simp; omega
      have hsub30 : sub0.row.length ≤ 30 := by omega
      have hss := sort_ok hv1 c0
      have hpos := row_pos sub0
      have hpart : atM s vars tm.row (k : Int) = sub0.row := by
        rw [atM_yes (by rw [hsm]; exact hs0) (by omega)]
        unfold partM
        rw [hf0]
      have hvs := valT_in hm hvo sub0 c0
      have hval : valueM s m vars sub0.row vals = valT m vals sub0 := by
        unfold valueM
        rw [termM_of hv1 hsub30 c0]
        simp only [hvb, if_true]
      have hsz : m.sizes.getD sub0.sort.toNat 0 ≤ 3 := by
        obtain ⟨hx, e1, -, e3⟩ := hm.size hss.1 hss.2
        rw [e1]; exact e3
      have hvo1 : varsB s (vars ++ [sub0.sort]) = true := by
        obtain ⟨q1, q2, q3⟩ := vars_valid hv1
        unfold varsB belowB
        rw [q1, decide_eq_true (by simp; omega)]
        simp only [Bool.and_self, Bool.true_and, List.all_append, Bool.and_eq_true, List.all_eq_true]
        refine ⟨fun z hz => ?_, fun z hz => ?_⟩
        · obtain ⟨i, hi, rfl⟩ := List.getElem_of_mem hz
          simpa using q3 i hi
        · simp at hz; subst hz; simpa using hss
      obtain ⟨tm', w1, w2, w3, w4⟩ := d (.leaf vars.length sub0.sort) (by unfold wfT; exact ⟨by simp, by rw [getD_one rfl]⟩) rfl
      have hrow : (Tm.leaf vars.length sub0.sort).row = [100 + (vars.length : Int)] := by simp [Tm.row]
      rw [hrow] at w3
      have hlen : (pre1 ++ [100 + (vars.length : Int)] ++ post).length ≤ 30 := by simp; omega
      have hat2 : atM s (vars ++ [sub0.sort]) tm.row (k : Int) = sub0.row := by
        rw [atM_yes (by rw [sortM_of hvo1 h30 (weak_t tm hw)]; exact hs0) (by omega)]
        unfold partM
        have e : tm.row.drop k = sub0.row ++ post := by rw [a, List.append_assoc, ← b]; simp
        rw [e, firstM_full (ops_few (vars_valid hv1).1) sub0 30 post (weak_t sub0 c0) (by omega)]
      have hsr : swapRow s (vars ++ [sub0.sort]) tm.row (k : Int) [100 + (vars.length : Int)] = pre1 ++ [100 + (vars.length : Int)] ++ post := by
        unfold swapRow
        rw [hat2, Int.toNat_natCast]
        rw [show tm.row.take k = pre1 by rw [a]; exact take_pre b, show tm.row.drop (k + sub0.row.length) = post by rw [a]; exact drop_post b]
      have hleaf : sortM s (vars ++ [sub0.sort]) [100 + (vars.length : Int)] = sub0.sort := by
        rw [← hrow]
        exact sortM_of hvo1 (by rw [hrow]; simp) (by unfold wfT; exact ⟨by simp, by rw [getD_one rfl]⟩)
      refine ⟨sub0.row, sub0.sort, valT m vals sub0, hpart, row_ne2 sub0, hsub30, sortM_of hv1 hsub30 c0, hss.1, hss.2, hval, hvs.1, by omega, pre1 ++ [100 + (vars.length : Int)] ++ post, ?_, ?_⟩
      · rw [swapM_yes ⟨by rw [hat2]; exact row_ne2 sub0, by rw [hleaf, hat2, sortM_of hvo1 hsub30 (weak_t sub0 c0)], by rw [hsr]; exact hlen⟩, hsr]
      · have hvals : valsB s m (vars ++ [sub0.sort]) (vals ++ [valT m vals sub0]) = true := by
          refine vals_yes hvo1 hm1 (by simp [hvo.1]) ?_
          unfold allVal
          rw [List.all_eq_true]
          intro j hj
          have hj := List.mem_range.1 hj
          simp only [List.length_append, List.length_singleton] at hj
          unfold valOkAt
          by_cases hjl : j < vals.length
          · rw [getD_left hjl, getD_left (show j < vars.length by have := hvo.1; omega)]
            have hjv : j < vars.length := by have := hvo.1; omega
            have := hvo.2 j hjv hjl
            rw [getD_at _ hjl, getD_at _ hjv]
            simpa using this
          · rw [getD_one (show j = vals.length by omega), getD_one (show j = vars.length by have := hvo.1; omega)]
            simpa using hvs
        have hv4 := w4 vals (valT m vals sub0) hvo.1 (by simp only [valT]; exact getD_one hvo.1.symm)
        have e1 : valueM s m vars tm.row vals = valT m vals tm := by unfold valueM; rw [ht]; simp only [hvb, if_true]
        rw [e1, ← hv4]
        unfold valueM
        rw [← w3, termM_of hvo1 (by rw [w3]; exact hlen) w1]
        simp only [hvals, if_true]
    · rw [if_neg hvb] at h; omega
/-- a value of a term is one of its sort -/
theorem value_in {s : MSig} {m : MModel} {vars t vals : List Int} (h : 0 ≤ valueM s m vars t vals) : ∃ so : Nat, sortM s vars t = (so : Int) ∧ ∃ hk : so < m.sizes.length, valueM s m vars t vals < m.sizes[so] := by
  unfold valueM at h ⊢
  cases ht : termM s vars t with
  | none => rw [ht] at h; simp at h
  | some tm =>
    rw [ht] at h
    simp only at h ⊢
    by_cases hvb : valsB s m vars vals = true
    · rw [if_pos hvb] at h ⊢
      obtain ⟨hv1, hm1, hvo⟩ := vals_facts hvb
      have hm := model_facts hm1
      obtain ⟨-, h30, hw, rfl⟩ := termM_to ht
      have hss := sort_ok hv1 hw
      obtain ⟨hx, e1, -, -⟩ := hm.size hss.1 hss.2
      have := (valT_in hm hvo tm hw).2
      rw [e1] at this
      exact ⟨tm.sort.toNat, by rw [sortM_of hv1 h30 hw]; omega, hx, this⟩
    · rw [if_neg hvb] at h; omega
end

section
open Go.RowKit
set_option linter.unusedVariables false
set_option linter.unusedSimpArgs false

theorem valOkAt_eq {m : MModel} {vars vals : List Int} {k : Nat} (hk : k < vars.length) (hk' : k < vals.length) : valOkAt m vars vals k = inSize (m.sizes.getD (vars[k]).toNat 0) vals[k] := by
  unfold valOkAt inSize; rw [getD_at _ hk', getD_at _ hk]

set_option maxHeartbeats 1600000 in
set_option maxRecDepth 100000 in
theorem valuesOk_any (s : MSig) (m : MModel) (vars vals : List Int) (w : World) (v v' v2 v3 : Value) (h1 : RSig w v s) (h2 : RModel w v' m) (h3 : RInts w v2 vars) (h4 : RInts w v3 vals) :
    Calls Try.prog 66 #[v, v', v2, v3] w fun e w' => e = .returned (.bool (valsB s m vars vals)) ∧ Below w.heap.size w w' := by
  obtain ⟨Asa, csa, rfl⟩ := h1.form
  obtain ⟨Ama, cma, Amb, cmb, rfl⟩ := h2.form
  have hb : Below w.heap.size w ((w.alloc (.cells #[.int .i64 s.sorts, .slice Asa s.ops.length csa] 25)).alloc (.cells #[.slice Ama m.sizes.length cma, .slice Amb m.tables.length cmb] 28)) := (below_alloc _ _).alloc (by simp) _
  have HB := Lib.hid hb
  have hsz : ((w.alloc (.cells #[.int .i64 s.sorts, .slice Asa s.ops.length csa] 25)).alloc (.cells #[.slice Ama m.sizes.length cma, .slice Amb m.tables.length cmb] 28)).heap.size = w.heap.size + 2 := by simp
  have Hs := Lib.hid (h1.keep hb)
  have s0 := cell_keep (below_alloc (w.alloc (.cells #[.int .i64 s.sorts, .slice Asa s.ops.length csa] 25)) (.cells #[.slice Ama m.sizes.length cma, .slice Amb m.tables.length cmb] 28)) (bx_at (w) #[.int .i64 s.sorts, .slice Asa s.ops.length csa] 25 (k := 0) rfl)
  have s1 := cell_keep (below_alloc (w.alloc (.cells #[.int .i64 s.sorts, .slice Asa s.ops.length csa] 25)) (.cells #[.slice Ama m.sizes.length cma, .slice Amb m.tables.length cmb] 28)) (bx_at (w) #[.int .i64 s.sorts, .slice Asa s.ops.length csa] 25 (k := 1) rfl)
  have Hm := Lib.hid (h2.keep hb)
  have m0 := bx_at (w.alloc (.cells #[.int .i64 s.sorts, .slice Asa s.ops.length csa] 25)) #[.slice Ama m.sizes.length cma, .slice Amb m.tables.length cmb] 28 (k := 0) rfl
  have m1 := bx_at (w.alloc (.cells #[.int .i64 s.sorts, .slice Asa s.ops.length csa] 25)) #[.slice Ama m.sizes.length cma, .slice Amb m.tables.length cmb] 28 (k := 1) rfl
  simp only [World.size_alloc] at m0 m1
  generalize hW : (w.alloc (.cells #[.int .i64 s.sorts, .slice Asa s.ops.length csa] 25)).alloc (.cells #[.slice Ama m.sizes.length cma, .slice Amb m.tables.length cmb] 28) = W at HB hsz Hs s0 s1 Hm m0 m1
  clear hb h1 h2
  have H3 := Lib.hid (h3.keep HB.out)
  have H4 := Lib.hid (h4.keep HB.out)
  have hl3 := h3.len
  have hl4 := h4.len
  obtain ⟨A3, d3, rfl, -⟩ := h3.form
  obtain ⟨A4, d4, rfl, -⟩ := h4.form
  clear h3 h4
  cases hv : varsB s vars with
  | false =>
    have HV := Lib.hid hv
    have HE := Lib.hid (vals_no1 (m := m) (vals := vals) hv)
    clear hv
    go_enter Try.func66, Try.ntmps66
    go_wp2_with fail
    clear hW
    refine (varsOk_any _ _ s vars _ Hs.out H3.out).mono ?_
    rw [HV.out]
    rintro e w1 ⟨rfl, hb⟩
    replace HB := Lib.hid (sz_keep HB.out hb)
    replace s0 := cell_keep hb s0
    replace s1 := cell_keep hb s1
    replace m0 := cell_keep hb m0
    replace m1 := cell_keep hb m1
    replace Hs := Lib.hid (Hs.out.keep hb)
    replace Hm := Lib.hid (Hm.out.keep hb)
    clear hb
    go_wp2
    go_ret
    exact ⟨ret_bool HE.out.symm, HB.out⟩
  | true =>
    have HV := Lib.hid hv
    have HVF := Lib.hid (vars_valid hv).2.2
    clear hv
    cases hm : modelB s m with
    | false =>
      have HM := Lib.hid hm
      have HE := Lib.hid (vals_no2 (vars := vars) (vals := vals) hm)
      clear hm
      go_enter Try.func66, Try.ntmps66
      go_wp2_with fail
      clear hW
      refine (varsOk_any _ _ s vars _ Hs.out H3.out).mono ?_
      rw [HV.out]
      rintro e w1 ⟨rfl, hb⟩
      replace HB := Lib.hid (sz_keep HB.out hb)
      replace s0 := cell_keep hb s0
      replace s1 := cell_keep hb s1
      replace m0 := cell_keep hb m0
      replace m1 := cell_keep hb m1
      replace Hs := Lib.hid (Hs.out.keep hb)
      replace Hm := Lib.hid (Hm.out.keep hb)
      clear hb
      go_wp2_with fail
      refine (modelOk_any s m _ _ _ Hs.out Hm.out).mono ?_
      rw [HM.out]
      rintro e w2 ⟨rfl, hb⟩
      replace HB := Lib.hid (sz_keep HB.out hb)
      replace s0 := cell_keep hb s0
      replace s1 := cell_keep hb s1
      replace m0 := cell_keep hb m0
      replace m1 := cell_keep hb m1
      replace Hs := Lib.hid (Hs.out.keep hb)
      replace Hm := Lib.hid (Hm.out.keep hb)
      clear hb
      go_wp2
      go_ret
      exact ⟨ret_bool HE.out.symm, HB.out⟩
    | true =>
      have HM := Lib.hid hm
      have HMF := Lib.hid (model_facts hm)
      clear hm
      by_cases hl : vals.length = vars.length
      · have e1 : ((vals.length : Int) != (vars.length : Int)) = false := by simp [hl]
        have HL := Lib.hid hl
        have hle : vals.length ≤ vars.length := by omega
        clear hl
        go_enter Try.func66, Try.ntmps66
        go_wp2_with fail
        clear hW
        refine (varsOk_any _ _ s vars _ Hs.out H3.out).mono ?_
        rw [HV.out]
        rintro e w1 ⟨rfl, hb⟩
        replace HB := Lib.hid (sz_keep HB.out hb)
        replace s0 := cell_keep hb s0
        replace s1 := cell_keep hb s1
        replace m0 := cell_keep hb m0
        replace m1 := cell_keep hb m1
        replace Hs := Lib.hid (Hs.out.keep hb)
        replace Hm := Lib.hid (Hm.out.keep hb)
        replace H3 := Lib.hid (H3.out.keep hb)
        replace H4 := Lib.hid (H4.out.keep hb)
        clear hb
        go_wp2_with fail
        refine (modelOk_any s m _ _ _ Hs.out Hm.out).mono ?_
        rw [HM.out]
        rintro e w2 ⟨rfl, hb⟩
        replace HB := Lib.hid (sz_keep HB.out hb)
        replace s0 := cell_keep hb s0
        replace s1 := cell_keep hb s1
        replace m0 := cell_keep hb m0
        replace m1 := cell_keep hb m1
        replace Hs := Lib.hid (Hs.out.keep hb)
        replace Hm := Lib.hid (Hm.out.keep hb)
        replace H3 := Lib.hid (H3.out.keep hb)
        replace H4 := Lib.hid (H4.out.keep hb)
        clear hb
        have HC := Lib.hid (And.intro m0 m1)
        go_wp2
        clear s0 s1 m0 m1
        go_loopw [9, 10, 30] (fun _ _ i wr => ∃ k : Nat, k ≤ vals.length ∧ i = .int .i64 k ∧ allVal m vars vals k = true ∧ Below w2.heap.size w2 wr) (fun _ _ i _ => vals.length - (intOf i).toNat)
        case atStart => exact ⟨0, Nat.zero_le _, rfl, allVal_zero _ _ _, Below.refl _ _⟩
        case round =>
          obtain ⟨k, hk, rfl, hal, hd⟩ := hrel
          have HAL := Lib.hid hal
          have HD := Lib.hid hd
          have f0 := cell_keep hd HC.out.1
          have f1 := cell_keep hd HC.out.2
          clear hal hd
          by_cases hlt : k < vals.length
          · have hlt' : (k : Int) < (vals.length : Int) := by omega
            have hkv : k < vars.length := by omega
            have hkv' : (k : Int) < (vars.length : Int) := by omega
            obtain ⟨b7, o7, c7, e, hx⟩ := (H4.out.keep HD.out).at_ hlt
            cases e
            obtain ⟨b8, o8, c8, e, hy⟩ := (H3.out.keep HD.out).at_ hkv
            cases e
            have hin := HVF.out k hkv
            have hms : vars[k] < (m.sizes.length : Int) := by have := HMF.out.sl; omega
            have HSUC := Lib.hid (allVal_succ m vars vals k)
            have HAT := Lib.hid (valOkAt_eq (m := m) hkv hlt)
            have HBAD := Lib.hid (fun h => vals_no4 (s := s) (m := m) (vars := vars) hlt h)
            generalize vars[k] = x at hy hin hms HAT
            generalize vals[k] = y at hx HAT
            obtain ⟨r, hr⟩ : ∃ r, inSize (m.sizes.getD x.toNat 0) y = r := ⟨_, rfl⟩
            have HR := Lib.hid hr
            have hx0 := hin.1
            clear hr hin
            go_wp2_with fail
            refine wp_region_held_drew (S := (fun w' => w'.cell? ⟨w.heap.size + 1, 0, none⟩ = some (.slice Ama m.sizes.length cma) ∧ w'.cell? ⟨w.heap.size + 1, 1, none⟩ = some (.slice Amb m.tables.length cmb) ∧ w'.cell? ⟨b8, o8 + k, none⟩ = some (.int .i64 x))) (by kernel_rfl) ?_ (fun hHeld => ?_)
            · exact ⟨f0, f1, hy⟩
            refine wpAnyH_take (i := 0) (oi := _) (v := ?_) rfl (by kernel_rfl) (by kernel_rfl) (by kernel_rfl) (fun _ _ _ h => h) (Or.inl ⟨by rfl, ?_⟩) (by assumption) ?_
            rotate_left
            · first | (intro w' hSw; (try dsimp only at hSw); go_simp; done) | (intro w' hSw; (try dsimp only at hSw); go_simp; with_reducible rfl)
            try simp only [Act.put, List.getElem_toArray, List.getElem_cons_zero, List.getElem_cons_succ, List.setIfInBounds_toArray, List.set_cons_zero, List.set_cons_succ]
            refine wpAnyH_take (i := 1) (oi := _) (v := ?_) rfl (by kernel_rfl) (by kernel_rfl) (by kernel_rfl) (fun _ _ _ h => h) (Or.inl ⟨by rfl, ?_⟩) (by assumption) ?_
            rotate_left
            · first | (intro w' hSw; (try dsimp only at hSw); go_simp; done) | (intro w' hSw; (try dsimp only at hSw); go_simp; with_reducible rfl)
            try simp only [Act.put, List.getElem_toArray, List.getElem_cons_zero, List.getElem_cons_succ, List.setIfInBounds_toArray, List.set_cons_zero, List.set_cons_succ]
            refine wpAnyH_take (i := 2) (oi := _) (v := ?_) rfl (by kernel_rfl) (by kernel_rfl) (by kernel_rfl) (fun _ _ _ h => h) (Or.inl ⟨by rfl, ?_⟩) (by assumption) ?_
            rotate_left
            · first | (intro w' hSw; (try dsimp only at hSw); go_simp; done) | (intro w' hSw; (try dsimp only at hSw); go_simp; with_reducible rfl)
            try simp only [Act.put, List.getElem_toArray, List.getElem_cons_zero, List.getElem_cons_succ, List.setIfInBounds_toArray, List.set_cons_zero, List.set_cons_succ]
            refine wpAnyH_take (i := 3) (oi := _) (v := ?_) rfl (by kernel_rfl) (by kernel_rfl) (by kernel_rfl) (fun _ _ _ h => h) (Or.inl ⟨by rfl, ?_⟩) (by assumption) ?_
            rotate_left
            · first | (intro w' hSw; (try dsimp only at hSw); go_simp; done) | (intro w' hSw; (try dsimp only at hSw); go_simp; with_reducible rfl)
            try simp only [Act.put, List.getElem_toArray, List.getElem_cons_zero, List.getElem_cons_succ, List.setIfInBounds_toArray, List.set_cons_zero, List.set_cons_succ]
            refine wpAnyH_take (i := 4) (oi := _) (v := ?_) rfl (by kernel_rfl) (by kernel_rfl) (by kernel_rfl) (fun _ _ _ h => h) (Or.inl ⟨by rfl, ?_⟩) (by assumption) ?_
            rotate_left
            · first | (intro w' hSw; (try dsimp only at hSw); go_simp; done) | (intro w' hSw; (try dsimp only at hSw); go_simp; with_reducible rfl)
            try simp only [Act.put, List.getElem_toArray, List.getElem_cons_zero, List.getElem_cons_succ, List.setIfInBounds_toArray, List.set_cons_zero, List.set_cons_succ]
            refine wpAnyH_take (i := 5) (oi := _) (v := ?_) rfl (by kernel_rfl) (by kernel_rfl) (by kernel_rfl) (fun _ _ _ h => h) (Or.inl ⟨by rfl, ?_⟩) (by assumption) ?_
            rotate_left
            · first | (intro w' hSw; (try dsimp only at hSw); go_simp; done) | (intro w' hSw; (try dsimp only at hSw); go_simp; with_reducible rfl)
            try simp only [Act.put, List.getElem_toArray, List.getElem_cons_zero, List.getElem_cons_succ, List.setIfInBounds_toArray, List.set_cons_zero, List.set_cons_succ]
            refine wpAnyH_ready (rs := [6]) (by kernel_rfl) (by simp) ?_
            refine AllReadyH.cons (o := _) rfl (fun K hK => ?_) AllReadyH.nil
            go_simp
            refine (isValue_any m x y _ _ ((Hm.out.keep HD.out).keep (map_drew (Below.refl _ _))) hx0 hms).mono ?_
            rw [HR.out]
            rintro x w6 ⟨rfl, hb6⟩
            have hx6 := map_undrew hb6
            have HX6 := Lib.hid (sz_keep HD.out hx6)
            have j1 := cell_keep hx6 f0
            have j2 := cell_keep hx6 f1
            have j3 := cell_keep hx6 hy
            clear hb6 hx6
            go_wp2_with fail
            refine hK.out _ _ ?_ (fun hHeld => ?_)
            · exact ⟨j1, j2, j3⟩
            clear hK K
            try simp only [Act.put, List.getElem_toArray, List.getElem_cons_zero, List.getElem_cons_succ, List.setIfInBounds_toArray, List.set_cons_zero, List.set_cons_succ]
            refine wpAnyH_take (i := 7) (oi := _) (v := ?_) rfl (by kernel_rfl) (by kernel_rfl) (by kernel_rfl) (fun _ _ _ h => h) (Or.inl ⟨by rfl, ?_⟩) (by assumption) ?_
            rotate_left
            · first | (intro w' hSw; (try dsimp only at hSw); go_simp; done) | (intro w' hSw; (try dsimp only at hSw); go_simp; with_reducible rfl)
            try simp only [Act.put, List.getElem_toArray, List.getElem_cons_zero, List.getElem_cons_succ, List.setIfInBounds_toArray, List.set_cons_zero, List.set_cons_succ]
            refine wpAnyH_done (by kernel_rfl) ?_ _
            clear f0 f1 j1 j2 j3 hx hy
            cases r with
            | true =>
              go_wp2
              go_roundw
              case rel => exact ⟨k + 1, by omega, by go_num, by rw [HSUC.out, HAL.out, HAT.out, HR.out]; rfl, HX6.out⟩
              case measure => simp [intOf]; omega
            | false =>
              have HF := Lib.hid (HBAD.out (HAT.out.trans HR.out))
              go_wp2
              go_ret
              exact ⟨ret_bool HF.out.symm, sz_keep HB.out HX6.out⟩
          · have hkn : k = vals.length := by omega
            have hlt' : ¬ (k : Int) < (vals.length : Int) := by omega
            have HE := Lib.hid (vals_yes HV.out HM.out HL.out (by rw [← hkn]; exact HAL.out))
            clear f0 f1
            go_wp2
            go_ret
            exact ⟨ret_bool HE.out.symm, sz_keep HB.out HD.out⟩
      · have e1 : ((vals.length : Int) != (vars.length : Int)) = true := by simp; omega
        have HE := Lib.hid (vals_no3 (s := s) (m := m) hl)
        clear hl
        go_enter Try.func66, Try.ntmps66
        go_wp2_with fail
        clear hW
        refine (varsOk_any _ _ s vars _ Hs.out H3.out).mono ?_
        rw [HV.out]
        rintro e w1 ⟨rfl, hb⟩
        replace HB := Lib.hid (sz_keep HB.out hb)
        replace s0 := cell_keep hb s0
        replace s1 := cell_keep hb s1
        replace m0 := cell_keep hb m0
        replace m1 := cell_keep hb m1
        replace Hs := Lib.hid (Hs.out.keep hb)
        replace Hm := Lib.hid (Hm.out.keep hb)
        clear hb
        go_wp2_with fail
        refine (modelOk_any s m _ _ _ Hs.out Hm.out).mono ?_
        rw [HM.out]
        rintro e w2 ⟨rfl, hb⟩
        replace HB := Lib.hid (sz_keep HB.out hb)
        replace s0 := cell_keep hb s0
        replace s1 := cell_keep hb s1
        replace m0 := cell_keep hb m0
        replace m1 := cell_keep hb m1
        replace Hs := Lib.hid (Hs.out.keep hb)
        replace Hm := Lib.hid (Hm.out.keep hb)
        clear hb
        go_wp2
        go_ret
        exact ⟨ret_bool HE.out.symm, HB.out⟩

set_option maxHeartbeats 1600000 in
set_option maxRecDepth 100000 in
theorem specValuesOk_any (s : MSig) (m : MModel) (vars vals : List Int) (w : World) (v v' v2 v3 : Value) (h1 : RSig w v s) (h2 : RModel w v' m) (h3 : RInts w v2 vars) (h4 : RInts w v3 vals) :
    Calls Try.prog 68 #[v, v', v2, v3] w fun e w' => e = .returned (.bool (valsB s m vars vals)) ∧ Below w.heap.size w w' := by
  obtain ⟨Asa, csa, rfl⟩ := h1.form
  obtain ⟨Ama, cma, Amb, cmb, rfl⟩ := h2.form
  have hb : Below w.heap.size w ((w.alloc (.cells #[.int .i64 s.sorts, .slice Asa s.ops.length csa] 25)).alloc (.cells #[.slice Ama m.sizes.length cma, .slice Amb m.tables.length cmb] 28)) := (below_alloc _ _).alloc (by simp) _
  have HB := Lib.hid hb
  have hsz : ((w.alloc (.cells #[.int .i64 s.sorts, .slice Asa s.ops.length csa] 25)).alloc (.cells #[.slice Ama m.sizes.length cma, .slice Amb m.tables.length cmb] 28)).heap.size = w.heap.size + 2 := by simp
  have Hs := Lib.hid (h1.keep hb)
  have s0 := cell_keep (below_alloc (w.alloc (.cells #[.int .i64 s.sorts, .slice Asa s.ops.length csa] 25)) (.cells #[.slice Ama m.sizes.length cma, .slice Amb m.tables.length cmb] 28)) (bx_at (w) #[.int .i64 s.sorts, .slice Asa s.ops.length csa] 25 (k := 0) rfl)
  have s1 := cell_keep (below_alloc (w.alloc (.cells #[.int .i64 s.sorts, .slice Asa s.ops.length csa] 25)) (.cells #[.slice Ama m.sizes.length cma, .slice Amb m.tables.length cmb] 28)) (bx_at (w) #[.int .i64 s.sorts, .slice Asa s.ops.length csa] 25 (k := 1) rfl)
  have Hm := Lib.hid (h2.keep hb)
  have m0 := bx_at (w.alloc (.cells #[.int .i64 s.sorts, .slice Asa s.ops.length csa] 25)) #[.slice Ama m.sizes.length cma, .slice Amb m.tables.length cmb] 28 (k := 0) rfl
  have m1 := bx_at (w.alloc (.cells #[.int .i64 s.sorts, .slice Asa s.ops.length csa] 25)) #[.slice Ama m.sizes.length cma, .slice Amb m.tables.length cmb] 28 (k := 1) rfl
  simp only [World.size_alloc] at m0 m1
  generalize hW : (w.alloc (.cells #[.int .i64 s.sorts, .slice Asa s.ops.length csa] 25)).alloc (.cells #[.slice Ama m.sizes.length cma, .slice Amb m.tables.length cmb] 28) = W at HB hsz Hs s0 s1 Hm m0 m1
  clear hb h1 h2
  have H3 := Lib.hid (h3.keep HB.out)
  have H4 := Lib.hid (h4.keep HB.out)
  have hl3 := h3.len
  have hl4 := h4.len
  have hlm := Hm.out.of.1.len
  obtain ⟨A3, d3, rfl, -⟩ := h3.form
  obtain ⟨A4, d4, rfl, -⟩ := h4.form
  clear h3 h4
  cases hm : modelB s m with
  | false =>
    have HM := Lib.hid hm
    have HE := Lib.hid (vals_no2 (vars := vars) (vals := vals) hm)
    clear hm
    go_enter Try.func68, Try.ntmps68
    go_wp2_with fail
    clear hW
    refine (specModelOk_any s m _ _ _ Hs.out Hm.out).mono ?_
    rw [HM.out]
    rintro e w2 ⟨rfl, hb⟩
    replace HB := Lib.hid (sz_keep HB.out hb)
    replace s0 := cell_keep hb s0
    replace s1 := cell_keep hb s1
    replace m0 := cell_keep hb m0
    replace m1 := cell_keep hb m1
    replace Hs := Lib.hid (Hs.out.keep hb)
    replace Hm := Lib.hid (Hm.out.keep hb)
    clear hb
    go_wp2
    go_ret
    exact ⟨ret_bool HE.out.symm, HB.out⟩
  | true =>
    have HM := Lib.hid hm
    have HMF := Lib.hid (model_facts hm)
    clear hm
    cases hv : varsB s vars with
    | false =>
      have HV := Lib.hid hv
      have HE := Lib.hid (vals_no1 (m := m) (vals := vals) hv)
      clear hv
      go_enter Try.func68, Try.ntmps68
      go_wp2_with fail
      clear hW
      refine (specModelOk_any s m _ _ _ Hs.out Hm.out).mono ?_
      rw [HM.out]
      rintro e w1 ⟨rfl, hb⟩
      replace HB := Lib.hid (sz_keep HB.out hb)
      replace s0 := cell_keep hb s0
      replace s1 := cell_keep hb s1
      replace m0 := cell_keep hb m0
      replace m1 := cell_keep hb m1
      replace Hs := Lib.hid (Hs.out.keep hb)
      replace Hm := Lib.hid (Hm.out.keep hb)
      replace H3 := Lib.hid (H3.out.keep hb)
      clear hb
      go_wp2_with fail
      refine (specVarsOk_any _ _ s vars _ Hs.out H3.out).mono ?_
      rw [HV.out]
      rintro e w2 ⟨rfl, hb⟩
      replace HB := Lib.hid (sz_keep HB.out hb)
      replace s0 := cell_keep hb s0
      replace s1 := cell_keep hb s1
      replace m0 := cell_keep hb m0
      replace m1 := cell_keep hb m1
      replace Hs := Lib.hid (Hs.out.keep hb)
      replace Hm := Lib.hid (Hm.out.keep hb)
      clear hb
      go_wp2
      go_ret
      exact ⟨ret_bool HE.out.symm, HB.out⟩
    | true =>
      have HV := Lib.hid hv
      have HVF := Lib.hid (vars_valid hv).2.2
      clear hv
      by_cases hl : vals.length = vars.length
      · have e1 : ((vals.length : Int) != (vars.length : Int)) = false := by simp [hl]
        have HL := Lib.hid hl
        have hle : vals.length ≤ vars.length := by omega
        clear hl
        go_enter Try.func68, Try.ntmps68
        go_wp2_with fail
        clear hW
        refine (specModelOk_any s m _ _ _ Hs.out Hm.out).mono ?_
        rw [HM.out]
        rintro e w1 ⟨rfl, hb⟩
        replace HB := Lib.hid (sz_keep HB.out hb)
        replace s0 := cell_keep hb s0
        replace s1 := cell_keep hb s1
        replace m0 := cell_keep hb m0
        replace m1 := cell_keep hb m1
        replace Hs := Lib.hid (Hs.out.keep hb)
        replace Hm := Lib.hid (Hm.out.keep hb)
        replace H3 := Lib.hid (H3.out.keep hb)
        replace H4 := Lib.hid (H4.out.keep hb)
        clear hb
        go_wp2_with fail
        refine (specVarsOk_any _ _ s vars _ Hs.out H3.out).mono ?_
        rw [HV.out]
        rintro e w2 ⟨rfl, hb⟩
        replace HB := Lib.hid (sz_keep HB.out hb)
        replace s0 := cell_keep hb s0
        replace s1 := cell_keep hb s1
        replace m0 := cell_keep hb m0
        replace m1 := cell_keep hb m1
        replace Hs := Lib.hid (Hs.out.keep hb)
        replace Hm := Lib.hid (Hm.out.keep hb)
        replace H3 := Lib.hid (H3.out.keep hb)
        replace H4 := Lib.hid (H4.out.keep hb)
        clear hb
        have HC := Lib.hid (And.intro m0 m1)
        go_wp2
        clear s0 s1 m0 m1
        go_loopw [9] (fun i wr => ∃ k : Nat, k ≤ vals.length ∧ i = .int .i64 k ∧ allVal m vars vals k = true ∧ Below w2.heap.size w2 wr) (fun i _ => vals.length - (intOf i).toNat)
        case atStart => exact ⟨0, Nat.zero_le _, rfl, allVal_zero _ _ _, Below.refl _ _⟩
        case round =>
          obtain ⟨k, hk, rfl, hal, hd⟩ := hrel
          have HAL := Lib.hid hal
          have HD := Lib.hid hd
          have f0 := cell_keep hd HC.out.1
          clear hal hd
          by_cases hlt : k < vals.length
          · have hlt' : (k : Int) < (vals.length : Int) := by omega
            have hkv : k < vars.length := by omega
            have hkv' : (k : Int) < (vars.length : Int) := by omega
            obtain ⟨b7, o7, c7, e, hx⟩ := (H4.out.keep HD.out).at_ hlt
            cases e
            obtain ⟨b8, o8, c8, e, hy⟩ := (H3.out.keep HD.out).at_ hkv
            cases e
            have hin := HVF.out k hkv
            have hms : vars[k] < (m.sizes.length : Int) := by have := HMF.out.sl; omega
            have HSUC := Lib.hid (allVal_succ m vars vals k)
            have HAT := Lib.hid (valOkAt_eq (m := m) hkv hlt)
            have HBAD := Lib.hid (fun h => vals_no4 (s := s) (m := m) (vars := vars) hlt h)
            generalize vars[k] = x at hy hin hms HAT
            generalize vals[k] = y at hx HAT
            obtain ⟨t, rfl⟩ : ∃ t : Nat, x = (t : Int) := ⟨x.toNat, by omega⟩
            have htm : t < m.sizes.length := by omega
            have htm' : (t : Int) < (m.sizes.length : Int) := by omega
            obtain ⟨b2, o2, c2, e, hz⟩ := (Hm.out.of.1.keep HD.out).at_ htm
            cases e
            have hz13 := HMF.out.sz _ (List.getElem_mem htm)
            replace HAT := Lib.hid (show valOkAt m vars vals k = inSize m.sizes[t] y by rw [HAT.out, Int.toNat_natCast, getD_at _ htm])
            generalize m.sizes[t] = z at hz hz13 HAT
            obtain ⟨r, hr⟩ : ∃ r, inSize z y = r := ⟨_, rfl⟩
            have HR := Lib.hid hr
            have hw2 : IntKind.i64.wrap (z - 1) = z - 1 := by rw [IntKind.wrap_i64]; omega
            clear hr hin hms
            go_wp2_with fail
            refine wp_region_held_drew (S := (fun w' => w'.cell? ⟨w.heap.size + 1, 0, none⟩ = some (.slice (some ⟨b2, o2, none⟩) m.sizes.length cma) ∧ w'.cell? ⟨b8, o8 + k, none⟩ = some (.int .i64 (t : Int)) ∧ w'.cell? ⟨b2, o2 + t, none⟩ = some (.int .i64 z) ∧ w'.cell? ⟨b7, o7 + k, none⟩ = some (.int .i64 y))) (by kernel_rfl) ?_ (fun hHeld => ?_)
            · exact ⟨f0, hy, hz, hx⟩
            refine wpAnyH_take (i := 0) (oi := _) (v := ?_) rfl (by kernel_rfl) (by kernel_rfl) (by kernel_rfl) (fun _ _ _ h => h) (Or.inl ⟨by rfl, ?_⟩) (by assumption) ?_
            rotate_left
            · first | (intro w' hSw; (try dsimp only at hSw); go_simp; done) | (intro w' hSw; (try dsimp only at hSw); go_simp; with_reducible rfl)
            try simp only [Act.put, List.getElem_toArray, List.getElem_cons_zero, List.getElem_cons_succ, List.setIfInBounds_toArray, List.set_cons_zero, List.set_cons_succ]
            refine wpAnyH_take (i := 1) (oi := _) (v := ?_) rfl (by kernel_rfl) (by kernel_rfl) (by kernel_rfl) (fun _ _ _ h => h) (Or.inl ⟨by rfl, ?_⟩) (by assumption) ?_
            rotate_left
            · first | (intro w' hSw; (try dsimp only at hSw); go_simp; done) | (intro w' hSw; (try dsimp only at hSw); go_simp; with_reducible rfl)
            try simp only [Act.put, List.getElem_toArray, List.getElem_cons_zero, List.getElem_cons_succ, List.setIfInBounds_toArray, List.set_cons_zero, List.set_cons_succ]
            refine wpAnyH_take (i := 2) (oi := _) (v := ?_) rfl (by kernel_rfl) (by kernel_rfl) (by kernel_rfl) (fun _ _ _ h => h) (Or.inl ⟨by rfl, ?_⟩) (by assumption) ?_
            rotate_left
            · first | (intro w' hSw; (try dsimp only at hSw); go_simp; done) | (intro w' hSw; (try dsimp only at hSw); go_simp; with_reducible rfl)
            try simp only [Act.put, List.getElem_toArray, List.getElem_cons_zero, List.getElem_cons_succ, List.setIfInBounds_toArray, List.set_cons_zero, List.set_cons_succ]
            refine wpAnyH_take (i := 3) (oi := _) (v := ?_) rfl (by kernel_rfl) (by kernel_rfl) (by kernel_rfl) (fun _ _ _ h => h) (Or.inl ⟨by rfl, ?_⟩) (by assumption) ?_
            rotate_left
            · first | (intro w' hSw; (try dsimp only at hSw); go_simp; done) | (intro w' hSw; (try dsimp only at hSw); go_simp; with_reducible rfl)
            try simp only [Act.put, List.getElem_toArray, List.getElem_cons_zero, List.getElem_cons_succ, List.setIfInBounds_toArray, List.set_cons_zero, List.set_cons_succ]
            refine wpAnyH_take (i := 4) (oi := _) (v := ?_) rfl (by kernel_rfl) (by kernel_rfl) (by kernel_rfl) (fun _ _ _ h => h) (Or.inl ⟨by rfl, ?_⟩) (by assumption) ?_
            rotate_left
            · first | (intro w' hSw; (try dsimp only at hSw); go_simp; done) | (intro w' hSw; (try dsimp only at hSw); go_simp; with_reducible rfl)
            try simp only [Act.put, List.getElem_toArray, List.getElem_cons_zero, List.getElem_cons_succ, List.setIfInBounds_toArray, List.set_cons_zero, List.set_cons_succ]
            refine wpAnyH_take (i := 5) (oi := _) (v := ?_) rfl (by kernel_rfl) (by kernel_rfl) (by kernel_rfl) (fun _ _ _ h => h) (Or.inl ⟨by rfl, ?_⟩) (by assumption) ?_
            rotate_left
            · first | (intro w' hSw; (try dsimp only at hSw); go_simp; done) | (intro w' hSw; (try dsimp only at hSw); go_simp; with_reducible rfl)
            try simp only [Act.put, List.getElem_toArray, List.getElem_cons_zero, List.getElem_cons_succ, List.setIfInBounds_toArray, List.set_cons_zero, List.set_cons_succ]
            refine wpAnyH_take (i := 6) (oi := _) (v := ?_) rfl (by kernel_rfl) (by kernel_rfl) (by kernel_rfl) (fun _ _ _ h => h) (Or.inl ⟨by rfl, ?_⟩) (by assumption) ?_
            rotate_left
            · first | (intro w' hSw; (try dsimp only at hSw); go_simp; done) | (intro w' hSw; (try dsimp only at hSw); go_simp; with_reducible rfl)
            try simp only [Act.put, List.getElem_toArray, List.getElem_cons_zero, List.getElem_cons_succ, List.setIfInBounds_toArray, List.set_cons_zero, List.set_cons_succ]
            refine wpAnyH_take (i := 7) (oi := _) (v := ?_) rfl (by kernel_rfl) (by kernel_rfl) (by kernel_rfl) (fun _ _ _ h => h) (Or.inl ⟨by rfl, ?_⟩) (by assumption) ?_
            rotate_left
            · first | (intro w' hSw; (try dsimp only at hSw); go_simp; done) | (intro w' hSw; (try dsimp only at hSw); go_simp; with_reducible rfl)
            try simp only [Act.put, List.getElem_toArray, List.getElem_cons_zero, List.getElem_cons_succ, List.setIfInBounds_toArray, List.set_cons_zero, List.set_cons_succ]
            refine wpAnyH_take (i := 8) (oi := _) (v := ?_) rfl (by kernel_rfl) (by kernel_rfl) (by kernel_rfl) (fun _ _ _ h => h) (Or.inl ⟨by rfl, ?_⟩) (by assumption) ?_
            rotate_left
            · first | (intro w' hSw; (try dsimp only at hSw); go_simp; done) | (intro w' hSw; (try dsimp only at hSw); go_simp; with_reducible rfl)
            try simp only [Act.put, List.getElem_toArray, List.getElem_cons_zero, List.getElem_cons_succ, List.setIfInBounds_toArray, List.set_cons_zero, List.set_cons_succ]
            refine wpAnyH_take (i := 9) (oi := _) (v := ?_) rfl (by kernel_rfl) (by kernel_rfl) (by kernel_rfl) (fun _ _ _ h => h) (Or.inl ⟨by rfl, ?_⟩) (by assumption) ?_
            rotate_left
            · first | (intro w' hSw; (try dsimp only at hSw); go_simp; done) | (intro w' hSw; (try dsimp only at hSw); go_simp; with_reducible rfl)
            try simp only [Act.put, List.getElem_toArray, List.getElem_cons_zero, List.getElem_cons_succ, List.setIfInBounds_toArray, List.set_cons_zero, List.set_cons_succ]
            refine wpAnyH_take (i := 10) (oi := _) (v := ?_) rfl (by kernel_rfl) (by kernel_rfl) (by kernel_rfl) (fun _ _ _ h => h) (Or.inl ⟨by rfl, ?_⟩) (by assumption) ?_
            rotate_left
            · first | (intro w' hSw; (try dsimp only at hSw); go_simp; done) | (intro w' hSw; (try dsimp only at hSw); go_simp; with_reducible rfl)
            try simp only [Act.put, List.getElem_toArray, List.getElem_cons_zero, List.getElem_cons_succ, List.setIfInBounds_toArray, List.set_cons_zero, List.set_cons_succ]
            refine wpAnyH_take (i := 11) (oi := _) (v := ?_) rfl (by kernel_rfl) (by kernel_rfl) (by kernel_rfl) (fun _ _ _ h => h) (Or.inl ⟨by rfl, ?_⟩) (by assumption) ?_
            rotate_left
            · first | (intro w' hSw; (try dsimp only at hSw); go_simp; done) | (intro w' hSw; (try dsimp only at hSw); go_simp; with_reducible rfl)
            try simp only [Act.put, List.getElem_toArray, List.getElem_cons_zero, List.getElem_cons_succ, List.setIfInBounds_toArray, List.set_cons_zero, List.set_cons_succ]
            refine wpAnyH_take (i := 12) (oi := _) (v := ?_) rfl (by kernel_rfl) (by kernel_rfl) (by kernel_rfl) (fun _ _ _ h => h) (Or.inl ⟨by rfl, ?_⟩) (by assumption) ?_
            rotate_left
            · first | (intro w' hSw; (try dsimp only at hSw); go_simp; done) | (intro w' hSw; (try dsimp only at hSw); go_simp; with_reducible rfl)
            try simp only [Act.put, List.getElem_toArray, List.getElem_cons_zero, List.getElem_cons_succ, List.setIfInBounds_toArray, List.set_cons_zero, List.set_cons_succ]
            refine wpAnyH_ready (rs := [13]) (by kernel_rfl) (by simp) ?_
            refine AllReadyH.cons (o := _) rfl (fun K hK => ?_) AllReadyH.nil
            go_simp
            refine (l1In_is y 0 (z - 1) _ r (by rw [inSize_inB rfl]; exact HR.out)).mono ?_
            rintro x w6 ⟨rfl, rfl⟩
            go_wp2_with fail
            refine hK.out _ _ ?_ (fun hHeld => ?_)
            · exact ⟨f0, hy, hz, hx⟩
            clear hK K
            try simp only [Act.put, List.getElem_toArray, List.getElem_cons_zero, List.getElem_cons_succ, List.setIfInBounds_toArray, List.set_cons_zero, List.set_cons_succ]
            refine wpAnyH_take (i := 14) (oi := _) (v := ?_) rfl (by kernel_rfl) (by kernel_rfl) (by kernel_rfl) (fun _ _ _ h => h) (Or.inl ⟨by rfl, ?_⟩) (by assumption) ?_
            rotate_left
            · first | (intro w' hSw; (try dsimp only at hSw); go_simp; done) | (intro w' hSw; (try dsimp only at hSw); go_simp; with_reducible rfl)
            try simp only [Act.put, List.getElem_toArray, List.getElem_cons_zero, List.getElem_cons_succ, List.setIfInBounds_toArray, List.set_cons_zero, List.set_cons_succ]
            refine wpAnyH_done (by kernel_rfl) ?_ _
            have HX6 := Lib.hid (map_drew HD.out)
            clear f0 hx hy hz
            cases r with
            | true =>
              go_wp2
              go_roundw
              case rel => exact ⟨k + 1, by omega, by go_num, by rw [HSUC.out, HAL.out, HAT.out, HR.out]; rfl, HX6.out⟩
              case measure => simp [intOf]; omega
            | false =>
              have HF := Lib.hid (HBAD.out (HAT.out.trans HR.out))
              go_wp2
              go_ret
              exact ⟨ret_bool HF.out.symm, sz_keep HB.out HX6.out⟩
          · have hkn : k = vals.length := by omega
            have hlt' : ¬ (k : Int) < (vals.length : Int) := by omega
            have HE := Lib.hid (vals_yes HV.out HM.out HL.out (by rw [← hkn]; exact HAL.out))
            clear f0
            go_wp2
            go_ret
            exact ⟨ret_bool HE.out.symm, sz_keep HB.out HD.out⟩
      · have e1 : ((vals.length : Int) != (vars.length : Int)) = true := by simp; omega
        have HE := Lib.hid (vals_no3 (s := s) (m := m) hl)
        clear hl
        go_enter Try.func68, Try.ntmps68
        go_wp2_with fail
        clear hW
        refine (specModelOk_any s m _ _ _ Hs.out Hm.out).mono ?_
        rw [HM.out]
        rintro e w1 ⟨rfl, hb⟩
        replace HB := Lib.hid (sz_keep HB.out hb)
        replace s0 := cell_keep hb s0
        replace s1 := cell_keep hb s1
        replace m0 := cell_keep hb m0
        replace m1 := cell_keep hb m1
        replace Hs := Lib.hid (Hs.out.keep hb)
        replace Hm := Lib.hid (Hm.out.keep hb)
        replace H3 := Lib.hid (H3.out.keep hb)
        clear hb
        go_wp2_with fail
        refine (specVarsOk_any _ _ s vars _ Hs.out H3.out).mono ?_
        rw [HV.out]
        rintro e w2 ⟨rfl, hb⟩
        replace HB := Lib.hid (sz_keep HB.out hb)
        replace s0 := cell_keep hb s0
        replace s1 := cell_keep hb s1
        replace m0 := cell_keep hb m0
        replace m1 := cell_keep hb m1
        replace Hs := Lib.hid (Hs.out.keep hb)
        replace Hm := Lib.hid (Hm.out.keep hb)
        clear hb
        go_wp2
        go_ret
        exact ⟨ret_bool HE.out.symm, HB.out⟩
end
end Go.Proofs.Yticldaddbljleaa
