/- OpTakes of both packages. -/
import Derived.Test.YtcbjfedhebeogacTakes
import Derived.Deep.DeepMust
namespace Go.Proofs.Ytcbjfedhebeogac
open Go.RowKit
set_option linter.unusedVariables false

theorem RInts.dropLast {w : World} {A : Option Addr} {c : Nat} {row : List Int} (h : RInts w (.slice A row.length c) row) : RInts w (.slice A (row.length - 1) c) row.dropLast := by
  obtain ⟨A', c', e, h1, h2, h3⟩ := h
  cases e
  refine ⟨A, c, by rw [List.length_dropLast], by rw [List.length_dropLast]; omega, h2, fun j x hj => h3 j x ?_⟩
  rw [List.getElem?_dropLast] at hj
  split at hj
  · exact hj
  · cases hj
theorem raised_zero {xs : List Int} (h : ∀ x ∈ xs, 0 ≤ x ∧ x < 4) : raised xs 0 = xs := by
  unfold raised
  rw [List.map_congr_left (g := id) (fun x hx => ?_), List.map_id]
  have := h x hx
  rw [IntWalk.wrap64_in _ ⟨by omega, by omega⟩]; simp

theorem add_spot (b o j : Nat) : (⟨b, o, none⟩ : Addr).add j = ⟨b, o + j, none⟩ := by
  unfold Addr.add
  split
  · rename_i h; subst h; rfl
  · rfl
theorem news_of {w : World} {b o n c : Nat} {xs : List Int} (h : RInts w (.slice (some ⟨b, o, none⟩) n c) xs) : ∀ (j : Nat) (u : Value), (xs.map (Value.int .i64))[j]? = some u → w.cell? ((⟨b, o, none⟩ : Addr).add j) = some u := by
  intro j u hj
  rw [List.getElem?_map] at hj
  obtain ⟨x, hx, rfl⟩ := Option.map_eq_some_iff.1 hj
  obtain ⟨A, c', e, h1, h2, h3⟩ := h
  cases e
  obtain ⟨b', o', e, hc⟩ := h3 j x hx
  cases e
  rw [add_spot]; exact hc
theorem news_any {w : World} {ad : Addr} {n c : Nat} {xs : List Int} (h : RInts w (.slice (some ad) n c) xs) : ∀ (j : Nat) (u : Value), (xs.map (Value.int .i64))[j]? = some u → w.cell? (ad.add j) = some u := by
  intro j u hj
  obtain ⟨b, o, s⟩ := ad
  have hx := hj
  rw [List.getElem?_map] at hx
  obtain ⟨x, hx, -⟩ := Option.map_eq_some_iff.1 hx
  have hh := h
  obtain ⟨A, c', e, h1, h2, h3⟩ := hh
  cases e
  obtain ⟨b', o', e, hc⟩ := h3 j x hx
  cases e
  exact news_of h j u hj
theorem ints_one (xs : List Int) : ∀ u ∈ xs.map (Value.int .i64), u.oneCell' = true := by
  intro u hu; simp at hu; obtain ⟨x, -, rfl⟩ := hu; rfl

theorem bel_grow {w w2 : World} {o : Obj} {A : Option Addr} {n c : Nat} (h : (w.alloc o).drew.grownBy w2 (Value.slice A n c).ownBlock) (hr : ∀ k, (Value.slice A n c).ownBlock = some k → w.heap.size ≤ k) : Below w.heap.size w w2 :=
  (below_alloc w o).trans ⟨h.os, h.tape, h.output, h.size, fun k hk => h.block k (Nat.lt_of_lt_of_le hk (by show w.heap.size ≤ (w.alloc o).heap.size; simp)) (fun e => by have := hr k e.symm; omega)⟩
theorem own_empty (w : World) : OInts (w.alloc (.cells #[] 3)) w.heap.size (.slice (some ⟨w.heap.size, 0, none⟩) 0 0) [] := World.ownsRow_lit w #[] 0 (Nat.le_refl _) (Nat.zero_le _) rfl

set_option maxRecDepth 100000 in
theorem opTakes_any (v : Value) (s : MSig) (op : Int) (w : World) (h : RSig w v s) :
    Calls Try.prog 33 #[v, .int .i64 op] w fun e w' => ∃ u, e = .returned u ∧ OInts w' w.heap.size u (takesM s op) ∧ (hasOpB s op = true → ∃ ad c, u = .slice (some ad) (takesM s op).length c) ∧ Below w.heap.size w w' := by
  obtain ⟨u, rfl, hr⟩ := h
  obtain ⟨sorts, ops⟩ := s
  have hn := hr.len
  obtain ⟨A, c, rfl, -⟩ := hr.form
  have H := Lib.hid (hr.keep (below_alloc w (.cells #[.int .i64 sorts, .slice A ops.length c] 25)))
  clear hr
  have hbW := Lib.hid (below_alloc w (.cells #[.int .i64 sorts, .slice A ops.length c] 25))
  have hbx := Lib.hid (box_cells w (.int .i64 sorts) (.slice A ops.length c) 25)
  cases hv : hasOpB ⟨sorts, ops⟩ op with
  | false =>
    have HL : Hid (takesM ⟨sorts, ops⟩ op = []) := by unfold Hid takesM; rw [hv]; rfl
    have Hv := Lib.hid hv
    clear hv
    go_enter Try.func33, Try.ntmps33
    go_wp2_with (go_at_call 61; refine (hasOp_any _ ⟨sorts, ops⟩ _ _ ⟨_, rfl, H.out⟩).mono ?_; rw [Hv.out]; rintro e w1 ⟨rfl, hb⟩)
    go_ret
    exact ⟨_, rfl, by rw [HL.out]; exact OInts.nil _ _, (fun h => by cases h), hbW.out.trans (hb.mono (by simp))⟩
  | true =>
    obtain ⟨k, rfl, hk, hval⟩ := hasOp_nat hv
    simp only at hk
    have hvr := valid_row hval hk
    have hvs := (valid_sorts hval).2.1
    have HL0 := takes_nat hv hk
    obtain ⟨b, o, c', u', e, hcell, hri⟩ := H.out.at_ hk
    cases e
    simp only at HL0 hvr hvs
    generalize ops[k] = row at hcell hri HL0 hvr
    have hr1 := hvr.1
    have hr3 := hvr.2.1
    obtain ⟨A3, c3, rfl, hc3, hc4⟩ := hri.form
    obtain ⟨b', o', c5, e, hx⟩ := hri.at_ (k := 0) (by omega)
    cases e
    have HI := Lib.hid hri.dropLast
    have HZ := Lib.hid (raised_zero (xs := row.dropLast) (fun x hx => by have := hvr.2.2 x ((List.dropLast_sublist row).subset hx); omega))
    have HCell := Lib.hid hcell
    have HL := Lib.hid HL0
    have Hv := Lib.hid hv
    clear hv HL0 hx hcell hri hval hvr hvs
    go_enter Try.func33, Try.ntmps33
    go_wp2_with (go_at_call 61; refine (hasOp_any _ ⟨sorts, ops⟩ _ _ ⟨_, rfl, H.out⟩).mono ?_; rw [Hv.out]; rintro e w1 ⟨rfl, hb⟩; have f1 := cell_keep hb hbx.out.2; have f2 := cell_keep hb HCell.out; have HI1 := Lib.hid (HI.out.keep hb); have HB := Lib.hid hb; clear hb)
    refine (raisedRow_any _ row.dropLast _ _ HI1.out (by rw [List.length_dropLast]; omega)).mono ?_
    rw [HZ.out]
    rintro e w2 ⟨u, rfl, ho, had, hb2⟩
    have HO := Lib.hid ho
    have HAD := Lib.hid had
    have HB2 := Lib.hid hb2
    clear ho had hb2
    go_wp2
    go_ret
    have s1 := HB.out.size
    simp at s1
    exact ⟨_, rfl, by rw [HL.out]; exact HO.out.base (by omega), fun _ => by rw [HL.out]; exact HAD.out, (hbW.out.trans (HB.out.mono (by simp))).trans (HB2.out.mono (by omega))⟩

theorem step_append_own {P : Program} {ops : Array Oper} {o : Oper} {a : Act} {w : World} {K : Act → World → Prop} {Q : Exit → Act → World → Prop} {E : Prop} (hgd : o.guard = none) (s x : Operand) (t : TypeId)
    (ho : o.op = .call { callee := .builtin .append, args := #[s, x], argTypes := #[t, t] })
    (base : Nat) (e : TypeId) (i : TypeInfo) (z : Value) (size bytes : Nat) (ht : P.underlying t = some (.slice e)) (hi : P.info? e = some i) (hz : i.zero = some z)
    (hsize : i.size = size) (hby : i.bytes = bytes) (hzs : z.cells.size = size) (hsz : 0 < size)
    (v : Value) (n : Nat) (xs : List Value) (hs : a.eval s = v) (hown : w.ownsRow base e size v n xs)
    (ad : Addr) (m c : Nat) (news : List Value) (hx : a.eval x = .slice (some ad) m c) (hl : news.length = m * size) (hnews : ∀ j u, news[j]? = some u → w.cell? (ad.add j) = some u) (h1 : ∀ u ∈ news, u.oneCell' = true)
    (h63 : n + m ≤ maxLen) (hbytes : (n + m) * bytes ≤ 140737488355328) (hbase : base ≤ w.heap.size)
    (h : ∀ v' w', w'.ownsRow base e size v' (n + m) (xs ++ news) → w.grownBy w' v.ownBlock → K (a.put o.dst v') w') :
    if Region.wanted o (yielded ops a.tmps) = true then Oper.wp P o a w K Q else E := by
  have hw : Region.wanted o (yielded ops a.tmps) = true := by simp [Region.wanted, hgd]
  rw [if_pos hw]
  exact wp_append_own w s x t ho base e i z size bytes ht hi hz hsize hby hzs hsz v n xs hs hown ad m c news hx hl hnews h1 h63 hbytes hbase fun v' w' h2 h3 _ => h v' w' h2 h3

set_option maxHeartbeats 800000 in
set_option maxRecDepth 100000 in
theorem specOpTakes_any (v : Value) (s : MSig) (op : Int) (w : World) (h : RSig w v s) :
    Calls Try.prog 32 #[v, .int .i64 op] w fun e w' => ∃ u, e = .returned u ∧ OInts w' w.heap.size u (takesM s op) ∧ Below w.heap.size w w' := by
  obtain ⟨i0, hi0, hz0, hz1, hz2⟩ := info_parts Try.tinfo_int
  obtain ⟨u, rfl, hr⟩ := h
  obtain ⟨sorts, ops⟩ := s
  have hn := hr.len
  obtain ⟨A, c, rfl, -⟩ := hr.form
  have H := Lib.hid (hr.keep (below_alloc w (.cells #[.int .i64 sorts, .slice A ops.length c] 25)))
  clear hr
  have hbW := Lib.hid (below_alloc w (.cells #[.int .i64 sorts, .slice A ops.length c] 25))
  have hbx := Lib.hid (box_cells w (.int .i64 sorts) (.slice A ops.length c) 25)
  cases hv : validB ⟨sorts, ops⟩ with
  | false =>
    have HL : Hid (takesM ⟨sorts, ops⟩ op = []) := by unfold Hid takesM hasOpB; rw [hv]; rfl
    have Hv := Lib.hid hv
    clear hv
    go_enter Try.func32, Try.ntmps32
    go_wp2_with (go_at_call 28; refine (specSigValid_any _ ⟨sorts, ops⟩ _ ⟨_, rfl, H.out⟩).mono ?_; rw [Hv.out]; rintro e w1 ⟨rfl, hb⟩)
    go_ret
    have s1 := hb.size
    simp at s1
    exact ⟨_, rfl, by rw [HL.out]; exact (own_empty w1).base (by omega), (hbW.out.trans (hb.mono (by simp))).alloc (by omega) _⟩
  | true =>
    cases hi : inB op 0 ((ops.length : Int) - 1) with
    | false =>
      have HL : Hid (takesM ⟨sorts, ops⟩ op = []) := by
        unfold Hid takesM hasOpB
        rw [if_neg]
        unfold inB at hi
        simp at hi ⊢
        omega
      have Hv := Lib.hid hv
      have Hi := Lib.hid hi
      clear hv hi
      go_enter Try.func32, Try.ntmps32
      go_wp2_with (first
        | (go_at_call 28; refine (specSigValid_any _ ⟨sorts, ops⟩ _ ⟨_, rfl, H.out⟩).mono ?_; rw [Hv.out]; rintro e w1 ⟨rfl, hb⟩; have f1 := cell_keep hb hbx.out.2)
        | (go_at_call 57; refine (l1In_is _ _ _ _ _ Hi.out).mono ?_; rintro e w' ⟨rfl, rfl⟩))
      go_ret
      have s1 := hb.size
      simp at s1
      exact ⟨_, rfl, by rw [HL.out]; exact (own_empty w1).base (by omega), (hbW.out.trans (hb.mono (by simp))).alloc (by omega) _⟩
    | true =>
      have hv' : hasOpB ⟨sorts, ops⟩ op = true := by
        unfold hasOpB inB at *
        simp [hv] at hi ⊢
        omega
      obtain ⟨k, rfl, hk, hval⟩ := hasOp_nat hv'
      simp only at hk
      have hvr := valid_row hval hk
      have HL0 := takes_nat hv' hk
      obtain ⟨b, o, c', u', e, hcell, hri⟩ := H.out.at_ hk
      cases e
      simp only at HL0 hvr
      generalize ops[k] = row at hcell hri HL0 hvr
      have hr1 := hvr.1
      have hr3 := hvr.2.1
      obtain ⟨A3, c3, rfl, hc3, hc4⟩ := hri.form
      obtain ⟨b', o', c5, e, hx⟩ := hri.at_ (k := 0) (by omega)
      cases e
      have HI := Lib.hid hri.dropLast
      have HCell := Lib.hid hcell
      have HL := Lib.hid HL0
      have Hv := Lib.hid hv
      have Hi := Lib.hid hi
      have hk' : (k : Int) < (ops.length : Int) := by omega
      clear hv hi hv' HL0 hx hcell hri hval hvr
      go_enter Try.func32, Try.ntmps32
      go_wp2_with (first
        | (go_at_call 28; refine (specSigValid_any _ ⟨sorts, ops⟩ _ ⟨_, rfl, H.out⟩).mono ?_; rw [Hv.out]; rintro e w1 ⟨rfl, hb⟩; have f1 := cell_keep hb hbx.out.2; have f2 := cell_keep hb HCell.out; have HI1 := Lib.hid (HI.out.keep hb); have HB := Lib.hid hb; clear hb)
        | (go_at_call 57; refine (l1In_is _ _ _ _ _ Hi.out).mono ?_; rintro e w' ⟨rfl, rfl⟩))
      obtain ⟨m, hm⟩ : ∃ m, row.length = m + 1 := ⟨row.length - 1, by omega⟩
      have hs1 : IntKind.i64.wrap ((row.length : Int) - 1) = (m : Int) := by rw [IntKind.wrap_i64]; omega
      have hs2 : (0 : Int) ≤ (m : Int) := by omega
      have hs4 : (m : Int) ≤ (c3 : Int) := by omega
      have HNEWS := Lib.hid (news_of (HI1.out.keep (below_alloc w1 (.cells #[] 3))))
      have hm3 : m ≤ 2 := by omega
      have HM := Lib.hid hm
      clear hm
      have ea := World.new_ne w1 _ f1
      have eb := World.new_ne w1 _ f2
      go_region_held3 (fun w' => w'.cell? ⟨w.heap.size, 1, none⟩ = some (.slice (some ⟨b, o, none⟩) ops.length c) ∧ w'.cell? ⟨b, o + k, none⟩ = some (.slice (some ⟨b', o', none⟩) row.length c3)) (first | go_keep | exact ⟨cell_keep (bel_grow hgrow2 (fun k e => by injection e with e; exact Nat.le_of_eq e)) f1, cell_keep (bel_grow hgrow2 (fun k e => by injection e with e; exact Nat.le_of_eq e)) f2⟩)
        ((refine step_append_own (by rfl) _ _ 26 (by rfl) w1.heap.size 3 i0 (.int .i64 0) 1 8 Try.underlying26 hi0 hz0 hz1 hz2 rfl (by omega) _ 0 [] (by rfl) ((own_empty w1).drew) ⟨b', o', none⟩ m c3 (row.dropLast.map (Value.int .i64)) (by rfl) (by rw [List.length_map, List.length_dropLast, HM.out]; simp) HNEWS.out (ints_one _) (by rw [maxLen_eq]; omega) (by omega) (by simp) ?_; intro v' w2 hown2 hgrow2))
      have HBG := Lib.hid (bel_grow hgrow2 (fun k e => by injection e with e; exact Nat.le_of_eq e))
      have HO2 := Lib.hid hown2
      clear hgrow2 hown2 hs1 hs2 hs4 ea eb f1 f2
      go_wp2
      go_ret
      have s1 := HB.out.size
      simp at s1
      refine ⟨_, rfl, ?_, (hbW.out.trans (HB.out.mono (by simp))).trans (HBG.out.mono (by omega))⟩
      rw [HL.out]
      refine OInts.base (B := w1.heap.size) ?_ (by omega)
      have h := HO2.out
      unfold OInts
      rw [List.length_dropLast, HM.out]
      simpa using h
end Go.Proofs.Ytcbjfedhebeogac
