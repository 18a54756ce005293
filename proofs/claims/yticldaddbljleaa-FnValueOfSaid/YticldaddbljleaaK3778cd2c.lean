/- A callee that changes one inner row of an own list of rows. · l4Next and l5Limits of package spec. · The draw of a signature and a model (l20Model). · DrawModelOk. -/
import Derived.Test.YticldaddbljleaaKcf3118fc
import Derived.Laws.OwnMore
namespace Go.Proofs.Yticldaddbljleaa
section
open Go.RowKit

/-- the inner row u (place k) is given, and what it is behind the callee -/
theorem ORows.inner {w w1 : World} {B k : Nat} {v u : Value} {us : List Value} {rows : List (List Int)} {row row0 : List Int}
    (h1 : w.ownsRow B 26 1 v rows.length us) (h2 : us.length = rows.length)
    (h3 : ∀ (j : Nat) (u : Value) (row : List Int), us[j]? = some u → rows[j]? = some row → OInts w B u row)
    (h4 : ∀ (i j : Nat) (u u' : Value), i < j → us[i]? = some u → us[j]? = some u' → u.ownBlock = none ∨ u.ownBlock ≠ u'.ownBlock)
    (hk : us[k]? = some u) (hb : u.ownBlock ≠ none) (h0 : OInts w B u row0) (hu : OInts w1 B u row) (hg : w.grownBy w1 u.ownBlock) : ORows w1 B v (rows.set k row) := by
  have hkl : k < rows.length := by rw [← h2]; exact (List.getElem?_eq_some_iff.1 hk).1
  have hvu : v.ownBlock = none ∨ v.ownBlock ≠ u.ownBlock := by
    rcases h0.blk_ne h1 with e | e
    · exact absurd e hb
    · exact .inr fun x => e x.symm
  refine ⟨us, by rw [List.length_set]; exact own_grown h1 hg hvu, by rw [List.length_set]; exact h2, fun j x r hx hr => ?_, h4⟩
  by_cases hjk : k = j
  · subst hjk
    rw [List.getElem?_set_self hkl] at hr
    rw [hk] at hx
    cases hx
    cases hr
    exact hu
  · rw [List.getElem?_set_ne hjk] at hr
    refine own_grown (h3 j x r hx hr) hg ?_
    rcases Nat.lt_or_ge j k with hlt | hge
    · exact h4 j k x u hlt hx hk
    · rcases h4 k j u x (by omega) hk hx with e | e
      · exact absurd e hb
      · exact .inr fun y => e y.symm
theorem own_at0 {w : World} {B : Nat} {v : Value} {xs : List Int} (h : OInts w B v xs) (hx : 0 < xs.length) : ∃ g c, v = .slice (some ⟨g, 0, none⟩) xs.length c ∧ B ≤ g := by
  rcases h.2 with ⟨e, e2⟩ | ⟨g', cap, cur, e, hg, r⟩
  · obtain ⟨b, o, c, e3, -⟩ := h.reads.at_ hx
    rw [e] at e3
    cases e3
  · exact ⟨g', cap, e, hg⟩
/-- one inner row of an own list of rows, and what the list is when it has changed -/
theorem ORows.at_own {w : World} {B g n c k : Nat} {rows : List (List Int)} (h : ORows w B (.slice (some ⟨g, 0, none⟩) n c) rows) (hk : k < rows.length) (hne : 0 < rows[k].length) :
    ∃ gi ci, w.cell? ⟨g, k, none⟩ = some (.slice (some ⟨gi, 0, none⟩) rows[k].length ci) ∧ OInts w B (.slice (some ⟨gi, 0, none⟩) rows[k].length ci) rows[k] ∧ B ≤ gi ∧
      ∀ (w1 : World) (row : List Int), OInts w1 B (.slice (some ⟨gi, 0, none⟩) rows[k].length ci) row → w.grownBy w1 (some gi) → ORows w1 B (.slice (some ⟨g, 0, none⟩) n c) (rows.set k row) := by
  obtain ⟨us, h1, h2, h3, h4⟩ := h
  have hu : us[k]? = some us[k] := List.getElem?_eq_getElem (by omega)
  have ho := h3 k _ _ hu (List.getElem?_eq_getElem hk)
  obtain ⟨A, c', e, -, -, hc⟩ := own_reads h1
  obtain ⟨b, o, eA, ec⟩ := hc k _ hu
  injection e with e1 e2 e3
  rw [eA] at e1
  injection e1 with e1
  injection e1 with x1 x2
  subst x1 x2
  generalize us[k] = u at hu ho ec
  obtain ⟨gi, ci, rfl, hg⟩ := own_at0 ho hne
  refine ⟨gi, ci, by simpa using ec, ho, hg, fun w1 row hr hgr => ORows.inner h1 h2 h3 h4 hu (by intro q; cases q) ho hr hgr⟩
end

section
open Go.RowKit
set_option linter.unusedVariables false
set_option linter.unusedSimpArgs false

theorem nextM_carry {zs xs : List Int} {m : Nat} (hz : m < zs.length) (hx : m < xs.length) (h : (nextM (zs.drop (m + 1)) (xs.drop (m + 1))).2 = false) :
    nextM (zs.drop m) (xs.drop m) = if xs[m] + 1 < zs[m] then ((xs[m] + 1) :: (nextM (zs.drop (m + 1)) (xs.drop (m + 1))).1, true) else (0 :: (nextM (zs.drop (m + 1)) (xs.drop (m + 1))).1, false) := by
  rw [List.drop_eq_getElem_cons hz, List.drop_eq_getElem_cons hx]
  simp only [nextM, h]
  simp
theorem nextM_pre : ∀ {zs xs : List Int} {m : Nat}, m ≤ zs.length → m ≤ xs.length → (nextM (zs.drop m) (xs.drop m)).2 = true → nextM zs xs = (xs.take m ++ (nextM (zs.drop m) (xs.drop m)).1, true)
  | zs, xs, 0, _, _, h => by
    simp only [List.drop_zero] at h ⊢
    rw [List.take_zero, List.nil_append, ← h]
  | [], _, m + 1, h1, _, _ => by simp at h1
  | _, [], m + 1, _, h2, _ => by simp at h2
  | z :: zs, x :: xs, m + 1, h1, h2, h => by
    simp only [List.drop_succ_cons] at h ⊢
    have := nextM_pre (zs := zs) (xs := xs) (m := m) (by simpa using h1) (by simpa using h2) h
    simp only [nextM, this]
    simp
theorem set_take {xs tl : List Int} {m : Nat} (h : m < xs.length) (y : Int) : (xs.take (m + 1) ++ tl).set m y = xs.take m ++ (y :: tl) := by
  rw [List.take_succ_eq_append_getElem h, List.append_assoc, List.set_append, if_neg (by rw [List.length_take]; omega)]
  congr 1
  rw [List.length_take, Nat.min_eq_left (by omega), Nat.sub_self]
  rfl
theorem grown_trans {a b c : World} {row : Option Nat} (h : a.grownBy b row) (k : b.grownBy c row) : a.grownBy c row :=
  ⟨k.os.trans h.os, k.tape.trans h.tape, k.output.trans h.output, Nat.le_trans h.size k.size, fun i hi hne => (k.block i (Nat.lt_of_lt_of_le hi h.size) hne).trans (h.block i hi hne)⟩
theorem grown_refl (w : World) (row : Option Nat) : w.grownBy w row := ⟨rfl, rfl, rfl, Nat.le_refl _, fun _ _ _ => rfl⟩
theorem own_cell {w : World} {B g n c : Nat} {xs : List Int} (h : OInts w B (.slice (some ⟨g, 0, none⟩) n c) xs) {k : Nat} (hk : k < xs.length) : w.cell? ⟨g, k, none⟩ = some (.int .i64 xs[k]) ∧ w.frozen? ⟨g, k, none⟩ = false := by
  obtain ⟨b, o, c', e, hc⟩ := h.reads.at_ hk
  injection e with e1 e2
  injection e1 with e1
  injection e1 with e1 e3
  subst e1 e3
  refine ⟨by simpa using hc, ?_⟩
  rcases h.2 with ⟨e, _⟩ | ⟨g', cap, cur, e, hg, hh, r⟩
  · cases e
  · injection e with e1 e2
    injection e1 with e1
    injection e1 with e1 e3
    subst e1
    exact blk_free hh k
theorem own_set {w : World} {B g n c : Nat} {xs : List Int} (h : OInts w B (.slice (some ⟨g, 0, none⟩) n c) xs) (hn : n = xs.length) (k : Nat) (y : Int) :
    OInts (w.setCell ⟨g, k, none⟩ (.int .i64 y)) B (.slice (some ⟨g, 0, none⟩) n c) (xs.set k y) ∧ w.grownBy (w.setCell ⟨g, k, none⟩ (.int .i64 y)) (some g) := by
  subst hn
  have := h.stored k (.int .i64 y)
  refine ⟨?_, this.2⟩
  unfold OInts
  rw [List.length_set, List.map_set]
  exact this.1

theorem own_drew {w : World} {B : Nat} {v : Value} {xs : List Int} (h : OInts w B v xs) : OInts w.drew B v xs := h
theorem grown_drew {a w : World} {row : Option Nat} (h : a.grownBy w row) : a.grownBy w.drew row := ⟨h.os, h.tape, h.output, h.size, h.block⟩
theorem own_drew2 {w : World} {B : Nat} {v u : Value} {xs : List Int} {p : Addr} (h : OInts (w.setCell p u) B v xs) : OInts (w.drew.setCell p u) B v xs := h
theorem grown_drew2 {a w : World} {row : Option Nat} {p : Addr} {u : Value} (h : a.grownBy (w.setCell p u) row) : a.grownBy (w.drew.setCell p u) row := ⟨h.os, h.tape, h.output, h.size, h.block⟩
set_option maxHeartbeats 1600000 in
set_option maxRecDepth 100000 in
theorem l4Next_any (zs xs : List Int) (B g c : Nat) (w : World) (lv : Value) (h : OInts w B (.slice (some ⟨g, 0, none⟩) xs.length c) xs) (hlen : xs.length = zs.length) (hs : xs.length ≤ 1000000) (hb : ∀ x ∈ xs, 0 ≤ x ∧ x ≤ 1000000) (hl : ∀ W', w.grownBy W' (some g) → RInts W' lv zs) :
    Calls Try.prog 93 #[.slice (some ⟨g, 0, none⟩) xs.length c, lv] w fun e w' => e = .returned (.bool (nextM zs xs).2) ∧ OInts w' B (.slice (some ⟨g, 0, none⟩) xs.length c) (nextM zs xs).1 ∧ w.grownBy w' (some g) ∧ w'.heap.size = w.heap.size := by
  have HL := Lib.hid hl
  have HBX := Lib.hid hb
  have H := Lib.hid h
  obtain ⟨Al, cl, rfl, -⟩ := (hl w (grown_refl _ _)).form
  have HLEN := Lib.hid hlen
  have hw0 : IntKind.i64.wrap ((xs.length : Int) - 1) = (xs.length : Int) - 1 := by rw [IntKind.wrap_i64]; omega
  clear h hl hb hlen
  go_enter Try.func93, Try.ntmps93
  go_wp2
  go_loopw [5] (fun i wr => ∃ r : Nat, r ≤ xs.length ∧ i = .int .i64 ((r : Int) - 1) ∧ OInts wr B (.slice (some ⟨g, 0, none⟩) xs.length c) (xs.take r ++ (nextM (zs.drop r) (xs.drop r)).1) ∧ (nextM (zs.drop r) (xs.drop r)).2 = false ∧ w.grownBy wr (some g) ∧ wr.heap.size = w.heap.size) (fun i _ => (intOf i + 1).toNat)
  case atStart =>
    have e1 : zs.drop xs.length = [] := List.drop_of_length_le (by have := HLEN.out; omega)
    refine ⟨xs.length, Nat.le_refl _, rfl, ?_, by rw [e1]; rfl, grown_refl _ _, rfl⟩
    rw [e1, take_all (Nat.le_refl _)]
    simp only [nextM, List.append_nil]
    exact H.out
  case round =>
    obtain ⟨r, hr, rfl, ho, hfl, hg, hz⟩ := hrel
    have HG := Lib.hid hg
    have HZ := Lib.hid hz
    cases r with
    | zero =>
      simp only [List.drop_zero, List.take_zero, List.nil_append] at ho hfl
      have HO := Lib.hid ho
      have HFL := Lib.hid hfl
      have e0 : ((0 : Nat) : Int) - 1 = -1 := rfl
      rw [e0]
      clear ho hfl hg hz
      go_wp2
      go_ret
      exact ⟨ret_bool HFL.out.symm, HO.out, HG.out, HZ.out⟩
    | succ m =>
      have e0 : ((m + 1 : Nat) : Int) - 1 = (m : Int) := by omega
      rw [e0]
      have hm : m < xs.length := by omega
      have hmz : m < zs.length := by have := HLEN.out; omega
      have hm' : (m : Int) < (xs.length : Int) := by omega
      have hmz' : (m : Int) < (zs.length : Int) := by omega
      have hm0 : (0 : Int) ≤ (m : Int) := by omega
      have HCA := Lib.hid (nextM_carry hmz hm hfl)
      have HPR := Lib.hid (fun h => nextM_pre (zs := zs) (xs := xs) (m := m) (Nat.le_of_lt hmz) (by omega) h)
      have hlm : m < (xs.take (m + 1) ++ (nextM (zs.drop (m + 1)) (xs.drop (m + 1))).1).length := by rw [List.length_append, List.length_take]; omega
      have htl : (nextM (zs.drop (m + 1)) (xs.drop (m + 1))).1.length = xs.length - (m + 1) := by rw [nextM_len (by rw [List.length_drop, List.length_drop, HLEN.out]), List.length_drop]
      have HTL := Lib.hid htl
      generalize (nextM (zs.drop (m + 1)) (xs.drop (m + 1))).1 = tl at ho HCA hlm HTL
      obtain ⟨c1, c2⟩ := own_cell ho hlm
      have hgx : (xs.take (m + 1) ++ tl)[m] = xs[m] := by
        rw [List.getElem_append_left (by rw [List.length_take]; omega), List.getElem_take]
      rw [hgx] at c1
      obtain ⟨o1, gg1⟩ := own_set ho (by rw [List.length_append, List.length_take, HTL.out]; omega) m (xs[m] + 1)
      rw [set_take hm] at o1
      have hxb := HBX.out _ (List.getElem_mem hm)
      have hw1 : IntKind.i64.wrap (xs[m] + 1) = xs[m] + 1 := by rw [IntKind.wrap_i64]; omega
      have HO1 := Lib.hid o1
      have HG1 := Lib.hid (grown_trans hg gg1)
      obtain ⟨bl, ol, cl', e, hlz⟩ := (HL.out _ HG1.out).at_ hmz
      cases e
      have hlx : m < (xs.take m ++ (xs[m] + 1) :: tl).length := by rw [List.length_append, List.length_take, List.length_cons]; omega
      obtain ⟨d1, d2⟩ := own_cell o1 hlx
      have hgx2 : (xs.take m ++ (xs[m] + 1) :: tl)[m] = xs[m] + 1 := by
        rw [List.getElem_append_right (by rw [List.length_take]; omega)]
        simp [List.length_take, Nat.min_eq_left (Nat.le_of_lt hm)]
      rw [hgx2] at d1
      obtain ⟨o2, gg2⟩ := own_set o1 (by rw [List.length_append, List.length_take, List.length_cons, HTL.out]; omega) m 0
      have hst2 : (xs.take m ++ (xs[m] + 1) :: tl).set m 0 = xs.take m ++ (0 :: tl) := by
        rw [List.set_append, if_neg (by rw [List.length_take]; omega)]
        congr 1
        rw [List.length_take, Nat.min_eq_left (by omega), Nat.sub_self]; rfl
      rw [hst2] at o2
      have HO2 := Lib.hid o2
      have HG2 := Lib.hid (grown_trans HG1.out gg2)
      have hz1 : (wr.setCell ⟨g, m, none⟩ (.int .i64 (xs[m] + 1))).heap.size = w.heap.size := by simpa [World.setCell] using hz
      have HZ1 := Lib.hid hz1
      generalize xs[m] = x at c1 hw1 d1 HO1 HG1 hlz HCA hxb HO2 HG2 HZ1 d2
      generalize zs[m] = z at hlz HCA
      generalize hWs : wr.setCell ⟨g, m, none⟩ (.int .i64 (x + 1)) = Ws at d1 d2 HO1 HG1 hlz HO2 HG2 HZ1
      clear hg hz ho hlm htl hgx o1 gg1 hlx hgx2 o2 gg2 hst2 hz1 hfl
      by_cases hlt : x + 1 < z
      · have HE := Lib.hid (HCA.out.trans (if_pos hlt))
        have HF := Lib.hid (HPR.out (by rw [HE.out]))
        go_wp2_with fail
        clear hWs c1 c2
        refine wp_region_held_drew (S := (fun w' => w'.cell? ⟨g, m, none⟩ = some (.int .i64 (x + 1)) ∧ w'.cell? ⟨bl, ol + m, none⟩ = some (.int .i64 z))) (by kernel_rfl) ?_ (fun hHeld => ?_)
        · exact ⟨d1, hlz⟩
        refine wpAnyH_take (i := 0) (oi := _) (v := ?_) rfl (by kernel_rfl) (by kernel_rfl) (by kernel_rfl) (fun _ _ _ h => h) (Or.inl ⟨by rfl, ?_⟩) (by assumption) ?_
        rotate_left
        · first | (intro w' hSw; (try dsimp only at hSw); go_simp; done) | (intro w' hSw; (try dsimp only at hSw); go_simp; with_reducible rfl)
        try simp only [Act.put, List.getElem_toArray, List.getElem_cons_zero, List.getElem_cons_succ, List.setIfInBounds_toArray, List.set_cons_zero, List.set_cons_succ]
        refine wpAnyH_take (i := 1) (oi := _) (v := ?_) rfl (by kernel_rfl) (by kernel_rfl) (by kernel_rfl) (fun _ _ _ h => h) (Or.inl ⟨by rfl, ?_⟩) (by assumption) ?_
        rotate_left
        · first | (intro w' hSw; (try dsimp only at hSw); go_simp; done) | (intro w' hSw; (try dsimp only at hSw); go_simp; with_reducible rfl)
        try simp only [Act.put, List.getElem_toArray, List.getElem_cons_zero, List.getElem_cons_succ, List.setIfInBounds_toArray, List.set_cons_zero, List.set_cons_succ]
        refine wpAnyH_take (i := 2) (oi := _) (v := ?_) rfl (by kernel_rfl) (by kernel_rfl) (by kernel_rfl) (fun _ _ _ h => h) (Or.inl ⟨by rfl, ?_⟩) (by assumption) ?_
        rotate_left
        · first | (intro w' hSw; (try dsimp only at hSw); go_simp; done) | (intro w' hSw; (try dsimp only at hSw); go_simp; with_reducible rfl)
        try simp only [Act.put, List.getElem_toArray, List.getElem_cons_zero, List.getElem_cons_succ, List.setIfInBounds_toArray, List.set_cons_zero, List.set_cons_succ]
        refine wpAnyH_take (i := 3) (oi := _) (v := ?_) rfl (by kernel_rfl) (by kernel_rfl) (by kernel_rfl) (fun _ _ _ h => h) (Or.inl ⟨by rfl, ?_⟩) (by assumption) ?_
        rotate_left
        · first | (intro w' hSw; (try dsimp only at hSw); go_simp; done) | (intro w' hSw; (try dsimp only at hSw); go_simp; with_reducible rfl)
        try simp only [Act.put, List.getElem_toArray, List.getElem_cons_zero, List.getElem_cons_succ, List.setIfInBounds_toArray, List.set_cons_zero, List.set_cons_succ]
        refine wpAnyH_take (i := 4) (oi := _) (v := ?_) rfl (by kernel_rfl) (by kernel_rfl) (by kernel_rfl) (fun _ _ _ h => h) (Or.inl ⟨by rfl, ?_⟩) (by assumption) ?_
        rotate_left
        · first | (intro w' hSw; (try dsimp only at hSw); go_simp; done) | (intro w' hSw; (try dsimp only at hSw); go_simp; with_reducible rfl)
        try simp only [Act.put, List.getElem_toArray, List.getElem_cons_zero, List.getElem_cons_succ, List.setIfInBounds_toArray, List.set_cons_zero, List.set_cons_succ]
        refine wpAnyH_take (i := 5) (oi := _) (v := ?_) rfl (by kernel_rfl) (by kernel_rfl) (by kernel_rfl) (fun _ _ _ h => h) (Or.inl ⟨by rfl, ?_⟩) (by assumption) ?_
        rotate_left
        · first | (intro w' hSw; (try dsimp only at hSw); go_simp; done) | (intro w' hSw; (try dsimp only at hSw); go_simp; with_reducible rfl)
        try simp only [Act.put, List.getElem_toArray, List.getElem_cons_zero, List.getElem_cons_succ, List.setIfInBounds_toArray, List.set_cons_zero, List.set_cons_succ]
        refine wpAnyH_take (i := 6) (oi := _) (v := ?_) rfl (by kernel_rfl) (by kernel_rfl) (by kernel_rfl) (fun _ _ _ h => h) (Or.inl ⟨by rfl, ?_⟩) (by assumption) ?_
        rotate_left
        · first | (intro w' hSw; (try dsimp only at hSw); go_simp; done) | (intro w' hSw; (try dsimp only at hSw); go_simp; with_reducible rfl)
        try simp only [Act.put, List.getElem_toArray, List.getElem_cons_zero, List.getElem_cons_succ, List.setIfInBounds_toArray, List.set_cons_zero, List.set_cons_succ]
        refine wpAnyH_take (i := 7) (oi := _) (v := ?_) rfl (by kernel_rfl) (by kernel_rfl) (by kernel_rfl) (fun _ _ _ h => h) (Or.inl ⟨by rfl, ?_⟩) (by assumption) ?_
        rotate_left
        · first | (intro w' hSw; (try dsimp only at hSw); go_simp; done) | (intro w' hSw; (try dsimp only at hSw); go_simp; with_reducible rfl)
        try simp only [Act.put, List.getElem_toArray, List.getElem_cons_zero, List.getElem_cons_succ, List.setIfInBounds_toArray, List.set_cons_zero, List.set_cons_succ]
        refine wpAnyH_take (i := 8) (oi := _) (v := ?_) rfl (by kernel_rfl) (by kernel_rfl) (by kernel_rfl) (fun _ _ _ h => h) (Or.inl ⟨by rfl, ?_⟩) (by assumption) ?_
        rotate_left
        · first | (intro w' hSw; (try dsimp only at hSw); go_simp; done) | (intro w' hSw; (try dsimp only at hSw); go_simp; with_reducible rfl)
        try simp only [Act.put, List.getElem_toArray, List.getElem_cons_zero, List.getElem_cons_succ, List.setIfInBounds_toArray, List.set_cons_zero, List.set_cons_succ]
        refine wpAnyH_done (by kernel_rfl) ?_ _
        clear d1 d2 hlz
        go_wp2
        go_ret
        rw [HF.out, HE.out]
        exact ⟨rfl, own_drew HO1.out, grown_drew HG1.out, HZ1.out⟩
      · have HE := Lib.hid (HCA.out.trans (if_neg hlt))
        go_wp2_with fail
        clear hWs c1 c2
        have d3 : Ws.drew.frozen? ⟨g, m, none⟩ = false := d2
        have d4 : Ws.drew.cell? ⟨g, m, none⟩ = some (.int .i64 (x + 1)) := d1
        refine wp_region_held_drew (S := (fun w' => w'.cell? ⟨g, m, none⟩ = some (.int .i64 (x + 1)) ∧ w'.cell? ⟨bl, ol + m, none⟩ = some (.int .i64 z))) (by kernel_rfl) ?_ (fun hHeld => ?_)
        · exact ⟨d1, hlz⟩
        refine wpAnyH_take (i := 0) (oi := _) (v := ?_) rfl (by kernel_rfl) (by kernel_rfl) (by kernel_rfl) (fun _ _ _ h => h) (Or.inl ⟨by rfl, ?_⟩) (by assumption) ?_
        rotate_left
        · first | (intro w' hSw; (try dsimp only at hSw); go_simp; done) | (intro w' hSw; (try dsimp only at hSw); go_simp; with_reducible rfl)
        try simp only [Act.put, List.getElem_toArray, List.getElem_cons_zero, List.getElem_cons_succ, List.setIfInBounds_toArray, List.set_cons_zero, List.set_cons_succ]
        refine wpAnyH_take (i := 1) (oi := _) (v := ?_) rfl (by kernel_rfl) (by kernel_rfl) (by kernel_rfl) (fun _ _ _ h => h) (Or.inl ⟨by rfl, ?_⟩) (by assumption) ?_
        rotate_left
        · first | (intro w' hSw; (try dsimp only at hSw); go_simp; done) | (intro w' hSw; (try dsimp only at hSw); go_simp; with_reducible rfl)
        try simp only [Act.put, List.getElem_toArray, List.getElem_cons_zero, List.getElem_cons_succ, List.setIfInBounds_toArray, List.set_cons_zero, List.set_cons_succ]
        refine wpAnyH_take (i := 2) (oi := _) (v := ?_) rfl (by kernel_rfl) (by kernel_rfl) (by kernel_rfl) (fun _ _ _ h => h) (Or.inl ⟨by rfl, ?_⟩) (by assumption) ?_
        rotate_left
        · first | (intro w' hSw; (try dsimp only at hSw); go_simp; done) | (intro w' hSw; (try dsimp only at hSw); go_simp; with_reducible rfl)
        try simp only [Act.put, List.getElem_toArray, List.getElem_cons_zero, List.getElem_cons_succ, List.setIfInBounds_toArray, List.set_cons_zero, List.set_cons_succ]
        refine wpAnyH_take (i := 3) (oi := _) (v := ?_) rfl (by kernel_rfl) (by kernel_rfl) (by kernel_rfl) (fun _ _ _ h => h) (Or.inl ⟨by rfl, ?_⟩) (by assumption) ?_
        rotate_left
        · first | (intro w' hSw; (try dsimp only at hSw); go_simp; done) | (intro w' hSw; (try dsimp only at hSw); go_simp; with_reducible rfl)
        try simp only [Act.put, List.getElem_toArray, List.getElem_cons_zero, List.getElem_cons_succ, List.setIfInBounds_toArray, List.set_cons_zero, List.set_cons_succ]
        refine wpAnyH_take (i := 4) (oi := _) (v := ?_) rfl (by kernel_rfl) (by kernel_rfl) (by kernel_rfl) (fun _ _ _ h => h) (Or.inl ⟨by rfl, ?_⟩) (by assumption) ?_
        rotate_left
        · first | (intro w' hSw; (try dsimp only at hSw); go_simp; done) | (intro w' hSw; (try dsimp only at hSw); go_simp; with_reducible rfl)
        try simp only [Act.put, List.getElem_toArray, List.getElem_cons_zero, List.getElem_cons_succ, List.setIfInBounds_toArray, List.set_cons_zero, List.set_cons_succ]
        refine wpAnyH_take (i := 5) (oi := _) (v := ?_) rfl (by kernel_rfl) (by kernel_rfl) (by kernel_rfl) (fun _ _ _ h => h) (Or.inl ⟨by rfl, ?_⟩) (by assumption) ?_
        rotate_left
        · first | (intro w' hSw; (try dsimp only at hSw); go_simp; done) | (intro w' hSw; (try dsimp only at hSw); go_simp; with_reducible rfl)
        try simp only [Act.put, List.getElem_toArray, List.getElem_cons_zero, List.getElem_cons_succ, List.setIfInBounds_toArray, List.set_cons_zero, List.set_cons_succ]
        refine wpAnyH_take (i := 6) (oi := _) (v := ?_) rfl (by kernel_rfl) (by kernel_rfl) (by kernel_rfl) (fun _ _ _ h => h) (Or.inl ⟨by rfl, ?_⟩) (by assumption) ?_
        rotate_left
        · first | (intro w' hSw; (try dsimp only at hSw); go_simp; done) | (intro w' hSw; (try dsimp only at hSw); go_simp; with_reducible rfl)
        try simp only [Act.put, List.getElem_toArray, List.getElem_cons_zero, List.getElem_cons_succ, List.setIfInBounds_toArray, List.set_cons_zero, List.set_cons_succ]
        refine wpAnyH_take (i := 7) (oi := _) (v := ?_) rfl (by kernel_rfl) (by kernel_rfl) (by kernel_rfl) (fun _ _ _ h => h) (Or.inl ⟨by rfl, ?_⟩) (by assumption) ?_
        rotate_left
        · first | (intro w' hSw; (try dsimp only at hSw); go_simp; done) | (intro w' hSw; (try dsimp only at hSw); go_simp; with_reducible rfl)
        try simp only [Act.put, List.getElem_toArray, List.getElem_cons_zero, List.getElem_cons_succ, List.setIfInBounds_toArray, List.set_cons_zero, List.set_cons_succ]
        refine wpAnyH_take (i := 8) (oi := _) (v := ?_) rfl (by kernel_rfl) (by kernel_rfl) (by kernel_rfl) (fun _ _ _ h => h) (Or.inl ⟨by rfl, ?_⟩) (by assumption) ?_
        rotate_left
        · first | (intro w' hSw; (try dsimp only at hSw); go_simp; done) | (intro w' hSw; (try dsimp only at hSw); go_simp; with_reducible rfl)
        try simp only [Act.put, List.getElem_toArray, List.getElem_cons_zero, List.getElem_cons_succ, List.setIfInBounds_toArray, List.set_cons_zero, List.set_cons_succ]
        refine wpAnyH_done (by kernel_rfl) ?_ _
        clear d1 d2 hlz
        have hw9 : IntKind.i64.wrap ((m : Int) - 1) = (m : Int) - 1 := by rw [IntKind.wrap_i64]; omega
        go_wp2
        go_roundw
        case rel => exact ⟨m, by omega, rfl, by rw [HE.out]; exact own_drew2 HO2.out, by rw [HE.out], grown_drew2 HG2.out, by have := HZ1.out; simpa [World.setCell] using this⟩
        case measure => simp [intOf]
end

section
open Go.RowKit
set_option linter.unusedVariables false
set_option linter.unusedSimpArgs false

theorem OModel.past {w w' : World} {B g : Nat} {v : Value} {m : MModel} (h : OModel w B v m) (hg : w.grownBy w' (some g)) (hB : g < B) : OModel w' B v m := by
  obtain ⟨a, b, e, h1, C, hC, h2, h3⟩ := h
  exact ⟨a, b, e, own_past h1 hg hB, C, hC, h2, h3.grown hg (fun k e => by injection e with e; omega)⟩
theorem orows_not {w : World} {B b : Nat} {t : TypeId} {v : Value} {rows : List (List Int)} {cs : Array Value} (h : ORows w B v rows) (hb : w.heap[b]? = some (.cells cs t (0, 0))) (hne : 26 ≠ t) : v.ownBlock ≠ some b := by
  obtain ⟨us, h1, -⟩ := h
  exact own_not h1 hb hne
/-- at the end of l20Model: w3: the world with the local signature's box (block b1); wz: now -/
structure MoBase (w w3 wz : World) (g b1 : Nat) (sorts : Int) (u x y : Value) (rows : List (List Int)) (m : MModel) (q : Nat) : Prop where
  rs : w3.heap[w.heap.size]? = some (.cells #[.int .i64 0, .slice none 0 0] 25 (0, 0))
  rm : w3.heap[w.heap.size + 1]? = some (.cells #[.slice none 0 0, .slice none 0 0] 28 (0, 0))
  ls : w3.heap[b1]? = some (.cells #[.int .i64 sorts, u] 25 (0, 0))
  os : ORows w3 (w.heap.size + 2) u rows
  gw : w.grownBy w3 (some g)
  g3 : w3.grownBy wz (some g)
  gl : g < w.heap.size
  bl : w.heap.size + 1 < b1
  om : OModel wz w3.heap.size (.agg #[x, y]) m
  rd : RRd wz g q
/-- beside it the local model's box (block b2) -/
structure MoAt (w w3 wz : World) (g b1 b2 : Nat) (sorts : Int) (u x y : Value) (rows : List (List Int)) (m : MModel) (q : Nat) : Prop where
  base : MoBase w w3 wz g b1 sorts u x y rows m q
  lm : wz.heap[b2]? = some (.cells #[x, y] 28 (0, 0))
  b2 : w3.heap.size ≤ b2
theorem MoAt.later {w w3 wz w' : World} {g b1 b2 : Nat} {sorts : Int} {u x y : Value} {rows : List (List Int)} {m : MModel} {q q' : Nat} (h : MoAt w w3 wz g b1 b2 sorts u x y rows m q) (hg : wz.grownBy w' (some g)) (hr : RRd w' g q') : MoAt w w3 w' g b1 b2 sorts u x y rows m q' := by
  have h1 := h.base.gl
  have h2 := h.base.gw.size
  have h3 := h.b2
  exact ⟨⟨h.base.rs, h.base.rm, h.base.ls, h.base.os, h.base.gw, gr_trans h.base.g3 hg (fun x e => by injection e with e; exact .inl e.symm), h.base.gl, h.base.bl, h.base.om.past hg (by omega), hr⟩, gr_at hg (by omega) h.lm, h.b2⟩
theorem MoBase.here {w w3 wz : World} {g b1 : Nat} {sorts : Int} {u x y : Value} {rows : List (List Int)} {m : MModel} {q : Nat} (h : MoBase w w3 wz g b1 sorts u x y rows m q) :
    wz.heap[w.heap.size]? = some (.cells #[.int .i64 0, .slice none 0 0] 25 (0, 0)) ∧ wz.heap[w.heap.size + 1]? = some (.cells #[.slice none 0 0, .slice none 0 0] 28 (0, 0)) ∧ wz.heap[b1]? = some (.cells #[.int .i64 sorts, u] 25 (0, 0)) := by
  have h1 := h.gl
  have h2 := h.bl
  exact ⟨gr_at h.g3 (by omega) h.rs, gr_at h.g3 (by omega) h.rm, gr_at h.g3 (by omega) h.ls⟩
/-- a size is changed -/
theorem MoAt.size {w w3 wz : World} {g b1 b2 gx n c k : Nat} {sorts : Int} {u y : Value} {rows : List (List Int)} {m : MModel} {q : Nat} (h : MoAt w w3 wz g b1 b2 sorts u (.slice (some ⟨gx, 0, none⟩) n c) y rows m q) (hn : n = m.sizes.length) (z : Int) :
    MoAt w w3 (wz.setCell ⟨gx, k, none⟩ (.int .i64 z)) g b1 b2 sorts u (.slice (some ⟨gx, 0, none⟩) n c) y rows ⟨m.sizes.set k z, m.tables⟩ q := by
  have h1 := h.base.gl
  have h2 := h.base.gw.size
  obtain ⟨a, b, e, o1, C, hC, ub, o2⟩ := h.base.om
  injection e with e
  simp at e
  obtain ⟨e1, e2⟩ := e
  subst e1 e2
  have hx : w3.heap.size ≤ gx ∧ gx < wz.heap.size := own_lt o1 gx rfl
  have hx2 := ub gx rfl
  have hx3 : gx ≠ b2 := fun e => own_not o1 h.lm (by decide) (by rw [← e]; rfl)
  obtain ⟨p1, p2⟩ := own_set o1 hn k z
  exact ⟨⟨h.base.rs, h.base.rm, h.base.ls, h.base.os, h.base.gw, gr_trans h.base.g3 p2 (fun x e => by injection e with e; omega), h.base.gl, h.base.bl, ⟨_, _, rfl, p1, C, hC, ub, o2.setLow' hx2 k _⟩, h.base.rd.setCell (by omega) _⟩, (Below.heap_setCell _ ⟨gx, k, none⟩ _ b2 (fun e => hx3 e.symm)).trans h.lm, h.b2⟩
/-- an entry of a table is changed -/
theorem MoAt.entry {w w3 wz : World} {g b1 b2 gt gi n c ci k j : Nat} {sorts : Int} {u x : Value} {rows : List (List Int)} {m : MModel} {q : Nat} (h : MoAt w w3 wz g b1 b2 sorts u x (.slice (some ⟨gt, 0, none⟩) n c) rows m q) (hk : k < m.tables.length) (C : Nat)
    (hC : w3.heap.size ≤ C) (hx : OInts wz w3.heap.size x m.sizes) (ub : ∀ k, x.ownBlock = some k → k < C) (hi : OInts wz C (.slice (some ⟨gi, 0, none⟩) m.tables[k].length ci) m.tables[k])
    (hst : ∀ (w1 : World) (row : List Int), OInts w1 C (.slice (some ⟨gi, 0, none⟩) m.tables[k].length ci) row → wz.grownBy w1 (some gi) → ORows w1 C (.slice (some ⟨gt, 0, none⟩) n c) (m.tables.set k row)) (z : Int) :
    MoAt w w3 (wz.setCell ⟨gi, j, none⟩ (.int .i64 z)) g b1 b2 sorts u x (.slice (some ⟨gt, 0, none⟩) n c) rows ⟨m.sizes, m.tables.set k (m.tables[k].set j z)⟩ q := by
  have h1 := h.base.gl
  have h2 := h.base.gw.size
  have hl : C ≤ gi ∧ gi < wz.heap.size := own_lt hi gi rfl
  have hx3 : gi ≠ b2 := fun e => own_not hi h.lm (by decide) (by rw [← e]; rfl)
  obtain ⟨p1, p2⟩ := own_set hi rfl j z
  refine ⟨⟨h.base.rs, h.base.rm, h.base.ls, h.base.os, h.base.gw, gr_trans h.base.g3 p2 (fun x e => by injection e with e; omega), h.base.gl, h.base.bl, ⟨_, _, rfl, own_grown hx p2 ?_, C, hC, ub, hst _ _ p1 p2⟩, h.base.rd.setCell (by omega) _⟩, (Below.heap_setCell _ ⟨gi, j, none⟩ _ b2 (fun e => hx3 e.symm)).trans h.lm, h.b2⟩
  cases e : x.ownBlock with
  | none => exact .inl rfl
  | some k => right; intro e2; injection e2 with e2; have := ub k e; omega
/-- both results are written -/
theorem MoBase.fin {w w3 wz : World} {g b1 : Nat} {sorts : Int} {u x y : Value} {rows : List (List Int)} {m : MModel} {q : Nat} (h : MoBase w w3 wz g b1 sorts u x y rows m q) :
    let w9 := (((wz.setCell ⟨w.heap.size, 0, none⟩ (.int .i64 sorts)).setCell ⟨w.heap.size, 1, none⟩ u).setCell ⟨w.heap.size + 1, 0, none⟩ x).setCell ⟨w.heap.size + 1, 1, none⟩ y
    w9.heap[w.heap.size]? = some (.cells #[.int .i64 sorts, u] 25 (0, 0)) ∧ w9.heap[w.heap.size + 1]? = some (.cells #[x, y] 28 (0, 0)) ∧ OSig w9 w.heap.size (.agg #[.int .i64 sorts, u]) ⟨sorts, rows⟩ ∧ OModel w9 w.heap.size (.agg #[x, y]) m ∧ RRd w9 g q ∧ w.grownBy w9 (some g) := by
  intro w9
  obtain ⟨r1, r2, r3⟩ := h.here
  have h1 := h.gl
  have h2 := h.bl
  have h4 : b1 < w3.heap.size := (Array.getElem?_eq_some_iff.1 h.ls).1
  have hlow : ∀ k, w.heap.size + 2 ≤ k → w9.heap[k]? = wz.heap[k]? := fun k hk =>
    (((Below.heap_setCell _ ⟨w.heap.size + 1, 1, none⟩ y k (by show k ≠ w.heap.size + 1; omega)).trans (Below.heap_setCell _ ⟨w.heap.size + 1, 0, none⟩ x k (by show k ≠ w.heap.size + 1; omega))).trans (Below.heap_setCell _ ⟨w.heap.size, 1, none⟩ u k (by show k ≠ w.heap.size; omega))).trans (Below.heap_setCell _ ⟨w.heap.size, 0, none⟩ _ k (by show k ≠ w.heap.size; omega))
  have a1 := block_set (block_set r1 0 (.int .i64 sorts)) 1 u
  have a2 : ((wz.setCell ⟨w.heap.size, 0, none⟩ (.int .i64 sorts)).setCell ⟨w.heap.size, 1, none⟩ u).heap[w.heap.size + 1]? = _ := (Below.heap_setCell _ ⟨w.heap.size, 1, none⟩ u _ (by show w.heap.size + 1 ≠ w.heap.size; omega)).trans ((Below.heap_setCell _ ⟨w.heap.size, 0, none⟩ _ _ (by show w.heap.size + 1 ≠ w.heap.size; omega)).trans r2)
  refine ⟨(Below.heap_setCell _ ⟨w.heap.size + 1, 1, none⟩ y _ (by show w.heap.size ≠ w.heap.size + 1; omega)).trans ((Below.heap_setCell _ ⟨w.heap.size + 1, 0, none⟩ x _ (by show w.heap.size ≠ w.heap.size + 1; omega)).trans a1), block_set (block_set a2 0 x) 1 y, ⟨_, rfl, ?_⟩, ?_, ?_, ?_⟩
  · exact (h.os.same (fun k q1 q2 => (hlow k q1).trans (h.g3.block k q2 (fun e => by injection e with e; omega)))).base (by omega)
  · exact (h.om.same (fun k q1 q2 => hlow k (by omega))).base (by omega)
  · exact (((h.rd.setCell (by omega) _).setCell (by omega) _).setCell (by omega) _).setCell (by omega) _
  · exact gr_setCell (gr_setCell (gr_setCell (gr_setCell (gr_trans h.gw h.g3 (fun x e => by injection e with e; exact .inl e.symm)) (.inr (Nat.le_refl _)) _) (.inr (Nat.le_refl _)) _) (.inr (by show w.heap.size ≤ w.heap.size + 1; omega)) _) (.inr (by show w.heap.size ≤ w.heap.size + 1; omega)) _

theorem orows_at0 {w : World} {B : Nat} {v : Value} {rows : List (List Int)} (h : ORows w B v rows) (hx : 0 < rows.length) : ∃ g c, v = .slice (some ⟨g, 0, none⟩) rows.length c ∧ B ≤ g := by
  obtain ⟨us, h1, h2, h3, h4⟩ := h
  rcases h1.2 with ⟨e, e2⟩ | ⟨g', cap, cur, e, hg, r⟩
  · obtain ⟨A, c, e3, -, -, h5⟩ := own_reads h1
    obtain ⟨b, o, e4, -⟩ := h5 0 us[0] (List.getElem?_eq_getElem (by omega))
    rw [e, e4] at e3
    cases e3
  · exact ⟨g', cap, e, hg⟩
/-- a cell of a struct's box is no list's -/
theorem own_poke {w : World} {B b i : Nat} {e t : TypeId} {size n : Nat} {v x : Value} {zs : List Value} {cs : Array Value} (h : w.ownsRow B e size v n zs) (hb : w.heap[b]? = some (.cells cs t (0, 0))) (hne : e ≠ t) : (w.setCell ⟨b, i, none⟩ x).ownsRow B e size v n zs :=
  own_grown h (row := some b) ⟨rfl, rfl, rfl, by simp [World.setCell], fun k _ hk => Below.heap_setCell w ⟨b, i, none⟩ x k (by rintro rfl; exact hk rfl)⟩ (.inr (own_not h hb hne))
theorem ORows.poke {w : World} {B b i : Nat} {t : TypeId} {v x : Value} {rows : List (List Int)} {cs : Array Value} (h : ORows w B v rows) (hb : w.heap[b]? = some (.cells cs t (0, 0))) (hne : 26 ≠ t) (hne2 : 3 ≠ t) : ORows (w.setCell ⟨b, i, none⟩ x) B v rows := by
  obtain ⟨us, h1, h2, h3, h4⟩ := h
  exact ⟨us, own_poke h1 hb hne, h2, fun j x r a c => own_poke (h3 j x r a c) hb hne2, h4⟩
/-- one table more: w9: behind the append -/
theorem MoAt.table {w w3 wz w9 : World} {g b1 b2 C : Nat} {sorts : Int} {u x y v' rv : Value} {rows : List (List Int)} {m : MModel} {q : Nat} {o : Obj} {r : List Int} {t2 : TypeId} (h : MoAt w w3 wz g b1 b2 sorts u x y rows m q) (hC : w3.heap.size ≤ C)
    (hx : OInts wz w3.heap.size x m.sizes) (ub : ∀ k, x.ownBlock = some k → k < C) (hy : ORows wz C y m.tables) (hg : ((wz.alloc o).alloc (.cells #[rv] t2)).grownBy w9 y.ownBlock) (hv : ORows w9 C v' (m.tables ++ [r])) :
    MoAt w w3 (w9.setCell ⟨b2, 1, none⟩ v') g b1 b2 sorts u x v' rows ⟨m.sizes, m.tables ++ [r]⟩ q ∧ w9.heap[b2]? = some (.cells #[x, y] 28 (0, 0)) := by
  have h1 := h.base.gl
  have h2 := h.base.gw.size
  have h3 := h.b2
  have hyl : ∀ k, y.ownBlock = some k → C ≤ k := fun k e => by obtain ⟨us, a, -⟩ := hy; exact (own_lt a k e).1
  have hb2 : Below wz.heap.size wz ((wz.alloc o).alloc (.cells #[rv] t2)) := (below_alloc _ _).alloc (by simp) _
  have hne := orows_not hy h.lm (by decide)
  have hl9 : w9.heap[b2]? = some (.cells #[x, y] 28 (0, 0)) :=
    (hg.block b2 (by have := (Array.getElem?_eq_some_iff.1 h.lm).1; simp; omega) (fun e => hne e.symm)).trans ((hb2.block b2 (Array.getElem?_eq_some_iff.1 h.lm).1).trans h.lm)
  have hx9 : OInts w9 w3.heap.size x m.sizes := by
    refine own_grown (hx.keep hb2) hg ?_
    cases e : x.ownBlock with
    | none => exact .inl rfl
    | some k => right; intro e2; have := ub k e; have := hyl k e2.symm; omega
  refine ⟨⟨⟨h.base.rs, h.base.rm, h.base.ls, h.base.os, h.base.gw, gr_setCell (gr_trans (gr_below h.base.g3 hb2) hg (fun k e => .inr (by have := hyl k e; omega))) (.inr (by show w3.heap.size ≤ b2; omega)) v', h.base.gl, h.base.bl, ⟨_, _, rfl, own_poke hx9 hl9 (by decide), C, hC, ub, hv.poke hl9 (by decide) (by decide)⟩, ((h.base.rd.keep hb2).grown hg (fun k e => by have := hyl k e; omega)).setCell (by omega) _⟩, block_set hl9 1 v', h3⟩, hl9⟩

theorem keep2 {w : World} {b c i : Nat} {x y u : Value} (h : w.cell? ⟨c, i, none⟩ = some u) (hne : c ≠ b) : ((w.setCell ⟨b, 0, none⟩ x).setCell ⟨b, 1, none⟩ y).cell? ⟨c, i, none⟩ = some u :=
  (World.cell?_of_block ((Below.heap_setCell _ ⟨b, 1, none⟩ y c hne).trans (Below.heap_setCell w ⟨b, 0, none⟩ x c hne))).trans h
theorem drew_cell {w : World} {p : Addr} {v : Value} (h : w.cell? p = some v) : w.drew.cell? p = some v := h
theorem OModel.drew {x : World} {b : Nat} {v : Value} {m : MModel} (h : OModel x b v m) : OModel x.drew b v m := h
theorem osig_drew {x : World} {b : Nat} {v : Value} {s : MSig} (h : OSig x b v s) : OSig x.drew b v s := h
theorem gr_todrew {x w : World} {r : Option Nat} (h : w.grownBy x r) : w.grownBy x.drew r := ⟨h.os, h.tape, h.output, h.size, h.block⟩
/-- what l20Model answers -/
def MoPost (g p : Nat) (w : World) (e : Ending) (w' : World) : Prop :=
  ∃ (sv mv : Value) (s : MSig) (m : MModel) (q : Nat), e = .returned (.tuple #[sv, mv]) ∧ OSig w' w.heap.size sv s ∧ (s.ops.length ≤ 5 ∧ 0 ≤ s.sorts ∧ s.sorts ≤ 3) ∧ OModel w' w.heap.size mv m ∧ m.sizes.length ≤ 3 ∧ (∀ z ∈ m.sizes, 1 ≤ z ∧ z ≤ 4) ∧ m.tables.length ≤ 6 ∧ (∀ row ∈ m.tables, 1 ≤ row.length ∧ row.length ≤ 9) ∧ RRd w' g q ∧ q ≤ p + 200 ∧ w.grownBy w' (some g)

set_option maxHeartbeats 3200000 in
set_option maxRecDepth 100000 in
theorem model_any (g p : Nat) (n : Int) (w : World) (h : RRd w g p) (hp : p ≤ 10000000) (hn : 0 ≤ n) (hn2 : n ≤ 1000000) :
    Calls Try.prog 125 #[.pointer (some ⟨g, 0, none⟩), .int .i64 n] w (MoPost g p w) := by
  have hgl := h.lt
  obtain ⟨i1, hj, hy0, hy1, hy2⟩ := info_parts Try.info_ints
  obtain ⟨W, hW⟩ : ∃ W : World, W = (w.alloc (.cells #[.int .i64 0, .slice none 0 0] 25)).alloc (.cells #[.slice none 0 0, .slice none 0 0] 28) := ⟨_, rfl⟩
  have hb0 : Below w.heap.size w W := by rw [hW]; exact (below_alloc _ _).alloc (by simp) _
  have HB0 := Lib.hid hb0
  have HZ0 := Lib.hid (show W.heap.size = w.heap.size + 2 by rw [hW]; simp)
  have HRS0 := Lib.hid (show W.heap[w.heap.size]? = some (.cells #[.int .i64 0, .slice none 0 0] 25 (0, 0)) by rw [hW]; exact (heap_alloc_old _ _ (by simp)).trans (heap_alloc_new w _))
  have HRE0 := Lib.hid (show W.heap[w.heap.size + 1]? = some (.cells #[.slice none 0 0, .slice none 0 0] 28 (0, 0)) by rw [hW]; exact (congrArg (fun i => ((w.alloc (.cells #[.int .i64 0, .slice none 0 0] 25)).alloc (.cells #[.slice none 0 0, .slice none 0 0] 28)).heap[i]?) (by simp)).trans (heap_alloc_new (w.alloc (.cells #[.int .i64 0, .slice none 0 0] 25)) _))
  have HR0 := Lib.hid (h.keep hb0)
  have hW' := hW.symm
  clear hb0 hW h
  go_enter Try.func125, Try.ntmps125
  go_wp2_with fail
  clear hW'
  refine (sig_two g p _ _ HR0.out (by omega) (by omega) (by omega)).mono ?_
  rintro e w2 ⟨sv, ⟨sorts, rows⟩, q, rfl, ⟨u, rfl, ho⟩, hs1, hr2, hq2, hg2⟩
  obtain ⟨Au, cu, rfl, -⟩ := ho.reads.form
  simp only at hs1 ho
  have hzW := HZ0.out
  have hz2 : W.heap.size ≤ w2.heap.size := hg2.size
  have hgW : g < W.heap.size := by omega
  have hal := below_alloc w2 (.cells #[.int .i64 sorts, .slice Au rows.length cu] 25)
  have HG3 := Lib.hid (gr_trans (gr_below (gr_refl w g) HB0.out) (gr_alloc hg2 (.cells #[.int .i64 sorts, .slice Au rows.length cu] 25)) (fun x e => by injection e with e; exact .inl e.symm))
  have HBX := Lib.hid (heap_alloc_new w2 (.cells #[.int .i64 sorts, .slice Au rows.length cu] 25))
  have HRS3 := Lib.hid (show (w2.alloc (.cells #[.int .i64 sorts, .slice Au rows.length cu] 25)).heap[w.heap.size]? = some (.cells #[.int .i64 0, .slice none 0 0] 25 (0, 0)) from gr_at (gr_alloc hg2 _) (by omega) HRS0.out)
  have HRM3 := Lib.hid (show (w2.alloc (.cells #[.int .i64 sorts, .slice Au rows.length cu] 25)).heap[w.heap.size + 1]? = some (.cells #[.slice none 0 0, .slice none 0 0] 28 (0, 0)) from gr_at (gr_alloc hg2 _) (by omega) HRE0.out)
  have HO := Lib.hid (show ORows (w2.alloc (.cells #[.int .i64 sorts, .slice Au rows.length cu] 25)) (w.heap.size + 2) (.slice Au rows.length cu) rows by rw [← hzW]; exact ho.keep hal)
  have HR := Lib.hid (hr2.keep hal)
  clear ho hr2 hg2 hal
  generalize hW3 : w2.alloc (.cells #[.int .i64 sorts, .slice Au rows.length cu] 25) = w3 at HG3 HBX HO HR HRS3 HRM3
  have hz3 : w2.heap.size < w3.heap.size := (Array.getElem?_eq_some_iff.1 HBX.out).1
  have g0 := block_cell HBX.out 0
  have g1 := block_cell HBX.out 1
  simp at g0 g1
  have HRS := Lib.hid (show RSig w3 (.agg #[.int .i64 sorts, .slice Au rows.length cu]) ⟨sorts, rows⟩ from ⟨_, rfl, HO.out.reads⟩)
  have HS1 := Lib.hid hs1
  cases hv : validB ⟨sorts, rows⟩ with
  | false =>
    have HV := Lib.hid hv
    clear hv
    go_wp2_with fail
    clear hW3
    refine (specSigValid_any _ ⟨sorts, rows⟩ w3 HRS.out).mono ?_
    rw [HV.out]
    rintro e wz ⟨rfl, hb⟩
    replace g0 := cell_keep hb g0
    replace g1 := cell_keep hb g1
    have HMO := Lib.hid (show MoBase w w3 wz g w2.heap.size sorts (.slice Au rows.length cu) (.slice none 0 0) (.slice none 0 0) rows ⟨[], []⟩ q from
      ⟨HRS3.out, HRM3.out, HBX.out, HO.out, HG3.out, gr_below (gr_refl w3 g) hb, hgl, by omega, ⟨_, _, rfl, OInts.nil _ _, _, Nat.le_refl _, (fun k e => by cases e), ORows.nil _ _⟩, HR.out.keep hb⟩)
    clear hb
    obtain ⟨hrs, hre, -⟩ := HMO.out.here
    have D := Lib.hid HMO.out.fin
    have r0 := block_cell hrs 0
    have r1 := block_cell hrs 1
    have r2 := block_cell hre 0
    have r3 := block_cell hre 1
    have rf0 := block_free hrs 0
    have rf1 := block_free hrs 1
    have rf2 := block_free hre 0
    have rf3 := block_free hre 1
    simp at r0 r1 r2 r3
    clear hrs hre
    go_wp2
    obtain ⟨d1, d2, d3, d4, d5, d6⟩ := D.out
    generalize (((wz.setCell ⟨w.heap.size, 0, none⟩ (.int .i64 sorts)).setCell ⟨w.heap.size, 1, none⟩ (.slice Au rows.length cu)).setCell ⟨w.heap.size + 1, 0, none⟩ (.slice none 0 0)).setCell ⟨w.heap.size + 1, 1, none⟩ (.slice none 0 0) = w9 at d1 d2 d3 d4 d5 d6 ⊢
    have k0 := block_cell d1 0
    have k1 := block_cell d1 1
    have k2 := block_cell d2 0
    have k3 := block_cell d2 1
    simp at k0 k1 k2 k3
    clear r0 r1 r2 r3 rf0 rf1 rf2 rf3 g0 g1
    refine bodyPost_ret (v := .tuple #[.agg #[.int .i64 sorts, .slice Au rows.length cu], .agg #[.slice none 0 0, .slice none 0 0]]) (by simp [results, Try.results125, go_sem, k0, k1, k2, k3]) rfl ?_
    exact ⟨_, _, ⟨sorts, rows⟩, ⟨[], []⟩, q, rfl, d3, HS1.out, d4, by simp, (fun z hz => by cases hz), by simp, (fun z hz => by cases hz), d5, by omega, d6⟩
  | true =>
    have HV := Lib.hid hv
    clear hv
    go_wp2_with fail
    clear hW3
    refine (specSigValid_any _ ⟨sorts, rows⟩ w3 HRS.out).mono ?_
    rw [HV.out]
    rintro e w4 ⟨rfl, hb⟩
    replace g0 := cell_keep hb g0
    replace g1 := cell_keep hb g1
    have HG4 := Lib.hid (gr_below (gr_refl w3 g) hb)
    have HO4 := Lib.hid (HO.out.keep hb)
    have HR4 := Lib.hid (HR.out.keep hb)
    have hz4 : w3.heap.size ≤ w4.heap.size := hb.size
    clear hb
    go_wp2_with fail
    refine (modelOf_any ⟨sorts, rows⟩ HV.out g q w4 _ (w.heap.size + 2) ⟨_, rfl, HO4.out⟩ (by omega) HR4.out (by omega)).mono ?_
    rintro e w5 ⟨mv, m, q5, rfl, om, hsl, hss, htl, hts, hr5, hq5, hg5⟩
    obtain ⟨x, y, rfl, o1, C, hC, hub, o2⟩ := om
    have hz5 : w4.heap.size ≤ w5.heap.size := hg5.size
    simp only at hsl htl
    have HMO := Lib.hid (show MoAt w w3 (w5.alloc (.cells #[x, y] 28)) g w2.heap.size w5.heap.size sorts (.slice Au rows.length cu) x y rows m q5 from
      ⟨⟨HRS3.out, HRM3.out, HBX.out, HO.out, HG3.out, gr_alloc (gr_trans HG4.out hg5 (fun x e => by injection e with e; exact .inl e.symm)) _, hgl, by omega, ⟨_, _, rfl, (o1.keep (below_alloc w5 _)).base (by omega), C, by omega, hub, o2.keep (below_alloc w5 _)⟩, hr5.keep (below_alloc w5 _)⟩, heap_alloc_new w5 _, by omega⟩)
    have HSS := Lib.hid hss
    have HTS := Lib.hid hts
    obtain ⟨A0, c0, rfl, -⟩ := own_reads o1
    obtain ⟨us9, hu9, -⟩ := id o2
    obtain ⟨A1, c1, rfl, -⟩ := own_reads hu9
    have hvs := valid_sorts HV.out
    simp only at hvs
    have hml : m.tables.length ≤ 5 := by have := HS1.out; omega
    have hm1 : 1 ≤ m.sizes.length := by omega
    have hm3 : m.sizes.length ≤ 3 := by omega
    clear hss hts hr5 hg5 o1 o2 hub hu9 hsl htl hvs
    go_wp2_with fail
    refine (odd_any g q5 _ _ HMO.out.base.rd (by omega) hn hn2).mono ?_
    rintro e w7 ⟨b, q7, rfl, hr7, hq7, hg7⟩
    have HM7 := Lib.hid (HMO.out.later hg7 hr7)
    clear hr7 hg7 g0 g1
    go_upto_if 21 with fail
    go_cut [] (fun wx => ∃ (A0 A1 : Option Addr) (c0 c1 : Nat) (m' : MModel) (q' : Nat), MoAt w w3 wx g w2.heap.size w5.heap.size sorts (.slice Au rows.length cu) (.slice A0 m'.sizes.length c0) (.slice A1 m'.tables.length c1) rows m' q' ∧ m'.sizes.length ≤ 3 ∧ (∀ z ∈ m'.sizes, 1 ≤ z ∧ z ≤ 4) ∧ m'.tables.length ≤ 6 ∧ (∀ row ∈ m'.tables, 1 ≤ row.length ∧ row.length ≤ 9) ∧ q' ≤ p + 200)
    case first =>
      cases b with
      | false =>
        go_wp2
        go_meet
        case rel => exact ⟨_, _, _, _, m, q7, HM7.out, by omega, (fun z hz => by have := HSS.out z hz; omega), by omega, HTS.out, by omega⟩
      | true =>
        go_wp2_with fail
        refine (pick_any g q7 3 _ HM7.out.base.rd (by omega)).mono ?_
        rintro e w8 ⟨x8, rfl, hx8, hr8, hg8⟩
        have hx8 := hx8.2 (by omega)
        have HM8 := Lib.hid (HM7.out.later hg8 hr8)
        obtain ⟨x', y', e, o1, C0, hC0, ub, o2⟩ := HM8.out.base.om
        injection e with e
        simp at e
        obtain ⟨e1, e2⟩ := e
        subst e1 e2
        have l0 := block_cell HM8.out.lm 0
        have l1 := block_cell HM8.out.lm 1
        have lf1 := block_free HM8.out.lm 1
        simp at l0 l1
        clear hr8 hg8
        by_cases k0 : x8 = 0
        · subst k0
          obtain ⟨gx, cx, e, -⟩ := own_at0 o1 (by omega)
          injection e with e1 e2 e3
          subst e1 e3
          obtain ⟨s0, sf0⟩ := own_cell (k := 0) o1 (by omega)
          have HM9 := Lib.hid (HM8.out.size (k := 0) rfl 4)
          have hp0 : (0 : Int) < (m.sizes.length : Int) := by omega
          clear o1 o2 ub
          go_wp2
          go_meet
          case rel => exact ⟨_, _, _, _, ⟨m.sizes.set 0 4, m.tables⟩, q7 + 1, by simpa using HM9.out, by simp; omega, (fun z hz => by rcases List.mem_or_eq_of_mem_set hz with hz | rfl <;> first | omega | (have := HSS.out z hz; omega)), by simp only; omega, HTS.out, by omega⟩
        by_cases k1 : x8 = 1
        · subst k1
          have HY := Lib.hid (o2.base (B' := min C0 w8.heap.size) (by omega))
          have HX := Lib.hid o1
          have HUB := Lib.hid (show ∀ k, (Value.slice A0 m.sizes.length c0).ownBlock = some k → k < min C0 w8.heap.size from fun k e => by have := ub k e; have := (own_lt o1 k e).2; omega)
          have HC1 := Lib.hid (show w3.heap.size ≤ min C0 w8.heap.size by have := HM8.out.base.g3.size; omega)
          obtain ⟨us, h1, h2, h3, h4⟩ := HY.out
          have H1 := Lib.hid h1
          have H2 := Lib.hid h2
          have H3 := Lib.hid h3
          have H4 := Lib.hid h4
          have HROW := Lib.hid (show OInts (w8.alloc (.cells #[.int .i64 0] 3)) w8.heap.size (.slice (some ⟨w8.heap.size, 0, none⟩) 1 1) [0] from World.ownsRow_lit w8 #[.int .i64 0] 1 (Nat.le_refl _) (by unfold maxLen; omega) rfl)
          have hownU := (H1.out.alloc (.cells #[.int .i64 0] 3)).alloc (.cells #[.slice (some ⟨w8.heap.size, 0, none⟩) 1 1] 26)
          have f3 : ((w8.alloc (.cells #[.int .i64 0] 3)).alloc (.cells #[.slice (some ⟨w8.heap.size, 0, none⟩) 1 1] 26)).cell? ⟨w8.heap.size + 1, 0, none⟩ = some (.slice (some ⟨w8.heap.size, 0, none⟩) 1 1) := by
            rw [World.cell?_alloc_at _ _ _ _ (by simp)]; rfl
          have hb8 := (Array.getElem?_eq_some_iff.1 HM8.out.lm).1
          clear h1 h2 h3 h4 o1 o2 ub
          go_wp2_with (at_builtin; refine wpList_append_own _ rfl _ _ 23 rfl (min C0 w8.heap.size) 26 i1 (.slice none 0 0) 1 24 Try.underlying23 hj hy0 hy1 hy2 rfl (by decide) _ _ _ rfl hownU ⟨w8.heap.size + 1, 0, none⟩ 1 1 [.slice (some ⟨w8.heap.size, 0, none⟩) 1 1] rfl rfl ?c1 ?c2 ?c3 ?c4 ?c5 ?_)
          any_goals first
            | exact new_one f3
            | (unfold maxLen; omega)
            | omega
            | (simp; omega)
            | (intro u hu; simp at hu; subst hu; rfl)
            | rfl
          intro v' w9 hown9 hgrow9 _
          have HV9 := Lib.hid (rows_push H1.out H2.out H3.out H4.out (gr_alloc (gr_refl w8 g) (.cells #[.int .i64 0] 3)) (by have := HC1.out; have := HG3.out.size; omega) (Nat.le_refl _) (by omega) HROW.out hown9 hgrow9)
          obtain ⟨hm9, hl9⟩ := HM8.out.table HC1.out HX.out HUB.out HY.out hgrow9 HV9.out
          have HM9 := Lib.hid hm9
          obtain ⟨A9, c9, rfl, -⟩ := own_reads hown9
          have l0 := block_cell hl9 0
          have l1 := block_cell hl9 1
          have lf1 := block_free hl9 1
          simp at l0 l1
          clear f3 hm9 hl9 hownU hown9 hgrow9
          go_wp2
          go_meet
          case rel => exact ⟨_, _, _, _, ⟨m.sizes, m.tables ++ [[0]]⟩, q7 + 1, by simpa using HM9.out, by omega, (fun z hz => by have := HSS.out z hz; omega), by simp; omega, (fun row hr => by rcases List.mem_append.1 hr with hr | hr; exact HTS.out row hr; simp at hr; subst hr; simp), by omega⟩
        · have e0' : (x8 == 0) = false := by rw [beq_eq_false_iff_ne]; exact k0
          have e1' : (x8 == 1) = false := by rw [beq_eq_false_iff_ne]; exact k1
          by_cases ht0 : m.tables.length = 0
          · have ht0' : ¬ (0 : Int) < (m.tables.length : Int) := by omega
            clear o1 o2 ub
            go_wp2
            go_meet
            case rel => exact ⟨_, _, _, _, m, q7 + 1, HM8.out, by omega, (fun z hz => by have := HSS.out z hz; omega), by omega, HTS.out, by omega⟩
          · have ht0' : (0 : Int) < (m.tables.length : Int) := by omega
            have ht1 : 0 < m.tables.length := by omega
            obtain ⟨gt, ct, e, -⟩ := orows_at0 o2 ht1
            injection e with e1 e2 e3
            subst e1 e3
            have hr0 := HTS.out _ (List.getElem_mem ht1)
            obtain ⟨gi, ci, s0, oi, hgi, hst⟩ := o2.at_own ht1 (by omega)
            obtain ⟨s1, sf1⟩ := own_cell (k := 0) oi (by omega)
            have HM9 := Lib.hid (HM8.out.entry (j := 0) ht1 C0 hC0 o1 ub oi hst 3)
            have hp0 : (0 : Int) < (m.tables[0].length : Int) := by omega
            clear o1 o2 ub oi hst
            go_wp2
            go_meet
            case rel => exact ⟨_, _, _, _, ⟨m.sizes, m.tables.set 0 (m.tables[0].set 0 3)⟩, q7 + 1, by simpa using HM9.out, by omega, (fun z hz => by have := HSS.out z hz; omega), by simp; omega, (fun row hr => by rcases List.mem_or_eq_of_mem_set hr with hr | rfl <;> first | exact HTS.out row hr | (simp; omega)), by omega⟩
    case rest =>
      obtain ⟨A0', A1', c0', c1', m9, q9, hmo, hs3, hsz, ht6, htz, hq9⟩ := hcut
      obtain ⟨wx, hwx⟩ : ∃ wx : World, wx = wc := ⟨_, rfl⟩
      subst hwx
      have HM9 := Lib.hid hmo
      have HSZ := Lib.hid hsz
      have HTZ := Lib.hid htz
      obtain ⟨hrs, hre, hls⟩ := HM9.out.base.here
      have D := Lib.hid HM9.out.base.fin
      have r0 := block_cell hrs 0
      have r1 := block_cell hrs 1
      have r2 := block_cell hre 0
      have r3 := block_cell hre 1
      have rf0 := block_free hrs 0
      have rf1 := block_free hrs 1
      have rf2 := block_free hre 0
      have rf3 := block_free hre 1
      have l0 := block_cell hls 0
      have l1 := block_cell hls 1
      have l2 := block_cell HM9.out.lm 0
      have l3 := block_cell HM9.out.lm 1
      simp at r0 r1 r2 r3 l0 l1 l2 l3
      have hb25 := HM9.out.b2
      clear hrs hre hls hmo hsz htz
      go_wp2_with fail
      go_region_held3 (fun w' => w'.cell? ⟨w2.heap.size, 0, none⟩ = some (.int .i64 sorts) ∧ w'.cell? ⟨w2.heap.size, 1, none⟩ = some (.slice Au rows.length cu) ∧ w'.cell? ⟨w5.heap.size, 0, none⟩ = some (.slice A0' m9.sizes.length c0') ∧ w'.cell? ⟨w5.heap.size, 1, none⟩ = some (.slice A1' m9.tables.length c1')) (first | exact ⟨l0, l1, l2, l3⟩ | exact ⟨drew_cell (keep2 l0 (by omega)), drew_cell (keep2 l1 (by omega)), drew_cell (keep2 l2 (by omega)), drew_cell (keep2 l3 (by omega))⟩ | exact ⟨drew_cell (keep2 (keep2 l0 (by omega)) (by omega)), drew_cell (keep2 (keep2 l1 (by omega)) (by omega)), drew_cell (keep2 (keep2 l2 (by omega)) (by omega)), drew_cell (keep2 (keep2 l3 (by omega)) (by omega))⟩) (fail)
      obtain ⟨d1, d2, d3, d4, d5, d6⟩ := D.out
      generalize (((wx.setCell ⟨w.heap.size, 0, none⟩ (.int .i64 sorts)).setCell ⟨w.heap.size, 1, none⟩ (.slice Au rows.length cu)).setCell ⟨w.heap.size + 1, 0, none⟩ (.slice A0' m9.sizes.length c0')).setCell ⟨w.heap.size + 1, 1, none⟩ (.slice A1' m9.tables.length c1') = w9 at d1 d2 d3 d4 d5 d6 ⊢
      have k0 := drew_cell (block_cell d1 0)
      have k1 := drew_cell (block_cell d1 1)
      have k2 := drew_cell (block_cell d2 0)
      have k3 := drew_cell (block_cell d2 1)
      simp at k0 k1 k2 k3
      clear r0 r1 r2 r3 rf0 rf1 rf2 rf3 l0 l1 l2 l3
      go_wp2
      refine bodyPost_ret (v := .tuple #[.agg #[.int .i64 sorts, .slice Au rows.length cu], .agg #[.slice A0' m9.sizes.length c0', .slice A1' m9.tables.length c1']]) (by simp [results, Try.results125, go_sem, k0, k1, k2, k3]) rfl ?_
      exact ⟨_, _, ⟨sorts, rows⟩, m9, q9, rfl, osig_drew d3, HS1.out, OModel.drew d4, hs3, HSZ.out, ht6, HTZ.out, d5, hq9, gr_todrew d6⟩
end

section
open Go.RowKit
set_option linter.unusedVariables false
set_option linter.unusedSimpArgs false

/-- a signature and a model are written into their result boxes (blocks b, b + 1) -/
theorem md_fin {wz : World} {b B : Nat} {sorts : Int} {u x y : Value} {rows : List (List Int)} {m : MModel} {w : World} (hs : wz.heap[b]? = some (.cells #[.int .i64 0, .slice none 0 0] 25 (0, 0))) (he : wz.heap[b + 1]? = some (.cells #[.slice none 0 0, .slice none 0 0] 28 (0, 0)))
    (ho : ORows wz B u rows) (hB : b + 1 < B) (hm : OModel wz B (.agg #[x, y]) m) (hb : Below b w wz) :
    let w9 := (((wz.setCell ⟨b, 0, none⟩ (.int .i64 sorts)).setCell ⟨b, 1, none⟩ u).setCell ⟨b + 1, 0, none⟩ x).setCell ⟨b + 1, 1, none⟩ y
    w9.heap[b]? = some (.cells #[.int .i64 sorts, u] 25 (0, 0)) ∧ w9.heap[b + 1]? = some (.cells #[x, y] 28 (0, 0)) ∧ OSig w9 b (.agg #[.int .i64 sorts, u]) ⟨sorts, rows⟩ ∧ OModel w9 b (.agg #[x, y]) m ∧ Below b w w9 ∧ (∀ k, b + 2 ≤ k → w9.heap[k]? = wz.heap[k]?) := by
  intro w9
  have hlow : ∀ k, b + 2 ≤ k → w9.heap[k]? = wz.heap[k]? := fun k hk =>
    (((Below.heap_setCell _ ⟨b + 1, 1, none⟩ y k (by show k ≠ b + 1; omega)).trans (Below.heap_setCell _ ⟨b + 1, 0, none⟩ x k (by show k ≠ b + 1; omega))).trans (Below.heap_setCell _ ⟨b, 1, none⟩ u k (by show k ≠ b; omega))).trans (Below.heap_setCell _ ⟨b, 0, none⟩ _ k (by show k ≠ b; omega))
  have a1 := block_set (block_set hs 0 (.int .i64 sorts)) 1 u
  have a2 : ((wz.setCell ⟨b, 0, none⟩ (.int .i64 sorts)).setCell ⟨b, 1, none⟩ u).heap[b + 1]? = _ := (Below.heap_setCell _ ⟨b, 1, none⟩ u _ (by show b + 1 ≠ b; omega)).trans ((Below.heap_setCell _ ⟨b, 0, none⟩ _ _ (by show b + 1 ≠ b; omega)).trans he)
  refine ⟨(Below.heap_setCell _ ⟨b + 1, 1, none⟩ y _ (by show b ≠ b + 1; omega)).trans ((Below.heap_setCell _ ⟨b + 1, 0, none⟩ x _ (by show b ≠ b + 1; omega)).trans a1), block_set (block_set a2 0 x) 1 y, ⟨_, rfl, ?_⟩, ?_, ?_, hlow⟩
  · exact (ho.same (fun k q1 q2 => hlow k (by omega))).base (by omega)
  · exact (hm.same (fun k q1 q2 => hlow k (by omega))).base (by omega)
  · exact (((hb.setCell (p := ⟨b, 0, none⟩) (Nat.le_refl _) _).setCell (p := ⟨b, 1, none⟩) (Nat.le_refl _) _).setCell (p := ⟨b + 1, 0, none⟩) (by show b ≤ b + 1; omega) _).setCell (p := ⟨b + 1, 1, none⟩) (by show b ≤ b + 1; omega) _
/-- bounds of a drawn model -/
structure FewMo (s : MSig) (m : MModel) : Prop where
  so : s.ops.length ≤ 5 ∧ 0 ≤ s.sorts ∧ s.sorts ≤ 3
  sl : m.sizes.length ≤ 3
  sz : ∀ z ∈ m.sizes, 1 ≤ z ∧ z ≤ 4
  tl : m.tables.length ≤ 6
  ts : ∀ row ∈ m.tables, 1 ≤ row.length ∧ row.length ≤ 9
def DrawMoPost (w : World) (e : Ending) (w' : World) : Prop :=
  ∃ (sv mv : Value) (s : MSig) (m : MModel), e = .returned (.tuple #[sv, mv]) ∧ OSig w' w.heap.size sv s ∧ OModel w' w.heap.size mv m ∧ FewMo s m ∧ Below w.heap.size w w'
end
end Go.Proofs.Yticldaddbljleaa
