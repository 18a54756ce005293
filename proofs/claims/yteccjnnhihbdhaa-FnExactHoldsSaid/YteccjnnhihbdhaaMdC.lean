/- l4Next and l5Limits of package spec. · Where an equation fails: what both walks need of the plain functions. No walk. · FailsAt of package impl. · FailsAt of package spec. · Holds of both packages. -/
import Derived.Test.YteccjnnhihbdhaaMdA
import Derived.Test.YteccjnnhihbdhaaMapOk
import Derived.Test.YteccjnnhihbdhaaMark
import Derived.Laws.OwnMore
import Derived.Test.YteccjnnhihbdhaaEqOk
import Derived.Test.YteccjnnhihbdhaaMdB
import Derived.Test.YteccjnnhihbdhaaPut
namespace Go.Proofs.Yteccjnnhihbdhaa
section
open Go.RowKit
set_option linter.unusedVariables false
set_option linter.unusedSimpArgs false

theorem nextM_carry {zs xs : List Int} {m : Nat} (hz : m < zs.length) (hx : m < xs.length) (h : (nextM (zs.drop (m + 1)) (xs.drop (m + 1))).2 = false) :
    nextM (zs.drop m) (xs.drop m) = if xs[m] + 1 < zs[m] then ((xs[m] + 1) :: (nextM (zs.drop (m + 1)) (xs.drop (m + 1))).1, true) else (0 :: (nextM (zs.drop (m + 1)) (xs.drop (m + 1))).1, false) := by
  rw [List.drop_eq_getElem_cons hz, List.drop_eq_getElem_cons hx]
  simp only [nextM, h]
  simp
theorem nextM_pre : ∀ {zs xs : List Int} {m : Nat}, m ≤ zs.length → m ≤ xs.length → (nextM (zs.drop m) (xs.drop m)).2 = true → nextM zs xs = (xs.take m ++ (nextM (zs.drop m) (xs.drop m)).1, true)
  | zs, xs, 0, _, _, h => by
    simp only [List.drop_zero] at h ⊢
    rw [List.take_zero, List.nil_append, ← h]
  | [], _, m + 1, h1, _, _ => by simp at h1
  | _, [], m + 1, _, h2, _ => by simp at h2
  | z :: zs, x :: xs, m + 1, h1, h2, h => by
    simp only [List.drop_succ_cons] at h ⊢
    have := nextM_pre (zs := zs) (xs := xs) (m := m) (by simpa using h1) (by simpa using h2) h
    simp only [nextM, this]
    simp
theorem set_take {xs tl : List Int} {m : Nat} (h : m < xs.length) (y : Int) : (xs.take (m + 1) ++ tl).set m y = xs.take m ++ (y :: tl) := by
  rw [List.take_succ_eq_append_getElem h, List.append_assoc, List.set_append, if_neg (by rw [List.length_take]; omega)]
  congr 1
  rw [List.length_take, Nat.min_eq_left (by omega), Nat.sub_self]
  rfl
theorem grown_trans {a b c : World} {row : Option Nat} (h : a.grownBy b row) (k : b.grownBy c row) : a.grownBy c row :=
  ⟨k.os.trans h.os, k.tape.trans h.tape, k.output.trans h.output, Nat.le_trans h.size k.size, fun i hi hne => (k.block i (Nat.lt_of_lt_of_le hi h.size) hne).trans (h.block i hi hne)⟩
theorem grown_refl (w : World) (row : Option Nat) : w.grownBy w row := ⟨rfl, rfl, rfl, Nat.le_refl _, fun _ _ _ => rfl⟩
theorem own_cell {w : World} {B g n c : Nat} {xs : List Int} (h : OInts w B (.slice (some ⟨g, 0, none⟩) n c) xs) {k : Nat} (hk : k < xs.length) : w.cell? ⟨g, k, none⟩ = some (.int .i64 xs[k]) ∧ w.frozen? ⟨g, k, none⟩ = false := by
  obtain ⟨b, o, c', e, hc⟩ := h.reads.at_ hk
  injection e with e1 e2
  injection e1 with e1
  injection e1 with e1 e3
  subst e1 e3
  refine ⟨by simpa using hc, ?_⟩
  rcases h.2 with ⟨e, _⟩ | ⟨g', cap, cur, e, hg, hh, r⟩
  · cases e
  · injection e with e1 e2
    injection e1 with e1
    injection e1 with e1 e3
    subst e1
    exact blk_free hh k
theorem own_set {w : World} {B g n c : Nat} {xs : List Int} (h : OInts w B (.slice (some ⟨g, 0, none⟩) n c) xs) (hn : n = xs.length) (k : Nat) (y : Int) :
    OInts (w.setCell ⟨g, k, none⟩ (.int .i64 y)) B (.slice (some ⟨g, 0, none⟩) n c) (xs.set k y) ∧ w.grownBy (w.setCell ⟨g, k, none⟩ (.int .i64 y)) (some g) := by
  subst hn
  have := h.stored k (.int .i64 y)
  refine ⟨?_, this.2⟩
  unfold OInts
  rw [List.length_set, List.map_set]
  exact this.1

theorem own_drew {w : World} {B : Nat} {v : Value} {xs : List Int} (h : OInts w B v xs) : OInts w.drew B v xs := h
theorem grown_drew {a w : World} {row : Option Nat} (h : a.grownBy w row) : a.grownBy w.drew row := ⟨h.os, h.tape, h.output, h.size, h.block⟩
theorem own_drew2 {w : World} {B : Nat} {v u : Value} {xs : List Int} {p : Addr} (h : OInts (w.setCell p u) B v xs) : OInts (w.drew.setCell p u) B v xs := h
theorem grown_drew2 {a w : World} {row : Option Nat} {p : Addr} {u : Value} (h : a.grownBy (w.setCell p u) row) : a.grownBy (w.drew.setCell p u) row := ⟨h.os, h.tape, h.output, h.size, h.block⟩
set_option maxHeartbeats 1600000 in
set_option maxRecDepth 100000 in
theorem l4Next_any (zs xs : List Int) (B g c : Nat) (w : World) (lv : Value) (h : OInts w B (.slice (some ⟨g, 0, none⟩) xs.length c) xs) (hlen : xs.length = zs.length) (hs : xs.length ≤ 1000000) (hb : ∀ x ∈ xs, 0 ≤ x ∧ x ≤ 1000000) (hl : ∀ W', w.grownBy W' (some g) → RInts W' lv zs) :
    Calls Try.prog 58 #[.slice (some ⟨g, 0, none⟩) xs.length c, lv] w fun e w' => e = .returned (.bool (nextM zs xs).2) ∧ OInts w' B (.slice (some ⟨g, 0, none⟩) xs.length c) (nextM zs xs).1 ∧ w.grownBy w' (some g) ∧ w'.heap.size = w.heap.size := by
  have HL := Lib.hid hl
  have HBX := Lib.hid hb
  have H := Lib.hid h
  obtain ⟨Al, cl, rfl, -⟩ := (hl w (grown_refl _ _)).form
  have HLEN := Lib.hid hlen
  have hw0 : IntKind.i64.wrap ((xs.length : Int) - 1) = (xs.length : Int) - 1 := by rw [IntKind.wrap_i64]; omega
  clear h hl hb hlen
  go_enter Try.func58, Try.ntmps58
  go_wp2
  go_loopw [5] (fun i wr => ∃ r : Nat, r ≤ xs.length ∧ i = .int .i64 ((r : Int) - 1) ∧ OInts wr B (.slice (some ⟨g, 0, none⟩) xs.length c) (xs.take r ++ (nextM (zs.drop r) (xs.drop r)).1) ∧ (nextM (zs.drop r) (xs.drop r)).2 = false ∧ w.grownBy wr (some g) ∧ wr.heap.size = w.heap.size) (fun i _ => (intOf i + 1).toNat)
  case atStart =>
    have e1 : zs.drop xs.length = [] := List.drop_of_length_le (by have := HLEN.out; omega)
    refine ⟨xs.length, Nat.le_refl _, rfl, ?_, by rw [e1]; rfl, grown_refl _ _, rfl⟩
    rw [e1, take_all (Nat.le_refl _)]
    simp only [nextM, List.append_nil]
    exact H.out
  case round =>
    obtain ⟨r, hr, rfl, ho, hfl, hg, hz⟩ := hrel
    have HG := Lib.hid hg
    have HZ := Lib.hid hz
    cases r with
    | zero =>
      simp only [List.drop_zero, List.take_zero, List.nil_append] at ho hfl
      have HO := Lib.hid ho
      have HFL := Lib.hid hfl
      have e0 : ((0 : Nat) : Int) - 1 = -1 := rfl
      rw [e0]
      clear ho hfl hg hz
      go_wp2
      go_ret
      exact ⟨ret_bool HFL.out.symm, HO.out, HG.out, HZ.out⟩
    | succ m =>
      have e0 : ((m + 1 : Nat) : Int) - 1 = (m : Int) := by omega
      rw [e0]
      have hm : m < xs.length := by omega
      have hmz : m < zs.length := by have := HLEN.out; omega
      have hm' : (m : Int) < (xs.length : Int) := by omega
      have hmz' : (m : Int) < (zs.length : Int) := by omega
      have hm0 : (0 : Int) ≤ (m : Int) := by omega
      have HCA := Lib.hid (nextM_carry hmz hm hfl)
      have HPR := Lib.hid (fun h => nextM_pre (zs := zs) (xs := xs) (m := m) (Nat.le_of_lt hmz) (by omega) h)
      have hlm : m < (xs.take (m + 1) ++ (nextM (zs.drop (m + 1)) (xs.drop (m + 1))).1).length := by rw [List.length_append, List.length_take]; omega
      have htl : (nextM (zs.drop (m + 1)) (xs.drop (m + 1))).1.length = xs.length - (m + 1) := by rw [nextM_len (by rw [List.length_drop, List.length_drop, HLEN.out]), List.length_drop]
      have HTL := Lib.hid htl
      generalize (nextM (zs.drop (m + 1)) (xs.drop (m + 1))).1 = tl at ho HCA hlm HTL
      obtain ⟨c1, c2⟩ := own_cell ho hlm
      have hgx : (xs.take (m + 1) ++ tl)[m] = xs[m] := by
        rw [List.getElem_append_left (by rw [List.length_take]; omega), List.getElem_take]
      rw [hgx] at c1
      obtain ⟨o1, gg1⟩ := own_set ho (by rw [List.length_append, List.length_take, HTL.out]; omega) m (xs[m] + 1)
      rw [set_take hm] at o1
      have hxb := HBX.out _ (List.getElem_mem hm)
      have hw1 : IntKind.i64.wrap (xs[m] + 1) = xs[m] + 1 := by rw [IntKind.wrap_i64]; omega
      have HO1 := Lib.hid o1
      have HG1 := Lib.hid (grown_trans hg gg1)
      obtain ⟨bl, ol, cl', e, hlz⟩ := (HL.out _ HG1.out).at_ hmz
      cases e
      have hlx : m < (xs.take m ++ (xs[m] + 1) :: tl).length := by rw [List.length_append, List.length_take, List.length_cons]; omega
      obtain ⟨d1, d2⟩ := own_cell o1 hlx
      have hgx2 : (xs.take m ++ (xs[m] + 1) :: tl)[m] = xs[m] + 1 := by
        rw [List.getElem_append_right (by rw [List.length_take]; omega)]
        simp [List.length_take, Nat.min_eq_left (Nat.le_of_lt hm)]
      rw [hgx2] at d1
      obtain ⟨o2, gg2⟩ := own_set o1 (by rw [List.length_append, List.length_take, List.length_cons, HTL.out]; omega) m 0
      have hst2 : (xs.take m ++ (xs[m] + 1) :: tl).set m 0 = xs.take m ++ (0 :: tl) := by
        rw [List.set_append, if_neg (by rw [List.length_take]; omega)]
        congr 1
        rw [List.length_take, Nat.min_eq_left (by omega), Nat.sub_self]; rfl
      rw [hst2] at o2
      have HO2 := Lib.hid o2
      have HG2 := Lib.hid (grown_trans HG1.out gg2)
      have hz1 : (wr.setCell ⟨g, m, none⟩ (.int .i64 (xs[m] + 1))).heap.size = w.heap.size := by simpa [World.setCell] using hz
      have HZ1 := Lib.hid hz1
      generalize xs[m] = x at c1 hw1 d1 HO1 HG1 hlz HCA hxb HO2 HG2 HZ1 d2
      generalize zs[m] = z at hlz HCA
      generalize hWs : wr.setCell ⟨g, m, none⟩ (.int .i64 (x + 1)) = Ws at d1 d2 HO1 HG1 hlz HO2 HG2 HZ1
      clear hg hz ho hlm htl hgx o1 gg1 hlx hgx2 o2 gg2 hst2 hz1 hfl
      by_cases hlt : x + 1 < z
      · have HE := Lib.hid (HCA.out.trans (if_pos hlt))
        have HF := Lib.hid (HPR.out (by rw [HE.out]))
        go_wp2_with fail
        clear hWs c1 c2
        refine wp_region_held_drew (S := (fun w' => w'.cell? ⟨g, m, none⟩ = some (.int .i64 (x + 1)) ∧ w'.cell? ⟨bl, ol + m, none⟩ = some (.int .i64 z))) (by kernel_rfl) ?_ (fun hHeld => ?_)
        · exact ⟨d1, hlz⟩
        refine wpAnyH_take (i := 0) (oi := _) (v := ?_) rfl (by kernel_rfl) (by kernel_rfl) (by kernel_rfl) (fun _ _ _ h => h) (Or.inl ⟨by rfl, ?_⟩) (by assumption) ?_
        rotate_left
        · first | (intro w' hSw; (try dsimp only at hSw); go_simp; done) | (intro w' hSw; (try dsimp only at hSw); go_simp; with_reducible rfl)
        try simp only [Act.put, List.getElem_toArray, List.getElem_cons_zero, List.getElem_cons_succ, List.setIfInBounds_toArray, List.set_cons_zero, List.set_cons_succ]
        refine wpAnyH_take (i := 1) (oi := _) (v := ?_) rfl (by kernel_rfl) (by kernel_rfl) (by kernel_rfl) (fun _ _ _ h => h) (Or.inl ⟨by rfl, ?_⟩) (by assumption) ?_
        rotate_left
        · first | (intro w' hSw; (try dsimp only at hSw); go_simp; done) | (intro w' hSw; (try dsimp only at hSw); go_simp; with_reducible rfl)
        try simp only [Act.put, List.getElem_toArray, List.getElem_cons_zero, List.getElem_cons_succ, List.setIfInBounds_toArray, List.set_cons_zero, List.set_cons_succ]
        refine wpAnyH_take (i := 2) (oi := _) (v := ?_) rfl (by kernel_rfl) (by kernel_rfl) (by kernel_rfl) (fun _ _ _ h => h) (Or.inl ⟨by rfl, ?_⟩) (by assumption) ?_
        rotate_left
        · first | (intro w' hSw; (try dsimp only at hSw); go_simp; done) | (intro w' hSw; (try dsimp only at hSw); go_simp; with_reducible rfl)
        try simp only [Act.put, List.getElem_toArray, List.getElem_cons_zero, List.getElem_cons_succ, List.setIfInBounds_toArray, List.set_cons_zero, List.set_cons_succ]
        refine wpAnyH_take (i := 3) (oi := _) (v := ?_) rfl (by kernel_rfl) (by kernel_rfl) (by kernel_rfl) (fun _ _ _ h => h) (Or.inl ⟨by rfl, ?_⟩) (by assumption) ?_
        rotate_left
        · first | (intro w' hSw; (try dsimp only at hSw); go_simp; done) | (intro w' hSw; (try dsimp only at hSw); go_simp; with_reducible rfl)
        try simp only [Act.put, List.getElem_toArray, List.getElem_cons_zero, List.getElem_cons_succ, List.setIfInBounds_toArray, List.set_cons_zero, List.set_cons_succ]
        refine wpAnyH_take (i := 4) (oi := _) (v := ?_) rfl (by kernel_rfl) (by kernel_rfl) (by kernel_rfl) (fun _ _ _ h => h) (Or.inl ⟨by rfl, ?_⟩) (by assumption) ?_
        rotate_left
        · first | (intro w' hSw; (try dsimp only at hSw); go_simp; done) | (intro w' hSw; (try dsimp only at hSw); go_simp; with_reducible rfl)
        try simp only [Act.put, List.getElem_toArray, List.getElem_cons_zero, List.getElem_cons_succ, List.setIfInBounds_toArray, List.set_cons_zero, List.set_cons_succ]
        refine wpAnyH_take (i := 5) (oi := _) (v := ?_) rfl (by kernel_rfl) (by kernel_rfl) (by kernel_rfl) (fun _ _ _ h => h) (Or.inl ⟨by rfl, ?_⟩) (by assumption) ?_
        rotate_left
        · first | (intro w' hSw; (try dsimp only at hSw); go_simp; done) | (intro w' hSw; (try dsimp only at hSw); go_simp; with_reducible rfl)
        try simp only [Act.put, List.getElem_toArray, List.getElem_cons_zero, List.getElem_cons_succ, List.setIfInBounds_toArray, List.set_cons_zero, List.set_cons_succ]
        refine wpAnyH_take (i := 6) (oi := _) (v := ?_) rfl (by kernel_rfl) (by kernel_rfl) (by kernel_rfl) (fun _ _ _ h => h) (Or.inl ⟨by rfl, ?_⟩) (by assumption) ?_
        rotate_left
        · first | (intro w' hSw; (try dsimp only at hSw); go_simp; done) | (intro w' hSw; (try dsimp only at hSw); go_simp; with_reducible rfl)
        try simp only [Act.put, List.getElem_toArray, List.getElem_cons_zero, List.getElem_cons_succ, List.setIfInBounds_toArray, List.set_cons_zero, List.set_cons_succ]
        refine wpAnyH_take (i := 7) (oi := _) (v := ?_) rfl (by kernel_rfl) (by kernel_rfl) (by kernel_rfl) (fun _ _ _ h => h) (Or.inl ⟨by rfl, ?_⟩) (by assumption) ?_
        rotate_left
        · first | (intro w' hSw; (try dsimp only at hSw); go_simp; done) | (intro w' hSw; (try dsimp only at hSw); go_simp; with_reducible rfl)
        try simp only [Act.put, List.getElem_toArray, List.getElem_cons_zero, List.getElem_cons_succ, List.setIfInBounds_toArray, List.set_cons_zero, List.set_cons_succ]
        refine wpAnyH_take (i := 8) (oi := _) (v := ?_) rfl (by kernel_rfl) (by kernel_rfl) (by kernel_rfl) (fun _ _ _ h => h) (Or.inl ⟨by rfl, ?_⟩) (by assumption) ?_
        rotate_left
        · first | (intro w' hSw; (try dsimp only at hSw); go_simp; done) | (intro w' hSw; (try dsimp only at hSw); go_simp; with_reducible rfl)
        try simp only [Act.put, List.getElem_toArray, List.getElem_cons_zero, List.getElem_cons_succ, List.setIfInBounds_toArray, List.set_cons_zero, List.set_cons_succ]
        refine wpAnyH_done (by kernel_rfl) ?_ _
        clear d1 d2 hlz
        go_wp2
        go_ret
        rw [HF.out, HE.out]
        exact ⟨rfl, own_drew HO1.out, grown_drew HG1.out, HZ1.out⟩
      · have HE := Lib.hid (HCA.out.trans (if_neg hlt))
        go_wp2_with fail
        clear hWs c1 c2
        have d3 : Ws.drew.frozen? ⟨g, m, none⟩ = false := d2
        have d4 : Ws.drew.cell? ⟨g, m, none⟩ = some (.int .i64 (x + 1)) := d1
        refine wp_region_held_drew (S := (fun w' => w'.cell? ⟨g, m, none⟩ = some (.int .i64 (x + 1)) ∧ w'.cell? ⟨bl, ol + m, none⟩ = some (.int .i64 z))) (by kernel_rfl) ?_ (fun hHeld => ?_)
        · exact ⟨d1, hlz⟩
        refine wpAnyH_take (i := 0) (oi := _) (v := ?_) rfl (by kernel_rfl) (by kernel_rfl) (by kernel_rfl) (fun _ _ _ h => h) (Or.inl ⟨by rfl, ?_⟩) (by assumption) ?_
        rotate_left
        · first | (intro w' hSw; (try dsimp only at hSw); go_simp; done) | (intro w' hSw; (try dsimp only at hSw); go_simp; with_reducible rfl)
        try simp only [Act.put, List.getElem_toArray, List.getElem_cons_zero, List.getElem_cons_succ, List.setIfInBounds_toArray, List.set_cons_zero, List.set_cons_succ]
        refine wpAnyH_take (i := 1) (oi := _) (v := ?_) rfl (by kernel_rfl) (by kernel_rfl) (by kernel_rfl) (fun _ _ _ h => h) (Or.inl ⟨by rfl, ?_⟩) (by assumption) ?_
        rotate_left
        · first | (intro w' hSw; (try dsimp only at hSw); go_simp; done) | (intro w' hSw; (try dsimp only at hSw); go_simp; with_reducible rfl)
        try simp only [Act.put, List.getElem_toArray, List.getElem_cons_zero, List.getElem_cons_succ, List.setIfInBounds_toArray, List.set_cons_zero, List.set_cons_succ]
        refine wpAnyH_take (i := 2) (oi := _) (v := ?_) rfl (by kernel_rfl) (by kernel_rfl) (by kernel_rfl) (fun _ _ _ h => h) (Or.inl ⟨by rfl, ?_⟩) (by assumption) ?_
        rotate_left
        · first | (intro w' hSw; (try dsimp only at hSw); go_simp; done) | (intro w' hSw; (try dsimp only at hSw); go_simp; with_reducible rfl)
        try simp only [Act.put, List.getElem_toArray, List.getElem_cons_zero, List.getElem_cons_succ, List.setIfInBounds_toArray, List.set_cons_zero, List.set_cons_succ]
        refine wpAnyH_take (i := 3) (oi := _) (v := ?_) rfl (by kernel_rfl) (by kernel_rfl) (by kernel_rfl) (fun _ _ _ h => h) (Or.inl ⟨by rfl, ?_⟩) (by assumption) ?_
        rotate_left
        · first | (intro w' hSw; (try dsimp only at hSw); go_simp; done) | (intro w' hSw; (try dsimp only at hSw); go_simp; with_reducible rfl)
        try simp only [Act.put, List.getElem_toArray, List.getElem_cons_zero, List.getElem_cons_succ, List.setIfInBounds_toArray, List.set_cons_zero, List.set_cons_succ]
        refine wpAnyH_take (i := 4) (oi := _) (v := ?_) rfl (by kernel_rfl) (by kernel_rfl) (by kernel_rfl) (fun _ _ _ h => h) (Or.inl ⟨by rfl, ?_⟩) (by assumption) ?_
        rotate_left
        · first | (intro w' hSw; (try dsimp only at hSw); go_simp; done) | (intro w' hSw; (try dsimp only at hSw); go_simp; with_reducible rfl)
        try simp only [Act.put, List.getElem_toArray, List.getElem_cons_zero, List.getElem_cons_succ, List.setIfInBounds_toArray, List.set_cons_zero, List.set_cons_succ]
        refine wpAnyH_take (i := 5) (oi := _) (v := ?_) rfl (by kernel_rfl) (by kernel_rfl) (by kernel_rfl) (fun _ _ _ h => h) (Or.inl ⟨by rfl, ?_⟩) (by assumption) ?_
        rotate_left
        · first | (intro w' hSw; (try dsimp only at hSw); go_simp; done) | (intro w' hSw; (try dsimp only at hSw); go_simp; with_reducible rfl)
        try simp only [Act.put, List.getElem_toArray, List.getElem_cons_zero, List.getElem_cons_succ, List.setIfInBounds_toArray, List.set_cons_zero, List.set_cons_succ]
        refine wpAnyH_take (i := 6) (oi := _) (v := ?_) rfl (by kernel_rfl) (by kernel_rfl) (by kernel_rfl) (fun _ _ _ h => h) (Or.inl ⟨by rfl, ?_⟩) (by assumption) ?_
        rotate_left
        · first | (intro w' hSw; (try dsimp only at hSw); go_simp; done) | (intro w' hSw; (try dsimp only at hSw); go_simp; with_reducible rfl)
        try simp only [Act.put, List.getElem_toArray, List.getElem_cons_zero, List.getElem_cons_succ, List.setIfInBounds_toArray, List.set_cons_zero, List.set_cons_succ]
        refine wpAnyH_take (i := 7) (oi := _) (v := ?_) rfl (by kernel_rfl) (by kernel_rfl) (by kernel_rfl) (fun _ _ _ h => h) (Or.inl ⟨by rfl, ?_⟩) (by assumption) ?_
        rotate_left
        · first | (intro w' hSw; (try dsimp only at hSw); go_simp; done) | (intro w' hSw; (try dsimp only at hSw); go_simp; with_reducible rfl)
        try simp only [Act.put, List.getElem_toArray, List.getElem_cons_zero, List.getElem_cons_succ, List.setIfInBounds_toArray, List.set_cons_zero, List.set_cons_succ]
        refine wpAnyH_take (i := 8) (oi := _) (v := ?_) rfl (by kernel_rfl) (by kernel_rfl) (by kernel_rfl) (fun _ _ _ h => h) (Or.inl ⟨by rfl, ?_⟩) (by assumption) ?_
        rotate_left
        · first | (intro w' hSw; (try dsimp only at hSw); go_simp; done) | (intro w' hSw; (try dsimp only at hSw); go_simp; with_reducible rfl)
        try simp only [Act.put, List.getElem_toArray, List.getElem_cons_zero, List.getElem_cons_succ, List.setIfInBounds_toArray, List.set_cons_zero, List.set_cons_succ]
        refine wpAnyH_done (by kernel_rfl) ?_ _
        clear d1 d2 hlz
        have hw9 : IntKind.i64.wrap ((m : Int) - 1) = (m : Int) - 1 := by rw [IntKind.wrap_i64]; omega
        go_wp2
        go_roundw
        case rel => exact ⟨m, by omega, rfl, by rw [HE.out]; exact own_drew2 HO2.out, by rw [HE.out], grown_drew2 HG2.out, by have := HZ1.out; simpa [World.setCell] using this⟩
        case measure => simp [intOf]
set_option maxHeartbeats 800000 in
set_option maxRecDepth 100000 in
theorem l5Limits_any (v v' : Value) (row : List Int) (m : MModel) (w : World) (h : RModel w v m) (h' : RInts w v' row) (hin : ∀ x ∈ row, 0 ≤ x ∧ x < (m.sizes.length : Int)) (hs : row.length ≤ 1048576) :
    Calls Try.prog 57 #[v, v'] w fun e w' => ∃ u, e = .returned u ∧ OInts w' w.heap.size u (rowLed m.sizes row) ∧ Below w.heap.size w w' := by
  obtain ⟨i0, hi0, hz0, hz1, hz2⟩ := info_parts Try.tinfo_int
  obtain ⟨Ama, cma, Amb, cmb, rfl⟩ := h.form
  have hb : Below w.heap.size w (w.alloc (.cells #[.slice Ama m.sizes.length cma, .slice Amb m.tables.length cmb] 33)) := below_alloc _ _
  have HB := Lib.hid hb
  have hsz : (w.alloc (.cells #[.slice Ama m.sizes.length cma, .slice Amb m.tables.length cmb] 33)).heap.size = w.heap.size + 1 := by simp
  have Hm := Lib.hid (h.keep hb)
  have m0 := bx_at (w) #[.slice Ama m.sizes.length cma, .slice Amb m.tables.length cmb] 33 (k := 0) rfl
  have m1 := bx_at (w) #[.slice Ama m.sizes.length cma, .slice Amb m.tables.length cmb] 33 (k := 1) rfl
  generalize hW : w.alloc (.cells #[.slice Ama m.sizes.length cma, .slice Amb m.tables.length cmb] 33) = W at HB hsz Hm m0 m1
  clear hb h
  have HV := Lib.hid (h'.keep HB.out)
  have HIN := Lib.hid hin
  obtain ⟨r0, r1⟩ := Hm.out.of
  have R0 := Lib.hid r0
  have hm0 := r0.len
  obtain ⟨A', c', rfl, -⟩ := h'.form
  have HC := Lib.hid m0
  have HSZ := Lib.hid hsz
  clear h' hin r0 r1 m0 m1 hsz
  go_enter Try.func57, Try.ntmps57
  go_wp2
  clear hW
  go_loopw [5, 6] (fun p i wr => ∃ k : Nat, k ≤ row.length ∧ i = .int .i64 k ∧ OInts wr W.heap.size p (rowLed m.sizes (row.take k)) ∧ Below W.heap.size W wr) (fun _ i _ => row.length - (intOf i).toNat)
  case atStart => exact ⟨0, Nat.zero_le _, rfl, by first | exact own_empty W | (have h := own_empty W; rw [HSZ.out] at h ⊢; exact h), below_alloc _ _⟩
  case round =>
    obtain ⟨k, hk, rfl, ho, hb⟩ := hrel
    obtain ⟨A9, c9, rfl, -⟩ := own_reads ho
    have HO := Lib.hid ho
    have HBW := Lib.hid hb
    have f0 := cell_keep hb HC.out
    clear ho hb
    by_cases hlt : k < row.length
    · have hlt' : (k : Int) < (row.length : Int) := by omega
      obtain ⟨b, o, c4, e, hx⟩ := HV.out.at_ hlt
      cases e
      have HTK := Lib.hid (@rowLed_take m.sizes row k hlt)
      have HI := Lib.hid (HIN.out _ (List.getElem_mem hlt))
      generalize row[k] = x at hx HTK HI
      obtain ⟨n, rfl⟩ : ∃ n : Nat, x = (n : Int) := ⟨x.toNat, by have := HI.out; omega⟩
      have hnl : n < m.sizes.length := by have := HI.out; omega
      have hnl' : (n : Int) < (m.sizes.length : Int) := by omega
      have hn0 : (0 : Int) ≤ (n : Int) := by omega
      obtain ⟨b2, o2, c2, e2, hy⟩ := R0.out.at_ hnl
      cases e2
      have HY := Lib.hid (show m.sizes.getD (n : Int).toNat 0 = m.sizes[n] by rw [Int.toNat_natCast, getD_at _ hnl])
      generalize m.sizes[n] = y at hy HY
      have HXY := Lib.hid (And.intro hx hy)
      replace hx := cell_keep HBW.out hx
      replace hy := cell_keep HBW.out hy
      have hlen : (rowLed m.sizes (row.take k)).length = k := by rw [rowLed_len, List.length_take]; omega
      have HLEN := Lib.hid hlen
      generalize hps : rowLed m.sizes (row.take k) = ps at HO HTK HLEN
      clear hps hlen
      have hs1 := HBW.out.size
      have hp1 : ps.length + 1 ≤ maxLen := by rw [HLEN.out, maxLen_eq]; omega
      have hp2 : (ps.length + 1) * 8 ≤ 140737488355328 := by rw [HLEN.out]; omega
      have HP := Lib.hid (And.intro hp1 hp2)
      have hs3 : W.heap.size ≤ (wr.alloc (.cells #[.int .i64 y] 3)).heap.size := by simp; omega
      have HS3 := Lib.hid hs3
      have HO1 := Lib.hid (own_keep HO.out (below_alloc wr (.cells #[.int .i64 y] 3)))
      have HN1 := Lib.hid (led_new wr y)
      have ea := World.new_ne wr _ f0
      have eb := World.new_ne wr _ hx
      have ec := World.new_ne wr _ hy
      clear hp1 hp2 hs3
      go_wp2_with fail
      go_region_held3 (fun w' => w'.cell? ⟨w.heap.size, 0, none⟩ = some (.slice (some ⟨b2, o2, none⟩) m.sizes.length cma) ∧ w'.cell? ⟨b, o + k, none⟩ = some (.int .i64 (n : Int)) ∧ w'.cell? ⟨b2, o2 + n, none⟩ = some (.int .i64 y)) (first | go_keep | exact ⟨cell_keep HB6.out HC.out, cell_keep HB6.out HXY.out.1, cell_keep HB6.out HXY.out.2⟩)
        (first
          | (refine step_append_own rfl (.tmp 14) (.tmp 23) 25 rfl W.heap.size 3 i0 (.int .i64 0) 1 8 Try.underlying25 hi0 hz0 hz1 hz2 rfl (by omega) _ ps.length (ps.map (Value.int .i64)) rfl HO1.out.drew ⟨wr.heap.size, 0, none⟩ 1 1 ([y].map (Value.int .i64)) rfl (by simp) HN1.out (ints_one _) HP.out.1 HP.out.2 HS3.out ?_; intro v6 w6 hv6 hg6; have HB6 := Lib.hid (led_below HBW.out hg6 (fun k e => (own_lt HO.out k e).1)); have HO6 := Lib.hid (led_app (rs := [y]) rfl hv6); clear hv6 hg6))
      have hsl : (ps ++ [y]).length = k + 1 := by rw [List.length_append, HLEN.out]; rfl
      clear f0 hx hy ea eb ec hsl
      obtain ⟨A6, c6, rfl, -⟩ := own_reads HO6.out
      go_wp2
      go_roundw
      case rel => exact ⟨k + 1, by omega, by go_num, by rw [HTK.out, HY.out]; exact HO6.out, HB6.out⟩
      case measure => simp [intOf]; omega
    · have hkn : k = row.length := by omega
      have hlt' : ¬ (k : Int) < (row.length : Int) := by omega
      have HTA := Lib.hid (show row.take k = row from take_all (by omega))
      rw [HTA.out] at HO
      go_wp2
      go_ret
      exact ⟨_, rfl, HO.out.base HB.out.size, HB.out.trans (HBW.out.mono HB.out.size)⟩
end

section
open Go.RowKit
set_option linter.unusedVariables false
set_option linter.unusedSimpArgs false

theorem fails_no1 {s : MSig} {m : MModel} {e : MEq} (h : eqOkB s e = false) : failsM s m e = ([], false) := by unfold failsM; rw [h]; rfl
theorem fails_no2 {s : MSig} {m : MModel} {e : MEq} (h : modelB s m = false) : failsM s m e = ([], false) := by unfold failsM; rw [h, Bool.and_false]; rfl
/-- both sides of an equation that is ok are terms -/
theorem eq_terms {s : MSig} {e : MEq} (h : eqOkB s e = true) : varsB s e.vars = true ∧ ∃ l r : Tm, termM s e.vars e.left = some l ∧ termM s e.vars e.right = some r ∧ wfT s e.vars l ∧ wfT s e.vars r ∧ l.row = e.left ∧ r.row = e.right ∧ e.left.length ≤ 30 ∧ e.right.length ≤ 30 := by
  unfold eqOkB at h
  simp only [Bool.and_eq_true, decide_eq_true_eq] at h
  obtain ⟨h1, h2⟩ := h
  have hr : 0 ≤ sortM s e.vars e.right := by rw [h2]; exact h1
  have f : ∀ {t : List Int}, 0 ≤ sortM s e.vars t → ∃ tm, termM s e.vars t = some tm := fun {t} h => by
    unfold sortM at h
    cases ht : termM s e.vars t with
    | none => rw [ht] at h; simp at h
    | some tm => exact ⟨tm, rfl⟩
  obtain ⟨l, hl⟩ := f h1
  obtain ⟨r, hr⟩ := f hr
  obtain ⟨a1, a2, a3, a4⟩ := termM_to hl
  obtain ⟨b1, b2, b3, b4⟩ := termM_to hr
  exact ⟨a1, l, r, hl, hr, a3, b3, a4, b4, a2, b2⟩
theorem fails_yes {s : MSig} {m : MModel} {e : MEq} {l r : Tm} (h1 : eqOkB s e = true) (h2 : modelB s m = true) (hl : termM s e.vars e.left = some l) (hr : termM s e.vars e.right = some r) :
    failsM s m e = match failRow m (ledM m.sizes e.vars) l r with
      | some row => (row, true)
      | none => ([], false) := by
  unfold failsM; rw [h1, h2, hl, hr]; rfl
/-- n rounds have found nothing -/
def NoFail (m : MModel) (zs : List Int) (l r : Tm) (n : Nat) : Prop := n ≤ (waysM zs).toNat ∧ failRow m zs l r = failFrom m zs l r ((waysM zs).toNat - n) n
theorem noFail_zero (m : MModel) (zs : List Int) (l r : Tm) : NoFail m zs l r 0 := ⟨Nat.zero_le _, rfl⟩
theorem NoFail.step {m : MModel} {zs : List Int} {l r : Tm} {n : Nat} (h : NoFail m zs l r n) (hn : n < (waysM zs).toNat) (hf : valT m (digM zs n) l = valT m (digM zs n) r) : NoFail m zs l r (n + 1) := by
  refine ⟨hn, h.2.trans ?_⟩
  obtain ⟨f, hfe⟩ : ∃ f, (waysM zs).toNat - n = f + 1 := ⟨(waysM zs).toNat - n - 1, by omega⟩
  rw [hfe, failFrom_step (by unfold failAt; simp [hf]), show (waysM zs).toNat - (n + 1) = f by omega]
theorem NoFail.hit {m : MModel} {zs : List Int} {l r : Tm} {n : Nat} (h : NoFail m zs l r n) (hn : n < (waysM zs).toNat) (hf : ¬ valT m (digM zs n) l = valT m (digM zs n) r) : failRow m zs l r = some (digM zs n) := by
  refine h.2.trans ?_
  obtain ⟨f, hfe⟩ : ∃ f, (waysM zs).toNat - n = f + 1 := ⟨(waysM zs).toNat - n - 1, by omega⟩
  rw [hfe, failFrom_hit (by unfold failAt; simp [hf])]
theorem NoFail.none {m : MModel} {zs : List Int} {l r : Tm} {n : Nat} (h : NoFail m zs l r n) (hn : n = (waysM zs).toNat) : failRow m zs l r = none := by
  refine h.2.trans ?_
  rw [hn, Nat.sub_self]
  rfl
theorem fails_len (s : MSig) (m : MModel) (e : MEq) : (failsM s m e).1.length ≤ 4 := by
  cases h1 : eqOkB s e with
  | false => rw [fails_no1 h1]; simp
  | true =>
    cases h2 : modelB s m with
    | false => rw [fails_no2 h2]; simp
    | true =>
      obtain ⟨hv, l, r, hl, hr, -⟩ := eq_terms h1
      rw [fails_yes h1 h2 hl hr]
      have hv4 := (vars_valid hv).2.1
      have : ∀ (f n : Nat) (row : List Int), failFrom m (ledM m.sizes e.vars) l r f n = some row → row.length ≤ 4 := by
        intro f
        induction f with
        | zero => intro n row h; simp [failFrom] at h
        | succ f ih =>
          intro n row h
          simp only [failFrom] at h
          split at h
          · injection h with h
            rw [← h, digM_len, ledM_len]
            exact hv4
          · exact ih _ _ h
      cases hf : failRow m (ledM m.sizes e.vars) l r with
      | none => simp
      | some row => exact this _ _ _ hf
end

section
open Go.RowKit
set_option linter.unusedVariables false
set_option linter.unusedSimpArgs false

set_option maxHeartbeats 3200000 in
set_option maxRecDepth 100000 in
theorem failsAt_any (s : MSig) (m : MModel) (e : MEq) (w : World) (v v' v2 : Value) (hsm : SmallE e) (h1 : RSig w v s) (h2 : RModel w v' m) (h3 : REq w v2 e) :
    Calls Try.prog 26 #[v, v', v2] w (PairPost (failsM s m e) w) := by
  obtain ⟨Asa, csa, rfl⟩ := h1.form
  obtain ⟨Ama, cma, Amb, cmb, rfl⟩ := h2.form
  obtain ⟨Aea, cea, Aeb, ceb, Aec, cec, rfl⟩ := h3.form
  have hb : Below w.heap.size w (((w.alloc (.cells #[.int .i64 s.sorts, .slice Asa s.ops.length csa] 31)).alloc (.cells #[.slice Ama m.sizes.length cma, .slice Amb m.tables.length cmb] 33)).alloc (.cells #[.slice Aea e.vars.length cea, .slice Aeb e.left.length ceb, .slice Aec e.right.length cec] 49)) := ((below_alloc _ _).alloc (by simp) _).alloc (by simp; omega) _
  have HB := Lib.hid hb
  have hsz : (((w.alloc (.cells #[.int .i64 s.sorts, .slice Asa s.ops.length csa] 31)).alloc (.cells #[.slice Ama m.sizes.length cma, .slice Amb m.tables.length cmb] 33)).alloc (.cells #[.slice Aea e.vars.length cea, .slice Aeb e.left.length ceb, .slice Aec e.right.length cec] 49)).heap.size = w.heap.size + 3 := by simp
  have Hs := Lib.hid (h1.keep hb)
  have s0 := cell_keep (below_alloc ((w.alloc (.cells #[.int .i64 s.sorts, .slice Asa s.ops.length csa] 31)).alloc (.cells #[.slice Ama m.sizes.length cma, .slice Amb m.tables.length cmb] 33)) (.cells #[.slice Aea e.vars.length cea, .slice Aeb e.left.length ceb, .slice Aec e.right.length cec] 49)) (cell_keep (below_alloc (w.alloc (.cells #[.int .i64 s.sorts, .slice Asa s.ops.length csa] 31)) (.cells #[.slice Ama m.sizes.length cma, .slice Amb m.tables.length cmb] 33)) (bx_at (w) #[.int .i64 s.sorts, .slice Asa s.ops.length csa] 31 (k := 0) rfl))
  have s1 := cell_keep (below_alloc ((w.alloc (.cells #[.int .i64 s.sorts, .slice Asa s.ops.length csa] 31)).alloc (.cells #[.slice Ama m.sizes.length cma, .slice Amb m.tables.length cmb] 33)) (.cells #[.slice Aea e.vars.length cea, .slice Aeb e.left.length ceb, .slice Aec e.right.length cec] 49)) (cell_keep (below_alloc (w.alloc (.cells #[.int .i64 s.sorts, .slice Asa s.ops.length csa] 31)) (.cells #[.slice Ama m.sizes.length cma, .slice Amb m.tables.length cmb] 33)) (bx_at (w) #[.int .i64 s.sorts, .slice Asa s.ops.length csa] 31 (k := 1) rfl))
  have Hm := Lib.hid (h2.keep hb)
  have m0 := cell_keep (below_alloc ((w.alloc (.cells #[.int .i64 s.sorts, .slice Asa s.ops.length csa] 31)).alloc (.cells #[.slice Ama m.sizes.length cma, .slice Amb m.tables.length cmb] 33)) (.cells #[.slice Aea e.vars.length cea, .slice Aeb e.left.length ceb, .slice Aec e.right.length cec] 49)) (bx_at (w.alloc (.cells #[.int .i64 s.sorts, .slice Asa s.ops.length csa] 31)) #[.slice Ama m.sizes.length cma, .slice Amb m.tables.length cmb] 33 (k := 0) rfl)
  have m1 := cell_keep (below_alloc ((w.alloc (.cells #[.int .i64 s.sorts, .slice Asa s.ops.length csa] 31)).alloc (.cells #[.slice Ama m.sizes.length cma, .slice Amb m.tables.length cmb] 33)) (.cells #[.slice Aea e.vars.length cea, .slice Aeb e.left.length ceb, .slice Aec e.right.length cec] 49)) (bx_at (w.alloc (.cells #[.int .i64 s.sorts, .slice Asa s.ops.length csa] 31)) #[.slice Ama m.sizes.length cma, .slice Amb m.tables.length cmb] 33 (k := 1) rfl)
  have He := Lib.hid (h3.keep hb)
  have e0 := bx_at ((w.alloc (.cells #[.int .i64 s.sorts, .slice Asa s.ops.length csa] 31)).alloc (.cells #[.slice Ama m.sizes.length cma, .slice Amb m.tables.length cmb] 33)) #[.slice Aea e.vars.length cea, .slice Aeb e.left.length ceb, .slice Aec e.right.length cec] 49 (k := 0) rfl
  have e1 := bx_at ((w.alloc (.cells #[.int .i64 s.sorts, .slice Asa s.ops.length csa] 31)).alloc (.cells #[.slice Ama m.sizes.length cma, .slice Amb m.tables.length cmb] 33)) #[.slice Aea e.vars.length cea, .slice Aeb e.left.length ceb, .slice Aec e.right.length cec] 49 (k := 1) rfl
  have e2 := bx_at ((w.alloc (.cells #[.int .i64 s.sorts, .slice Asa s.ops.length csa] 31)).alloc (.cells #[.slice Ama m.sizes.length cma, .slice Amb m.tables.length cmb] 33)) #[.slice Aea e.vars.length cea, .slice Aeb e.left.length ceb, .slice Aec e.right.length cec] 49 (k := 2) rfl
  simp only [World.size_alloc] at m0 m1 e0 e1 e2
  generalize hW : ((w.alloc (.cells #[.int .i64 s.sorts, .slice Asa s.ops.length csa] 31)).alloc (.cells #[.slice Ama m.sizes.length cma, .slice Amb m.tables.length cmb] 33)).alloc (.cells #[.slice Aea e.vars.length cea, .slice Aeb e.left.length ceb, .slice Aec e.right.length cec] 49) = W at HB hsz Hs s0 s1 Hm m0 m1 He e0 e1 e2
  clear hb h1 h2 h3
  have HSM := Lib.hid hsm
  clear hsm
  cases hok : eqOkB s e with
  | false =>
    have HOK := Lib.hid hok
    have HE := Lib.hid (fails_no1 (m := m) hok)
    clear hok
    go_enter Try.func26, Try.ntmps26
    go_wp2_with fail
    clear hW
    refine (eqOk_any s e _ _ _ HSM.out Hs.out He.out).mono ?_
    rw [HOK.out]
    rintro x w1 ⟨rfl, hb⟩
    replace HB := Lib.hid (sz_keep HB.out hb)
    replace s0 := cell_keep hb s0
    replace s1 := cell_keep hb s1
    replace m0 := cell_keep hb m0
    replace m1 := cell_keep hb m1
    replace e0 := cell_keep hb e0
    replace e1 := cell_keep hb e1
    replace e2 := cell_keep hb e2
    replace Hs := Lib.hid (Hs.out.keep hb)
    replace Hm := Lib.hid (Hm.out.keep hb)
    replace He := Lib.hid (He.out.keep hb)
    clear hb
    go_wp2
    refine bodyPost_ret (v := .tuple #[.slice none 0 0, .bool false]) (by simp [results, Try.results26, go_sem]) rfl ?_
    rw [HE.out]
    exact ⟨_, rfl, OInts.nil _ _, HB.out⟩
  | true =>
    have HOK := Lib.hid hok
    clear hok
    cases hmo : modelB s m with
    | false =>
      have HMO := Lib.hid hmo
      have HE := Lib.hid (fails_no2 (e := e) hmo)
      clear hmo
      go_enter Try.func26, Try.ntmps26
      go_wp2_with fail
      clear hW
      refine (eqOk_any s e _ _ _ HSM.out Hs.out He.out).mono ?_
      rw [HOK.out]
      rintro x w1 ⟨rfl, hb⟩
      replace HB := Lib.hid (sz_keep HB.out hb)
      replace s0 := cell_keep hb s0
      replace s1 := cell_keep hb s1
      replace m0 := cell_keep hb m0
      replace m1 := cell_keep hb m1
      replace e0 := cell_keep hb e0
      replace e1 := cell_keep hb e1
      replace e2 := cell_keep hb e2
      replace Hs := Lib.hid (Hs.out.keep hb)
      replace Hm := Lib.hid (Hm.out.keep hb)
      replace He := Lib.hid (He.out.keep hb)
      clear hb
      go_wp2_with fail
      refine (modelOk_any s m _ _ _ Hs.out Hm.out).mono ?_
      rw [HMO.out]
      rintro x w2 ⟨rfl, hb⟩
      replace HB := Lib.hid (sz_keep HB.out hb)
      replace s0 := cell_keep hb s0
      replace s1 := cell_keep hb s1
      replace m0 := cell_keep hb m0
      replace m1 := cell_keep hb m1
      replace e0 := cell_keep hb e0
      replace e1 := cell_keep hb e1
      replace e2 := cell_keep hb e2
      replace Hs := Lib.hid (Hs.out.keep hb)
      replace Hm := Lib.hid (Hm.out.keep hb)
      replace He := Lib.hid (He.out.keep hb)
      clear hb
      go_wp2
      refine bodyPost_ret (v := .tuple #[.slice none 0 0, .bool false]) (by simp [results, Try.results26, go_sem]) rfl ?_
      rw [HE.out]
      exact ⟨_, rfl, OInts.nil _ _, HB.out⟩
    | true =>
      have HMO := Lib.hid hmo
      obtain ⟨hvb, l, r, hl, hr, hwl, hwr, -⟩ := eq_terms HOK.out
      have HF := Lib.hid (fails_yes HOK.out hmo hl hr)
      have HMF := Lib.hid (model_facts hmo)
      have HVB := Lib.hid (vars_valid hvb)
      have HVV := Lib.hid hvb
      have HL := Lib.hid hl
      have HR := Lib.hid hr
      have HWL := Lib.hid hwl
      have HWR := Lib.hid hwr
      have HRV : Hid (∀ x ∈ e.vars, 0 ≤ x ∧ x < s.sorts) := fun x hx => by obtain ⟨k, hk, rfl⟩ := List.getElem_of_mem hx; exact HVB.out.2.2 k hk
      have HZS : Hid (Sizes (ledM m.sizes e.vars)) := HMF.out.led HRV.out
      have hv4 := HVB.out.2.1
      clear hmo hvb hl hr hwl hwr
      go_enter Try.func26, Try.ntmps26
      go_wp2_with fail
      clear hW
      refine (eqOk_any s e _ _ _ HSM.out Hs.out He.out).mono ?_
      rw [HOK.out]
      rintro x w1 ⟨rfl, hb⟩
      replace HB := Lib.hid (sz_keep HB.out hb)
      replace s0 := cell_keep hb s0
      replace s1 := cell_keep hb s1
      replace m0 := cell_keep hb m0
      replace m1 := cell_keep hb m1
      replace e0 := cell_keep hb e0
      replace e1 := cell_keep hb e1
      replace e2 := cell_keep hb e2
      replace Hs := Lib.hid (Hs.out.keep hb)
      replace Hm := Lib.hid (Hm.out.keep hb)
      replace He := Lib.hid (He.out.keep hb)
      clear hb
      go_wp2_with fail
      refine (modelOk_any s m _ _ _ Hs.out Hm.out).mono ?_
      rw [HMO.out]
      rintro x w2 ⟨rfl, hb⟩
      replace HB := Lib.hid (sz_keep HB.out hb)
      replace s0 := cell_keep hb s0
      replace s1 := cell_keep hb s1
      replace m0 := cell_keep hb m0
      replace m1 := cell_keep hb m1
      replace e0 := cell_keep hb e0
      replace e1 := cell_keep hb e1
      replace e2 := cell_keep hb e2
      replace Hs := Lib.hid (Hs.out.keep hb)
      replace Hm := Lib.hid (Hm.out.keep hb)
      replace He := Lib.hid (He.out.keep hb)
      clear hb
      go_wp2_with fail
      refine (termOf_any s e.vars e.left _ _ _ _ HSM.out.1 Hs.out He.out.of.1 He.out.of.2.1).mono ?_
      rw [HL.out]
      rintro x w3 ⟨⟨ul, rfl, hul⟩, hb⟩
      have HUL := Lib.hid hul
      obtain ⟨Tl, yl, -, rfl, -⟩ := hul.sorts
      replace HB := Lib.hid (sz_keep HB.out hb)
      replace s0 := cell_keep hb s0
      replace s1 := cell_keep hb s1
      replace m0 := cell_keep hb m0
      replace m1 := cell_keep hb m1
      replace e0 := cell_keep hb e0
      replace e1 := cell_keep hb e1
      replace e2 := cell_keep hb e2
      replace Hs := Lib.hid (Hs.out.keep hb)
      replace Hm := Lib.hid (Hm.out.keep hb)
      replace He := Lib.hid (He.out.keep hb)
      clear hb
      clear hul
      go_wp2_with fail
      refine (termOf_any s e.vars e.right _ _ _ _ HSM.out.2 Hs.out He.out.of.1 He.out.of.2.2).mono ?_
      rw [HR.out]
      rintro x w4 ⟨⟨ur, rfl, hur⟩, hb⟩
      have HUR := Lib.hid hur
      obtain ⟨Tr, yr, -, rfl, -⟩ := hur.sorts
      replace HUL := Lib.hid (HUL.out.below hb)
      replace HB := Lib.hid (sz_keep HB.out hb)
      replace s0 := cell_keep hb s0
      replace s1 := cell_keep hb s1
      replace m0 := cell_keep hb m0
      replace m1 := cell_keep hb m1
      replace e0 := cell_keep hb e0
      replace e1 := cell_keep hb e1
      replace e2 := cell_keep hb e2
      replace Hs := Lib.hid (Hs.out.keep hb)
      replace Hm := Lib.hid (Hm.out.keep hb)
      replace He := Lib.hid (He.out.keep hb)
      clear hb
      clear hur
      go_wp2_with fail
      refine (sizesOf_any m e.vars _ _ _ Hm.out He.out.of.1 (HMF.out.into HRV.out) (by omega)).mono ?_
      rintro x w5 ⟨uz, rfl, hoz, hb⟩
      have HUZ := Lib.hid hoz.reads
      obtain ⟨Az, cz, rfl, -⟩ := hoz.reads.form
      replace HUL := Lib.hid (HUL.out.below hb)
      replace HUR := Lib.hid (HUR.out.below hb)
      replace HB := Lib.hid (sz_keep HB.out hb)
      replace s0 := cell_keep hb s0
      replace s1 := cell_keep hb s1
      replace m0 := cell_keep hb m0
      replace m1 := cell_keep hb m1
      replace e0 := cell_keep hb e0
      replace e1 := cell_keep hb e1
      replace e2 := cell_keep hb e2
      replace Hs := Lib.hid (Hs.out.keep hb)
      replace Hm := Lib.hid (Hm.out.keep hb)
      replace He := Lib.hid (He.out.keep hb)
      clear hb
      clear hoz
      have HLZ := Lib.hid (ledM_len m.sizes e.vars)
      have HDV := Lib.hid (fun n => dig_vals HMF.out HVV.out n)
      generalize hzs : ledM m.sizes e.vars = zs at HZS HUZ HF HLZ HDV
      have hzl : zs.length ≤ 4 := by rw [HLZ.out]; exact hv4
      clear hzs
      go_wp2_with fail
      refine (rowsOf_any zs _ _ HUZ.out HZS.out hzl).mono ?_
      rintro x w6 ⟨rfl, rfl⟩
      have hwp := ways_pos HZS.out
      have hwf := ways_few HZS.out hzl
      obtain ⟨N, hN⟩ : ∃ N : Nat, waysM zs = (N : Int) := ⟨(waysM zs).toNat, by omega⟩
      have HN := Lib.hid (show (waysM zs).toNat = N by omega)
      rw [hN] at hwp hwf ⊢
      have HC := Lib.hid (And.intro m0 m1)
      clear hN s0 s1 m0 m1 e0 e1 e2
      go_wp2
      go_loopw [13, 14, 49] (fun _ _ i wr => ∃ n : Nat, n ≤ N ∧ i = .int .i64 n ∧ NoFail m zs l r n ∧ Below w5.heap.size w5 wr) (fun _ _ i _ => N - (intOf i).toNat)
      case atStart => exact ⟨0, Nat.zero_le _, rfl, noFail_zero _ _ _ _, Below.refl _ _⟩
      case round =>
        obtain ⟨n, hn, rfl, hnf, hd⟩ := hrel
        have HNF := Lib.hid hnf
        have HD := Lib.hid hd
        clear hnf hd
        by_cases hlt : n < N
        · have hlt' : (n : Int) < (N : Int) := by omega
          go_wp2_with fail
          refine (rowAt_any zs (n : Int) _ _ (HUZ.out.keep HD.out) HZS.out hzl (by omega) (by omega)).mono ?_
          rintro x w7 ⟨uv, rfl, hov, hb7⟩
          have HOV := Lib.hid hov
          obtain ⟨Av, cv, rfl, -⟩ := hov.reads.form
          have HX7 := Lib.hid (sz_keep HD.out hb7)
          have HSZ7 := Lib.hid (sz_keep HB.out HX7.out).size
          have HWR7 := Lib.hid (show w.heap.size ≤ wr.heap.size from (sz_keep HB.out HD.out).size)
          have g0 := cell_keep HX7.out HC.out.1
          have g1 := cell_keep HX7.out HC.out.2
          have HVO := Lib.hid (HDV.out (n : Int))
          clear hov hb7
          generalize hds : digM zs (n : Int) = ds at HOV HVO ⊢
          have HDS := Lib.hid hds
          obtain ⟨vl, hvl⟩ : ∃ x, valT m ds l = x := ⟨_, rfl⟩
          obtain ⟨vr, hvr⟩ : ∃ x, valT m ds r = x := ⟨_, rfl⟩
          have HVL := Lib.hid hvl
          have HVR := Lib.hid hvr
          clear hds hvl hvr
          go_wp2_with fail
          refine wp_region_held_drew (S := (fun w' => w'.cell? ⟨w.heap.size + 1, 0, none⟩ = some (.slice Ama m.sizes.length cma) ∧ w'.cell? ⟨w.heap.size + 1, 1, none⟩ = some (.slice Amb m.tables.length cmb))) (by kernel_rfl) ?_ (fun hHeld => ?_)
          · exact ⟨g0, g1⟩
          refine wpAnyH_take (i := 0) (oi := _) (v := ?_) rfl (by kernel_rfl) (by kernel_rfl) (by kernel_rfl) (fun _ _ _ h => h) (Or.inl ⟨by rfl, ?_⟩) (by assumption) ?_
          rotate_left
          · first | (intro w' hSw; (try dsimp only at hSw); go_simp; done) | (intro w' hSw; (try dsimp only at hSw); go_simp; with_reducible rfl)
          try simp only [Act.put, List.getElem_toArray, List.getElem_cons_zero, List.getElem_cons_succ, List.setIfInBounds_toArray, List.set_cons_zero, List.set_cons_succ]
          refine wpAnyH_take (i := 1) (oi := _) (v := ?_) rfl (by kernel_rfl) (by kernel_rfl) (by kernel_rfl) (fun _ _ _ h => h) (Or.inl ⟨by rfl, ?_⟩) (by assumption) ?_
          rotate_left
          · first | (intro w' hSw; (try dsimp only at hSw); go_simp; done) | (intro w' hSw; (try dsimp only at hSw); go_simp; with_reducible rfl)
          try simp only [Act.put, List.getElem_toArray, List.getElem_cons_zero, List.getElem_cons_succ, List.setIfInBounds_toArray, List.set_cons_zero, List.set_cons_succ]
          refine wpAnyH_take (i := 2) (oi := _) (v := ?_) rfl (by kernel_rfl) (by kernel_rfl) (by kernel_rfl) (fun _ _ _ h => h) (Or.inl ⟨by rfl, ?_⟩) (by assumption) ?_
          rotate_left
          · first | (intro w' hSw; (try dsimp only at hSw); go_simp; done) | (intro w' hSw; (try dsimp only at hSw); go_simp; with_reducible rfl)
          try simp only [Act.put, List.getElem_toArray, List.getElem_cons_zero, List.getElem_cons_succ, List.setIfInBounds_toArray, List.set_cons_zero, List.set_cons_succ]
          refine wpAnyH_take (i := 4) (oi := _) (v := ?_) rfl (by kernel_rfl) (by kernel_rfl) (by kernel_rfl) (fun _ _ _ h => h) (Or.inl ⟨by rfl, ?_⟩) (by assumption) ?_
          rotate_left
          · first | (intro w' hSw; (try dsimp only at hSw); go_simp; done) | (intro w' hSw; (try dsimp only at hSw); go_simp; with_reducible rfl)
          try simp only [Act.put, List.getElem_toArray, List.getElem_cons_zero, List.getElem_cons_succ, List.setIfInBounds_toArray, List.set_cons_zero, List.set_cons_succ]
          refine wpAnyH_take (i := 5) (oi := _) (v := ?_) rfl (by kernel_rfl) (by kernel_rfl) (by kernel_rfl) (fun _ _ _ h => h) (Or.inl ⟨by rfl, ?_⟩) (by assumption) ?_
          rotate_left
          · first | (intro w' hSw; (try dsimp only at hSw); go_simp; done) | (intro w' hSw; (try dsimp only at hSw); go_simp; with_reducible rfl)
          try simp only [Act.put, List.getElem_toArray, List.getElem_cons_zero, List.getElem_cons_succ, List.setIfInBounds_toArray, List.set_cons_zero, List.set_cons_succ]
          refine wpAnyH_take (i := 6) (oi := _) (v := ?_) rfl (by kernel_rfl) (by kernel_rfl) (by kernel_rfl) (fun _ _ _ h => h) (Or.inl ⟨by rfl, ?_⟩) (by assumption) ?_
          rotate_left
          · first | (intro w' hSw; (try dsimp only at hSw); go_simp; done) | (intro w' hSw; (try dsimp only at hSw); go_simp; with_reducible rfl)
          try simp only [Act.put, List.getElem_toArray, List.getElem_cons_zero, List.getElem_cons_succ, List.setIfInBounds_toArray, List.set_cons_zero, List.set_cons_succ]
          refine wpAnyH_ready (rs := [3]) (by kernel_rfl) (by simp) ?_
          refine AllReadyH.cons (o := _) rfl (fun K hK => ?_) AllReadyH.nil
          go_simp
          refine (val_any HMF.out HVO.out l HWL.out _ _ _ _ _ ((Hm.out.keep HX7.out).keep (map_drew (Below.refl _ _))) ((HUL.out.below HX7.out).below (map_drew (Below.refl _ _))) (HOV.out.reads.keep (map_drew (Below.refl _ _)))).mono ?_
          rw [HVL.out]
          rintro x w8 ⟨rfl, hb8⟩
          have hx8 := map_undrew hb8
          have HX8 := Lib.hid hx8
          have j0 := cell_keep hx8 g0
          have j1 := cell_keep hx8 g1
          clear hb8 hx8
          go_wp2_with fail
          refine hK.out _ _ ?_ (fun hHeld => ?_)
          · exact ⟨j0, j1⟩
          clear hK K
          try simp only [Act.put, List.getElem_toArray, List.getElem_cons_zero, List.getElem_cons_succ, List.setIfInBounds_toArray, List.set_cons_zero, List.set_cons_succ]
          refine wpAnyH_ready (rs := [7]) (by kernel_rfl) (by simp) ?_
          refine AllReadyH.cons (o := _) rfl (fun K hK => ?_) AllReadyH.nil
          go_simp
          refine (val_any HMF.out HVO.out r HWR.out _ _ _ _ _ ((Hm.out.keep HX7.out).keep HX8.out) ((HUR.out.below HX7.out).below HX8.out) (HOV.out.reads.keep HX8.out)).mono ?_
          rw [HVR.out]
          rintro x w9 ⟨rfl, hb9⟩
          have HX9 := Lib.hid (sz_keep HX8.out hb9)
          have q0 := cell_keep hb9 j0
          have q1 := cell_keep hb9 j1
          clear hb9
          go_wp2_with fail
          refine hK.out _ _ ?_ (fun hHeld => ?_)
          · exact ⟨q0, q1⟩
          clear hK K
          try simp only [Act.put, List.getElem_toArray, List.getElem_cons_zero, List.getElem_cons_succ, List.setIfInBounds_toArray, List.set_cons_zero, List.set_cons_succ]
          refine wpAnyH_take (i := 8) (oi := _) (v := ?_) rfl (by kernel_rfl) (by kernel_rfl) (by kernel_rfl) (fun _ _ _ h => h) (Or.inl ⟨by rfl, ?_⟩) (by assumption) ?_
          rotate_left
          · first | (intro w' hSw; (try dsimp only at hSw); go_simp; done) | (intro w' hSw; (try dsimp only at hSw); go_simp; with_reducible rfl)
          try simp only [Act.put, List.getElem_toArray, List.getElem_cons_zero, List.getElem_cons_succ, List.setIfInBounds_toArray, List.set_cons_zero, List.set_cons_succ]
          refine wpAnyH_done (by kernel_rfl) ?_ _
          clear g0 g1 j0 j1 q0 q1
          by_cases hvv : vl = vr
          · have hne : (vl != vr) = false := by simp [hvv]
            have HST := Lib.hid (HNF.out.step (by rw [HN.out]; exact hlt) (by rw [HDS.out, HVL.out, HVR.out, hvv]))
            clear hvv
            go_wp2
            go_roundw
            case rel => exact ⟨n + 1, by omega, by go_num, HST.out, sz_keep HX7.out HX9.out⟩
            case measure => simp [intOf]; omega
          · have hne : (vl != vr) = true := by simpa using hvv
            have HHT := Lib.hid (HNF.out.hit (by rw [HN.out]; exact hlt) (by rw [HDS.out, HVL.out, HVR.out]; exact hvv))
            clear hvv
            go_wp2
            refine bodyPost_ret (v := .tuple #[.slice Av ds.length cv, .bool true]) (by simp [results, Try.results26, go_sem]) rfl ?_
            rw [HF.out, HHT.out, HDS.out]
            exact ⟨_, rfl, (HOV.out.keep HX9.out).base HWR7.out, sz_keep HB.out (sz_keep HX7.out HX9.out)⟩
        · have hnn : n = N := by omega
          have hlt' : ¬ (n : Int) < (N : Int) := by omega
          have HNO := Lib.hid (HNF.out.none (by rw [HN.out]; exact hnn))
          go_wp2
          refine bodyPost_ret (v := .tuple #[.slice none 0 0, .bool false]) (by simp [results, Try.results26, go_sem]) rfl ?_
          rw [HF.out, HNO.out]
          exact ⟨_, rfl, OInts.nil _ _, sz_keep HB.out HD.out⟩
end

section
open Go.RowKit
set_option linter.unusedVariables false
set_option linter.unusedSimpArgs false

theorem dig_zero (zs : List Int) : digM zs 0 = List.replicate zs.length 0 := by
  induction zs with
  | nil => rfl
  | cons z zs ih => simp [digM, ih, List.replicate_succ]
/-- the number of the row with a number -/
theorem place_dig {zs : List Int} (hz : Sizes zs) : ∀ (p n : Int), 0 ≤ n → placeM p zs (digM zs n) = p * waysM zs + n % waysM zs := by
  induction zs with
  | nil => intro p n _; simp [placeM, digM, waysM, Int.emod_one]
  | cons z zs ih =>
    intro p n hn
    have hz1 := hz z (List.mem_cons_self ..)
    have hw := ways_pos hz.tail
    simp only [digM, placeM, waysM]
    rw [ih hz.tail _ _ hn]
    generalize waysM zs = W at *
    have e1 := Int.emod_add_mul_ediv n W
    have e2 := Int.emod_add_mul_ediv (n / W) z
    have c1 := Int.emod_nonneg (n / W) (show z ≠ 0 by omega)
    have c2 := Int.emod_lt_of_pos (n / W) (show 0 < z by omega)
    have b1 := Int.emod_nonneg n (show W ≠ 0 by omega)
    have b2 := Int.emod_lt_of_pos n (show 0 < W by omega)
    have key : n % (z * W) = W * (n / W % z) + n % W := by
      have c4 : W * (n / W % z) ≤ W * (z - 1) := Int.mul_le_mul_of_nonneg_left (by omega) (by omega)
      have c5 : 0 ≤ W * (n / W % z) := Int.mul_nonneg (by omega) c1
      rw [Int.mul_sub] at c4
      have e : n = (W * (n / W % z) + n % W) + z * W * (n / W / z) := by
        have : W * (n / W) = W * (n / W % z) + z * W * (n / W / z) := by
          conv => lhs; rw [← e2]
          rw [Int.mul_add, Int.mul_comm z W, Int.mul_assoc]
        omega
      conv => lhs; rw [e]
      rw [Int.add_mul_emod_self_left, Int.emod_eq_of_lt (by omega) (by rw [Int.mul_comm z W]; omega)]
    rw [key, Int.add_mul, Int.mul_assoc, Int.mul_comm (n / W % z) W]
    omega
def readRow (w : World) (g : Nat) : List Int := match w.heap[g]? with
  | some (.cells cs _ _) => cs.toList.map intOf
  | _ => []
theorem readRow_own {w : World} {B g : Nat} {xs : List Int} (h : OInts w B (.slice (some ⟨g, 0, none⟩) xs.length xs.length) xs) : readRow w g = xs := by
  rcases h.2 with ⟨e, _⟩ | ⟨g', cap, cur, e, hg, hh, h1, h2, h3, h4⟩
  · cases e
  · injection e with e1 e2 e3
    injection e1 with e1
    injection e1 with e1
    subst e1 e3
    unfold readRow
    rw [hh]
    simp only
    rw [List.take_of_length_le (by simp at h3 ⊢; omega)] at h4
    rw [h4, List.map_map]
    conv => rhs; rw [← List.map_id xs]
    exact List.map_congr_left fun x _ => rfl
/-- how many rows of values are still to come -/
def leftM (zs : List Int) (N g : Nat) (more : Value) (w : World) : Nat := match more with
  | .bool true => N - (placeM 0 zs (readRow w g)).toNat + 1
  | _ => 0

theorem dig_small {zs ds : List Int} (hz : Sizes zs) (h : InAll zs ds) : ∀ x ∈ ds, 0 ≤ x ∧ x ≤ 1000000 := by
  intro x hx
  obtain ⟨k, hk, rfl⟩ := List.getElem_of_mem hx
  have hk' : k < zs.length := by rw [← h.1]; exact hk
  have := h.2 k hk' hk
  have := hz _ (List.getElem_mem hk')
  omega
theorem l4Next_is (zs xs : List Int) (n : Nat) (hn : xs.length = n) (B g c : Nat) (w : World) (lv : Value) (h : OInts w B (.slice (some ⟨g, 0, none⟩) n c) xs) (hs : xs.length ≤ 1000000) (hb : ∀ x ∈ xs, 0 ≤ x ∧ x ≤ 1000000) (hl : ∀ W', w.grownBy W' (some g) → RInts W' lv zs) (hlen : xs.length = zs.length := by assumption) :
    Calls Try.prog 58 #[.slice (some ⟨g, 0, none⟩) n c, lv] w fun e w' => e = .returned (.bool (nextM zs xs).2) ∧ OInts w' B (.slice (some ⟨g, 0, none⟩) n c) (nextM zs xs).1 ∧ w.grownBy w' (some g) ∧ w'.heap.size = w.heap.size := by
  subst hn
  exact l4Next_any zs xs B g c w lv h hlen hs hb hl

set_option maxHeartbeats 3200000 in
set_option maxRecDepth 100000 in
theorem specFailsAt_any (s : MSig) (m : MModel) (e : MEq) (w : World) (v v' v2 : Value) (h1 : RSig w v s) (h2 : RModel w v' m) (h3 : REq w v2 e) :
    Calls Try.prog 24 #[v, v', v2] w (PairPost (failsM s m e) w) := by
  obtain ⟨Asa, csa, rfl⟩ := h1.form
  obtain ⟨Ama, cma, Amb, cmb, rfl⟩ := h2.form
  obtain ⟨Aea, cea, Aeb, ceb, Aec, cec, rfl⟩ := h3.form
  have hb : Below w.heap.size w (((w.alloc (.cells #[.int .i64 s.sorts, .slice Asa s.ops.length csa] 31)).alloc (.cells #[.slice Ama m.sizes.length cma, .slice Amb m.tables.length cmb] 33)).alloc (.cells #[.slice Aea e.vars.length cea, .slice Aeb e.left.length ceb, .slice Aec e.right.length cec] 49)) := ((below_alloc _ _).alloc (by simp) _).alloc (by simp; omega) _
  have HB := Lib.hid hb
  have hsz : (((w.alloc (.cells #[.int .i64 s.sorts, .slice Asa s.ops.length csa] 31)).alloc (.cells #[.slice Ama m.sizes.length cma, .slice Amb m.tables.length cmb] 33)).alloc (.cells #[.slice Aea e.vars.length cea, .slice Aeb e.left.length ceb, .slice Aec e.right.length cec] 49)).heap.size = w.heap.size + 3 := by simp
  have Hs := Lib.hid (h1.keep hb)
  have s0 := cell_keep (below_alloc ((w.alloc (.cells #[.int .i64 s.sorts, .slice Asa s.ops.length csa] 31)).alloc (.cells #[.slice Ama m.sizes.length cma, .slice Amb m.tables.length cmb] 33)) (.cells #[.slice Aea e.vars.length cea, .slice Aeb e.left.length ceb, .slice Aec e.right.length cec] 49)) (cell_keep (below_alloc (w.alloc (.cells #[.int .i64 s.sorts, .slice Asa s.ops.length csa] 31)) (.cells #[.slice Ama m.sizes.length cma, .slice Amb m.tables.length cmb] 33)) (bx_at (w) #[.int .i64 s.sorts, .slice Asa s.ops.length csa] 31 (k := 0) rfl))
  have s1 := cell_keep (below_alloc ((w.alloc (.cells #[.int .i64 s.sorts, .slice Asa s.ops.length csa] 31)).alloc (.cells #[.slice Ama m.sizes.length cma, .slice Amb m.tables.length cmb] 33)) (.cells #[.slice Aea e.vars.length cea, .slice Aeb e.left.length ceb, .slice Aec e.right.length cec] 49)) (cell_keep (below_alloc (w.alloc (.cells #[.int .i64 s.sorts, .slice Asa s.ops.length csa] 31)) (.cells #[.slice Ama m.sizes.length cma, .slice Amb m.tables.length cmb] 33)) (bx_at (w) #[.int .i64 s.sorts, .slice Asa s.ops.length csa] 31 (k := 1) rfl))
  have Hm := Lib.hid (h2.keep hb)
  have m0 := cell_keep (below_alloc ((w.alloc (.cells #[.int .i64 s.sorts, .slice Asa s.ops.length csa] 31)).alloc (.cells #[.slice Ama m.sizes.length cma, .slice Amb m.tables.length cmb] 33)) (.cells #[.slice Aea e.vars.length cea, .slice Aeb e.left.length ceb, .slice Aec e.right.length cec] 49)) (bx_at (w.alloc (.cells #[.int .i64 s.sorts, .slice Asa s.ops.length csa] 31)) #[.slice Ama m.sizes.length cma, .slice Amb m.tables.length cmb] 33 (k := 0) rfl)
  have m1 := cell_keep (below_alloc ((w.alloc (.cells #[.int .i64 s.sorts, .slice Asa s.ops.length csa] 31)).alloc (.cells #[.slice Ama m.sizes.length cma, .slice Amb m.tables.length cmb] 33)) (.cells #[.slice Aea e.vars.length cea, .slice Aeb e.left.length ceb, .slice Aec e.right.length cec] 49)) (bx_at (w.alloc (.cells #[.int .i64 s.sorts, .slice Asa s.ops.length csa] 31)) #[.slice Ama m.sizes.length cma, .slice Amb m.tables.length cmb] 33 (k := 1) rfl)
  have He := Lib.hid (h3.keep hb)
  have e0 := bx_at ((w.alloc (.cells #[.int .i64 s.sorts, .slice Asa s.ops.length csa] 31)).alloc (.cells #[.slice Ama m.sizes.length cma, .slice Amb m.tables.length cmb] 33)) #[.slice Aea e.vars.length cea, .slice Aeb e.left.length ceb, .slice Aec e.right.length cec] 49 (k := 0) rfl
  have e1 := bx_at ((w.alloc (.cells #[.int .i64 s.sorts, .slice Asa s.ops.length csa] 31)).alloc (.cells #[.slice Ama m.sizes.length cma, .slice Amb m.tables.length cmb] 33)) #[.slice Aea e.vars.length cea, .slice Aeb e.left.length ceb, .slice Aec e.right.length cec] 49 (k := 1) rfl
  have e2 := bx_at ((w.alloc (.cells #[.int .i64 s.sorts, .slice Asa s.ops.length csa] 31)).alloc (.cells #[.slice Ama m.sizes.length cma, .slice Amb m.tables.length cmb] 33)) #[.slice Aea e.vars.length cea, .slice Aeb e.left.length ceb, .slice Aec e.right.length cec] 49 (k := 2) rfl
  simp only [World.size_alloc] at m0 m1 e0 e1 e2
  generalize hW : ((w.alloc (.cells #[.int .i64 s.sorts, .slice Asa s.ops.length csa] 31)).alloc (.cells #[.slice Ama m.sizes.length cma, .slice Amb m.tables.length cmb] 33)).alloc (.cells #[.slice Aea e.vars.length cea, .slice Aeb e.left.length ceb, .slice Aec e.right.length cec] 49) = W at HB hsz Hs s0 s1 Hm m0 m1 He e0 e1 e2
  clear hb h1 h2 h3
  cases hmo : modelB s m with
  | false =>
    have HMO := Lib.hid hmo
    have HE := Lib.hid (fails_no2 (e := e) hmo)
    clear hmo
    go_enter Try.func24, Try.ntmps24
    go_wp2_with fail
    clear hW
    refine (specModelOk_any s m _ _ _ Hs.out Hm.out).mono ?_
    rw [HMO.out]
    rintro x w2 ⟨rfl, hb⟩
    replace HB := Lib.hid (sz_keep HB.out hb)
    replace s0 := cell_keep hb s0
    replace s1 := cell_keep hb s1
    replace m0 := cell_keep hb m0
    replace m1 := cell_keep hb m1
    replace e0 := cell_keep hb e0
    replace e1 := cell_keep hb e1
    replace e2 := cell_keep hb e2
    replace Hs := Lib.hid (Hs.out.keep hb)
    replace Hm := Lib.hid (Hm.out.keep hb)
    replace He := Lib.hid (He.out.keep hb)
    clear hb
    go_wp2
    refine bodyPost_ret (v := .tuple #[.slice (some ⟨w2.heap.size, 0, none⟩) 0 0, .bool false]) (by simp [results, Try.results24, go_sem]) rfl ?_
    rw [HE.out]
    exact ⟨_, rfl, (own_empty w2).base HB.out.size, HB.out.alloc HB.out.size _⟩
  | true =>
    have HMO := Lib.hid hmo
    cases hok : eqOkB s e with
    | false =>
      have HOK := Lib.hid hok
      have HE := Lib.hid (fails_no1 (m := m) hok)
      clear hok hmo
      go_enter Try.func24, Try.ntmps24
      go_wp2_with fail
      clear hW
      refine (specModelOk_any s m _ _ _ Hs.out Hm.out).mono ?_
      rw [HMO.out]
      rintro x w2 ⟨rfl, hb⟩
      replace HB := Lib.hid (sz_keep HB.out hb)
      replace s0 := cell_keep hb s0
      replace s1 := cell_keep hb s1
      replace m0 := cell_keep hb m0
      replace m1 := cell_keep hb m1
      replace e0 := cell_keep hb e0
      replace e1 := cell_keep hb e1
      replace e2 := cell_keep hb e2
      replace Hs := Lib.hid (Hs.out.keep hb)
      replace Hm := Lib.hid (Hm.out.keep hb)
      replace He := Lib.hid (He.out.keep hb)
      clear hb
      go_wp2_with fail
      refine (specEqOk_any s e _ _ _ Hs.out He.out).mono ?_
      rw [HOK.out]
      rintro x w1 ⟨rfl, hb⟩
      replace HB := Lib.hid (sz_keep HB.out hb)
      replace s0 := cell_keep hb s0
      replace s1 := cell_keep hb s1
      replace m0 := cell_keep hb m0
      replace m1 := cell_keep hb m1
      replace e0 := cell_keep hb e0
      replace e1 := cell_keep hb e1
      replace e2 := cell_keep hb e2
      replace Hs := Lib.hid (Hs.out.keep hb)
      replace Hm := Lib.hid (Hm.out.keep hb)
      replace He := Lib.hid (He.out.keep hb)
      clear hb
      go_wp2
      refine bodyPost_ret (v := .tuple #[.slice (some ⟨w1.heap.size, 0, none⟩) 0 0, .bool false]) (by simp [results, Try.results24, go_sem]) rfl ?_
      rw [HE.out]
      exact ⟨_, rfl, (own_empty w1).base HB.out.size, HB.out.alloc HB.out.size _⟩
    | true =>
      have HOK := Lib.hid hok
      clear hok
      obtain ⟨hvb, l, r, hl, hr, hwl, hwr, hlr, hrr, hll, hrl⟩ := eq_terms HOK.out
      have HF := Lib.hid (fails_yes HOK.out hmo hl hr)
      have HMF := Lib.hid (model_facts hmo)
      have HVB := Lib.hid (vars_valid hvb)
      have HVV := Lib.hid hvb
      have HL := Lib.hid hl
      have HR := Lib.hid hr
      have HWL := Lib.hid hwl
      have HWR := Lib.hid hwr
      have HLR := Lib.hid (show e.left.drop 0 = l.row ++ [] by rw [hlr]; simp)
      have HRR := Lib.hid (show e.right.drop 0 = r.row ++ [] by rw [hrr]; simp)
      have HRV : Hid (∀ x ∈ e.vars, 0 ≤ x ∧ x < s.sorts) := fun x hx => by obtain ⟨k, hk, rfl⟩ := List.getElem_of_mem hx; exact HVB.out.2.2 k hk
      have HZS : Hid (Sizes (ledM m.sizes e.vars)) := HMF.out.led HRV.out
      have HRL : Hid (rowLed m.sizes e.vars = ledM m.sizes e.vars) := rowLed_led fun x hx => by have := HRV.out x hx; have := valid_sorts HMF.out.va; omega
      have hv4 := HVB.out.2.1
      clear hmo hvb hl hr hwl hwr hlr hrr
      go_enter Try.func24, Try.ntmps24
      go_wp2_with fail
      clear hW
      refine (specModelOk_any s m _ _ _ Hs.out Hm.out).mono ?_
      rw [HMO.out]
      rintro x w2 ⟨rfl, hb⟩
      replace HB := Lib.hid (sz_keep HB.out hb)
      replace s0 := cell_keep hb s0
      replace s1 := cell_keep hb s1
      replace m0 := cell_keep hb m0
      replace m1 := cell_keep hb m1
      replace e0 := cell_keep hb e0
      replace e1 := cell_keep hb e1
      replace e2 := cell_keep hb e2
      replace Hs := Lib.hid (Hs.out.keep hb)
      replace Hm := Lib.hid (Hm.out.keep hb)
      replace He := Lib.hid (He.out.keep hb)
      clear hb
      go_wp2_with fail
      refine (specEqOk_any s e _ _ _ Hs.out He.out).mono ?_
      rw [HOK.out]
      rintro x w1 ⟨rfl, hb⟩
      replace HB := Lib.hid (sz_keep HB.out hb)
      replace s0 := cell_keep hb s0
      replace s1 := cell_keep hb s1
      replace m0 := cell_keep hb m0
      replace m1 := cell_keep hb m1
      replace e0 := cell_keep hb e0
      replace e1 := cell_keep hb e1
      replace e2 := cell_keep hb e2
      replace Hs := Lib.hid (Hs.out.keep hb)
      replace Hm := Lib.hid (Hm.out.keep hb)
      replace He := Lib.hid (He.out.keep hb)
      clear hb
      go_wp2_with fail
      refine (l5Limits_any _ _ e.vars m _ Hm.out He.out.of.1 (fun x hx => by have := HRV.out x hx; have := HMF.out.sl; omega) (by omega)).mono ?_
      rw [HRL.out]
      rintro x w5 ⟨uz, rfl, hoz, hb⟩
      have HUZ := Lib.hid hoz.reads
      obtain ⟨Az, cz, rfl, -⟩ := hoz.reads.form
      replace HB := Lib.hid (sz_keep HB.out hb)
      replace s0 := cell_keep hb s0
      replace s1 := cell_keep hb s1
      replace m0 := cell_keep hb m0
      replace m1 := cell_keep hb m1
      replace e0 := cell_keep hb e0
      replace e1 := cell_keep hb e1
      replace e2 := cell_keep hb e2
      replace Hs := Lib.hid (Hs.out.keep hb)
      replace Hm := Lib.hid (Hm.out.keep hb)
      replace He := Lib.hid (He.out.keep hb)
      clear hb
      clear hoz
      have HLZ := Lib.hid (ledM_len m.sizes e.vars)
      have HDV := Lib.hid (fun n => dig_vals HMF.out HVV.out n)
      generalize hzs : ledM m.sizes e.vars = zs at HZS HUZ HF HLZ HDV
      have hzl : zs.length ≤ 4 := by rw [HLZ.out]; exact hv4
      have hwp := ways_pos HZS.out
      have hwf := ways_few HZS.out hzl
      obtain ⟨N, hN⟩ : ∃ N : Nat, waysM zs = (N : Int) := ⟨(waysM zs).toNat, by omega⟩
      have HN := Lib.hid hN
      rw [hN] at hwp hwf
      have hmk := run_make_row' (P := Try.prog) 25 3 (.int .i64 0) 8 Try.underlying25 Try.tinfo_int rfl .i64 .i64 zs.length (by omega) (by omega)
      have hba := below_alloc w5 (.cells (madeCells #[.int .i64 0] zs.length) 3)
      have hbn := World.alloc_heap_new w5 (.cells (madeCells #[.int .i64 0] zs.length) 3)
      have ho0 : OInts (w5.alloc (.cells (madeCells #[.int .i64 0] zs.length) 3)) w5.heap.size (.slice (some ⟨w5.heap.size, 0, none⟩) zs.length zs.length) (digM zs 0) := by
        rw [made_zero, ← dig_zero] at hbn ⊢
        have := row_owns (B := w5.heap.size) hbn (Nat.le_refl _) (by rw [digM_len]; omega)
        rw [digM_len] at this
        exact this
      generalize hW6 : w5.alloc (.cells (madeCells #[.int .i64 0] zs.length) 3) = w6 at hba ho0
      have HBA := Lib.hid hba
      have HO0 := Lib.hid ho0
      have HCS := Lib.hid (And.intro s0 (And.intro s1 (And.intro m0 (And.intro m1 (And.intro e0 (And.intro e1 e2))))))
      clear hzs hN hba ho0 hbn
      go_wp2
      clear hmk hW6 s0 s1 m0 m1 e0 e1 e2
      go_loopw [10, 11, 12, 13, 14] (fun p _ _ _ _ wr => ∃ (b : Bool) (n : Nat), p = .bool b ∧ (b = true → n < N) ∧ (b = false → n = N) ∧ NoFail m zs l r n ∧ (b = true → OInts wr w5.heap.size (.slice (some ⟨w5.heap.size, 0, none⟩) zs.length zs.length) (digM zs n)) ∧ Below w5.heap.size w5 wr) (fun p _ _ _ _ wr => leftM zs N w5.heap.size p wr)
      case atStart => exact ⟨true, 0, rfl, (fun _ => by omega), (fun h => absurd h (by simp)), noFail_zero _ _ _ _, (fun _ => HO0.out), HBA.out⟩
      case round =>
        obtain ⟨b, n, rfl, hlt, heq, hnf, hown, hd⟩ := hrel
        have HNF := Lib.hid hnf
        have HD := Lib.hid hd
        clear hnf
        cases b with
        | false =>
          have HNO := Lib.hid (HNF.out.none (by have := heq rfl; have := HN.out; omega))
          clear hlt heq hown hd
          have HB9 := Lib.hid (sz_keep HB.out HD.out)
          go_wp2
          refine bodyPost_ret (v := .tuple #[.slice (some ⟨wr.heap.size, 0, none⟩) 0 0, .bool false]) (by simp [results, Try.results24, go_sem]) rfl ?_
          rw [HF.out, HNO.out]
          exact ⟨_, rfl, (own_empty wr).base HB9.out.size, HB9.out.alloc HB9.out.size _⟩
        | true =>
          have hn := hlt rfl
          have HO := Lib.hid (hown rfl)
          have HVO := Lib.hid (HDV.out (n : Int))
          have HDL := Lib.hid (digM_len zs (n : Int))
          have HDI := Lib.hid (dig_in HZS.out (n : Int))
          have HND := Lib.hid (next_dig HZS.out (n : Int) (by omega))
          have HPD := Lib.hid (place_dig HZS.out 0 (n : Int) (by omega))
          clear hlt heq hown
          generalize hds : digM zs (n : Int) = ds at HO HVO HDL HDI HND HPD
          have HDS := Lib.hid hds
          clear hds
          obtain ⟨vl, hvl⟩ : ∃ x, valT m ds l = x := ⟨_, rfl⟩
          obtain ⟨vr, hvr⟩ : ∃ x, valT m ds r = x := ⟨_, rfl⟩
          have HVL := Lib.hid hvl
          have HVR := Lib.hid hvr
          have f0 := cell_keep hd HCS.out.1
          have f1 := cell_keep hd HCS.out.2.1
          have f2 := cell_keep hd HCS.out.2.2.1
          have f3 := cell_keep hd HCS.out.2.2.2.1
          have f4 := cell_keep hd HCS.out.2.2.2.2.1
          have f5 := cell_keep hd HCS.out.2.2.2.2.2.1
          have f6 := cell_keep hd HCS.out.2.2.2.2.2.2
          clear hvl hvr hd
          go_wp2_with fail
          refine (l5_any hll HMF.out HVO.out hv4 l HWL.out 0 [] _ _ _ _ _ HLR.out (Hs.out.keep HD.out) (Hm.out.keep HD.out) (He.out.of.2.1.keep HD.out) HO.out.reads).mono ?_
          rw [HVL.out]
          rintro x w7 ⟨rfl, hb7⟩
          have HX7 := Lib.hid hb7
          replace f0 := cell_keep hb7 f0
          replace f1 := cell_keep hb7 f1
          replace f2 := cell_keep hb7 f2
          replace f3 := cell_keep hb7 f3
          replace f4 := cell_keep hb7 f4
          replace f5 := cell_keep hb7 f5
          replace f6 := cell_keep hb7 f6
          clear hb7
          go_wp2_with fail
          refine (l5_any hrl HMF.out HVO.out hv4 r HWR.out 0 [] _ _ _ _ _ HRR.out ((Hs.out.keep HD.out).keep HX7.out) ((Hm.out.keep HD.out).keep HX7.out) ((He.out.of.2.2.keep HD.out).keep HX7.out) (HO.out.reads.keep HX7.out)).mono ?_
          rw [HVR.out]
          rintro x w8 ⟨rfl, hb8⟩
          have HX8 := Lib.hid (sz_keep HX7.out hb8)
          have HD8 := Lib.hid (sz_keep HD.out HX8.out)
          clear hb8 f0 f1 f2 f3 f4 f5 f6
          by_cases hvv : vl = vr
          · have hne : (vl != vr) = false := by simp [hvv]
            have HST := Lib.hid (HNF.out.step (by have := HN.out; omega) (by rw [HDS.out, HVL.out, HVR.out, hvv]))
            have hdl := HDL.out
            clear hvv
            have HSM := Lib.hid (dig_small HZS.out HDI.out)
            go_wp2_with fail
            refine (l4Next_is zs ds zs.length HDL.out w5.heap.size w5.heap.size zs.length _ _ (HO.out.keep HX8.out) (by omega) HSM.out (fun W' hg => HUZ.out.keep (HD8.out.grown hg HD8.out.size (fun k e => by cases e; exact Nat.le_refl _)))).mono ?_
            rw [HND.out]
            simp only
            have hdn : OInts wr w5.heap.size (.slice (some ⟨w5.heap.size, 0, none⟩) ds.length ds.length) ds := by rw [HDL.out]; exact HO.out
            have HM0 := Lib.hid (show leftM zs N w5.heap.size (.bool true) wr = N - n + 1 by
              unfold leftM
              simp only
              rw [readRow_own hdn, HPD.out, HN.out, Int.emod_eq_of_lt (by omega) (by omega)]
              omega)
            clear hdn hdl
            by_cases hlast : n + 1 < N
            · have hflag : (!(((n : Int) + 1) % waysM zs == 0)) = true := by
                rw [HN.out, Int.emod_eq_of_lt (by omega) (by omega)]
                simp; omega
              rw [hflag]
              rintro x w9 ⟨rfl, ho9, hg9, hz9⟩
              have HO9 := Lib.hid ho9
              have HD9 := Lib.hid (HD8.out.grown hg9 HD8.out.size (fun k e => by cases e; exact Nat.le_refl _))
              have hdn : OInts w9 w5.heap.size (.slice (some ⟨w5.heap.size, 0, none⟩) (digM zs ((n : Int) + 1)).length (digM zs ((n : Int) + 1)).length) (digM zs ((n : Int) + 1)) := by rw [digM_len]; exact ho9
              have HM1 := Lib.hid (show leftM zs N w5.heap.size (.bool true) w9 = N - (n + 1) + 1 by
                unfold leftM
                simp only
                rw [readRow_own hdn, place_dig HZS.out 0 ((n : Int) + 1) (by omega), HN.out, Int.emod_eq_of_lt (by omega) (by omega)]
                omega)
              clear ho9 hg9 hz9 hflag hdn
              go_wp2
              go_roundw
              case rel => exact ⟨true, n + 1, rfl, (fun _ => hlast), (fun h => absurd h (by simp)), HST.out, (fun _ => by have := HO9.out; simpa using this), HD9.out⟩
              case measure => rw [HM0.out, HM1.out]; omega
            · have hflag : (!(((n : Int) + 1) % waysM zs == 0)) = false := by
                rw [HN.out, show (n : Int) + 1 = (N : Int) by omega, Int.emod_self]
                rfl
              rw [hflag]
              rintro x w9 ⟨rfl, ho9, hg9, hz9⟩
              have HD9 := Lib.hid (HD8.out.grown hg9 HD8.out.size (fun k e => by cases e; exact Nat.le_refl _))
              clear ho9 hg9 hz9 hflag
              go_wp2
              go_roundw
              case rel => exact ⟨false, n + 1, rfl, (fun h => absurd h (by simp)), (fun _ => by omega), HST.out, (fun h => absurd h (by simp)), HD9.out⟩
              case measure => rw [HM0.out]; unfold leftM; simp only; omega
          · have hne : (vl != vr) = true := by simpa using hvv
            have HHT := Lib.hid (HNF.out.hit (by have := HN.out; omega) (by rw [HDS.out, HVL.out, HVR.out]; exact hvv))
            clear hvv
            go_wp2
            refine bodyPost_ret (v := .tuple #[.slice (some ⟨w5.heap.size, 0, none⟩) zs.length zs.length, .bool true]) (by simp [results, Try.results24, go_sem]) rfl ?_
            rw [HF.out, HHT.out, HDS.out]
            exact ⟨_, rfl, (HO.out.keep HX8.out).base HB.out.size, sz_keep HB.out HD8.out⟩
end

section
open Go.RowKit
set_option linter.unusedVariables false
set_option linter.unusedSimpArgs false

theorem holds_no1 {s : MSig} {m : MModel} {e : MEq} (h : eqOkB s e = false) : holdsB s m e = false := by unfold holdsB; simp [h]
theorem holds_no2 {s : MSig} {m : MModel} {e : MEq} (h : modelB s m = false) : holdsB s m e = false := by unfold holdsB; simp [h]
theorem holds_yes {s : MSig} {m : MModel} {e : MEq} (h1 : eqOkB s e = true) (h2 : modelB s m = true) : holdsB s m e = !(failsM s m e).2 := by unfold holdsB; simp [h1, h2]

set_option maxHeartbeats 1600000 in
set_option maxRecDepth 100000 in
theorem holds_any (s : MSig) (m : MModel) (e : MEq) (w : World) (v v' v2 : Value) (hsm : SmallE e) (h1 : RSig w v s) (h2 : RModel w v' m) (h3 : REq w v2 e) :
    Calls Try.prog 34 #[v, v', v2] w fun x w' => x = .returned (.bool (holdsB s m e)) ∧ Below w.heap.size w w' := by
  obtain ⟨Asa, csa, rfl⟩ := h1.form
  obtain ⟨Ama, cma, Amb, cmb, rfl⟩ := h2.form
  obtain ⟨Aea, cea, Aeb, ceb, Aec, cec, rfl⟩ := h3.form
  have hb : Below w.heap.size w (((w.alloc (.cells #[.int .i64 s.sorts, .slice Asa s.ops.length csa] 31)).alloc (.cells #[.slice Ama m.sizes.length cma, .slice Amb m.tables.length cmb] 33)).alloc (.cells #[.slice Aea e.vars.length cea, .slice Aeb e.left.length ceb, .slice Aec e.right.length cec] 49)) := ((below_alloc _ _).alloc (by simp) _).alloc (by simp; omega) _
  have HB := Lib.hid hb
  have hsz : (((w.alloc (.cells #[.int .i64 s.sorts, .slice Asa s.ops.length csa] 31)).alloc (.cells #[.slice Ama m.sizes.length cma, .slice Amb m.tables.length cmb] 33)).alloc (.cells #[.slice Aea e.vars.length cea, .slice Aeb e.left.length ceb, .slice Aec e.right.length cec] 49)).heap.size = w.heap.size + 3 := by simp
  have Hs := Lib.hid (h1.keep hb)
  have s0 := cell_keep (below_alloc ((w.alloc (.cells #[.int .i64 s.sorts, .slice Asa s.ops.length csa] 31)).alloc (.cells #[.slice Ama m.sizes.length cma, .slice Amb m.tables.length cmb] 33)) (.cells #[.slice Aea e.vars.length cea, .slice Aeb e.left.length ceb, .slice Aec e.right.length cec] 49)) (cell_keep (below_alloc (w.alloc (.cells #[.int .i64 s.sorts, .slice Asa s.ops.length csa] 31)) (.cells #[.slice Ama m.sizes.length cma, .slice Amb m.tables.length cmb] 33)) (bx_at (w) #[.int .i64 s.sorts, .slice Asa s.ops.length csa] 31 (k := 0) rfl))
  have s1 := cell_keep (below_alloc ((w.alloc (.cells #[.int .i64 s.sorts, .slice Asa s.ops.length csa] 31)).alloc (.cells #[.slice Ama m.sizes.length cma, .slice Amb m.tables.length cmb] 33)) (.cells #[.slice Aea e.vars.length cea, .slice Aeb e.left.length ceb, .slice Aec e.right.length cec] 49)) (cell_keep (below_alloc (w.alloc (.cells #[.int .i64 s.sorts, .slice Asa s.ops.length csa] 31)) (.cells #[.slice Ama m.sizes.length cma, .slice Amb m.tables.length cmb] 33)) (bx_at (w) #[.int .i64 s.sorts, .slice Asa s.ops.length csa] 31 (k := 1) rfl))
  have Hm := Lib.hid (h2.keep hb)
  have m0 := cell_keep (below_alloc ((w.alloc (.cells #[.int .i64 s.sorts, .slice Asa s.ops.length csa] 31)).alloc (.cells #[.slice Ama m.sizes.length cma, .slice Amb m.tables.length cmb] 33)) (.cells #[.slice Aea e.vars.length cea, .slice Aeb e.left.length ceb, .slice Aec e.right.length cec] 49)) (bx_at (w.alloc (.cells #[.int .i64 s.sorts, .slice Asa s.ops.length csa] 31)) #[.slice Ama m.sizes.length cma, .slice Amb m.tables.length cmb] 33 (k := 0) rfl)
  have m1 := cell_keep (below_alloc ((w.alloc (.cells #[.int .i64 s.sorts, .slice Asa s.ops.length csa] 31)).alloc (.cells #[.slice Ama m.sizes.length cma, .slice Amb m.tables.length cmb] 33)) (.cells #[.slice Aea e.vars.length cea, .slice Aeb e.left.length ceb, .slice Aec e.right.length cec] 49)) (bx_at (w.alloc (.cells #[.int .i64 s.sorts, .slice Asa s.ops.length csa] 31)) #[.slice Ama m.sizes.length cma, .slice Amb m.tables.length cmb] 33 (k := 1) rfl)
  have He := Lib.hid (h3.keep hb)
  have e0 := bx_at ((w.alloc (.cells #[.int .i64 s.sorts, .slice Asa s.ops.length csa] 31)).alloc (.cells #[.slice Ama m.sizes.length cma, .slice Amb m.tables.length cmb] 33)) #[.slice Aea e.vars.length cea, .slice Aeb e.left.length ceb, .slice Aec e.right.length cec] 49 (k := 0) rfl
  have e1 := bx_at ((w.alloc (.cells #[.int .i64 s.sorts, .slice Asa s.ops.length csa] 31)).alloc (.cells #[.slice Ama m.sizes.length cma, .slice Amb m.tables.length cmb] 33)) #[.slice Aea e.vars.length cea, .slice Aeb e.left.length ceb, .slice Aec e.right.length cec] 49 (k := 1) rfl
  have e2 := bx_at ((w.alloc (.cells #[.int .i64 s.sorts, .slice Asa s.ops.length csa] 31)).alloc (.cells #[.slice Ama m.sizes.length cma, .slice Amb m.tables.length cmb] 33)) #[.slice Aea e.vars.length cea, .slice Aeb e.left.length ceb, .slice Aec e.right.length cec] 49 (k := 2) rfl
  simp only [World.size_alloc] at m0 m1 e0 e1 e2
  generalize hW : ((w.alloc (.cells #[.int .i64 s.sorts, .slice Asa s.ops.length csa] 31)).alloc (.cells #[.slice Ama m.sizes.length cma, .slice Amb m.tables.length cmb] 33)).alloc (.cells #[.slice Aea e.vars.length cea, .slice Aeb e.left.length ceb, .slice Aec e.right.length cec] 49) = W at HB hsz Hs s0 s1 Hm m0 m1 He e0 e1 e2
  clear hb h1 h2 h3
  have HSM := Lib.hid hsm
  clear hsm
  go_enter Try.func34, Try.ntmps34
  go_wp2_with fail
  clear hW
  refine (failsAt_any s m e _ _ _ _ HSM.out Hs.out Hm.out He.out).mono ?_
  rintro x w1 ⟨u, rfl, ho, hb⟩
  obtain ⟨Au, cu, rfl, -⟩ := ho.reads.form
  replace HB := Lib.hid (sz_keep HB.out hb)
  replace s0 := cell_keep hb s0
  replace s1 := cell_keep hb s1
  replace m0 := cell_keep hb m0
  replace m1 := cell_keep hb m1
  replace e0 := cell_keep hb e0
  replace e1 := cell_keep hb e1
  replace e2 := cell_keep hb e2
  replace Hs := Lib.hid (Hs.out.keep hb)
  replace Hm := Lib.hid (Hm.out.keep hb)
  replace He := Lib.hid (He.out.keep hb)
  clear hb
  clear ho
  generalize hfl : (failsM s m e).2 = fl
  have HFL := Lib.hid hfl
  generalize (failsM s m e).1.length = nl
  clear hfl
  cases hok : eqOkB s e with
  | false =>
    have HOK := Lib.hid hok
    have HE := Lib.hid (holds_no1 (m := m) hok)
    clear hok
    go_wp2_with fail
    refine (eqOk_any s e _ _ _ HSM.out Hs.out He.out).mono ?_
    rw [HOK.out]
    rintro x w2 ⟨rfl, hb⟩
    replace HB := Lib.hid (sz_keep HB.out hb)
    replace s0 := cell_keep hb s0
    replace s1 := cell_keep hb s1
    replace m0 := cell_keep hb m0
    replace m1 := cell_keep hb m1
    replace e0 := cell_keep hb e0
    replace e1 := cell_keep hb e1
    replace e2 := cell_keep hb e2
    replace Hs := Lib.hid (Hs.out.keep hb)
    replace Hm := Lib.hid (Hm.out.keep hb)
    replace He := Lib.hid (He.out.keep hb)
    clear hb
    go_wp2
    go_ret
    exact ⟨ret_bool HE.out.symm, HB.out⟩
  | true =>
    have HOK := Lib.hid hok
    clear hok
    cases hmo : modelB s m with
    | false =>
      have HMO := Lib.hid hmo
      have HE := Lib.hid (holds_no2 (e := e) hmo)
      clear hmo
      go_wp2_with fail
      refine (eqOk_any s e _ _ _ HSM.out Hs.out He.out).mono ?_
      rw [HOK.out]
      rintro x w2 ⟨rfl, hb⟩
      replace HB := Lib.hid (sz_keep HB.out hb)
      replace s0 := cell_keep hb s0
      replace s1 := cell_keep hb s1
      replace m0 := cell_keep hb m0
      replace m1 := cell_keep hb m1
      replace e0 := cell_keep hb e0
      replace e1 := cell_keep hb e1
      replace e2 := cell_keep hb e2
      replace Hs := Lib.hid (Hs.out.keep hb)
      replace Hm := Lib.hid (Hm.out.keep hb)
      replace He := Lib.hid (He.out.keep hb)
      clear hb
      go_wp2_with fail
      refine (modelOk_any s m _ _ _ Hs.out Hm.out).mono ?_
      rw [HMO.out]
      rintro x w3 ⟨rfl, hb⟩
      replace HB := Lib.hid (sz_keep HB.out hb)
      replace s0 := cell_keep hb s0
      replace s1 := cell_keep hb s1
      replace m0 := cell_keep hb m0
      replace m1 := cell_keep hb m1
      replace e0 := cell_keep hb e0
      replace e1 := cell_keep hb e1
      replace e2 := cell_keep hb e2
      replace Hs := Lib.hid (Hs.out.keep hb)
      replace Hm := Lib.hid (Hm.out.keep hb)
      replace He := Lib.hid (He.out.keep hb)
      clear hb
      go_wp2
      go_ret
      exact ⟨ret_bool HE.out.symm, HB.out⟩
    | true =>
      have HMO := Lib.hid hmo
      have HE := Lib.hid (holds_yes HOK.out hmo)
      rw [HFL.out] at HE
      clear hmo
      go_wp2_with fail
      refine (eqOk_any s e _ _ _ HSM.out Hs.out He.out).mono ?_
      rw [HOK.out]
      rintro x w2 ⟨rfl, hb⟩
      replace HB := Lib.hid (sz_keep HB.out hb)
      replace s0 := cell_keep hb s0
      replace s1 := cell_keep hb s1
      replace m0 := cell_keep hb m0
      replace m1 := cell_keep hb m1
      replace e0 := cell_keep hb e0
      replace e1 := cell_keep hb e1
      replace e2 := cell_keep hb e2
      replace Hs := Lib.hid (Hs.out.keep hb)
      replace Hm := Lib.hid (Hm.out.keep hb)
      replace He := Lib.hid (He.out.keep hb)
      clear hb
      go_wp2_with fail
      refine (modelOk_any s m _ _ _ Hs.out Hm.out).mono ?_
      rw [HMO.out]
      rintro x w3 ⟨rfl, hb⟩
      replace HB := Lib.hid (sz_keep HB.out hb)
      replace s0 := cell_keep hb s0
      replace s1 := cell_keep hb s1
      replace m0 := cell_keep hb m0
      replace m1 := cell_keep hb m1
      replace e0 := cell_keep hb e0
      replace e1 := cell_keep hb e1
      replace e2 := cell_keep hb e2
      replace Hs := Lib.hid (Hs.out.keep hb)
      replace Hm := Lib.hid (Hm.out.keep hb)
      replace He := Lib.hid (He.out.keep hb)
      clear hb
      go_wp2
      go_ret
      exact ⟨ret_bool HE.out.symm, HB.out⟩

set_option maxHeartbeats 1600000 in
set_option maxRecDepth 100000 in
theorem specHolds_any (s : MSig) (m : MModel) (e : MEq) (w : World) (v v' v2 : Value) (h1 : RSig w v s) (h2 : RModel w v' m) (h3 : REq w v2 e) :
    Calls Try.prog 33 #[v, v', v2] w fun x w' => x = .returned (.bool (holdsB s m e)) ∧ Below w.heap.size w w' := by
  obtain ⟨Asa, csa, rfl⟩ := h1.form
  obtain ⟨Ama, cma, Amb, cmb, rfl⟩ := h2.form
  obtain ⟨Aea, cea, Aeb, ceb, Aec, cec, rfl⟩ := h3.form
  have hb : Below w.heap.size w (((w.alloc (.cells #[.int .i64 s.sorts, .slice Asa s.ops.length csa] 31)).alloc (.cells #[.slice Ama m.sizes.length cma, .slice Amb m.tables.length cmb] 33)).alloc (.cells #[.slice Aea e.vars.length cea, .slice Aeb e.left.length ceb, .slice Aec e.right.length cec] 49)) := ((below_alloc _ _).alloc (by simp) _).alloc (by simp; omega) _
  have HB := Lib.hid hb
  have hsz : (((w.alloc (.cells #[.int .i64 s.sorts, .slice Asa s.ops.length csa] 31)).alloc (.cells #[.slice Ama m.sizes.length cma, .slice Amb m.tables.length cmb] 33)).alloc (.cells #[.slice Aea e.vars.length cea, .slice Aeb e.left.length ceb, .slice Aec e.right.length cec] 49)).heap.size = w.heap.size + 3 := by simp
  have Hs := Lib.hid (h1.keep hb)
  have s0 := cell_keep (below_alloc ((w.alloc (.cells #[.int .i64 s.sorts, .slice Asa s.ops.length csa] 31)).alloc (.cells #[.slice Ama m.sizes.length cma, .slice Amb m.tables.length cmb] 33)) (.cells #[.slice Aea e.vars.length cea, .slice Aeb e.left.length ceb, .slice Aec e.right.length cec] 49)) (cell_keep (below_alloc (w.alloc (.cells #[.int .i64 s.sorts, .slice Asa s.ops.length csa] 31)) (.cells #[.slice Ama m.sizes.length cma, .slice Amb m.tables.length cmb] 33)) (bx_at (w) #[.int .i64 s.sorts, .slice Asa s.ops.length csa] 31 (k := 0) rfl))
  have s1 := cell_keep (below_alloc ((w.alloc (.cells #[.int .i64 s.sorts, .slice Asa s.ops.length csa] 31)).alloc (.cells #[.slice Ama m.sizes.length cma, .slice Amb m.tables.length cmb] 33)) (.cells #[.slice Aea e.vars.length cea, .slice Aeb e.left.length ceb, .slice Aec e.right.length cec] 49)) (cell_keep (below_alloc (w.alloc (.cells #[.int .i64 s.sorts, .slice Asa s.ops.length csa] 31)) (.cells #[.slice Ama m.sizes.length cma, .slice Amb m.tables.length cmb] 33)) (bx_at (w) #[.int .i64 s.sorts, .slice Asa s.ops.length csa] 31 (k := 1) rfl))
  have Hm := Lib.hid (h2.keep hb)
  have m0 := cell_keep (below_alloc ((w.alloc (.cells #[.int .i64 s.sorts, .slice Asa s.ops.length csa] 31)).alloc (.cells #[.slice Ama m.sizes.length cma, .slice Amb m.tables.length cmb] 33)) (.cells #[.slice Aea e.vars.length cea, .slice Aeb e.left.length ceb, .slice Aec e.right.length cec] 49)) (bx_at (w.alloc (.cells #[.int .i64 s.sorts, .slice Asa s.ops.length csa] 31)) #[.slice Ama m.sizes.length cma, .slice Amb m.tables.length cmb] 33 (k := 0) rfl)
  have m1 := cell_keep (below_alloc ((w.alloc (.cells #[.int .i64 s.sorts, .slice Asa s.ops.length csa] 31)).alloc (.cells #[.slice Ama m.sizes.length cma, .slice Amb m.tables.length cmb] 33)) (.cells #[.slice Aea e.vars.length cea, .slice Aeb e.left.length ceb, .slice Aec e.right.length cec] 49)) (bx_at (w.alloc (.cells #[.int .i64 s.sorts, .slice Asa s.ops.length csa] 31)) #[.slice Ama m.sizes.length cma, .slice Amb m.tables.length cmb] 33 (k := 1) rfl)
  have He := Lib.hid (h3.keep hb)
  have e0 := bx_at ((w.alloc (.cells #[.int .i64 s.sorts, .slice Asa s.ops.length csa] 31)).alloc (.cells #[.slice Ama m.sizes.length cma, .slice Amb m.tables.length cmb] 33)) #[.slice Aea e.vars.length cea, .slice Aeb e.left.length ceb, .slice Aec e.right.length cec] 49 (k := 0) rfl
  have e1 := bx_at ((w.alloc (.cells #[.int .i64 s.sorts, .slice Asa s.ops.length csa] 31)).alloc (.cells #[.slice Ama m.sizes.length cma, .slice Amb m.tables.length cmb] 33)) #[.slice Aea e.vars.length cea, .slice Aeb e.left.length ceb, .slice Aec e.right.length cec] 49 (k := 1) rfl
  have e2 := bx_at ((w.alloc (.cells #[.int .i64 s.sorts, .slice Asa s.ops.length csa] 31)).alloc (.cells #[.slice Ama m.sizes.length cma, .slice Amb m.tables.length cmb] 33)) #[.slice Aea e.vars.length cea, .slice Aeb e.left.length ceb, .slice Aec e.right.length cec] 49 (k := 2) rfl
  simp only [World.size_alloc] at m0 m1 e0 e1 e2
  generalize hW : ((w.alloc (.cells #[.int .i64 s.sorts, .slice Asa s.ops.length csa] 31)).alloc (.cells #[.slice Ama m.sizes.length cma, .slice Amb m.tables.length cmb] 33)).alloc (.cells #[.slice Aea e.vars.length cea, .slice Aeb e.left.length ceb, .slice Aec e.right.length cec] 49) = W at HB hsz Hs s0 s1 Hm m0 m1 He e0 e1 e2
  clear hb h1 h2 h3
  go_enter Try.func33, Try.ntmps33
  go_wp2_with fail
  clear hW
  refine (specFailsAt_any s m e _ _ _ _ Hs.out Hm.out He.out).mono ?_
  rintro x w1 ⟨u, rfl, ho, hb⟩
  obtain ⟨Au, cu, rfl, -⟩ := ho.reads.form
  replace HB := Lib.hid (sz_keep HB.out hb)
  replace s0 := cell_keep hb s0
  replace s1 := cell_keep hb s1
  replace m0 := cell_keep hb m0
  replace m1 := cell_keep hb m1
  replace e0 := cell_keep hb e0
  replace e1 := cell_keep hb e1
  replace e2 := cell_keep hb e2
  replace Hs := Lib.hid (Hs.out.keep hb)
  replace Hm := Lib.hid (Hm.out.keep hb)
  replace He := Lib.hid (He.out.keep hb)
  clear hb
  clear ho
  generalize hfl : (failsM s m e).2 = fl
  have HFL := Lib.hid hfl
  generalize (failsM s m e).1.length = nl
  clear hfl
  cases hmo : modelB s m with
  | false =>
    have HMO := Lib.hid hmo
    have HE := Lib.hid (holds_no2 (e := e) hmo)
    clear hmo
    go_wp2_with fail
    refine (specModelOk_any s m _ _ _ Hs.out Hm.out).mono ?_
    rw [HMO.out]
    rintro x w3 ⟨rfl, hb⟩
    replace HB := Lib.hid (sz_keep HB.out hb)
    replace s0 := cell_keep hb s0
    replace s1 := cell_keep hb s1
    replace m0 := cell_keep hb m0
    replace m1 := cell_keep hb m1
    replace e0 := cell_keep hb e0
    replace e1 := cell_keep hb e1
    replace e2 := cell_keep hb e2
    replace Hs := Lib.hid (Hs.out.keep hb)
    replace Hm := Lib.hid (Hm.out.keep hb)
    replace He := Lib.hid (He.out.keep hb)
    clear hb
    go_wp2
    go_ret
    exact ⟨ret_bool HE.out.symm, HB.out⟩
  | true =>
    have HMO := Lib.hid hmo
    clear hmo
    cases hok : eqOkB s e with
    | false =>
      have HOK := Lib.hid hok
      have HE := Lib.hid (holds_no1 (m := m) hok)
      clear hok
      go_wp2_with fail
      refine (specModelOk_any s m _ _ _ Hs.out Hm.out).mono ?_
      rw [HMO.out]
      rintro x w3 ⟨rfl, hb⟩
      replace HB := Lib.hid (sz_keep HB.out hb)
      replace s0 := cell_keep hb s0
      replace s1 := cell_keep hb s1
      replace m0 := cell_keep hb m0
      replace m1 := cell_keep hb m1
      replace e0 := cell_keep hb e0
      replace e1 := cell_keep hb e1
      replace e2 := cell_keep hb e2
      replace Hs := Lib.hid (Hs.out.keep hb)
      replace Hm := Lib.hid (Hm.out.keep hb)
      replace He := Lib.hid (He.out.keep hb)
      clear hb
      go_wp2_with fail
      refine (specEqOk_any s e _ _ _ Hs.out He.out).mono ?_
      rw [HOK.out]
      rintro x w2 ⟨rfl, hb⟩
      replace HB := Lib.hid (sz_keep HB.out hb)
      replace s0 := cell_keep hb s0
      replace s1 := cell_keep hb s1
      replace m0 := cell_keep hb m0
      replace m1 := cell_keep hb m1
      replace e0 := cell_keep hb e0
      replace e1 := cell_keep hb e1
      replace e2 := cell_keep hb e2
      replace Hs := Lib.hid (Hs.out.keep hb)
      replace Hm := Lib.hid (Hm.out.keep hb)
      replace He := Lib.hid (He.out.keep hb)
      clear hb
      go_wp2
      go_ret
      exact ⟨ret_bool HE.out.symm, HB.out⟩
    | true =>
      have HOK := Lib.hid hok
      have HE := Lib.hid (holds_yes hok HMO.out)
      rw [HFL.out] at HE
      clear hok
      go_wp2_with fail
      refine (specModelOk_any s m _ _ _ Hs.out Hm.out).mono ?_
      rw [HMO.out]
      rintro x w3 ⟨rfl, hb⟩
      replace HB := Lib.hid (sz_keep HB.out hb)
      replace s0 := cell_keep hb s0
      replace s1 := cell_keep hb s1
      replace m0 := cell_keep hb m0
      replace m1 := cell_keep hb m1
      replace e0 := cell_keep hb e0
      replace e1 := cell_keep hb e1
      replace e2 := cell_keep hb e2
      replace Hs := Lib.hid (Hs.out.keep hb)
      replace Hm := Lib.hid (Hm.out.keep hb)
      replace He := Lib.hid (He.out.keep hb)
      clear hb
      go_wp2_with fail
      refine (specEqOk_any s e _ _ _ Hs.out He.out).mono ?_
      rw [HOK.out]
      rintro x w2 ⟨rfl, hb⟩
      replace HB := Lib.hid (sz_keep HB.out hb)
      replace s0 := cell_keep hb s0
      replace s1 := cell_keep hb s1
      replace m0 := cell_keep hb m0
      replace m1 := cell_keep hb m1
      replace e0 := cell_keep hb e0
      replace e1 := cell_keep hb e1
      replace e2 := cell_keep hb e2
      replace Hs := Lib.hid (Hs.out.keep hb)
      replace Hm := Lib.hid (Hm.out.keep hb)
      replace He := Lib.hid (He.out.keep hb)
      clear hb
      go_wp2
      go_ret
      exact ⟨ret_bool HE.out.symm, HB.out⟩
end
end Go.Proofs.Yteccjnnhihbdhaa
