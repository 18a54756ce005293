/- slices.Clone, TermAt of both packages. -/
import Derived.Test.YteccjnnhihbdhabFit
import Derived.Test.YteccjnnhihbdhabTakes2
import Derived.Deep.RegionHeld3
import Derived.Lib.SliceRun
namespace Go.Proofs.Yteccjnnhihbdhab
open Go.RowKit
set_option linter.unusedVariables false

theorem RInts.cut {w : World} {b o c k e : Nat} {A : Option Addr} {t : List Int} (h : RInts w (.slice (some ⟨b, o, none⟩) t.length c) t) (hk : k ≤ e) (he : e ≤ t.length) (hA : A = some ⟨b, o + k, none⟩) :
    RInts w (.slice A (e - k) (c - k)) ((t.drop k).take (e - k)) := by
  subst hA
  have hl : ((t.drop k).take (e - k)).length = e - k := by rw [List.length_take, List.length_drop]; omega
  obtain ⟨A', c', e', h1, h2, h3⟩ := h
  cases e'
  refine ⟨some ⟨b, o + k, none⟩, c - k, by rw [hl], by rw [hl]; omega, by omega, fun j x hj => ?_⟩
  rw [List.getElem?_take] at hj
  split at hj
  · rw [List.getElem?_drop] at hj
    obtain ⟨b', o', e', hc⟩ := h3 _ _ hj
    cases e'
    exact ⟨b, o + k, rfl, by rw [← hc]; congr 2; omega⟩
  · cases hj
theorem own_cut {w w2 : World} {o : Obj} {A : Option Addr} {n c : Nat} (h : (w.alloc o).grownBy w2 (Value.slice A n c).ownBlock) (hr : ∀ k, (Value.slice A n c).ownBlock = some k → w.heap.size ≤ k) : Below w.heap.size w w2 :=
  (below_alloc w o).trans ⟨h.os, h.tape, h.output, h.size, fun k hk => h.block k (Nat.lt_of_lt_of_le hk (by show w.heap.size ≤ (w.alloc o).heap.size; simp)) (fun e => by have := hr k e.symm; omega)⟩

set_option maxRecDepth 100000 in
theorem clone_any (ad : Addr) (n c : Nat) (xs : List Int) (w : World) (h : RInts w (.slice (some ad) n c) xs) (hs : xs.length ≤ 1048576) :
    Calls Try.prog 52 #[.slice (some ad) n c] w fun e w' => ∃ u, e = .returned u ∧ OInts w' w.heap.size u xs ∧ Below w.heap.size w w' := by
  obtain ⟨i0, hi0, hz0, hz1, hz2⟩ := info_parts Try.tinfo_int
  have H := Lib.hid h
  obtain ⟨A, c', e, h1, h2, h3⟩ := h
  cases e
  have HNEWS := Lib.hid (news_any (H.out.keep (below_alloc w (.cells #[] 3))))
  clear h3
  have hcmp := Lib.run_eql_slice_nil (P := Try.prog) w 25 3 (some ad) xs.length c 0 0 Try.underlying25
  simp only [Option.isNone_some] at hcmp
  go_enter Try.func52, Try.ntmps52
  go_wp2_with (at_builtin; refine wpList_append_own _ rfl _ _ 25 rfl w.heap.size 3 i0 (.int .i64 0) 1 8 Try.underlying25 hi0 hz0 hz1 hz2 rfl (by decide) _ 0 [] rfl (own_empty w) ad xs.length c (xs.map (Value.int .i64)) rfl (by simp) HNEWS.out (ints_one _) (by rw [maxLen_eq]; omega) (by omega) (by simp) ?_)
  intro v' w4 hown4 hgrow4 _
  have HO := Lib.hid hown4
  have HG := Lib.hid (own_cut hgrow4 (fun k e => by injection e with e; exact Nat.le_of_eq e))
  clear hown4 hgrow4
  go_wp2
  go_ret
  refine ⟨_, rfl, ?_, HG.out⟩
  have h := HO.out
  unfold OInts
  simpa using h

theorem atM_nil {s : MSig} {vars t : List Int} {k : Int} (h : ¬ (0 ≤ sortM s vars t ∧ 0 ≤ k ∧ k < t.length)) : atM s vars t k = [] := by unfold atM; rw [if_neg h]
theorem atM_yes {s : MSig} {vars t : List Int} {k : Nat} (h : 0 ≤ sortM s vars t) (hk : k < t.length) : atM s vars t k = partM s vars t k := by unfold atM; rw [if_pos ⟨h, by omega, by omega⟩, Int.toNat_natCast]

theorem at_small {s : MSig} {vars t : List Int} {a : Int} (h : Small t) : Small (atM s vars t a) := fun x hx => by
  by_cases hc : 0 ≤ sortM s vars t ∧ 0 ≤ a ∧ a < (t.length : Int)
  · obtain ⟨k, rfl⟩ := Int.eq_ofNat_of_zero_le hc.2.1
    obtain ⟨pre, sub, post, a1, a2, a3, a4, a5, -⟩ := part_of hc.1 (k := k) (by omega)
    rw [atM_yes hc.1 (by omega), a5] at hx
    exact h x (by rw [a1]; simp [hx])
  · rw [atM_nil hc] at hx; simp at hx
/-- a part that there is -/
theorem at_there {s : MSig} {vars t : List Int} {a : Int} (h : atM s vars t a ≠ []) : ∃ (k : Nat) (pre : List Int) (sub : Tm) (post : List Int), a = (k : Int) ∧ k < t.length ∧ t.length ≤ 30 ∧ 0 ≤ sortM s vars t ∧ varsB s vars = true ∧ t = pre ++ sub.row ++ post ∧ pre.length = k ∧ atM s vars t a = sub.row ∧ sortM s vars sub.row = sub.sort ∧ 0 ≤ sub.sort ∧ wfT s vars sub ∧ 1 ≤ sub.row.length ∧
    ∀ u : Tm, wfT s vars u → u.sort = sub.sort → (pre ++ u.row ++ post).length ≤ 30 → sortM s vars (pre ++ u.row ++ post) = sortM s vars t := by
  by_cases hc : 0 ≤ sortM s vars t ∧ 0 ≤ a ∧ a < (t.length : Int)
  · obtain ⟨k, rfl⟩ := Int.eq_ofNat_of_zero_le hc.2.1
    have hk : k < t.length := by omega
    obtain ⟨pre, sub, post, a1, a2, a3, a4, a5, a6, a7, a8⟩ := part_of hc.1 hk
    obtain ⟨tm0, hvo, hl30, -⟩ := sortM_to hc.1
    exact ⟨k, pre, sub, post, rfl, hk, hl30, hc.1, hvo, a1, a2, by rw [atM_yes hc.1 hk, a5], a6, a7, a3, row_pos sub, a8⟩
  · exact absurd (atM_nil hc) h
end Go.Proofs.Yteccjnnhihbdhab
