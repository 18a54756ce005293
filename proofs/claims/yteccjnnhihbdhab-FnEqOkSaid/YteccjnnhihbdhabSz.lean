/- The exact laws' measure and copy: szSig, toSig. -/
import Derived.Test.YteccjnnhihbdhabEq
import Derived.Test.YteccjnnhihbdhabOwn
import Derived.Deep.RegionHeld3
import Derived.Deep.OwnRows
namespace Go.Proofs.Yteccjnnhihbdhab
open Go.RowKit
set_option linter.unusedVariables false

theorem szIntS_any (v : Value) (xs : List Int) (left : Int) (w : World) (h : RInts w v xs) (h0 : 0 ≤ left) (h1 : left ≤ 1048576) :
    Calls Try.prog 46 #[v, .int .i64 left] w fun e w' => ∃ r : Int, e = .returned (.int .i64 r) ∧ (r < 0 ∨ (0 ≤ r ∧ r + xs.length = left)) ∧ w = w' := by
  have hn := h.len
  obtain ⟨A, c, rfl, -⟩ := h.form
  by_cases hl : left - (xs.length : Int) < 0
  · go_enter Try.func46, Try.ntmps46
    go_wp2
    go_ret
    exact ⟨-1, rfl, .inl (by omega), rfl⟩
  · go_enter Try.func46, Try.ntmps46
    go_wp2
    go_ret
    exact ⟨_, rfl, .inr ⟨by omega, by omega⟩, rfl⟩

/-- rows that are not too many and not too long -/
def Fits (rows : List (List Int)) : Prop := rows.length ≤ 1048576 ∧ ∀ row ∈ rows, row.length ≤ 1048576

theorem szIntSS_any (v : Value) (rows : List (List Int)) (left : Int) (w : World) (h : RRows w v rows) (h0 : 0 ≤ left) (h1 : left ≤ 1048576) :
    Calls Try.prog 45 #[v, .int .i64 left] w fun e w' => ∃ r : Int, e = .returned (.int .i64 r) ∧ (r < 0 ∨ (0 ≤ r ∧ r ≤ left ∧ Fits rows)) ∧ w = w' := by
  have H := Lib.hid h
  have hn := h.len
  obtain ⟨A, c, rfl, -⟩ := h.form
  clear h
  by_cases hl : left - (rows.length : Int) < 0
  · go_enter Try.func45, Try.ntmps45
    go_wp2
    go_ret
    exact ⟨-1, rfl, .inl (by omega), rfl⟩
  · go_enter Try.func45, Try.ntmps45
    go_wp2
    go_loop [1, 5] (fun l i => ∃ k : Nat, ∃ r : Int, k ≤ rows.length ∧ i = .int .i64 k ∧ l = .int .i64 r ∧ 0 ≤ r ∧ r ≤ left ∧ (∀ row ∈ rows.take k, row.length ≤ 1048576)) (fun _ i => rows.length - (intOf i).toNat)
    case atStart => exact ⟨0, _, Nat.zero_le _, rfl, rfl, by omega, by omega, by simp⟩
    case round =>
      obtain ⟨k, r, hk, rfl, rfl, hr0, hr1, hb0⟩ := hrel
      have hb := Lib.hid hb0
      clear hb0
      by_cases hlt : k < rows.length
      · obtain ⟨b, o, c', u, e, hcell, hri⟩ := H.out.at_ hlt
        cases e
        have HT := Lib.hid (List.take_succ_eq_append_getElem hlt)
        generalize rows[k] = row at hri HT
        have HI := Lib.hid hri
        obtain ⟨A', c'', rfl, -⟩ := hri.form
        clear hri
        go_wp2_with fail
        refine (szIntS_any _ row _ _ HI.out hr0 (by omega)).mono ?_
        rintro e w1 ⟨r', rfl, hr', rfl⟩
        by_cases hneg : r' < 0
        · clear hr'
          go_wp2
          go_ret
          exact ⟨-1, rfl, .inl (by omega), rfl⟩
        · obtain ⟨h2, h3⟩ := hr'.resolve_left hneg
          have HR := Lib.hid h3
          clear h3 hr'
          go_wp2
          go_round
          case rel =>
            refine ⟨k + 1, r', by omega, by go_num, rfl, h2, by have := HR.out; omega, ?_⟩
            rw [HT.out]
            intro x hx
            rcases List.mem_append.1 hx with hx | hx
            · exact hb.out x hx
            · simp at hx; subst hx; have := HR.out; omega
          case measure => simp [intOf]; omega
      · go_wp2
        go_ret
        have h := hb.out
        rw [take_all (by omega)] at h
        exact ⟨r, rfl, .inr ⟨hr0, hr1, by omega, h⟩, rfl⟩

theorem szSig_any (v : Value) (s : MSig) (left : Int) (w : World) (h : RSig w v s) (h0 : 0 ≤ left) (h1 : left ≤ 1048576) :
    Calls Try.prog 9 #[v, .int .i64 left] w fun e w' => ∃ r : Int, e = .returned (.int .i64 r) ∧ (r < 0 ∨ (0 ≤ r ∧ r ≤ left ∧ Fits s.ops)) ∧ Below w.heap.size w w' := by
  obtain ⟨u, rfl, hr⟩ := h
  obtain ⟨sorts, ops⟩ := s
  have H := Lib.hid (hr.keep (below_alloc w (.cells #[.int .i64 sorts, u] 24)))
  have HB := Lib.hid (below_alloc w (.cells #[.int .i64 sorts, u] 24))
  obtain ⟨A, c, rfl, -⟩ := hr.form
  clear hr
  go_enter Try.func9, Try.ntmps9
  go_wp2_with fail
  refine (szIntSS_any _ ops _ _ H.out h0 h1).mono ?_
  rintro e w1 ⟨r, rfl, hr, rfl⟩
  by_cases hneg : r < 0
  · clear hr
    go_wp2
    go_ret
    exact ⟨-1, rfl, .inl (by omega), HB.out⟩
  · have HR := Lib.hid (hr.resolve_left hneg)
    clear hr
    go_wp2
    go_ret
    exact ⟨r, rfl, .inr HR.out, HB.out⟩
end Go.Proofs.Yteccjnnhihbdhab
