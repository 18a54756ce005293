/- l1Copy of rows that may be empty (package spec). -/
import Derived.Test.YtonainidjkcoeacApp
import Derived.Test.YtonainidjkcoeacPush
namespace Go.Proofs.Ytonainidjkcoeac
open Go.RowKit
set_option linter.unusedVariables false

theorem news_one2 (w : World) (x : Value) (t : TypeId) : ∀ (j : Nat) (u : Value), [x][j]? = some u → (w.alloc (.cells #[x] t)).cell? ((⟨w.heap.size, 0, none⟩ : Addr).add j) = some u := by
  intro j u hj
  match j, hj with
  | 0, hj =>
    simp at hj
    subst hj
    rw [show (⟨w.heap.size, 0, none⟩ : Addr).add 0 = ⟨w.heap.size, 0, none⟩ from rfl, World.cell?_alloc_at _ _ _ _ rfl]
    rfl
theorem rows_one2 {A : Option Addr} {n c : Nat} (x : Value) (hx : x = .slice A n c := by rfl) : ∀ u ∈ [x], u.oneCell' = true := by
  intro u hu; simp at hu; subst hu; subst hx; rfl
theorem own_emptyR2 (w : World) : w.alloc (.cells #[] 36) |>.ownsRow w.heap.size 36 1 (.slice (some ⟨w.heap.size, 0, none⟩) 0 0) 0 [] := World.ownsRow_lit w #[] 0 (Nat.le_refl _) (Nat.zero_le _) rfl
theorem ORows.empty2 (w : World) : ORows (w.alloc (.cells #[] 36)) w.heap.size (.slice (some ⟨w.heap.size, 0, none⟩) 0 0) [] := ⟨[], own_emptyR2 w, rfl, fun j u row h => by simp at h, fun i j u u' _ h => by simp at h⟩

theorem bel_grow2 {w w2 : World} {o : Obj} {A : Option Addr} {n c : Nat} (h : (w.alloc o).grownBy w2 (Value.slice A n c).ownBlock) (hr : ∀ k, (Value.slice A n c).ownBlock = some k → w.heap.size ≤ k) : Below w.heap.size w w2 :=
  (below_alloc w o).trans ⟨h.os, h.tape, h.output, h.size, fun k hk => h.block k (Nat.lt_of_lt_of_le hk (by simp)) (fun e => by have := hr k e.symm; omega)⟩

set_option maxRecDepth 100000 in
theorem l1CopyAny (v : Value) (rows : List (List Int)) (w : World) (h : RRows w v rows) (hs : rows.length ≤ 1048576) (hs2 : ∀ (j : Nat) (hj : j < rows.length), rows[j].length ≤ 1048576) :
    Calls Try.prog 93 #[v] w fun e w' => ∃ u, e = .returned u ∧ ORows w' w.heap.size u rows ∧ Below w.heap.size w w' := by
  obtain ⟨A, c, rfl, -⟩ := h.form
  have H := Lib.hid h
  have HS2 := Lib.hid hs2
  clear h hs2
  obtain ⟨i0, hi0, hz0, hz1, hz2⟩ := info_parts Try.tinfo_int
  obtain ⟨i1, hj, hy0, hy1, hy2⟩ := info_parts Try.tinfo_ints
  have HE := Lib.hid (ORows.empty2 w)
  have HB0 := Lib.hid (below_alloc w (.cells #[] 36))
  go_enter Try.func93, Try.ntmps93
  go_wp2
  go_loopw [3, 4] (fun o i wr => ∃ k : Nat, ∃ u, k ≤ rows.length ∧ i = .int .i64 k ∧ u = o ∧ ORows wr w.heap.size u (rows.take k) ∧ Below w.heap.size w wr) (fun _ i _ => rows.length - (intOf i).toNat)
  case atStart => exact ⟨0, _, Nat.zero_le _, rfl, rfl, HE.out, HB0.out⟩
  case round =>
    obtain ⟨k, u, hk, rfl, rfl, ho, hbw⟩ := hrel
    have HBW := Lib.hid hbw
    obtain ⟨us, hu1, hu2, hu3, hu4⟩ := ho
    have hfl : (rows.take k).length = k := by rw [List.length_take]; omega
    have HU1 := Lib.hid hu1
    have HO := Lib.hid (show ORows wr w.heap.size u (rows.take k) from ⟨us, hu1, hu2, hu3, hu4⟩)
    rw [hfl] at hu1
    obtain ⟨Au, cu, rfl, -⟩ := own_reads hu1
    have HUJ := Lib.hid hu1
    have HU2 := Lib.hid hu2
    have HU3 := Lib.hid hu3
    have HU4 := Lib.hid hu4
    have HFL := Lib.hid hfl
    clear hu1 hu2 hu3 hu4 hfl hbw
    by_cases hlt : k < rows.length
    · obtain ⟨b, o, c', ur, e, hcell, hri⟩ := (H.out.keep HBW.out).at_ hlt
      cases e
      have HFT := Lib.hid (List.take_succ_eq_append_getElem hlt)
      have hrl := HS2.out k hlt
      generalize rows[k] = row at hri HFT hrl
      obtain ⟨Ax, cx, rfl, -⟩ := hri.form
      obtain ⟨wo, rfl⟩ : ∃ wo : World, wo = wr := ⟨_, rfl⟩
      have hsw : w.heap.size ≤ wo.heap.size := HBW.out.size
      have hlb := World.block_lt_of_cell? wo _ hcell
      obtain ⟨A6, c6, w6, hrun, ho6, hg6⟩ := app_own_run (wo.alloc (.cells #[] 3)) 36 wo.heap.size _ _ [] row (own_empty wo) (hri.keep (below_alloc wo (.cells #[] 3))) (by simp; omega) (by simp)
      rw [List.nil_append] at hrun ho6
      have HRUN := Lib.hid hrun
      have HB6 := Lib.hid (bel_grow2 hg6 (fun k e => by injection e with e; exact Nat.le_of_eq e))
      have HO6 := Lib.hid (show OInts w6 wo.heap.size (.slice A6 row.length c6) row from ho6)
      clear hri hrun ho6 hg6
      have HOU := Lib.hid ((own_keep HUJ.out HB6.out).alloc (.cells #[.slice A6 row.length c6] 36))
      have HN6 := Lib.hid (news_one2 w6 (.slice A6 row.length c6) 36)
      have s6 := HB6.out.size
      go_wp2_with (first | (at_builtin; refine Lib.wpList_append_run _ rfl (.tmp 13) (.tmp 17) _ _ rfl _ _ rfl rfl _ _ HRUN.out ?_) | (at_builtin; refine wpList_append_own _ rfl (.tmp 12) (.tmp 19) 30 rfl w.heap.size 36 i1 (.slice none 0 0) 1 24 Try.underlying30 hj hy0 hy1 hy2 rfl (by decide) _ _ _ rfl HOU.out ⟨w6.heap.size, 0, none⟩ 1 1 [.slice A6 row.length c6] rfl rfl HN6.out (rows_one2 _) (by rw [maxLen_eq]; omega) (by omega) (by simp; omega) ?_))
      intro v7 w7 hv7 hg7 _
      have HR7 := Lib.hid (rows_made hsw HB6.out HO6.out HU1.out HU2.out HU3.out HU4.out (by rw [HFL.out]; exact hv7) hg7)
      have HB7 := Lib.hid (below_made HBW.out (Nat.le_refl _) HB6.out HU1.out hg7)
      obtain ⟨A7, c7, rfl, -⟩ := own_reads hv7
      clear hg7 hv7
      go_wp2
      go_roundw
      case rel => exact ⟨k + 1, _, by omega, by go_num, rfl, by rw [HFT.out]; exact HR7.out, HB7.out⟩
      case measure => simp [intOf]; omega
    · have hjn : k = rows.length := by omega
      subst hjn
      go_wp2
      go_ret
      exact ⟨_, rfl, by have h := HO.out; rwa [take_all (Nat.le_refl _)] at h, HBW.out⟩
end Go.Proofs.Ytonainidjkcoeac
