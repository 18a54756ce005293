/- The exact laws' copies: toIntS, toIntSS, toSig. -/
import Derived.Test.YteccjnnhihbdhabSz
import Derived.Test.YteccjnnhihbdhabFill
namespace Go.Proofs.Yteccjnnhihbdhab
open Go.RowKit
set_option linter.unusedVariables false

theorem toIntS_any (v : Value) (xs : List Int) (w : World) (h : RInts w v xs) (hs : xs.length ≤ 1048576) :
    Calls Try.prog 49 #[v] w fun e w' => ∃ u, e = .returned u ∧ OInts w' w.heap.size u xs ∧ Below w.heap.size w w' := by
  have H := Lib.hid h
  obtain ⟨A, c, rfl, -⟩ := h.form
  clear h
  have hmk := run_make_row' (P := Try.prog) 25 3 (.int .i64 0) 8 Try.underlying25 Try.tinfo_int rfl .i64 .i64 xs.length (by omega) (by omega)
  go_enter Try.func49, Try.ntmps49
  go_wp2
  go_loopw [4] (fun i wr => ∃ k : Nat, k ≤ xs.length ∧ i = .int .i64 k ∧ Filling w wr xs k) (fun i _ => xs.length - (intOf i).toNat)
  case atStart => exact ⟨0, Nat.zero_le _, rfl, Filling.start w _ _ (by simp [madeCells])⟩
  case round =>
    obtain ⟨k, hk, rfl, hf⟩ := hrel
    have HF := Lib.hid hf
    clear hf hmk
    by_cases hlt : k < xs.length
    · obtain ⟨b, o, c', e, hx⟩ := (H.out.keep (by obtain ⟨_, _, _, _, hb⟩ := HF.out; exact hb)).at_ hlt
      cases e
      obtain ⟨u, g1, g2⟩ := HF.out.cell hlt
      have HX := Lib.hid (rfl : xs[k] = xs[k])
      obtain ⟨x, hxe⟩ : ∃ x, x = xs[k] := ⟨_, rfl⟩
      rw [← hxe] at hx
      have HX := Lib.hid hxe
      clear hxe
      go_wp2
      go_roundw
      case rel => exact ⟨k + 1, by omega, by go_num, HF.out.step hlt HX.out.symm⟩
      case measure => simp [intOf]; omega
    · go_wp2
      go_ret
      obtain ⟨r1, r2⟩ := HF.out.done (by omega) (by omega)
      have hkn : k = xs.length := by omega
      subst hkn
      exact ⟨_, rfl, r1, r2⟩

theorem toIntSS_any (v : Value) (rows : List (List Int)) (w : World) (h : RRows w v rows) (hs : Fits rows) :
    Calls Try.prog 48 #[v] w fun e w' => ∃ u, e = .returned u ∧ ORows w' w.heap.size u rows ∧ Below w.heap.size w w' := by
  have H := Lib.hid h
  have HS := Lib.hid hs
  obtain ⟨A, c, rfl, -⟩ := h.form
  have hlen := hs.1
  clear h hs
  have hmk := run_make_row' (P := Try.prog) 22 25 (.slice none 0 0) 24 Try.underlying22 Try.tinfo_ints rfl .i64 .i64 rows.length (by omega) (by omega)
  go_enter Try.func48, Try.ntmps48
  go_wp2
  go_loopw [4] (fun i wr => ∃ k : Nat, k ≤ rows.length ∧ i = .int .i64 k ∧ FillingR w wr rows k) (fun i _ => rows.length - (intOf i).toNat)
  case atStart => exact ⟨0, Nat.zero_le _, rfl, FillingR.start w _ _ (by simp [madeCells])⟩
  case round =>
    obtain ⟨k, hk, rfl, hf⟩ := hrel
    have HF := Lib.hid hf
    clear hf hmk
    by_cases hlt : k < rows.length
    · obtain ⟨b, o, c', u, e, hx, hri⟩ := (H.out.keep (by obtain ⟨_, _, _, _, _, hb⟩ := HF.out; exact hb)).at_ hlt
      cases e
      have hrl := HS.out.2 _ (List.getElem_mem hlt)
      have HI := Lib.hid hri
      have HRL := Lib.hid hrl
      obtain ⟨A', c'', rfl, -⟩ := hri.form
      clear hri hrl
      go_wp2_with fail
      refine (toIntS_any _ rows[k] _ HI.out HRL.out).mono ?_
      rintro e w1 ⟨u, rfl, ho, hb⟩
      obtain ⟨u0, g1, g2⟩ := HF.out.cell hlt hb
      have HN := Lib.hid (HF.out.step hlt hb ho)
      obtain ⟨A1, c1, rfl, -⟩ := ho.reads.form
      clear ho hb
      go_wp2
      go_roundw
      case rel => exact ⟨k + 1, by omega, by go_num, HN.out⟩
      case measure => simp [intOf]; omega
    · go_wp2
      go_ret
      obtain ⟨r1, r2⟩ := HF.out.done (by omega) (by omega)
      have hkn : k = rows.length := by omega
      subst hkn
      exact ⟨_, rfl, r1, r2⟩
end Go.Proofs.Yteccjnnhihbdhab
