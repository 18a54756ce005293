/- ModelOk of package spec. -/
import Derived.Test.YteccjnnhihbdhaaModTb
namespace Go.Proofs.Yteccjnnhihbdhaa
open Go.RowKit
set_option linter.unusedVariables false
set_option linter.unusedSimpArgs false

theorem rowLed_dl {sizes row : List Int} (h : ∀ x ∈ row, 0 ≤ x ∧ x < (sizes.length : Int)) (hs : sizes.length ≤ 3) : rowLed sizes row.dropLast = ledM sizes row.dropLast :=
  rowLed_led fun x hx => by have := h x (List.mem_of_mem_dropLast' hx); omega
theorem led_dl_at {sizes row : List Int} {k : Nat} (hk : k + 1 < row.length) (h : ∀ x ∈ row, 0 ≤ x ∧ x < (sizes.length : Int)) (hs : sizes.length ≤ 3) (h1 : k < (ledM sizes row.dropLast).length) : (ledM sizes row.dropLast)[k] = sizes.getD (row[k]).toNat 0 := by
  have hd : k < row.dropLast.length := by rw [List.length_dropLast]; omega
  have e := ledM_at (to := sizes) hd
  rw [List.getElem?_eq_getElem h1] at e
  injection e with e
  rw [e]
  have hg : row.dropLast[k] = row[k] := List.getElem_dropLast hd
  rw [hg]
  have := h _ (List.getElem_mem (show k < row.length by omega))
  rw [if_pos (by omega)]

set_option maxRecDepth 100000 in
theorem l5Rows_any (sizes row : List Int) (w : World) (v v' : Value) (h : RInts w v sizes) (h' : RInts w v' row) (hr1 : 1 ≤ row.length) (hr3 : row.length ≤ 3) (hz : Sizes sizes) (hin : ∀ x ∈ row, 0 ≤ x ∧ x < (sizes.length : Int)) (hms : sizes.length ≤ 3) :
    Calls Try.prog 44 #[v, v'] w fun e w' => e = .returned (.int .i64 (waysM (ledM sizes row.dropLast))) ∧ w = w' := by
  have H := Lib.hid h
  have H' := Lib.hid h'
  obtain ⟨A, c, rfl, -⟩ := h.form
  obtain ⟨A', c', rfl, -⟩ := h'.form
  have hll : (ledM sizes row.dropLast).length = row.length - 1 := by rw [ledM_len, List.length_dropLast]
  have hsz : Sizes (ledM sizes row.dropLast) := sizes_led hz fun x hx => by have := hin x (List.mem_of_mem_dropLast' hx); omega
  have HW := Lib.hid (fun (k : Nat) (hk : k < (ledM sizes row.dropLast).length) => ways_wrap hsz (by omega) hk)
  have HA := Lib.hid (fun (k : Nat) (hk : k + 1 < row.length) (h1 : k < (ledM sizes row.dropLast).length) => led_dl_at hk hin hms h1)
  have HIN := Lib.hid hin
  have HLL := Lib.hid hll
  generalize hzs : ledM sizes row.dropLast = zs at HW HA HLL ⊢
  clear h h' hz hin hll hsz hzs
  go_enter Try.func44, Try.ntmps44
  go_wp2
  go_loopw [5, 6] (fun p i wr => ∃ k : Nat, k + 1 ≤ row.length ∧ i = .int .i64 k ∧ p = .int .i64 (waysM (zs.take k)) ∧ w = wr) (fun _ i _ => row.length - (intOf i).toNat)
  case atStart => exact ⟨0, by omega, rfl, rfl, rfl⟩
  case round =>
    obtain ⟨k, hk, rfl, rfl, rfl⟩ := hrel
    by_cases hlt : k + 1 < row.length
    · have hkr : k < row.length := by omega
      obtain ⟨b, o, c2, e, hx⟩ := H'.out.at_ hkr
      cases e
      have hlt' : (k : Int) + 1 < (row.length : Int) := by omega
      have hkz : k < zs.length := by have := HLL.out; omega
      have HI := Lib.hid (HIN.out _ (List.getElem_mem hkr))
      have hza := HA.out k hlt hkz
      have hw := HW.out k hkz
      rw [hza] at hw
      clear hza
      generalize row[k] = x at hx HI hw
      obtain ⟨n, rfl⟩ : ∃ n : Nat, x = (n : Int) := ⟨x.toNat, by have := HI.out; omega⟩
      have hns : n < sizes.length := by have := HI.out; omega
      have hns' : (n : Int) < (sizes.length : Int) := by omega
      obtain ⟨b2, o2, c3, e, hy⟩ := H.out.at_ hns
      cases e
      rw [Int.toNat_natCast, getD_at _ hns] at hw
      generalize sizes[n] = z at hy hw
      generalize hq : waysM (zs.take (k + 1)) = q at hw
      have HQ := Lib.hid hq
      have hw1 : IntKind.i64.wrap ((k : Int) + 1) = (k : Int) + 1 := by rw [IntKind.wrap_i64]; omega
      clear hq
      go_wp2
      go_roundw
      case rel => exact ⟨k + 1, by omega, by go_num, by rw [HQ.out], by first | trivial | rfl⟩
      case measure => simp [intOf]; omega
    · have hkn : k = zs.length := by have := HLL.out; omega
      have hlt' : ¬ (k : Int) + 1 < (row.length : Int) := by omega
      have HT := Lib.hid (show zs.take k = zs from take_all (by omega))
      have hw1 : IntKind.i64.wrap ((k : Int) + 1) = (k : Int) + 1 := by rw [IntKind.wrap_i64]; omega
      rw [HT.out]
      go_wp2
      go_ret
      exact ⟨rfl, rfl⟩
end Go.Proofs.Yteccjnnhihbdhaa
