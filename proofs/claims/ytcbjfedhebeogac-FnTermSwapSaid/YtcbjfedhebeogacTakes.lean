/- raisedRow, OpTakes of both packages. -/
import Derived.Test.YtcbjfedhebeogacPure3
import Derived.Test.YtcbjfedhebeogacFill
import Derived.Deep.RegionHeld3
import Derived.Deep.OwnRows
import Derived.Deep.AppendLies
namespace Go.Proofs.Ytcbjfedhebeogac
open Go.RowKit
set_option linter.unusedVariables false

def raised (xs : List Int) (d : Int) : List Int := xs.map fun x => wrap64 (x + d)
theorem raised_at {xs : List Int} {d : Int} {k : Nat} (hk : k < xs.length) (h : k < (raised xs d).length) : (raised xs d)[k] = wrap64 (xs[k] + d) := by simp [raised]

theorem raisedRow_any (v : Value) (xs : List Int) (d : Int) (w : World) (h : RInts w v xs) (hs : xs.length ≤ 1000000) :
    Calls Try.prog 62 #[v, .int .i64 d] w fun e w' => ∃ u, e = .returned u ∧ OInts w' w.heap.size u (raised xs d) ∧ (∃ ad c, u = .slice (some ad) (raised xs d).length c) ∧ Below w.heap.size w w' := by
  have H := Lib.hid h
  obtain ⟨A, c, rfl, -⟩ := h.form
  clear h
  have hmk := run_make_row' (P := Try.prog) 26 3 (.int .i64 0) 8 Try.underlying26 Try.tinfo_int rfl .i64 .i64 xs.length (by omega) (by omega)
  have hrl : (raised xs d).length = xs.length := by simp [raised]
  have HRL := Lib.hid hrl
  clear hrl
  go_enter Try.func62, Try.ntmps62
  go_wp2
  go_loopw [6, 7, 13] (fun a b i wr => ∃ k : Nat, k ≤ xs.length ∧ i = .int .i64 k ∧ Filling w wr (raised xs d) k) (fun _ _ i _ => xs.length - (intOf i).toNat)
  case atStart => exact ⟨0, Nat.zero_le _, rfl, Filling.start w _ _ (by rw [HRL.out]; simp [madeCells])⟩
  case round =>
    obtain ⟨k, hk, rfl, hf⟩ := hrel
    have HF := Lib.hid hf
    clear hf hmk
    by_cases hlt : k < xs.length
    · obtain ⟨b, o, c', e, hx⟩ := (H.out.keep (by obtain ⟨_, _, _, _, hb⟩ := HF.out; exact hb)).at_ hlt
      cases e
      obtain ⟨u, g1, g2⟩ := HF.out.cell (by rw [HRL.out]; exact hlt)
      have HX := Lib.hid (raised_at (d := d) hlt (by rw [HRL.out]; exact hlt))
      generalize xs[k] = x at hx HX
      go_wp2
      go_roundw
      case rel => exact ⟨k + 1, by omega, by go_num, HF.out.step (by rw [HRL.out]; exact hlt) HX.out⟩
      case measure => simp [intOf]; omega
    · go_wp2
      go_ret
      obtain ⟨r1, r2⟩ := HF.out.done (by rw [HRL.out]; omega) (by omega)
      have hkn : k = xs.length := by omega
      subst hkn
      exact ⟨_, rfl, r1, ⟨⟨w.heap.size, 0, none⟩, xs.length, congrArg (fun n => Value.slice (some ⟨w.heap.size, 0, none⟩) n xs.length) HRL.out.symm⟩, r2⟩
end Go.Proofs.Ytcbjfedhebeogac
