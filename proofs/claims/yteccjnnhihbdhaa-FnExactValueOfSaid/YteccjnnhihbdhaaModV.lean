/- isValue, sizesOf, rowsOf of package impl. -/
import Derived.Test.YteccjnnhihbdhaaModP
import Derived.Test.YteccjnnhihbdhaaLed
import Derived.Test.YteccjnnhihbdhaaMapOk
namespace Go.Proofs.Yteccjnnhihbdhaa
open Go.RowKit
set_option linter.unusedVariables false
set_option linter.unusedSimpArgs false

def inSize (z v : Int) : Bool := decide (0 ≤ v) && decide (v < z)
theorem inSize_neg {z v : Int} (h : v < 0) : inSize z v = false := by unfold inSize; simp; omega
theorem inSize_pos {z v : Int} (h : 0 ≤ v) : inSize z v = decide (v < z) := by unfold inSize; simp [h]
theorem inSize_inB {z v q : Int} (hq : q = z - 1) : inB v 0 q = inSize z v := by unfold inB inSize; rw [← Bool.decide_and, ← Bool.decide_and, decide_eq_decide]; omega
theorem belowB_step {xs : List Int} {z : Int} {k : Nat} (hk : k < xs.length) : belowB (xs.take (k+1)) z = (belowB (xs.take k) z && inSize z xs[k]) := belowB_take hk
theorem belowB_no {xs : List Int} {z : Int} {k : Nat} (hk : k < xs.length) (h : inSize z xs[k] = false) : belowB xs z = false := belowB_bad hk (by unfold inSize at h; simpa using h)

set_option maxRecDepth 100000 in
theorem isValue_any (m : MModel) (sort value : Int) (w : World) (v : Value) (h : RModel w v m) (hs : 0 ≤ sort) (hl : sort < (m.sizes.length : Int)) :
    Calls Try.prog 51 #[v, .int .i64 sort, .int .i64 value] w fun e w' => e = .returned (.bool (inSize (m.sizes.getD sort.toNat 0) value)) ∧ Below w.heap.size w w' := by
  obtain ⟨n, rfl⟩ : ∃ n : Nat, sort = (n : Int) := ⟨sort.toNat, by omega⟩
  have hn : n < m.sizes.length := by omega
  have hml := h.form
  obtain ⟨Ama, cma, Amb, cmb, rfl⟩ := h.form
  have hb : Below w.heap.size w (w.alloc (.cells #[.slice Ama m.sizes.length cma, .slice Amb m.tables.length cmb] 33)) := below_alloc _ _
  have HB := Lib.hid hb
  have hsz : (w.alloc (.cells #[.slice Ama m.sizes.length cma, .slice Amb m.tables.length cmb] 33)).heap.size = w.heap.size + 1 := by simp
  have Hm := Lib.hid (h.keep hb)
  have m0 := bx_at (w) #[.slice Ama m.sizes.length cma, .slice Amb m.tables.length cmb] 33 (k := 0) rfl
  have m1 := bx_at (w) #[.slice Ama m.sizes.length cma, .slice Amb m.tables.length cmb] 33 (k := 1) rfl
  generalize hW : w.alloc (.cells #[.slice Ama m.sizes.length cma, .slice Amb m.tables.length cmb] 33) = W at HB hsz Hm m0 m1
  clear hb h
  have hml1 := Hm.out.of.1.len
  obtain ⟨b, o, c, e, hx⟩ := Hm.out.of.1.at_ hn
  cases e
  rw [Int.toNat_natCast, getD_at _ hn]
  generalize m.sizes[n] = z at hx ⊢
  by_cases hv : value < 0
  · have HE := Lib.hid (inSize_neg (z := z) hv)
    have hv' : ¬ 0 ≤ value := by omega
    go_enter Try.func51, Try.ntmps51
    go_wp2
    go_ret
    exact ⟨ret_bool HE.out.symm, HB.out⟩
  · have hv' : 0 ≤ value := by omega
    have HE := Lib.hid (inSize_pos (z := z) hv')
    go_enter Try.func51, Try.ntmps51
    go_wp2
    go_ret
    exact ⟨ret_bool HE.out.symm, HB.out⟩

set_option maxRecDepth 100000 in
theorem sizesOf_any (m : MModel) (row : List Int) (w : World) (v v' : Value) (h : RModel w v m) (h' : RInts w v' row) (hin : InTo m.sizes row) (hs : row.length ≤ 1048576) :
    Calls Try.prog 60 #[v, v'] w fun e w' => ∃ u, e = .returned u ∧ OInts w' w.heap.size u (ledM m.sizes row) ∧ Below w.heap.size w w' := by
  obtain ⟨Ama, cma, Amb, cmb, rfl⟩ := h.form
  have hb : Below w.heap.size w (w.alloc (.cells #[.slice Ama m.sizes.length cma, .slice Amb m.tables.length cmb] 33)) := below_alloc _ _
  have HB := Lib.hid hb
  have hsz : (w.alloc (.cells #[.slice Ama m.sizes.length cma, .slice Amb m.tables.length cmb] 33)).heap.size = w.heap.size + 1 := by simp
  have Hm := Lib.hid (h.keep hb)
  have m0 := bx_at (w) #[.slice Ama m.sizes.length cma, .slice Amb m.tables.length cmb] 33 (k := 0) rfl
  have m1 := bx_at (w) #[.slice Ama m.sizes.length cma, .slice Amb m.tables.length cmb] 33 (k := 1) rfl
  generalize hW : w.alloc (.cells #[.slice Ama m.sizes.length cma, .slice Amb m.tables.length cmb] 33) = W at HB hsz Hm m0 m1
  clear hb h
  have H1 := Lib.hid (h'.keep HB.out)
  have HI := Lib.hid hin
  obtain ⟨A', c', rfl, -⟩ := h'.form
  clear h' hin
  go_enter Try.func60, Try.ntmps60
  go_wp2_with fail
  clear hW
  refine (ledRow_any _ _ row m.sizes _ H1.out Hm.out.of.1 HI.out hs).mono ?_
  rintro e w1 ⟨u, rfl, ho, hb⟩
  have HO := Lib.hid ho
  have HX := Lib.hid hb
  clear ho hb m0 m1
  go_wp2
  go_ret
  exact ⟨u, rfl, HO.out.base HB.out.size, sz_keep HB.out HX.out⟩

theorem ways_wrap {zs : List Int} (hz : Sizes zs) (hl : zs.length ≤ 4) {k : Nat} (hk : k < zs.length) : IntKind.i64.wrap (waysM (zs.take k) * zs[k]) = waysM (zs.take (k + 1)) := by
  have h1 := ways_few (hz.take (k + 1)) (by simp; omega)
  have h2 := ways_pos (hz.take (k + 1))
  rw [← waysM_take hk, IntKind.wrap_i64]; omega
set_option maxRecDepth 100000 in
theorem rowsOf_any (zs : List Int) (w : World) (v : Value) (h : RInts w v zs) (hz : Sizes zs) (hl : zs.length ≤ 4) :
    Calls Try.prog 61 #[v] w fun e w' => e = .returned (.int .i64 (waysM zs)) ∧ w = w' := by
  have H := Lib.hid h
  obtain ⟨A, c, rfl, -⟩ := h.form
  have HW := Lib.hid (fun (k : Nat) (hk : k < zs.length) => ways_wrap hz hl hk)
  clear h hz
  go_enter Try.func61, Try.ntmps61
  go_wp2
  go_loopw [3, 5, 8] (fun p _ i wr => ∃ k : Nat, k ≤ zs.length ∧ i = .int .i64 k ∧ p = .int .i64 (waysM (zs.take k)) ∧ w = wr) (fun _ _ i _ => zs.length - (intOf i).toNat)
  case atStart => exact ⟨0, Nat.zero_le _, rfl, rfl, rfl⟩
  case round =>
    obtain ⟨k, hk, rfl, rfl, rfl⟩ := hrel
    by_cases hlt : k < zs.length
    · obtain ⟨b, o, c', e, hx⟩ := H.out.at_ hlt
      cases e
      have hlt' : (k : Int) < (zs.length : Int) := by omega
      have hw := HW.out k hlt
      generalize zs[k] = z at hx hw
      generalize hq : waysM (zs.take (k + 1)) = q at hw
      have HQ := Lib.hid hq
      clear hq
      go_wp2
      go_roundw
      case rel => exact ⟨k + 1, by omega, by go_num, by rw [HQ.out], by first | trivial | rfl⟩
      case measure => simp [intOf]; omega
    · have hkn : k = zs.length := by omega
      have hlt' : ¬ (k : Int) < (zs.length : Int) := by omega
      have HT := Lib.hid (show zs.take k = zs from take_all (by omega))
      go_wp2
      go_ret
      exact ⟨rfl, rfl⟩

end Go.Proofs.Yteccjnnhihbdhaa
