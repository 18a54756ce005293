/- ProofBack of package spec. -/
import Derived.Test.YtonainidjkcoeacBack2
namespace Go.Proofs.Ytonainidjkcoeac
open Go.RowKit
set_option linter.unusedVariables false
set_option linter.unusedSimpArgs false

theorem RSteps.reads {w : World} {v : Value} {ps : List MStep} (h : RSteps w v ps) : RSteps w v ps := h
/-- the cells of steps, one behind the other -/
def StepsIn (w : World) (B : Nat) (us : List Value) (qs : List MStep) : Prop :=
  ∀ i p, qs[i]? = some p → ∃ u, us[i * 4]? = some (.int .i64 p.ax) ∧ us[i * 4 + 1]? = some (.bool p.back) ∧ us[i * 4 + 2]? = some (.int .i64 p.at_) ∧ us[i * 4 + 3]? = some u ∧ ORows w B u p.terms
theorem StepsIn.keep {w w' : World} {B : Nat} {us : List Value} {qs : List MStep} (h : StepsIn w B us qs) (hb : Below w.heap.size w w') : StepsIn w' B us qs := fun i p hp => by
  obtain ⟨u, a, b, c, d, r⟩ := h i p hp; exact ⟨u, a, b, c, d, r.keep hb⟩
theorem orows_past {w w' : World} {B B2 n : Nat} {v s : Value} {rows : List (List Int)} {us : List Value} (h : ORows w B v rows) (hs : w.ownsRow B2 82 4 s n us) (hg : w.grownBy w' s.ownBlock) : ORows w' B v rows := by
  obtain ⟨xs, h1, h2, h3, h4⟩ := h
  exact ⟨xs, own_grown h1 hg (own_ne h1 hs (by decide)), h2, fun j u row a b => own_grown (h3 j u row a b) hg (own_ne (h3 j u row a b) hs (by decide)), h4⟩
theorem StepsIn.push {w w' : World} {B B2 n : Nat} {s u : Value} {us zs : List Value} {qs : List MStep} {p : MStep} (h : StepsIn w B us qs) (hs : w.ownsRow B2 82 4 s n zs) (hg : w.grownBy w' s.ownBlock) (hl : us.length = qs.length * 4) (hp : ORows w B u p.terms) :
    StepsIn w' B (us ++ [.int .i64 p.ax, .bool p.back, .int .i64 p.at_, u]) (qs ++ [p]) := fun i q hq => by
  rcases Nat.lt_or_ge i qs.length with hi | hi
  · rw [List.getElem?_append_left hi] at hq
    obtain ⟨x, a, b, c, d, r⟩ := h i q hq
    exact ⟨x, by rw [List.getElem?_append_left (by omega)]; exact a, by rw [List.getElem?_append_left (by omega)]; exact b, by rw [List.getElem?_append_left (by omega)]; exact c, by rw [List.getElem?_append_left (by omega)]; exact d, orows_past r hs hg⟩
  · rw [List.getElem?_append_right hi] at hq
    rcases hk : i - qs.length with _ | m
    · rw [hk] at hq
      simp at hq
      subst hq
      have e : i = qs.length := by omega
      subst e
      refine ⟨u, ?_, ?_, ?_, ?_, orows_past hp hs hg⟩
      · rw [List.getElem?_append_right (by omega), show qs.length * 4 - us.length = 0 by omega]; rfl
      · rw [List.getElem?_append_right (by omega), show qs.length * 4 + 1 - us.length = 1 by omega]; rfl
      · rw [List.getElem?_append_right (by omega), show qs.length * 4 + 2 - us.length = 2 by omega]; rfl
      · rw [List.getElem?_append_right (by omega), show qs.length * 4 + 3 - us.length = 3 by omega]; rfl
    · rw [hk] at hq
      simp at hq
theorem StepsIn.reads {w : World} {B B2 n : Nat} {s : Value} {us : List Value} {qs : List MStep} (h : StepsIn w B us qs) (ho : w.ownsRow B2 82 4 s n us) (hn : n = qs.length) : RSteps w s qs := by
  obtain ⟨A, c, rfl, h1, h2, h3⟩ := wide_reads ho
  subst hn
  refine ⟨A, c, rfl, h1, h2, fun j p hj => ?_⟩
  obtain ⟨u, a, b, cc, d, r⟩ := h j p hj
  obtain ⟨g, rfl, k0⟩ := h3 _ _ a
  obtain ⟨g1, e1, k1⟩ := h3 _ _ b
  obtain ⟨g2, e2, k2⟩ := h3 _ _ cc
  obtain ⟨g3, e3, k3⟩ := h3 _ _ d
  injection e1 with e1; injection e1 with e1
  injection e2 with e2; injection e2 with e2
  injection e3 with e3; injection e3 with e3
  subst e1 e2 e3
  exact ⟨g, 0, u, rfl, by rw [Nat.zero_add]; exact k0, by rw [Nat.zero_add]; exact k1, by rw [Nat.zero_add]; exact k2, by rw [Nat.zero_add]; exact k3, r.reads⟩
theorem news4 (w : World) (a b c d : Value) (t : TypeId) : ∀ (j : Nat) (u : Value), [a, b, c, d][j]? = some u → (w.alloc (.cells #[a, b, c, d] t)).cell? ((⟨w.heap.size, 0, none⟩ : Addr).add j) = some u := by
  intro j u hj
  have hadd : (⟨w.heap.size, 0, none⟩ : Addr).add j = ⟨w.heap.size, j, none⟩ := by
    unfold Addr.add
    split
    · rename_i h; subst h; rfl
    · simp
  rw [hadd, World.cell?_alloc_at _ _ _ _ rfl]
  match j, hj with
  | 0, hj => exact hj
  | 1, hj => exact hj
  | 2, hj => exact hj
  | 3, hj => exact hj
theorem one4 {A : Option Addr} {n c : Nat} (a b : Int) (d : Bool) : ∀ u ∈ [Value.int .i64 a, .bool d, .int .i64 b, .slice A n c], u.oneCell' = true := by
  intro u hu
  simp at hu
  rcases hu with rfl | rfl | rfl | rfl <;> rfl
theorem own_emptyS (w : World) : (w.alloc (.cells #[] 82)).ownsRow w.heap.size 82 4 (.slice (some ⟨w.heap.size, 0, none⟩) 0 0) 0 [] := World.ownsRow_lit w #[] 0 (Nat.le_refl _) (Nat.zero_le _) rfl
theorem backM_take {ps : List MStep} {j k : Nat} (hk : k < ps.length) (hj : j + k + 1 = ps.length) : (backM ps).take (j + 1) = (backM ps).take j ++ [turnP ps[k]] := by
  have hb : j < (backM ps).length := by rw [backM_len]; omega
  have h := backM_at hk hj
  rw [List.getElem?_eq_getElem hb] at h
  injection h with h
  rw [List.take_succ_eq_append_getElem hb, h]

set_option maxHeartbeats 1600000 in
set_option maxRecDepth 100000 in
theorem specProofBack_any (ps : List MStep) (w : World) (v : Value) (hs : FitsPs ps) (h : RSteps w v ps) :
    Calls Try.prog 9 #[v] w fun e w' => ∃ u, e = .returned u ∧ RSteps w' u (backM ps) ∧ Below w.heap.size w w' := by
  obtain ⟨i0, hi0, hz0, hz1, hz2⟩ := info_parts Try.tinfo_Step
  have H := Lib.hid h
  have HS := Lib.hid hs
  have HBL := Lib.hid (backM_len ps)
  obtain ⟨A, c, rfl, -⟩ := h.form
  have hlen := hs.1
  have hw1 : IntKind.i64.wrap ((ps.length : Int) - 1) = (ps.length : Int) - 1 := by rw [IntKind.wrap_i64]; omega
  clear h hs
  go_enter Try.func9, Try.ntmps9
  go_wp2
  clear hw1
  go_loopw [3, 4, 5] (fun o i b wr => ∃ (j : Nat) (x : Int) (us : List Value), x = (ps.length : Int) - 1 - (j : Int) ∧ -1 ≤ x ∧ i = .int .i64 x ∧ wr.ownsRow w.heap.size 82 4 o j us ∧ StepsIn wr w.heap.size us ((backM ps).take j) ∧ Below w.heap.size w wr) (fun _ i _ _ => (intOf i + 1).toNat)
  case atStart => exact ⟨0, _, [], by simp, by omega, rfl, own_emptyS w, fun i p hp => by simp at hp, below_alloc _ _⟩
  case round =>
    obtain ⟨j, x, us, hx, hx1, rfl, ho, hin, hd⟩ := hrel
    obtain ⟨A9, c9, rfl, -⟩ := wide_reads ho
    have HO := Lib.hid ho
    have HIN := Lib.hid hin
    have HD := Lib.hid hd
    clear ho hin hd
    by_cases hpos : 0 ≤ x
    · obtain ⟨k, rfl⟩ := Int.eq_ofNat_of_zero_le hpos
      have hjk : j + k + 1 = ps.length := by omega
      have hlt : k < ps.length := by omega
      have hlt' : (k : Int) < (ps.length : Int) := by omega
      obtain ⟨b, o, c', y, e, c0, c1, c2, c3, q0⟩ := (H.out.keep HD.out).at_ hlt
      cases e
      have HFP := Lib.hid (HS.out.2 _ (List.getElem_mem hlt))
      have HTK := Lib.hid (backM_take hlt hjk)
      have HLN := Lib.hid (show ((backM ps).take j).length = j by rw [List.length_take, HBL.out]; omega)
      have hjl : j ≤ 1048576 := by omega
      have HX := Lib.hid hx
      generalize ps[k] = p at q0 c0 c1 c2 HFP HTK
      generalize (backM ps).take j = qs at HIN HTK HLN
      have HI := Lib.hid (show RStep wr (.agg #[.int .i64 p.ax, .bool p.back, .int .i64 p.at_, y]) p from ⟨y, rfl, q0⟩)
      obtain ⟨A0, d0, rfl, -⟩ := q0.form
      clear q0 hx hjk hpos
      go_wp2_with fail
      refine (l3Copy_any p wr _ HFP.out HI.out).mono ?_
      rintro e w1 ⟨u1, rfl, ⟨rv, rfl, hor⟩, hb⟩
      obtain ⟨A1, d1, rfl, -⟩ := hor.reads.form
      have hb2 := below_alloc w1 (.cells #[.int .i64 p.ax, .bool p.back, .int .i64 p.at_, .slice A1 p.terms.length d1] 82)
      have hl2 : (w1.alloc (.cells #[.int .i64 p.ax, .bool p.back, .int .i64 p.at_, .slice A1 p.terms.length d1] 82)).heap[w1.heap.size]? = some (.cells #[.int .i64 p.ax, .bool p.back, .int .i64 p.at_, .slice A1 p.terms.length d1] 82 (0, 0)) := heap_alloc_new w1 _
      generalize hW2 : w1.alloc (.cells #[.int .i64 p.ax, .bool p.back, .int .i64 p.at_, .slice A1 p.terms.length d1] 82) = W2 at hb2 hl2
      have x1 := blk_cell hl2 1
      have xf := blk_free hl2 1
      simp at x1
      have hl3 : (W2.setCell ⟨w1.heap.size, 1, none⟩ (.bool (!p.back))).heap[w1.heap.size]? = some (.cells #[.int .i64 p.ax, .bool (!p.back), .int .i64 p.at_, .slice A1 p.terms.length d1] 82 (0, 0)) := blk_set hl2 1 _
      have hb3 : Below w1.heap.size w1 (W2.setCell ⟨w1.heap.size, 1, none⟩ (.bool (!p.back))) := hb2.setCell (p := ⟨w1.heap.size, 1, none⟩) (Nat.le_refl _) _
      generalize hW3 : W2.setCell ⟨w1.heap.size, 1, none⟩ (.bool (!p.back)) = W3 at hl3 hb3
      have y0 := blk_cell hl3 0
      have y1 := blk_cell hl3 1
      have y2 := blk_cell hl3 2
      have y3 := blk_cell hl3 3
      simp at y0 y1 y2 y3
      have hbr := sz_keep hb hb3
      have HOW := Lib.hid (own_keep HO.out hbr)
      have HINW := Lib.hid (HIN.out.keep hbr)
      have HDW := Lib.hid (sz_keep HD.out hbr)
      have hsd := HD.out.size
      have hsr := hbr.size
      have HRV := Lib.hid ((hor.keep hb3).base (B' := w.heap.size) hsd)
      clear hb hb2 hb3 hbr hl2 hl3 hor c0 c1 c2 c3
      have HAL := Lib.hid (below_alloc W3 (.cells #[.int .i64 p.ax, .bool (!p.back), .int .i64 p.at_, .slice A1 p.terms.length d1] 82))
      have HUL := Lib.hid (show us.length = j * 4 from HO.out.1)
      go_wp2_with (at_builtin; refine wpList_append_own _ rfl _ _ 24 rfl w.heap.size 82 i0 (.agg #[.int .i64 0, .bool false, .int .i64 0, .slice none 0 0]) 4 48 Try.underlying24 hi0 hz0 hz1 hz2 rfl (by decide) _ j us rfl (own_keep HOW.out HAL.out) ⟨W3.heap.size, 0, none⟩ 1 1 [.int .i64 p.ax, .bool (!p.back), .int .i64 p.at_, .slice A1 p.terms.length d1] rfl (by simp) (news4 W3 _ _ _ _ _) (one4 _ _ _) (by rw [maxLen_eq]; omega) (by omega) (by simp; omega) ?_)
      intro v6 w6 hv6 hg6 _
      have HN := Lib.hid ((HINW.out.keep HAL.out).push (p := turnP p) (own_keep HOW.out HAL.out) hg6 (by rw [HUL.out, HLN.out]) (HRV.out.keep HAL.out))
      have HD6 := Lib.hid ((HDW.out.trans (HAL.out.mono HDW.out.size)).grown hg6 (by simp; omega) (fun k e => ((own_keep HOW.out HAL.out).lt k e).1))
      obtain ⟨A6, c6, rfl, -⟩ := wide_reads hv6
      have HV6 := Lib.hid hv6
      clear hv6 hg6 hW2 hW3 x1 xf y0 y1 y2 y3
      go_wp2
      go_roundw
      case rel => exact ⟨j + 1, (k : Int) - 1, _, by have := HX.out; omega, by omega, by go_num, HV6.out, by rw [HTK.out]; exact HN.out, HD6.out⟩
      case measure => first | (simp [intOf]; done) | (simp [intOf]; omega)
    · have hjn : j = ps.length := by omega
      have HR := Lib.hid (StepsIn.reads HIN.out HO.out (by rw [List.length_take, HBL.out]; omega))
      have HT := Lib.hid (show (backM ps).take j = backM ps from take_all (by rw [HBL.out]; omega))
      rw [HT.out] at HR
      clear hjn hx
      go_wp2
      go_ret
      exact ⟨_, rfl, HR.out, HD.out⟩
end Go.Proofs.Ytonainidjkcoeac
