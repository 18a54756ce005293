/- What holds of parts put in the place of others. No walk. -/
import Derived.Test.YtcbjfedhebeogacSwap
namespace Go.Proofs.Ytcbjfedhebeogac
open Go.RowKit
set_option linter.unusedVariables false

theorem row_ne2 (t : Tm) : t.row ≠ [] := fun h => by have := row_pos t; rw [h] at this; simp at this
theorem take_pre {pre m post : List Int} {k : Nat} (h : pre.length = k) : (pre ++ m ++ post).take k = pre := by
  subst h; rw [List.append_assoc, List.take_left]
theorem drop_post {pre m post : List Int} {k : Nat} (h : pre.length = k) : (pre ++ m ++ post).drop (k + m.length) = post := by
  subst h; rw [← List.length_append, List.drop_left]
theorem swap_back {s : MSig} {vars t u : List Int} {a : Int} (h : (swapM s vars t a u).2 = true) :
    swapM s vars t a u = (swapRow s vars t a u, true) ∧ atM s vars (swapRow s vars t a u) a = u ∧ swapM s vars (swapRow s vars t a u) a (atM s vars t a) = (t, true) ∧ sortM s vars (swapRow s vars t a u) = sortM s vars t := by
  by_cases hc : atM s vars t a ≠ [] ∧ sortM s vars u = sortM s vars (atM s vars t a) ∧ (swapRow s vars t a u).length ≤ 30
  · obtain ⟨k, pre, sub, post, rfl, hk, h30, hs0, hv, ht, hp, hat, hss, hs1, hw, hsl, hput⟩ := at_there hc.1
    have hsu : sortM s vars u = sub.sort := by rw [hc.2.1, hat, hss]
    obtain ⟨um, -, hul, huw, rfl, hus⟩ := sortM_to (show 0 ≤ sortM s vars u by omega)
    have hum : um.sort = sub.sort := by rw [← hus]; exact hsu
    have hx : swapRow s vars t (k : Int) um.row = pre ++ um.row ++ post := by
      unfold swapRow
      rw [hat, Int.toNat_natCast]
      rw [show t.take k = pre by rw [ht]; exact take_pre hp, show t.drop (k + sub.row.length) = post by rw [ht]; exact drop_post hp]
    have hlen := hc.2.2
    rw [hx] at hlen
    have hxs := hput um huw hum hlen
    have hu1 := row_pos um
    have hxl : (pre ++ um.row ++ post).length = k + um.row.length + post.length := by simp [hp]; omega
    have hxa : atM s vars (pre ++ um.row ++ post) (k : Int) = um.row := by
      rw [atM_yes (by rw [hxs]; exact hs0) (by omega)]
      unfold partM
      rw [show (pre ++ um.row ++ post).drop k = um.row ++ post by rw [← hp, List.append_assoc, List.drop_left], firstM_full (ops_few (vars_valid hv).1) um 30 post huw (by omega)]
    have hback : swapRow s vars (pre ++ um.row ++ post) (k : Int) sub.row = t := by
      unfold swapRow
      rw [hxa, Int.toNat_natCast, take_pre hp, drop_post hp, ht]
    refine ⟨swapM_yes hc, by rw [hx, hxa], ?_, by rw [hx, hxs]⟩
    rw [hx, hat, swapM_yes ⟨by rw [hxa]; exact row_ne2 um, by rw [hxa, hss, hus, hum], by rw [hback]; exact h30⟩, hback]
  · rw [swapM_no hc] at h; cases h
theorem swap_small {s : MSig} {vars t u : List Int} {a : Int} (h : Small t) (hu : Small u) : Small (swapRow s vars t a u) := fun x hx => by
  unfold swapRow at hx
  rw [List.mem_append, List.mem_append] at hx
  rcases hx with (hx | hx) | hx
  · exact h x (List.mem_of_mem_take hx)
  · exact hu x hx
  · exact h x (List.mem_of_mem_drop hx)
theorem swapM_small {s : MSig} {vars t u : List Int} {a : Int} (h : Small t) (hu : Small u) : Small (swapM s vars t a u).1 := by
  unfold swapM
  split
  · exact swap_small h hu
  · intro x hx; cases hx
end Go.Proofs.Ytcbjfedhebeogac
