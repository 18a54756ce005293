/- Rows led by a map: ledRow (impl), l4Row, l4Term (spec). -/
import Derived.Test.YtbopcghbmbchkaaK50320b20
namespace Go.Proofs.Ytbopcghbmbchkaa
section
open Go.RowKit
set_option linter.unusedVariables false
set_option linter.unusedSimpArgs false

theorem led_app {w : World} {B m : Nat} {v : Value} {ps rs : List Int} (hm : rs.length = m) (h : w.ownsRow B 3 1 v (ps.length + m) (ps.map (Value.int .i64) ++ rs.map (Value.int .i64))) : OInts w B v (ps ++ rs) := by
  unfold OInts; rw [List.length_append, List.map_append, hm]; exact h
theorem led_new (w : World) (n : Int) : ∀ (j : Nat) (u : Value), ([n].map (Value.int .i64))[j]? = some u → (w.alloc (.cells #[.int .i64 n] 3)).cell? ((⟨w.heap.size, 0, none⟩ : Addr).add j) = some u := by
  intro j u hj
  match j, hj with
  | 0, hj =>
    simp at hj
    subst hj
    rw [show (⟨w.heap.size, 0, none⟩ : Addr).add 0 = ⟨w.heap.size, 0, none⟩ by simp [Addr.add], World.cell?_alloc_at _ _ _ _ rfl]; rfl
theorem filling_below {w wr : World} {zs : List Int} {k : Nat} (h : Filling w wr zs k) : Below w.heap.size w wr := by
  obtain ⟨_, _, _, _, hb⟩ := h; exact hb

theorem led_below {W wr w6 : World} {o : Obj} {A : Option Addr} {n c : Nat} (h : Below W.heap.size W wr) (hg : (wr.alloc o).drew.grownBy w6 (Value.slice A n c).ownBlock) (hr : ∀ k, (Value.slice A n c).ownBlock = some k → W.heap.size ≤ k) : Below W.heap.size W w6 := by
  have h1 := h.alloc h.size o
  have h2 : Below W.heap.size W (wr.alloc o).drew := ⟨h1.os, h1.tape, h1.output, h1.size, h1.block⟩
  exact h2.grown hg h2.size hr

set_option maxRecDepth 100000 in
theorem ledRow_any (v v' : Value) (row tq : List Int) (w : World) (h : RInts w v row) (h' : RInts w v' tq) (hin : InTo tq row) (hs : row.length ≤ 1048576) :
    Calls Try.prog 102 #[v, v'] w fun e w' => ∃ u, e = .returned u ∧ OInts w' w.heap.size u (ledM tq row) ∧ Below w.heap.size w w' := by
  have H := Lib.hid h
  have H' := Lib.hid h'
  have HIN := Lib.hid hin
  have hn' := h'.len
  obtain ⟨A, c, rfl, -⟩ := h.form
  obtain ⟨A', c', rfl, -⟩ := h'.form
  clear h h' hin
  have hmk := run_make_row' (P := Try.prog) 28 3 (.int .i64 0) 8 Try.underlying28 Try.tinfo_int rfl .i64 .i64 row.length (by omega) (by omega)
  go_enter Try.func102, Try.ntmps102
  go_wp2
  go_loopw [6, 7, 13] (fun a b i wr => ∃ k : Nat, k ≤ row.length ∧ i = .int .i64 k ∧ Filling w wr (ledM tq row) k) (fun _ _ i _ => row.length - (intOf i).toNat)
  case atStart => exact ⟨0, Nat.zero_le _, rfl, Filling.start w _ _ (by rw [ledM_len]; simp [madeCells])⟩
  case round =>
    obtain ⟨k, hk, rfl, hf⟩ := hrel
    have HF := Lib.hid hf
    clear hf hmk
    by_cases hlt : k < row.length
    · have hlt' : (k : Int) < (row.length : Int) := by omega
      obtain ⟨b, o, c', e, hx⟩ := (H.out.keep (filling_below HF.out)).at_ hlt
      cases e
      obtain ⟨u, g1, g2⟩ := HF.out.cell (by rw [ledM_len]; exact hlt)
      have HX := Lib.hid (ledM_at (tq := tq) hlt)
      have HI := Lib.hid (HIN.out _ (List.getElem_mem hlt))
      generalize row[k] = x at hx HX HI
      by_cases hl : x < 100
      · obtain ⟨n, rfl⟩ : ∃ n : Nat, x = (n : Int) := ⟨x.toNat, by have := HI.out hl; omega⟩
        have hnl : n < tq.length := by have := HI.out hl; omega
        have hnl' : (n : Int) < (tq.length : Int) := by omega
        have hn0 : (0 : Int) ≤ (n : Int) := by omega
        obtain ⟨b2, o2, c2, e2, hy⟩ := (H'.out.keep (filling_below HF.out)).at_ hnl
        cases e2
        have HY := Lib.hid (show (if (n : Int) < 100 then tq.getD (n : Int).toNat 0 else (n : Int)) = tq[n] by rw [if_pos hl, Int.toNat_natCast, getD_at _ hnl])
        generalize tq[n] = y at hy HY
        go_wp2
        go_roundw
        case rel => exact ⟨k + 1, by omega, by go_num, HF.out.step (by rw [ledM_len]; exact hlt) (by have h := HX.out; rw [HY.out] at h; exact (List.getElem?_eq_some_iff.1 h).2)⟩
        case measure => simp [intOf]; omega
      · have hl' : 100 ≤ x := by omega
        have HY := Lib.hid (show (if x < 100 then tq.getD x.toNat 0 else x) = x by rw [if_neg hl])
        go_wp2
        go_roundw
        case rel => exact ⟨k + 1, by omega, by go_num, HF.out.step (by rw [ledM_len]; exact hlt) (by have h := HX.out; rw [HY.out] at h; exact (List.getElem?_eq_some_iff.1 h).2)⟩
        case measure => simp [intOf]; omega
    · go_wp2
      go_ret
      obtain ⟨r1, r2⟩ := HF.out.done (by rw [ledM_len]; omega) (by omega)
      have hkn : k = row.length := by omega
      subst hkn
      exact ⟨_, rfl, r1, r2⟩

set_option maxHeartbeats 800000 in
set_option maxRecDepth 100000 in
theorem l4Row_any (v v' : Value) (row : List Int) (m : MMap) (w : World) (h : RMap w v m) (h' : RInts w v' row) (hin : ∀ x ∈ row, 0 ≤ x ∧ x < (m.sorts.length : Int)) (hs : row.length ≤ 1048576) :
    Calls Try.prog 96 #[v, v'] w fun e w' => ∃ u, e = .returned u ∧ OInts w' w.heap.size u (rowLed m.sorts row) ∧ Below w.heap.size w w' := by
  obtain ⟨i0, hi0, hz0, hz1, hz2⟩ := info_parts Try.tinfo_int
  obtain ⟨Ama, cma, Amb, cmb, rfl⟩ := h.form
  have hb : Below w.heap.size w (w.alloc (.cells #[.slice Ama m.sorts.length cma, .slice Amb m.ops.length cmb] 42)) := below_alloc _ _
  have HB := Lib.hid hb
  have hsz : (w.alloc (.cells #[.slice Ama m.sorts.length cma, .slice Amb m.ops.length cmb] 42)).heap.size = w.heap.size + 1 := by simp
  have Hm := Lib.hid (h.keep hb)
  have m0 := bx_at (w) #[.slice Ama m.sorts.length cma, .slice Amb m.ops.length cmb] 42 (k := 0) rfl
  have m1 := bx_at (w) #[.slice Ama m.sorts.length cma, .slice Amb m.ops.length cmb] 42 (k := 1) rfl
  generalize hW : w.alloc (.cells #[.slice Ama m.sorts.length cma, .slice Amb m.ops.length cmb] 42) = W at HB hsz Hm m0 m1
  clear hb h
  have HV := Lib.hid (h'.keep HB.out)
  have HIN := Lib.hid hin
  obtain ⟨r0, r1⟩ := Hm.out.of
  have R0 := Lib.hid r0
  have hm0 := r0.len
  obtain ⟨A', c', rfl, -⟩ := h'.form
  have HC := Lib.hid m0
  have HSZ := Lib.hid hsz
  clear h' hin r0 r1 m0 m1 hsz
  go_enter Try.func96, Try.ntmps96
  go_wp2
  clear hW
  go_loopw [5, 6] (fun p i wr => ∃ k : Nat, k ≤ row.length ∧ i = .int .i64 k ∧ OInts wr W.heap.size p (rowLed m.sorts (row.take k)) ∧ Below W.heap.size W wr) (fun _ i _ => row.length - (intOf i).toNat)
  case atStart => exact ⟨0, Nat.zero_le _, rfl, by first | exact own_empty W | (have h := own_empty W; rw [HSZ.out] at h ⊢; exact h), below_alloc _ _⟩
  case round =>
    obtain ⟨k, hk, rfl, ho, hb⟩ := hrel
    obtain ⟨A9, c9, rfl, -⟩ := own_reads ho
    have HO := Lib.hid ho
    have HBW := Lib.hid hb
    have f0 := cell_keep hb HC.out
    clear ho hb
    by_cases hlt : k < row.length
    · have hlt' : (k : Int) < (row.length : Int) := by omega
      obtain ⟨b, o, c4, e, hx⟩ := HV.out.at_ hlt
      cases e
      have HTK := Lib.hid (rowLed_take (tq := m.sorts) hlt)
      have HI := Lib.hid (HIN.out _ (List.getElem_mem hlt))
      generalize row[k] = x at hx HTK HI
      obtain ⟨n, rfl⟩ : ∃ n : Nat, x = (n : Int) := ⟨x.toNat, by have := HI.out; omega⟩
      have hnl : n < m.sorts.length := by have := HI.out; omega
      have hnl' : (n : Int) < (m.sorts.length : Int) := by omega
      have hn0 : (0 : Int) ≤ (n : Int) := by omega
      obtain ⟨b2, o2, c2, e2, hy⟩ := R0.out.at_ hnl
      cases e2
      have HY := Lib.hid (show m.sorts.getD (n : Int).toNat 0 = m.sorts[n] by rw [Int.toNat_natCast, getD_at _ hnl])
      generalize m.sorts[n] = y at hy HY
      have HXY := Lib.hid (And.intro hx hy)
      replace hx := cell_keep HBW.out hx
      replace hy := cell_keep HBW.out hy
      have hlen : (rowLed m.sorts (row.take k)).length = k := by rw [rowLed_len, List.length_take]; omega
      have HLEN := Lib.hid hlen
      generalize hps : rowLed m.sorts (row.take k) = ps at HO HTK HLEN
      clear hps hlen
      have hs1 := HBW.out.size
      have hp1 : ps.length + 1 ≤ maxLen := by rw [HLEN.out, maxLen_eq]; omega
      have hp2 : (ps.length + 1) * 8 ≤ 140737488355328 := by rw [HLEN.out]; omega
      have HP := Lib.hid (And.intro hp1 hp2)
      have hs3 : W.heap.size ≤ (wr.alloc (.cells #[.int .i64 y] 3)).heap.size := by simp; omega
      have HS3 := Lib.hid hs3
      have HO1 := Lib.hid (own_keep HO.out (below_alloc wr (.cells #[.int .i64 y] 3)))
      have HN1 := Lib.hid (led_new wr y)
      have ea := World.new_ne wr _ f0
      have eb := World.new_ne wr _ hx
      have ec := World.new_ne wr _ hy
      clear hp1 hp2 hs3
      go_wp2_with fail
      go_region_held3 (fun w' => w'.cell? ⟨w.heap.size, 0, none⟩ = some (.slice (some ⟨b2, o2, none⟩) m.sorts.length cma) ∧ w'.cell? ⟨b, o + k, none⟩ = some (.int .i64 (n : Int)) ∧ w'.cell? ⟨b2, o2 + n, none⟩ = some (.int .i64 y)) (first | go_keep | exact ⟨cell_keep HB6.out HC.out, cell_keep HB6.out HXY.out.1, cell_keep HB6.out HXY.out.2⟩)
        (first
          | (refine step_append_own rfl (.tmp 14) (.tmp 23) 28 rfl W.heap.size 3 i0 (.int .i64 0) 1 8 Try.underlying28 hi0 hz0 hz1 hz2 rfl (by omega) _ ps.length (ps.map (Value.int .i64)) rfl HO1.out.drew ⟨wr.heap.size, 0, none⟩ 1 1 ([y].map (Value.int .i64)) rfl (by simp) HN1.out (ints_one _) HP.out.1 HP.out.2 HS3.out ?_; intro v6 w6 hv6 hg6; have HB6 := Lib.hid (led_below HBW.out hg6 (fun k e => (own_lt HO.out k e).1)); have HO6 := Lib.hid (led_app (rs := [y]) rfl hv6); clear hv6 hg6))
      have hsl : (ps ++ [y]).length = k + 1 := by rw [List.length_append, HLEN.out]; rfl
      clear f0 hx hy ea eb ec hsl
      obtain ⟨A6, c6, rfl, -⟩ := own_reads HO6.out
      go_wp2
      go_roundw
      case rel => exact ⟨k + 1, by omega, by go_num, by rw [HTK.out, HY.out]; exact HO6.out, HB6.out⟩
      case measure => simp [intOf]; omega
    · have hkn : k = row.length := by omega
      have hlt' : ¬ (k : Int) < (row.length : Int) := by omega
      have HTA := Lib.hid (show row.take k = row from take_all (by omega))
      rw [HTA.out] at HO
      go_wp2
      go_ret
      exact ⟨_, rfl, HO.out.base HB.out.size, HB.out.trans (HBW.out.mono HB.out.size)⟩
set_option maxHeartbeats 800000 in
set_option maxRecDepth 100000 in
theorem l4Term_any (v v' : Value) (row : List Int) (m : MMap) (w : World) (h : RMap w v m) (h' : RInts w v' row) (hin : InTo m.ops row) (hs : row.length ≤ 1048576) :
    Calls Try.prog 97 #[v, v'] w fun e w' => ∃ u, e = .returned u ∧ OInts w' w.heap.size u (ledM m.ops row) ∧ Below w.heap.size w w' := by
  obtain ⟨i0, hi0, hz0, hz1, hz2⟩ := info_parts Try.tinfo_int
  obtain ⟨Ama, cma, Amb, cmb, rfl⟩ := h.form
  have hb : Below w.heap.size w (w.alloc (.cells #[.slice Ama m.sorts.length cma, .slice Amb m.ops.length cmb] 42)) := below_alloc _ _
  have HB := Lib.hid hb
  have hsz : (w.alloc (.cells #[.slice Ama m.sorts.length cma, .slice Amb m.ops.length cmb] 42)).heap.size = w.heap.size + 1 := by simp
  have Hm := Lib.hid (h.keep hb)
  have m0 := bx_at (w) #[.slice Ama m.sorts.length cma, .slice Amb m.ops.length cmb] 42 (k := 0) rfl
  have m1 := bx_at (w) #[.slice Ama m.sorts.length cma, .slice Amb m.ops.length cmb] 42 (k := 1) rfl
  generalize hW : w.alloc (.cells #[.slice Ama m.sorts.length cma, .slice Amb m.ops.length cmb] 42) = W at HB hsz Hm m0 m1
  clear hb h
  have HV := Lib.hid (h'.keep HB.out)
  have HIN := Lib.hid hin
  obtain ⟨r0, r1⟩ := Hm.out.of
  have R0 := Lib.hid r1
  have hm0 := r1.len
  obtain ⟨A', c', rfl, -⟩ := h'.form
  have HC := Lib.hid m1
  have HSZ := Lib.hid hsz
  clear h' hin r0 r1 m0 m1 hsz
  go_enter Try.func97, Try.ntmps97
  go_wp2
  clear hW
  go_loopw [5, 6] (fun p i wr => ∃ k : Nat, k ≤ row.length ∧ i = .int .i64 k ∧ OInts wr W.heap.size p (ledM m.ops (row.take k)) ∧ Below W.heap.size W wr) (fun _ i _ => row.length - (intOf i).toNat)
  case atStart => exact ⟨0, Nat.zero_le _, rfl, by first | exact own_empty W | (have h := own_empty W; rw [HSZ.out] at h ⊢; exact h), below_alloc _ _⟩
  case round =>
    obtain ⟨k, hk, rfl, ho, hb⟩ := hrel
    obtain ⟨A9, c9, rfl, -⟩ := own_reads ho
    have HO := Lib.hid ho
    have HBW := Lib.hid hb
    have f0 := cell_keep hb HC.out
    clear ho hb
    by_cases hlt : k < row.length
    · have hlt' : (k : Int) < (row.length : Int) := by omega
      obtain ⟨b, o, c4, e, hx⟩ := HV.out.at_ hlt
      cases e
      have HTK := Lib.hid (ledM_take (tq := m.ops) hlt)
      have HI := Lib.hid (HIN.out _ (List.getElem_mem hlt))
      generalize row[k] = x at hx HTK HI
      by_cases hl : x < 100
      · obtain ⟨n, rfl⟩ : ∃ n : Nat, x = (n : Int) := ⟨x.toNat, by have := HI.out hl; omega⟩
        have hnl : n < m.ops.length := by have := HI.out hl; omega
        have hnl' : (n : Int) < (m.ops.length : Int) := by omega
        have hn0 : (0 : Int) ≤ (n : Int) := by omega
        obtain ⟨b2, o2, c2, e2, hy⟩ := R0.out.at_ hnl
        cases e2
        have HY := Lib.hid (show (if (n : Int) < 100 then m.ops.getD (n : Int).toNat 0 else (n : Int)) = m.ops[n] by rw [if_pos hl, Int.toNat_natCast, getD_at _ hnl])
        generalize m.ops[n] = y at hy HY
        have HXY := Lib.hid (And.intro hx hy)
        replace hx := cell_keep HBW.out hx
        replace hy := cell_keep HBW.out hy
        have hlen : (ledM m.ops (row.take k)).length = k := by rw [ledM_len, List.length_take]; omega
        have HLEN := Lib.hid hlen
        generalize hps : ledM m.ops (row.take k) = ps at HO HTK HLEN
        clear hps hlen
        have hs1 := HBW.out.size
        have hp1 : ps.length + 1 ≤ maxLen := by rw [HLEN.out, maxLen_eq]; omega
        have hp2 : (ps.length + 1) * 8 ≤ 140737488355328 := by rw [HLEN.out]; omega
        have HP := Lib.hid (And.intro hp1 hp2)
        have hs3 : W.heap.size ≤ (wr.alloc (.cells #[.int .i64 y] 3)).heap.size := by simp; omega
        have HS3 := Lib.hid hs3
        have HO1 := Lib.hid (own_keep HO.out (below_alloc wr (.cells #[.int .i64 y] 3)))
        have HN1 := Lib.hid (led_new wr y)
        have ea := World.new_ne wr _ f0
        have eb := World.new_ne wr _ hx
        have ec := World.new_ne wr _ hy
        clear hp1 hp2 hs3
        go_wp2_with fail
        go_region_held3 (fun w' => w'.cell? ⟨w.heap.size, 1, none⟩ = some (.slice (some ⟨b2, o2, none⟩) m.ops.length cmb) ∧ w'.cell? ⟨b, o + k, none⟩ = some (.int .i64 (n : Int)) ∧ w'.cell? ⟨b2, o2 + n, none⟩ = some (.int .i64 y)) (first | go_keep | exact ⟨cell_keep HB6.out HC.out, cell_keep HB6.out HXY.out.1, cell_keep HB6.out HXY.out.2⟩)
          (first
            | (refine step_append_own rfl (.tmp 26) (.tmp 35) 28 rfl W.heap.size 3 i0 (.int .i64 0) 1 8 Try.underlying28 hi0 hz0 hz1 hz2 rfl (by omega) _ ps.length (ps.map (Value.int .i64)) rfl HO1.out.drew ⟨wr.heap.size, 0, none⟩ 1 1 ([y].map (Value.int .i64)) rfl (by simp) HN1.out (ints_one _) HP.out.1 HP.out.2 HS3.out ?_; intro v6 w6 hv6 hg6; have HB6 := Lib.hid (led_below HBW.out hg6 (fun k e => (own_lt HO.out k e).1)); have HO6 := Lib.hid (led_app (rs := [y]) rfl hv6); clear hv6 hg6))
        have hsl : (ps ++ [y]).length = k + 1 := by rw [List.length_append, HLEN.out]; rfl
        clear f0 hx hy ea eb ec hsl
        obtain ⟨A6, c6, rfl, -⟩ := own_reads HO6.out
        go_wp2
        go_roundw
        case rel => exact ⟨k + 1, by omega, by go_num, by rw [HTK.out, HY.out]; exact HO6.out, HB6.out⟩
        case measure => simp [intOf]; omega
      · have hl' : 100 ≤ x := by omega
        have HY := Lib.hid (show (if x < 100 then m.ops.getD x.toNat 0 else x) = x by rw [if_neg hl])
        replace hx := cell_keep HBW.out hx
        have hlen : (ledM m.ops (row.take k)).length = k := by rw [ledM_len, List.length_take]; omega
        have HLEN := Lib.hid hlen
        generalize hps : ledM m.ops (row.take k) = ps at HO HTK HLEN
        clear hps hlen
        have hs1 := HBW.out.size
        go_wp2_with (at_builtin; refine wpList_append_own _ rfl _ _ 28 rfl W.heap.size 3 i0 (.int .i64 0) 1 8 Try.underlying28 hi0 hz0 hz1 hz2 rfl (by decide) _ ps.length (ps.map (Value.int .i64)) rfl (own_keep HO.out (below_alloc wr _)) ⟨wr.heap.size, 0, none⟩ 1 1 ([x].map (Value.int .i64)) rfl (by simp) (led_new wr x) (ints_one _) (by rw [HLEN.out, maxLen_eq]; omega) (by rw [HLEN.out]; omega) (by simp; omega) ?_)
        intro v6 w6 hv6 hg6 _
        have HO6 := Lib.hid (led_app (rs := [x]) rfl hv6)
        have HB6 := Lib.hid ((HBW.out.alloc hs1 (.cells #[.int .i64 x] 3)).grown hg6 (by simp; omega) (fun k e => (own_lt HO.out k e).1))
        clear hv6 hg6
        obtain ⟨A6, c6, rfl, -⟩ := own_reads HO6.out
        clear f0 hx
        go_wp2
        go_roundw
        case rel => exact ⟨k + 1, by omega, by go_num, by rw [HTK.out, HY.out]; exact HO6.out, HB6.out⟩
        case measure => simp [intOf]; omega
    · have hkn : k = row.length := by omega
      have hlt' : ¬ (k : Int) < (row.length : Int) := by omega
      have HTA := Lib.hid (show row.take k = row from take_all (by omega))
      rw [HTA.out] at HO
      go_wp2
      go_ret
      exact ⟨_, rfl, HO.out.base HB.out.size, HB.out.trans (HBW.out.mono HB.out.size)⟩
end
end Go.Proofs.Ytbopcghbmbchkaa
